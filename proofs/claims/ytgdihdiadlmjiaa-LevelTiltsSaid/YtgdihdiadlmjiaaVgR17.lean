import Derived.Test.YtgdihdiadlmjiaaVgR16
namespace Go.Vg
open Go
set_option linter.unusedVariables false
set_option linter.unusedSimpArgs false
theorem pure_of_run {P : Program} {T : Nat → Option Fdn} (hT : TabR P T) {n : Nat} {f : Nat} {args : List SV} {x : SV} (e : callQ T (run T n) (.fn f []) args = some x) : PureOk P f (fun as K => as = args ∧ K x) := by
 have hrn := run_ok hT n
 unfold callQ at e
 simp only at e
 have e1 : ap args [] = args := by rw [ap_eq, List.append_nil]
 rw [e1] at e
 split at e <;> first | (cases e; done) | skip
 rename_i hclo
 split at e
 ·rename_i x' hkf; cases e; exact (knF_ok hT hkf).2
 split at e <;> first | (cases e; done) | skip
 rename_i y h1 hfn
 obtain ⟨hp1, r1, _, hkn, hcall⟩ := fnF_ok hT hrn hfn (HRel.nil 0)
 have hcv := clC_ok r1 e
 intro w im as us K him has hC
 obtain ⟨rfl, hKx⟩ := hC
 let E0 : Env := { w := w, im := im, n := 0, rs := fun _ => False, blk := fun _ => 0, val := fun _ => undef, live := fun _ => False, W := w, M := fun _ => False, im0 := im, df := [], ok := fun c r => cK P c = some r }
 have hr0 : RHp E0 [] := by
  refine ⟨⟨fun _ _ _ => rfl, fun _ => rfl, Nat.le_refl _, rfl, rfl, rfl, him, fun b hb => .inl hb⟩, ⟨rfl, ?_, ?_, ?_, ?_, ?_, ?_⟩⟩
  all_goals (intro l; intros; simp_all)
 refine (hcall E0 us rfl hr0 (Cvs.rv (E := E0) has)).mono ?_
 rintro e w' ⟨v, rfl, E', rfl, hle, hr', hv⟩
 obtain ⟨E2, hp2, c2, hr2, v2⟩ := hcv E' v hr' hv
 have hW : E2.W = w := c2.le.W.trans hle.W
 have hM : E2.M = fun _ => False := c2.le.M.trans hle.M
 have hI : E2.im0 = im := c2.le.im0.trans hle.im0
 have ew := c2.w
 refine ⟨x, v, E2.im, rfl, hKx, by rw [ew] at v2; exact v2, fun b hb => c2.le.im b (hle.im b hb), fun b hb => ?_, fun b hb => by have := hr2.imlt hb; rwa [ew] at this, ?_⟩
 ·have := hr2.g.im0 b hb
  rw [hW, hM, hI] at this
  simpa using this
 ·have g := hr2.g
  refine ⟨fun b hb => ?_, fun a => ?_, ?_, ?_, ?_, ?_⟩
  ·rw [← ew]; have := g.fr b (by rw [hW]; exact hb) (by rw [hM]; exact id); rwa [hW] at this
  ·rw [← ew]; have := g.fz a; rwa [hW] at this
  ·rw [← ew]; have := g.sz; rwa [hW] at this
  ·rw [← ew]; have := g.os; rwa [hW] at this
  ·rw [← ew]; have := g.tape; rwa [hW] at this
  ·rw [← ew]; have := g.output; rwa [hW] at this
def nthT : List (Nat × Fdn) → Nat → Option Fdn
 | [], _ => none
 | (k, d) :: t, n => match Nat.beq k n with
  | true => some d
  | false => nthT t n
def FdOk (P : Program) (f : Nat) (d : Fdn) : Prop := ∃ fn c, P.funcs[f]? = some fn ∧ fn.name ≠ "runtime.NumGoroutine" ∧ fn.body = some c ∧ cK P c = some d.sc ∧ cR P fn.results.toList = some d.rs ∧ fn.ntmps = d.nt ∧ ∀ p, p ∈ d.kn → PureOk P f (fun as K => as = p.1 ∧ K p.2)
theorem FdOk.of {P : Program} {f : Nat} {fn : Func} {sc : RC} {rs : List RV} {nt : Nat} {o : Bool} (hf : P.funcs[f]? = some fn) (hn : fn.name ≠ "runtime.NumGoroutine")
  (hk : (fn.body.bind (cK P), cR P fn.results.toList, fn.ntmps) = (some sc, some rs, nt)) : FdOk P f ⟨sc, rs, nt, [], o⟩ := by
 simp only [Prod.mk.injEq, Option.bind_eq_some_iff] at hk
 obtain ⟨⟨c, hb, hc⟩, hrs, rfl⟩ := hk
 exact ⟨fn, c, hf, hn, hb, hc, hrs, rfl, fun _ h => by cases h⟩
def AllFd (P : Program) : List (Nat × Fdn) → Prop
 | [] => True
 | (k, d) :: t => FdOk P k d ∧ AllFd P t
theorem AllFd.tab {P : Program} : ∀ {l : List (Nat × Fdn)}, AllFd P l → TabR P (nthT l)
 | [], _, f, d, h => by simp [nthT] at h
 | (k, d) :: t, h, f, d', e => by
  simp only [nthT] at e
  split at e
  ·rename_i hk; have := beq_ok hk; subst this; cases e; exact h.1
  ·exact AllFd.tab h.2 f d' e
end Go.Vg
