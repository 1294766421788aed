import Derived.Test.YtplldhepmmjmmaaVgV12
section
namespace Go.Vg
open Go
set_option linter.unusedSimpArgs false
set_option linter.unusedVariables false
def LentC := List SV → Nat → List SV → (SV → Nat → List SV → Prop) → Prop
def LentOk (P : Program) (f : FuncId) (C : LentC) : Prop :=
 ∀ (w : World) (im : Nat → Prop) (args : List SV) (vs : List Value) (b t : Nat) (cs : List SV) (us : List Value) (K : SV → Nat → List SV → Prop), (∀ x, im x → x < w.heap.size) → Cvs w im args vs → ¬ im b → Cvs w im cs us → w.heap[b]? = some (.cells us.toArray t (0, 0)) → C args t cs K →
  Calls P f (Value.pointer (some ⟨b, 0, none⟩) :: vs).toArray w fun e w' => ∃ r v im' t' cs' us', e = .returned v ∧ K r t' cs' ∧ Cv w' im' r v ∧ (∀ x, im x → im' x) ∧ (∀ x, im' x → im x ∨ w.heap.size ≤ x) ∧ (∀ x, im' x → x < w'.heap.size) ∧ Cvs w' im' cs' us' ∧ w'.heap[b]? = some (.cells us'.toArray t' (0, 0)) ∧
   (∀ x, x < w.heap.size → x ≠ b → w'.heap[x]? = w.heap[x]?) ∧ (∀ a, w'.frozen? a = w.frozen? a) ∧ w.heap.size ≤ w'.heap.size ∧ w'.os = w.os ∧ w'.tape = w.tape ∧ w'.output = w.output
def lentK (C : LentC) (l : Nat) (rest : List SV) (b : Blk) (hp : List Blk) (K : SV → List Blk → Prop) : Prop :=
 match b with
 | .box t cs => clo.clos 8 cs = true ∧ clo.clos 8 rest = true ∧ C rest t cs (fun r t' cs' => K r (sb hp l (.box t' cs')))
 | _ => False
def lent (C : LentC) : Con := fun args hp K =>
 match args with
 | .ptr l 0 :: rest => lentK C l rest (gb hp l) hp K
 | _ => False
theorem lent_e {C : LentC} {l : Nat} {rest : List SV} {hp : List Blk} {K : SV → List Blk → Prop} : lent C (.ptr l 0 :: rest) hp K = lentK C l rest (gb hp l) hp K := rfl
theorem lentK_e {C : LentC} {l : Nat} {rest : List SV} {t : Nat} {cs : List SV} {hp : List Blk} {K : SV → List Blk → Prop} : lentK C l rest (.box t cs) hp K = (clo.clos 8 cs = true ∧ clo.clos 8 rest = true ∧ C rest t cs (fun r t' cs' => K r (sb hp l (.box t' cs')))) := rfl
theorem lent_ok {P : Program} {f : FuncId} {C : LentC} (h : LentOk P f C) : ConOk P f (lent C) := by
 intro E hp args vs K hr ha hc
 unfold lent at hc
 split at hc
 rotate_left
 ·exact hc.elim
 rename_i l rest
 unfold lentK at hc
 split at hc
 rotate_left
 ·exact hc.elim
 rename_i t cs hg
 obtain ⟨hcl, hcl2, hc⟩ := hc
 cases ha with
 | cons _ v0 _ vs0 h0 hs =>
 obtain ⟨_, rfl⟩ := h0.ptrE
 have h1 := some_gb hg (by simp)
 obtain ⟨us, h2, h3⟩ := hr.b.blk l _ h1
 have hat : Blk.at E l (.box t cs) = some (E.blk l) := rfl
 have hnim := hr.b.imx l _ _ h1 hat
 refine (h E.w E.im rest vs0 (E.blk l) t cs us _ (fun b hb => hr.imlt hb) (clos_ok 8 hcl2 hs) hnim (clos_ok 8 hcl h2) h3 hc).mono ?_
 rintro e w' ⟨r, v, im', t', cs', us', rfl, hk, hv, i1, i2, i3, hu, hw, hk1, hfz, hsz, hos, htp, hou⟩
 have hlt : E.blk l < E.w.heap.size := (hr.b.blk l _ h1).lt hat
 have hle : E.Le { E with w := w', im := im' } :=
  ⟨Nat.le_refl _, fun _ h => h, fun _ _ => rfl, fun _ _ => rfl, fun _ _ h => h, i1, fun b hb => hk1 b (hr.imlt hb) (fun e => hnim (e ▸ hb)), rfl, rfl, rfl, rfl, rfl, rfl, fun _ _ h => h⟩
 have hatE : ∀ l' (b : Blk), b.at { E with w := w', im := im' } l' = b.at E l' := fun l' b => by cases b <;> rfl
 have get : ∀ l' b, (sb hp l (.box t' cs'))[l']? = some b → (l' = l ∧ b = .box t' cs') ∨ (l' ≠ l ∧ hp[l']? = some b) := by
  intro l' b e
  rw [sb_eq, List.getElem?_set] at e
  split at e
  ·rename_i h1; subst h1; split at e
   ·exact .inl ⟨rfl, by simpa using e.symm⟩
   ·cases e
  ·rename_i h1; exact .inr ⟨fun e => h1 e.symm, e⟩
 have at_old : ∀ l' (b : Blk) g, (sb hp l (.box t' cs'))[l']? = some b → b.at { E with w := w', im := im' } l' = some g → ∃ b', hp[l']? = some b' ∧ b'.at E l' = some g := by
  intro l' b g e hh
  rcases get l' b e with ⟨rfl, rfl⟩ | ⟨_, h2⟩
  ·exact ⟨_, h1, hh⟩
  ·exact ⟨b, h2, (hatE l' b).symm.trans hh⟩
 have hbase := hr.b.base l _ _ h1 hat
 refine ⟨r, v, { E with w := w', im := im' }, _, rfl, rfl, hle, ⟨⟨fun b hb hm => ?_, fun a => (hfz a).trans (hr.g.fz a), Nat.le_trans hr.g.sz hsz, hos.trans hr.g.os, htp.trans hr.g.tape, hou.trans hr.g.output, i3, fun b hb => ?_⟩,
  ⟨?_, ?_, ?_, ?_, ?_, ?_, ?_⟩⟩, hv.rv, hk⟩
 ·refine (hk1 b (Nat.lt_of_lt_of_le hb hr.g.sz) fun e => ?_).trans (hr.g.fr b hb hm)
  subst e
  rcases hbase with h | h
  ·exact absurd (show E.blk l < E.W.heap.size from hb) (by omega)
  ·exact hm h
 ·rcases i2 b hb with h1 | h1
  ·exact hr.g.im0 b h1
  ·exact .inr (.inl (Nat.le_trans hr.g.sz h1))
 ·rw [sb_eq]; simpa using hr.b.n
 ·intro l' b e hrs
  rcases get l' b e with ⟨rfl, rfl⟩ | ⟨h4, h5⟩
  ·have := hr.b.rs _ _ h1 hrs; cases this
  ·exact hr.b.rs l' b h5 hrs
 ·intro l' b e
  rcases get l' b e with ⟨rfl, rfl⟩ | ⟨h4, h5⟩
  ·exact ⟨us', hu.rv, hw⟩
  ·refine (hr.b.blk l' b h5).keep hle (hr.has h5) fun g hh => hk1 g ((hr.b.blk l' b h5).lt hh) fun e => ?_
   exact h4 (hr.b.dj l' l b _ g h5 h1 hh (by rw [e]; exact hat))
 ·intro l' b e hd
  rcases get l' b e with ⟨rfl, rfl⟩ | ⟨h4, h5⟩
  ·exact hr.b.live _ _ h1 (by simp)
  ·exact hr.b.live l' b h5 hd
 ·intro l' b g e hh hi
  obtain ⟨b', h4, h5⟩ := at_old l' b g e hh
  rcases i2 g hi with h6 | h6
  ·exact hr.b.imx l' b' g h4 h5 h6
  ·have := (hr.b.blk l' b' h4).lt h5; omega
 ·intro l' b g e hh
  obtain ⟨b', h4, h5⟩ := at_old l' b g e hh
  exact hr.b.base l' b' g h4 h5
 ·intro l1 l2 b b' g e e' hh hh'
  obtain ⟨c, h4, h5⟩ := at_old l1 b g e hh
  obtain ⟨c', h6, h7⟩ := at_old l2 b' g e' hh'
  exact hr.b.dj l1 l2 c c' g h4 h6 h5 h7
def endL2 (K : SV → Nat → List SV → Prop) : Option (SV × List Blk) → Prop
 | some (r, hp) => match gb hp 0 with
  | .box t cs => clo.clos 8 cs = true ∧ ∃ r', K r' t cs ∧ leR 4 r r'
  | _ => False
 | none => False
def endL1 (K : SV → Nat → List SV → Prop) (hp : List Blk) : Option (List SV) → Prop
 | some r => endL2 K (clV 8 hp (tupled r))
 | none => False
def endsL (rs : List RV) (K : SV → Nat → List SV → Prop) : Exit → St → Prop
 | .normal, s | .ret, s => endL1 K s.hp (rdR s rs)
 | _, _ => False
theorem endsL_r {rs : List RV} {K : SV → Nat → List SV → Prop} {s : St} : endsL rs K .ret s = endL1 K s.hp (rdR s rs) := rfl
theorem endL1_e {K : SV → Nat → List SV → Prop} {r : List SV} {hp : List Blk} : endL1 K hp (some r) = endL2 K (clV 8 hp (tupled r)) := rfl
theorem endL2_e {K : SV → Nat → List SV → Prop} {r : SV} {t : Nat} {cs : List SV} {hp : List Blk} : endL2 K (some (r, .box t cs :: hp)) = (clo.clos 8 cs = true ∧ ∃ r', K r' t cs ∧ leR 4 r r') := rfl
theorem Cvs.keepD {w w' : World} {im : Nat → Prop} (h : KeepD w w') : ∀ {xs : List SV} {vs : List Value}, Cvs w im xs vs → Cvs w' im xs vs
 | [], [], .nil => .nil
 | _ :: _, _ :: _, .cons x v xs vs hx hs => .cons x v xs vs (hx.keepD h) (Cvs.keepD h hs)
theorem lent_of_exec {P : Program} {T : List (Nat × Sg)} (hT : TabOk P T)
  {f : FuncId} {fn : Func} {c : Code} {sc : SC} {rs : List RV} (hf : P.funcs[f]? = some fn) (hb : fn.body = some c) (hc : cC P c = some sc) (hrs : cR P fn.results.toList = some rs) {C : LentC}
  (h : ∀ args t cs K, C args t cs K → exec 1 (gam P T) (gamq T) sc (endsL rs K) ⟨mkfr (.ptr 0 0 :: args) fn.ntmps, [.box t cs]⟩) : LentOk P f C := by
 intro w im args vs b t cs us K him ha hnb hcs hbw hC
 refine (callsIn_wide (n := 0)).1 (callsIn_of_wp_marks (F := Fence.wide) hf hb trivial ?_ rfl)
 let E0 : Env := { w := w, im := im, n := 1, rs := fun _ => False, blk := fun _ => b, val := fun _ => undef, live := fun l => l = 0, W := w, M := fun x => x = b, im0 := im, df := [], n0 := 1, ok := fun _ _ => False }
 have get0 : ∀ (l : Nat) (x : Blk), [Blk.box t cs][l]? = some x → l = 0 ∧ x = .box t cs := fun l x e => by
  cases l with
  | zero => simp at e; exact ⟨rfl, e.symm⟩
  | succ l => simp at e
 have hr : Rep E0 ⟨mkfr (.ptr 0 0 :: args) fn.ntmps, [.box t cs]⟩ { tmps := (Value.pointer (some ⟨b, 0, none⟩) :: vs).toArray ++ Array.replicate (fn.ntmps - (Value.pointer (some ⟨b, 0, none⟩) :: vs).toArray.size) undef, defers := [] } := by
  refine ⟨?_, ⟨⟨fun _ _ _ => rfl, fun _ => rfl, Nat.le_refl _, rfl, rfl, rfl, him, fun b hb => .inl hb⟩, ⟨rfl, ?_, ?_, ?_, ?_, ?_, ?_⟩⟩, rfl⟩
  ·have hp0 : Rv E0 (.ptr 0 0) (.pointer (some ⟨b, 0, none⟩)) := .ptr (E := E0) 0 0 ⟨Nat.lt_succ_self _, fun h => h.elim⟩
   have := mkfr_ok (E := E0) fn.ntmps (.cons _ _ _ _ hp0 (Cvs.rv (E := E0) ha))
   simpa using this
  ·intro l x e hx; exact hx.elim
  ·intro l x e
   obtain ⟨rfl, rfl⟩ := get0 l x e
   exact ⟨us, hcs.rv, hbw⟩
  ·intro l x e _
   exact (get0 l x e).1
  ·intro l x g e hh
   obtain ⟨rfl, rfl⟩ := get0 l x e
   cases hh; exact hnb
  ·intro l x g e hh
   obtain ⟨rfl, rfl⟩ := get0 l x e
   cases hh; exact .inr rfl
  ·intro l l' x x' g e e' _ _
   exact (get0 l x e).1.trans (get0 l' x' e').1.symm
 refine exec_ok (gam_ok hT) (gam_known hT) (gamq_ok hT) (gamq_known hT) (ro := none) (n := 0) c sc hc (.inl rfl) (Nat.le_refl 1) (Nat.le_refl 1) hr (h args t cs K hC) ?_
 intro e E' s' a' hle hr' hk
 obtain ⟨ds, hdf, hnd, hds⟩ := hle.d
 have hle := hle.x
 obtain ⟨hkeep, hoth, hlv⟩ := putD_ok (ds := ds) (w := E'.w) hnd (fun D hD => (hds D hD).2)
 have hdw : ∀ D ∈ ds, w.heap.size ≤ D := fun D hD => (hds D hD).1.2.2
 have hbsz : b < w.heap.size := by
  rcases Nat.lt_or_ge b w.heap.size with h1 | h1
  ·exact h1
  ·rw [Array.getElem?_eq_none h1] at hbw; cases hbw
 have fin : ∀ {s'}, Rep E' s' a' → endL1 K s'.hp (rdR s' rs) → LeavesInM Fence.wide 0 P fn a'.tmps (fun e w' => ∃ r v im' t' cs' us', e = .returned v ∧ K r t' cs' ∧ Cv w' im' r v ∧ (∀ x, im x → im' x) ∧ (∀ x, im' x → im x ∨ w.heap.size ≤ x) ∧ (∀ x, im' x → x < w'.heap.size) ∧ Cvs w' im' cs' us' ∧ w'.heap[b]? = some (.cells us'.toArray t' (0, 0)) ∧
   (∀ x, x < w.heap.size → x ≠ b → w'.heap[x]? = w.heap[x]?) ∧ (∀ a, w'.frozen? a = w.frozen? a) ∧ w.heap.size ≤ w'.heap.size ∧ w'.os = w.os ∧ w'.tape = w.tape ∧ w'.output = w.output) a'.defers .returning E'.w := by
  intro s' hr' hk
  have e0 : a'.defers = colls ds := by rw [hr'.df, hdf]; exact List.append_nil _
  rw [e0]
  refine hlv ?_
  unfold endL1 at hk
  split at hk
  ·rename_i r hrd
   unfold endL2 at hk
   split at hk
   ·rename_i r' hp' hcl
    split at hk
    ·rename_i t' cs' hg0
     obtain ⟨v, h1, h2⟩ := results_okD hr' hkeep hrs hrd
     obtain ⟨E2, c2, r2, v2⟩ := clV_ok 8 hr'.hp h2 hcl
     have hW : E2.W = w := c2.le.W.trans hle.W
     have hM : E2.M = fun x => x = b := c2.le.M.trans hle.M
     have hI : E2.im0 = im := c2.le.im0.trans hle.im0
     rw [c2.w] at v2
     obtain ⟨hcs', r'', hk, hle'⟩ := hk
     have g0 := some_gb hg0 (by simp)
     obtain ⟨us', u2, u3⟩ := r2.b.blk 0 _ g0
     have hh0 : E0.has 0 := ⟨Nat.lt_succ_self _, fun h => h.elim⟩
     have hblk : E2.blk 0 = b := (c2.le.blk 0 (hle.has 0 (Nat.lt_succ_self _) hh0)).trans (hle.blk 0 (Nat.lt_succ_self _) hh0)
     rw [hblk, c2.w] at u3
     have u4 := clos_ok 8 hcs' u2
     rw [c2.w] at u4
     have hbd : ∀ D ∈ ds, D ≠ b := fun D hD e => by have := hdw D hD; omega
     refine ⟨v, h1, r'', v, E2.im, t', cs', us', rfl, hk, (leR_ok 4 hle' v2).keepD hkeep, fun x hx => c2.le.im x (hle.im x hx), fun x hx => ?_, fun x hx => by have := r2.imlt hx; rw [c2.w] at this; rw [hkeep.sz]; exact this, u4.keepD hkeep, ?_, fun x hx hxb => ?_, fun a => ?_, ?_, ?_, ?_, ?_⟩
     ·have h3 := r2.g.im0 x hx
      rw [hW, hM, hI] at h3
      rcases h3 with h3 | h3 | h3
      ·exact .inl h3
      ·exact .inr h3
      ·subst h3
       exact absurd hx (r2.b.imx 0 _ _ g0 (by rw [Blk.at, hblk]))
     ·rw [hoth b fun h => by have := hdw b h; omega]; exact u3
     ·have g := r2.g
      have e := c2.w
      rw [hoth x (fun h => by have := hdw x h; omega), ← e]; have := g.fr x (by rw [hW]; exact hx) (by rw [hM]; exact hxb); rwa [hW] at this
     ·have g := r2.g
      have e := c2.w
      rw [hkeep.fz, ← e]; have := g.fz a; rwa [hW] at this
     ·have g := r2.g
      have e := c2.w
      rw [hkeep.sz, ← e]; have := g.sz; rwa [hW] at this
     ·have g := r2.g
      have e := c2.w
      rw [hkeep.os, ← e]; have := g.os; rwa [hW] at this
     ·have g := r2.g
      have e := c2.w
      rw [hkeep.tape, ← e]; have := g.tape; rwa [hW] at this
     ·have g := r2.g
      have e := c2.w
      rw [hkeep.output, ← e]; have := g.output; rwa [hW] at this
    ·exact hk.elim
   ·exact hk.elim
  ·exact hk.elim
 cases e with
 | normal => exact fin hr' hk
 | ret => exact fin hr' hk
 | _ => exact hk.elim
theorem lent_of {P : Program} {T : List (Nat × Sg)} (hT : TabOk P T)
  {f : FuncId} {fn : Func} {sc : SC} {rs : List RV} {nt : Nat} (hf : P.funcs[f]? = some fn) (hk : (fn.body.bind (cC P), cR P fn.results.toList, fn.ntmps) = (some sc, some rs, nt)) {C : LentC}
  (h : ∀ args t cs K, C args t cs K → exec 1 (gam P T) (gamq T) sc (endsL rs K) ⟨mkfr (.ptr 0 0 :: args) nt, [.box t cs]⟩) : LentOk P f C := by
 simp only [Prod.mk.injEq, Option.bind_eq_some_iff] at hk
 obtain ⟨⟨c, hb, hc⟩, hrs, rfl⟩ := hk
 exact lent_of_exec hT hf hb hc hrs h
end Go.Vg
end
section
namespace Go.Vg
open Go
set_option linter.unusedSimpArgs false
set_option linter.unusedVariables false
def arF (d : Nat → Int × Int) : Nat → Nat → List SV
 | _, 0 => []
 | i, n + 1 => .int .i64 (d i).1 :: .int .i64 (d i).2 :: arF d (i + 1) n
def arS (n : Nat) (d : Nat → Int × Int) : List SV := arF d 0 n
def upL (d : Nat → Int × Int) (k : Nat) (x : Int) : Nat → Int × Int := fun i => if i = k then (x, (d i).2) else d i
def upH (d : Nat → Int × Int) (k : Nat) (x : Int) : Nat → Int × Int := fun i => if i = k then ((d i).1, x) else d i
def upB (d : Nat → Int × Int) (k : Nat) (x y : Int) : Nat → Int × Int := fun i => if i = k then (x, y) else d i
theorem arF_congr {d d' : Nat → Int × Int} : ∀ (n i : Nat), (∀ j, i ≤ j → j < i + n → d j = d' j) → arF d i n = arF d' i n
 | 0, i, _ => rfl
 | n + 1, i, h => by
  have h0 := h i (Nat.le_refl _) (by omega)
  simp only [arF, h0]
  rw [arF_congr n (i + 1) fun j h1 h2 => h j (by omega) (by omega)]
theorem arF_ll (d : Nat → Int × Int) : ∀ (n i : Nat), ll (arF d i n) = 2 * n
 | 0, _ => rfl
 | n + 1, i => by simp only [arF, ll, arF_ll d n]; omega
theorem arS_ll (d : Nat → Int × Int) (n : Nat) : ll (arS n d) = 2 * n := arF_ll d n 0
theorem arF_one (d : Nat → Int × Int) : ∀ (n i : Nat), allOne (arF d i n) = true
 | 0, _ => rfl
 | n + 1, i => by simp only [arF, allOne, one, arF_one d n, Bool.and_self]
theorem arS_one (d : Nat → Int × Int) (n : Nat) : allOne (arS n d) = true := arF_one d n 0
theorem arF_clo (d : Nat → Int × Int) : ∀ (n i : Nat), clo.clos 8 (arF d i n) = true
 | 0, _ => rfl
 | n + 1, i => by
  have := arF_clo d n (i + 1)
  simp only [arF, clo.clos, clo, this, Bool.and_self]
theorem arS_clo (d : Nat → Int × Int) (n : Nat) : clo.clos 8 (arS n d) = true := arF_clo d n 0
theorem tk_all : ∀ l : List SV, tk (ll l) l = some l
 | [] => rfl
 | x :: t => by simp only [ll, tk, tk_all t]
theorem spl_all : ∀ (old new : List SV), ll old = ll new → sp.spl old new = some new
 | [], [], _ => rfl
 | x :: t, y :: s, h => by
  simp only [ll] at h
  simp only [sp.spl, spl_all t s (by omega)]
 | [], y :: s, h => by simp [ll] at h
 | x :: t, [], h => by simp [ll] at h
theorem spl_nil : ∀ l : List SV, sp.spl l [] = some l
 | [] => rfl
 | _ :: _ => rfl
theorem gq_ar {d : Nat → Int × Int} : ∀ {k n i : Nat}, k < n → gq (arF d i n) (2 * k) = some (.int .i64 (d (i + k)).1) ∧ gq (arF d i n) (2 * k + 1) = some (.int .i64 (d (i + k)).2)
 | 0, n + 1, i, _ => ⟨rfl, rfl⟩
 | k + 1, n + 1, i, h => by
  have := @gq_ar d k n (i + 1) (by omega)
  rw [show i + 1 + k = i + (k + 1) by omega] at this
  exact this
 | _, 0, _, h => absurd h (by omega)
theorem dr_ar {d : Nat → Int × Int} : ∀ {k n i : Nat}, k < n → tk 2 (dr (2 * k) (arF d i n)) = some [.int .i64 (d (i + k)).1, .int .i64 (d (i + k)).2]
 | 0, n + 1, i, _ => rfl
 | k + 1, n + 1, i, h => by
  have := @dr_ar d k n (i + 1) (by omega)
  rw [show i + 1 + k = i + (k + 1) by omega] at this
  exact this
 | _, 0, _, h => absurd h (by omega)
theorem sp_arL {d : Nat → Int × Int} {x : Int} : ∀ {k n i : Nat}, k < n → sp (arF d i n) (2 * k) [.int .i64 x] = some (arF (upL d (i + k) x) i n)
 | 0, n + 1, i, _ => by
  have e : arF (upL d (i + 0) x) i (n + 1) = .int .i64 x :: .int .i64 (d i).2 :: arF d (i + 1) n := by
   have ec : arF (upL d i x) (i + 1) n = arF d (i + 1) n := arF_congr n (i + 1) fun j h1 h2 => if_neg (show ¬ j = i by omega)
   simp only [arF, Nat.add_zero, ec]
   simp only [upL, if_true]
  rw [e]
  show (match sp.spl (SV.int .i64 (d i).2 :: arF d (i + 1) n) [] with | some r => some (SV.int .i64 x :: r) | none => none) = _
  rw [spl_nil]
 | k + 1, n + 1, i, h => by
  have ih := @sp_arL d x k n (i + 1) (by omega)
  rw [show i + 1 + k = i + (k + 1) by omega] at ih
  have e : arF (upL d (i + (k + 1)) x) i (n + 1) = .int .i64 (d i).1 :: .int .i64 (d i).2 :: arF (upL d (i + (k + 1)) x) (i + 1) n := by
   simp only [arF, upL, if_neg (show ¬ i = i + (k + 1) by omega)]
  rw [e]
  show (match (match sp (arF d (i + 1) n) (2 * k) [.int .i64 x] with | some r => some (SV.int .i64 (d i).2 :: r) | none => none) with | some r => some (SV.int .i64 (d i).1 :: r) | none => none) = _
  rw [ih]
 | _, 0, _, h => absurd h (by omega)
theorem sp_arH {d : Nat → Int × Int} {x : Int} : ∀ {k n i : Nat}, k < n → sp (arF d i n) (2 * k + 1) [.int .i64 x] = some (arF (upH d (i + k) x) i n)
 | 0, n + 1, i, _ => by
  have e : arF (upH d (i + 0) x) i (n + 1) = .int .i64 (d i).1 :: .int .i64 x :: arF d (i + 1) n := by
   have ec : arF (upH d i x) (i + 1) n = arF d (i + 1) n := arF_congr n (i + 1) fun j h1 h2 => if_neg (show ¬ j = i by omega)
   simp only [arF, Nat.add_zero, ec]
   simp only [upH, if_true]
  rw [e]
  show (match (match sp.spl (arF d (i + 1) n) [] with | some r => some (SV.int .i64 x :: r) | none => none) with | some r => some (SV.int .i64 (d i).1 :: r) | none => none) = _
  rw [spl_nil]
 | k + 1, n + 1, i, h => by
  have ih := @sp_arH d x k n (i + 1) (by omega)
  rw [show i + 1 + k = i + (k + 1) by omega] at ih
  have e : arF (upH d (i + (k + 1)) x) i (n + 1) = .int .i64 (d i).1 :: .int .i64 (d i).2 :: arF (upH d (i + (k + 1)) x) (i + 1) n := by
   simp only [arF, upH, if_neg (show ¬ i = i + (k + 1) by omega)]
  rw [e]
  show (match (match sp (arF d (i + 1) n) (2 * k + 1) [.int .i64 x] with | some r => some (SV.int .i64 (d i).2 :: r) | none => none) with | some r => some (SV.int .i64 (d i).1 :: r) | none => none) = _
  rw [ih]
 | _, 0, _, h => absurd h (by omega)
theorem sp_arB {d : Nat → Int × Int} {x y : Int} : ∀ {k n i : Nat}, k < n → sp (arF d i n) (2 * k) [.int .i64 x, .int .i64 y] = some (arF (upB d (i + k) x y) i n)
 | 0, n + 1, i, _ => by
  have e : arF (upB d (i + 0) x y) i (n + 1) = .int .i64 x :: .int .i64 y :: arF d (i + 1) n := by
   have ec : arF (upB d i x y) (i + 1) n = arF d (i + 1) n := arF_congr n (i + 1) fun j h1 h2 => if_neg (show ¬ j = i by omega)
   simp only [arF, Nat.add_zero, ec]
   simp only [upB, if_true]
  rw [e]
  show (match (match sp.spl (arF d (i + 1) n) [] with | some r => some (SV.int .i64 y :: r) | none => none) with | some r => some (SV.int .i64 x :: r) | none => none) = _
  rw [spl_nil]
 | k + 1, n + 1, i, h => by
  have ih := @sp_arB d x y k n (i + 1) (by omega)
  rw [show i + 1 + k = i + (k + 1) by omega] at ih
  have e : arF (upB d (i + (k + 1)) x y) i (n + 1) = .int .i64 (d i).1 :: .int .i64 (d i).2 :: arF (upB d (i + (k + 1)) x y) (i + 1) n := by
   simp only [arF, upB, if_neg (show ¬ i = i + (k + 1) by omega)]
  rw [e]
  show (match (match sp (arF d (i + 1) n) (2 * k) [.int .i64 x, .int .i64 y] with | some r => some (SV.int .i64 (d i).2 :: r) | none => none) with | some r => some (SV.int .i64 (d i).1 :: r) | none => none) = _
  rw [ih]
 | _, 0, _, h => absurd h (by omega)
theorem arS_gL {d : Nat → Int × Int} {k n : Nat} (h : k < n) : gq (arS n d) (0 + k * 2 + 0) = some (.int .i64 (d k).1) := by
 have := (@gq_ar d k n 0 h).1
 rw [Nat.zero_add] at this
 rw [show 0 + k * 2 + 0 = 2 * k by omega]; exact this
theorem arS_gH {d : Nat → Int × Int} {k n : Nat} (h : k < n) : gq (arS n d) (0 + k * 2 + 1) = some (.int .i64 (d k).2) := by
 have := (@gq_ar d k n 0 h).2
 rw [Nat.zero_add] at this
 rw [show 0 + k * 2 + 1 = 2 * k + 1 by omega]; exact this
theorem arS_g2 {d : Nat → Int × Int} {k n : Nat} (h : k < n) : tk 2 (dr (0 + k * 2) (arS n d)) = some [.int .i64 (d k).1, .int .i64 (d k).2] := by
 have := @dr_ar d k n 0 h
 rw [Nat.zero_add] at this
 rw [show 0 + k * 2 = 2 * k by omega]; exact this
theorem arS_sL {d : Nat → Int × Int} {k n : Nat} {x : Int} (h : k < n) : sp (arS n d) (0 + k * 2 + 0) [.int .i64 x] = some (arS n (upL d k x)) := by
 have := @sp_arL d x k n 0 h
 rw [Nat.zero_add] at this
 rw [show 0 + k * 2 + 0 = 2 * k by omega]; exact this
theorem arS_sH {d : Nat → Int × Int} {k n : Nat} {x : Int} (h : k < n) : sp (arS n d) (0 + k * 2 + 1) [.int .i64 x] = some (arS n (upH d k x)) := by
 have := @sp_arH d x k n 0 h
 rw [Nat.zero_add] at this
 rw [show 0 + k * 2 + 1 = 2 * k + 1 by omega]; exact this
theorem arS_sB {d : Nat → Int × Int} {k n : Nat} {x y : Int} (h : k < n) : sp (arS n d) (0 + k * 2) [.int .i64 x, .int .i64 y] = some (arS n (upB d k x y)) := by
 have := @sp_arB d x y k n 0 h
 rw [Nat.zero_add] at this
 rw [show 0 + k * 2 = 2 * k by omega]; exact this
theorem arS_spl {d d' : Nat → Int × Int} {n : Nat} : sp.spl (arS n d) (arS n d') = some (arS n d') := spl_all _ _ (by rw [arS_ll, arS_ll])
theorem arS_tk {d : Nat → Int × Int} {n m : Nat} (h : m = 2 * n) : tk m (arS n d) = some (arS n d) := by
 have := tk_all (arS n d)
 rw [arS_ll, ← h] at this; exact this
theorem arS_zero (n : Nat) : arS n (fun _ => (0, 0)) = List.replicate (2 * n) (.int .i64 0) := by
 have : ∀ (n i : Nat), arF (fun _ => (0, 0)) i n = List.replicate (2 * n) (.int .i64 0) := by
  intro n
  induction n with
  | zero => intro i; rfl
  | succ n ih => intro i; rw [show 2 * (n + 1) = 2 * n + 1 + 1 by omega, List.replicate_succ, List.replicate_succ, ← ih (i + 1)]; rfl
 exact this n 0
def ksF (d : Nat → Int × Int) : Nat → Nat → List Int
 | _, 0 => []
 | i, n + 1 => (d i).1 :: (d i).2 :: ksF d (i + 1) n
def fitP (d : Nat → Int × Int) : Nat → Nat → Prop
 | _, 0 => True
 | i, n + 1 => (IntKind.i64 = IntKind.i64 ∧ InQ .i64 (d i).1) ∧ ((IntKind.i64 = IntKind.i64 ∧ InQ .i64 (d i).2) ∧ fitP d (i + 1) n)
theorem fit_ar (d : Nat → Int × Int) : ∀ (n i : Nat), fit (List.replicate (2 * n) (some .i64)) (arF d i n) = some (fitP d i n, ksF d i n)
 | 0, _ => rfl
 | n + 1, i => by
  rw [show 2 * (n + 1) = 2 * n + 1 + 1 by omega, List.replicate_succ, List.replicate_succ]
  simp only [arF, fit, fit_ar d n (i + 1), fitP, ksF]
theorem arS_fit {d : Nat → Int × Int} {n m : Nat} (h : m = 2 * n) : fit (List.replicate m (some .i64)) (arS n d) = some (fitP d 0 n, ksF d 0 n) := by rw [h]; exact fit_ar d n 0
theorem fitP_ok {d : Nat → Int × Int} : ∀ (n i : Nat), (∀ j, i ≤ j → j < i + n → InQ .i64 (d j).1 ∧ InQ .i64 (d j).2) → fitP d i n
 | 0, _, _ => trivial
 | n + 1, i, h => by
  have h0 := h i (Nat.le_refl _) (by omega)
  exact ⟨⟨rfl, h0.1⟩, ⟨rfl, h0.2⟩, fitP_ok n (i + 1) fun j h1 h2 => h j (by omega) (by omega)⟩
theorem ksF_eq {d d' : Nat → Int × Int} : ∀ (n i : Nat), ksF d i n = ksF d' i n ↔ ∀ j, i ≤ j → j < i + n → d j = d' j
 | 0, i => ⟨fun _ j h1 h2 => by omega, fun _ => rfl⟩
 | n + 1, i => by
  simp only [ksF, List.cons.injEq, ksF_eq n (i + 1)]
  constructor
  ·rintro ⟨h1, h2, h3⟩ j hj1 hj2
   by_cases h : j = i
   ·subst h; exact Prod.ext h1 h2
   ·exact h3 j (by omega) (by omega)
  ·intro h
   have h0 := h i (Nat.le_refl _) (by omega)
   exact ⟨by rw [h0], by rw [h0], fun j h1 h2 => h j (by omega) (by omega)⟩
end Go.Vg
namespace Go.Vg
theorem arF_re {n1 n2 : Nat} {ρ : List (Option Nat)} (d : Nat → Int × Int) : ∀ (n i : Nat), reL n1 n2 ρ (arF d i n) (arF d i n)
 | 0, _ => trivial
 | n + 1, i => ⟨⟨rfl, rfl⟩, ⟨rfl, rfl⟩, arF_re d n (i + 1)⟩
theorem arS_re {n1 n2 : Nat} {ρ : List (Option Nat)} {d : Nat → Int × Int} {n : Nat} : reL n1 n2 ρ (arS n d) (arS n d) = True := eq_true (arF_re d n 0)
end Go.Vg
namespace Go.Vg
theorem arF_clL {n0 : Nat} {hp : List Blk} (d : Nat → Int × Int) : ∀ (n i : Nat), clL (clV n0) hp (arF d i n) = some (arF d i n, hp)
 | 0, _ => rfl
 | n + 1, i => by
  have h : ∀ k : Int, clV n0 hp (.int .i64 k) = some (.int .i64 k, hp) := fun k => by cases n0 <;> rfl
  simp only [arF, clL, h, arF_clL d n (i + 1)]
theorem arS_clV {d : Nat → Int × Int} {n : Nat} {hp : List Blk} {m : Nat} : clV (m + 1) hp (.agg (arS n d)) = some (.agg (arS n d), hp) := by
 show (match clL (clV m) hp (arF d 0 n) with | some (cs, hp) => some (SV.agg cs, hp) | none => none) = _
 rw [arF_clL]; rfl
end Go.Vg
namespace Go.Vg
theorem arF_le {m : Nat} (d : Nat → Int × Int) : ∀ (n i : Nat), leR.leRs m (arF d i n) (arF d i n)
 | 0, _ => trivial
 | n + 1, i => by
  have h : ∀ k : Int, leR m (.int .i64 k) (.int .i64 k) := fun k => by cases m <;> exact ⟨rfl, rfl⟩
  exact ⟨h _, h _, arF_le d n (i + 1)⟩
theorem arS_le {m n : Nat} {d : Nat → Int × Int} : leR.leRs m (arS n d) (arS n d) := arF_le d n 0
end Go.Vg
namespace Go.Vg
theorem arF_in {n1 m : Nat} (d : Nat → Int × Int) : ∀ (n i : Nat), inb.inbs n1 m (arF d i n) = true
 | 0, _ => rfl
 | n + 1, i => by
  have h : ∀ k : Int, inb n1 m (.int .i64 k) = true := fun k => by cases m <;> rfl
  simp only [arF, inb.inbs, h, arF_in d n (i + 1), Bool.and_self]
theorem arS_in {n1 m n : Nat} {d : Nat → Int × Int} : inb.inbs n1 m (arS n d) = true := arF_in d n 0
theorem arS_clTl {d : Nat → Int × Int} {n : Nat} {hp : List Blk} {b : Bool} : clV 8 hp (.tup [.agg (arS n d), .lit (.bool b)]) = some (.tup [.agg (arS n d), .lit (.bool b)], hp) := by
 have h := @arS_clV d n hp 6
 show (match clL (clV 7) hp [.agg (arS n d), .lit (.bool b)] with | some (cs, hp) => some (SV.tup cs, hp) | none => none) = _
 simp only [clL, h]; rfl
end Go.Vg
end
