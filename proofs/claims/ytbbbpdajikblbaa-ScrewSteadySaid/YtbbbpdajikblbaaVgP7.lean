/- ScrewSteady: for any spans and numbers, the multiples of a period are periods, wider spans keep the periods, made spans have theirs, and the chapter's examples hold: the law returns true, and of what was there nothing turns. No conditions. -/
import Derived.Test.YtbbbpdajikblbaaRows
import Derived.Test.YtbbbpdajikblbaaVgM2
import Derived.Test.YtbbbpdajikblbaaVgP6
import Derived.Test.YtbbbpdajikblbaaVgC1
import Derived.Test.YtbbbpdajikblbaaVgC2
import Derived.WalkKit
import Derived.ProofKit
import Derived.OpenShut
import Derived.Carry
namespace Go.Proofs.Ytbbbpdajikblbaa.screwSteady
open Go Go.Vg Go.ChangeShapes Go.WideShapes Go.ChangeAt Go.RowKit
set_option linter.unusedVariables false

theorem own : ownKnob Try.prog.godebug = none := by kernel_rfl
theorem cells3 : Try.prog.cellsOf 3 = 1 := by kernel_rfl
theorem cells63 : Try.prog.cellsOf 63 = 2 := by kernel_rfl
theorem laidOut : laidOutB Try.prog = true := by kernel_rfl

theorem p24 : PureOk Try.prog 24 (fcC F24) := by
  intro w im args vs K him ha hC
  unfold fcC F24 at hC
  split at hC <;> first | (exact hC.elim) | skip
  rename_i h
  split at h <;> first | (cases h; done) | skip
  cases h
  exact kn16.1 w im _ vs K him ha ⟨rfl, hC.2⟩
theorem q24 : Known Try.prog 24 := ⟨_, Try.func24, by simp [Try.f24], by simp [Try.f24]⟩
theorem walk (W : World) (v0 v1 : Value) (L : List (Int × Int)) (t : List Int) (h0 : Cv W (fun b => b < W.heap.size) (.rd 2 L.length (rowsS L)) v0) (h1 : Cv W (fun b => b < W.heap.size) (.ints .i64 t) v1) :
    Calls Try.prog 13 #[v0, v1] W fun e W' => e = .returned (.bool true) ∧ Later W W' := by
  refine (p13 p24 q24 W (fun b => b < W.heap.size) [.rd 2 L.length (rowsS L), .ints .i64 t] [v0, v1] (fun x => x = .bool true) (fun _ h => h) (.cons _ _ _ _ h0 (.cons _ _ _ _ h1 .nil)) ⟨L, t, rfl, rfl⟩).mono ?_
  rintro e W' ⟨r, v, im', rfl, rfl, hv, _, _, _, hl⟩
  cases hv
  exact ⟨rfl, hl⟩

set_option maxRecDepth 100000 in
theorem lifted (os : Os) (started : os.Started) (H : Type) (enc : TypeId × Value → H) :
    ReturnsInHanded {} Try.checked os 13 .any (Rows.screwSteadySpec.pre6 enc Try.prog Try.f13 Rows.screwSteadyRow.domain false) (Rows.screwSteadySpec.post enc Try.prog Try.f13 false true false false) := by
  refine returnsInHanded_of_change (C := Try.checked) own started (by kernel_rfl) Try.func13
    (ChangeSpec.witness6 (enc := enc) (C := Try.checked) false ⟨#[], #[.slice none 0 0, .slice none 0 0], []⟩ 8 (by kernel_rfl) (by kernel_rfl) (by kernel_rfl) (by kernel_rfl)) ?_
  intro W base args ds gs before hval0 hW hcnd _
  have hval : ∀ (j : Nat) t v, Try.f13.params[j]? = some t → args[j]? = some v → Value.okWide Try.prog W .any base t v := hval0
  have hW' := hW
  obtain ⟨p, q, hA0, hV, rfl, hfz, hnd⟩ := hW
  have hA : DataW.TrodAll enc Try.prog W 0 (fun _ => true) true Try.f13.params.toList args.toList ds p := hA0
  rw [Try.params13] at hA hval
  obtain ⟨v0, vs0, d0, ds0, p0, q0, hargs, rfl, rfl, h0, r0⟩ := trodAll_cons hA
  obtain ⟨v1, vs1, d1, ds1, p1, q1, rfl, rfl, rfl, h1, r1⟩ := trodAll_cons r0
  obtain ⟨rfl, rfl, rfl⟩ := trodAll_nil r1
  obtain rfl : args = #[v0, v1] := by cases args; simp_all
  obtain ⟨rfl, rfl⟩ := trodVars_none hV
  have h0k := h0
  have h1k := h1
  have hlt : ∀ x ∈ p0, x.block < W.heap.size := fun x hx => by simpa using hW'.lt x (by simp [hx])
  have hlt1 : ∀ x ∈ p1, x.block < W.heap.size := fun x hx => by simpa using hW'.lt x (by simp [hx])
  obtain ⟨L, hcv⟩ := pairs_cv Try.underlying51 Try.underlying63 cells63 Try.underlying3 Try.underlying3 cells3 cells3 rfl rfl (hval 0 51 v0 rfl rfl) h0k
  obtain ⟨t, hcv1⟩ := ints_cv Try.underlying22 Try.underlying3 cells3 (hval 1 22 v1 rfl rfl) h1k
  clear hA0 hval0
  simp only [List.append_nil] at hW'
  refine (walk W v0 v1 L t hcv hcv1).mono fun e W' ⟨he, hl⟩ => ?_
  subst he
  have hb := below_of_later hl
  refine ⟨_, rfl, _, _, _, [], p0 ++ (p1 ++ []), [], by simpa using hW', ?_, ?_, ?_, ?_, fun h => by cases h⟩
  · exact trodAll_cons_mk (shut_bool Try.underlying4 _) trodAll_mk0
  · exact trodAll_cons_mk (Below.trod laidOut (by kernel_rfl) (of_decide_eq_true (by kernel_rfl)) h0k hb hlt) (trodAll_cons_mk (Below.trod laidOut (by kernel_rfl) (of_decide_eq_true (by kernel_rfl)) h1k hb hlt1) trodAll_mk0)
  · rfl
  · exact hb.frame _

theorem over : Rows.screwSteadyRow.holds Try.pinned (OpenSpec.ofChange Rows.screwSteadySpec) :=
  OpenClaim.holds_of_wide 13 Try.f13 rfl rfl rfl rfl rfl rfl rfl ⟨rfl, rfl, rfl, rfl, rfl⟩ rfl rfl rfl rfl rfl (by kernel_rfl) Try.func13 (by kernel_rfl)
    (of_decide_eq_true (by kernel_rfl)) (by unfold Func.isWrapper; first | (rw [if_pos (by decide +kernel)]; kernel_rfl) | (rw [if_neg (by decide +kernel)]; exact ⟨rfl, rfl⟩))
    (fun os started H enc _ => lifted os started H enc)

/-- The statement. -/
theorem proved : Rows.ScrewSteadySaid :=
  over
end Go.Proofs.Ytbbbpdajikblbaa.screwSteady
