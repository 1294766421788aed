/- RoundsTurned: a direction read on two faces is among those found, and the faces exchanged answer the same: the law returns true, and of what was there nothing turns. No conditions. -/
import Derived.Test.YtgfoakilompbdaaRows
import Derived.Test.YtgfoakilompbdaaVgM75
import Derived.Test.YtgfoakilompbdaaVgF6
import Derived.Test.YtgfoakilompbdaaVgCA
import Derived.WalkKit
import Derived.ProofKit
import Derived.OpenShut
import Derived.Carry
namespace Go.Proofs.Ytgfoakilompbdaa.roundsTurned
open Go Go.Vg Go.ChangeShapes Go.WideShapes Go.ChangeAt Go.RowKit
set_option linter.unusedVariables false

theorem own : ownKnob Try.prog.godebug = none := by kernel_rfl
theorem types27 : Try.prog.cellTypes Try.prog.depth 27 = some [3, 3, 3, 3] := by kernel_rfl
theorem cells27 : Try.prog.cellsOf 27 = 4 := by kernel_rfl
theorem types56 : Try.prog.cellTypes Try.prog.depth 56 = some [3, 3] := by kernel_rfl
theorem cells56 : Try.prog.cellsOf 56 = 2 := by kernel_rfl
theorem laidOut : laidOutB Try.prog = true := by kernel_rfl

theorem p19 : PureOk Try.prog 19 (fcC F19) := by
  intro w im args vs K him ha hC
  unfold fcC F19 at hC
  split at hC <;> first | (exact hC.elim) | skip
  rename_i h
  split at h <;> first | (cases h; done) | skip
  cases h
  exact pp47 w im _ vs K him ha ⟨rfl, hC.2⟩
theorem q19 : Known Try.prog 19 := ⟨_, Try.func19, by simp [Try.f19], by simp [Try.f19]⟩
theorem walk (W : World) (v0 v1 v2 : Value) (a0_0 a0_1 a0_2 a0_3 a1_0 a1_1 a2_0 a2_1 : Int) (h0 : Cv W (fun b => b < W.heap.size) (.agg [.int .i64 a0_0, .int .i64 a0_1, .int .i64 a0_2, .int .i64 a0_3]) v0) (h1 : Cv W (fun b => b < W.heap.size) (.agg [.int .i64 a1_0, .int .i64 a1_1]) v1) (h2 : Cv W (fun b => b < W.heap.size) (.agg [.int .i64 a2_0, .int .i64 a2_1]) v2) :
    Calls Try.prog 7 #[v0, v1, v2] W fun e W' => e = .returned (.bool true) ∧ Later W W' := by
  refine (p7 p19 q19 W (fun b => b < W.heap.size) [.agg [.int .i64 a0_0, .int .i64 a0_1, .int .i64 a0_2, .int .i64 a0_3], .agg [.int .i64 a1_0, .int .i64 a1_1], .agg [.int .i64 a2_0, .int .i64 a2_1]] [v0, v1, v2] (fun x => x = .lit (.bool true)) (fun _ h => h) (.cons _ _ _ _ h0 (.cons _ _ _ _ h1 (.cons _ _ _ _ h2 .nil))) ⟨a0_0, a0_1, a0_2, a0_3, a1_0, a1_1, a2_0, a2_1, rfl, rfl⟩).mono ?_
  rintro e W' ⟨r, v, im', rfl, rfl, hv, _, _, _, hl⟩
  cases hv
  exact ⟨rfl, hl⟩

set_option maxRecDepth 100000 in
theorem lifted (os : Os) (started : os.Started) (H : Type) (enc : TypeId × Value → H) :
    ReturnsInHanded {} Try.checked os 7 .any (Rows.roundsTurnedSpec.pre6 enc Try.prog Try.f7 Rows.roundsTurnedRow.domain false) (Rows.roundsTurnedSpec.post enc Try.prog Try.f7 false true false false) := by
  refine returnsInHanded_of_change (C := Try.checked) own started (by kernel_rfl) Try.func7
    (ChangeSpec.witness6 (enc := enc) (C := Try.checked) false ⟨#[], #[.agg #[.int .i64 0, .int .i64 0, .int .i64 0, .int .i64 0], .agg #[.int .i64 0, .int .i64 0], .agg #[.int .i64 0, .int .i64 0]], []⟩ 8 (by kernel_rfl) (by kernel_rfl) (by kernel_rfl) (by kernel_rfl)) ?_
  intro W base args ds gs before hval0 hW hcnd _
  have hval : ∀ (j : Nat) t v, Try.f7.params[j]? = some t → args[j]? = some v → Value.okWide Try.prog W .any base t v := hval0
  have hW' := hW
  obtain ⟨p, q, hA0, hV, rfl, hfz, hnd⟩ := hW
  have hA : DataW.TrodAll enc Try.prog W 0 (fun _ => true) true Try.f7.params.toList args.toList ds p := hA0
  rw [Try.params7] at hA hval
  obtain ⟨v0, vs0, d0, ds0, p0, q0, hargs, rfl, rfl, h0, r0⟩ := trodAll_cons hA
  obtain ⟨v1, vs1, d1, ds1, p1, q1, rfl, rfl, rfl, h1, r1⟩ := trodAll_cons r0
  obtain ⟨v2, vs2, d2, ds2, p2, q2, rfl, rfl, rfl, h2, r2⟩ := trodAll_cons r1
  obtain ⟨rfl, rfl, rfl⟩ := trodAll_nil r2
  obtain rfl : args = #[v0, v1, v2] := by cases args; simp_all
  obtain ⟨rfl, rfl⟩ := trodVars_none hV
  have h0k := h0
  have hlt0 : ∀ x ∈ p0, x.block < W.heap.size := fun x hx => by simpa using hW'.lt x (by simp [hx])
  have h1k := h1
  have hlt1 : ∀ x ∈ p1, x.block < W.heap.size := fun x hx => by simpa using hW'.lt x (by simp [hx])
  have h2k := h2
  have hlt2 : ∀ x ∈ p2, x.block < W.heap.size := fun x hx => by simpa using hW'.lt x (by simp [hx])
  obtain ⟨xs0, hl0, hcv0⟩ := aggI_cv (t := 27) (.inl ⟨_, Try.underlying27⟩) (hval 0 27 v0 rfl rfl) types27 rfl Try.underlying3 cells27
  obtain ⟨a0_0, a0_1, a0_2, a0_3, rfl⟩ := len4 hl0
  obtain ⟨xs1, hl1, hcv1⟩ := aggI_cv (t := 56) (.inr ⟨_, _, Try.underlying56⟩) (hval 1 56 v1 rfl rfl) types56 rfl Try.underlying3 cells56
  obtain ⟨a1_0, a1_1, rfl⟩ := len2 hl1
  obtain ⟨xs2, hl2, hcv2⟩ := aggI_cv (t := 56) (.inr ⟨_, _, Try.underlying56⟩) (hval 2 56 v2 rfl rfl) types56 rfl Try.underlying3 cells56
  obtain ⟨a2_0, a2_1, rfl⟩ := len2 hl2
  clear hA0 hval0
  simp only [List.append_nil] at hW'
  refine (walk W v0 v1 v2 a0_0 a0_1 a0_2 a0_3 a1_0 a1_1 a2_0 a2_1 hcv0 hcv1 hcv2).mono fun e W' ⟨he, hl⟩ => ?_
  subst he
  have hb := below_of_later hl
  refine ⟨_, rfl, _, _, _, [], p0 ++ (p1 ++ (p2 ++ [])), [], by simpa using hW', ?_, ?_, ?_, ?_, fun h => by cases h⟩
  · exact trodAll_cons_mk (shut_bool Try.underlying4 _) trodAll_mk0
  · exact trodAll_cons_mk (Below.trod laidOut (by kernel_rfl) (of_decide_eq_true (by kernel_rfl)) h0k hb hlt0) (trodAll_cons_mk (Below.trod laidOut (by kernel_rfl) (of_decide_eq_true (by kernel_rfl)) h1k hb hlt1) (trodAll_cons_mk (Below.trod laidOut (by kernel_rfl) (of_decide_eq_true (by kernel_rfl)) h2k hb hlt2) trodAll_mk0))
  · rfl
  · exact hb.frame _

theorem over : Rows.roundsTurnedRow.holds Try.pinned (OpenSpec.ofChange Rows.roundsTurnedSpec) :=
  OpenClaim.holds_of_wide 7 Try.f7 rfl rfl rfl rfl rfl rfl rfl ⟨rfl, rfl, rfl, rfl, rfl⟩ rfl rfl rfl rfl rfl (by kernel_rfl) Try.func7 (by kernel_rfl)
    (of_decide_eq_true (by kernel_rfl)) (by unfold Func.isWrapper; first | (rw [if_pos (by decide +kernel)]; kernel_rfl) | (rw [if_neg (by decide +kernel)]; exact ⟨rfl, rfl⟩))
    (fun os started H enc _ => lifted os started H enc)

/-- The statement. -/
theorem proved : Rows.RoundsTurnedSaid :=
  over
end Go.Proofs.Ytgfoakilompbdaa.roundsTurned
