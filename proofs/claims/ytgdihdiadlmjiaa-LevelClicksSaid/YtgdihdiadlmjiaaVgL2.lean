/- LevelClicks: for any tilt, worth and bound, Clicks returns what the specification returns, and the chapter's examples hold: the law returns true, and of what was there nothing turns. No conditions. -/
import Derived.Test.YtgdihdiadlmjiaaRows
import Derived.Test.YtgdihdiadlmjiaaVgM3
import Derived.Test.YtgdihdiadlmjiaaVgL1
import Derived.Test.YtgdihdiadlmjiaaVgC3
import Derived.WalkKit
import Derived.ProofKit
import Derived.OpenShut
import Derived.Carry
namespace Go.Proofs.Ytgdihdiadlmjiaa.levelClicks
open Go Go.Vg Go.ChangeShapes Go.WideShapes Go.ChangeAt Go.RowKit
set_option linter.unusedVariables false

theorem own : ownKnob Try.prog.godebug = none := by kernel_rfl
theorem types23 : Try.prog.cellTypes Try.prog.depth 23 = some [3, 3] := by kernel_rfl
theorem cells23 : Try.prog.cellsOf 23 = 2 := by kernel_rfl
theorem laidOut : laidOutB Try.prog = true := by kernel_rfl

theorem p22 : PureOk Try.prog 22 (fcC F22) := by
  intro w im args vs K him ha hC
  unfold fcC F22 at hC
  split at hC <;> first | (exact hC.elim) | skip
  rename_i h
  split at h <;> first | (cases h; done) | skip
  cases h
  exact works_pure w im _ vs K him ha ⟨rfl, hC.2⟩
theorem q22 : Known Try.prog 22 := ⟨_, Try.func22, by simp [Try.f22], by simp [Try.f22]⟩
theorem walk (W : World) (v0 v1 v2 : Value) (lo hi w B : Int) (h0 : Cv W (fun b => b < W.heap.size) (.agg [.int .i64 lo, .int .i64 hi]) v0) (h1 : v1 = .int .i64 w) (h2 : v2 = .int .i64 B) :
    Calls Try.prog 6 #[v0, v1, v2] W fun e W' => e = .returned (.bool true) ∧ Later W W' := by
  subst h1
  subst h2
  refine (p6 p22 q22 W (fun b => b < W.heap.size) [.agg [.int .i64 lo, .int .i64 hi], .int .i64 w, .int .i64 B] [v0, .int .i64 w, .int .i64 B] (fun x => x = .bool true) (fun _ h => h) (.cons _ _ _ _ h0 (.cons _ _ _ _ (.int _ _) (.cons _ _ _ _ (.int _ _) .nil))) ⟨trivial, rfl⟩).mono ?_
  rintro e W' ⟨r, v, im', rfl, rfl, hv, _, _, _, hl⟩
  cases hv
  exact ⟨rfl, hl⟩

set_option maxRecDepth 100000 in
theorem lifted (os : Os) (started : os.Started) (H : Type) (enc : TypeId × Value → H) :
    ReturnsInHanded {} Try.checked os 6 .any (Rows.levelClicksSpec.pre6 enc Try.prog Try.f6 Rows.levelClicksRow.domain false) (Rows.levelClicksSpec.post enc Try.prog Try.f6 false true false false) := by
  refine returnsInHanded_of_change (C := Try.checked) own started (by kernel_rfl) Try.func6
    (ChangeSpec.witness6 (enc := enc) (C := Try.checked) false ⟨#[], #[.agg #[.int .i64 0, .int .i64 0], .int .i64 0, .int .i64 0], []⟩ 8 (by kernel_rfl) (by kernel_rfl) (by kernel_rfl) (by kernel_rfl)) ?_
  intro W base args ds gs before hval0 hW hcnd _
  have hval : ∀ (j : Nat) t v, Try.f6.params[j]? = some t → args[j]? = some v → Value.okWide Try.prog W .any base t v := hval0
  have hW' := hW
  obtain ⟨p, q, hA0, hV, rfl, hfz, hnd⟩ := hW
  have hA : DataW.TrodAll enc Try.prog W 0 (fun _ => true) true Try.f6.params.toList args.toList ds p := hA0
  rw [Try.params6] at hA hval
  obtain ⟨v0, vs0, d0, ds0, p0, q0, hargs, rfl, rfl, h0, r0⟩ := trodAll_cons hA
  obtain ⟨v1, vs1, d1, ds1, p1, q1, rfl, rfl, rfl, h1, r1⟩ := trodAll_cons r0
  obtain ⟨v2, vs2, d2, ds2, p2, q2, rfl, rfl, rfl, h2, r2⟩ := trodAll_cons r1
  obtain ⟨rfl, rfl, rfl⟩ := trodAll_nil r2
  obtain rfl : args = #[v0, v1, v2] := by cases args; simp_all
  obtain ⟨rfl, rfl⟩ := trodVars_none hV
  have h0k := h0
  have hlt : ∀ x ∈ p0, x.block < W.heap.size := fun x hx => by simpa using hW'.lt x (by simp [hx])
  obtain ⟨a1, rfl, rfl, rfl, w1⟩ := open_int Try.underlying3 (hval 1 3 v1 rfl rfl) h1
  obtain ⟨a2, rfl, rfl, rfl, w2⟩ := open_int Try.underlying3 (hval 2 3 v2 rfl rfl) h2
  obtain ⟨lo, hi, hcv⟩ := agg2_cv (.inl ⟨_, Try.underlying23⟩) (hval 0 23 v0 rfl rfl) types23 Try.underlying3 cells23
  clear hA0 hval0
  simp only [List.append_nil] at hW'
  refine (walk W v0 _ _ lo hi a1 a2 hcv rfl rfl).mono fun e W' ⟨he, hl⟩ => ?_
  subst he
  have hb := below_of_later hl
  refine ⟨_, rfl, _, _, _, [], p0 ++ [], [], hW', ?_, ?_, ?_, ?_, fun h => by cases h⟩
  · exact trodAll_cons_mk (shut_bool Try.underlying4 _) trodAll_mk0
  · exact trodAll_cons_mk (Below.trod laidOut (by kernel_rfl) (of_decide_eq_true (by kernel_rfl)) h0k hb hlt) (trodAll_cons_mk (shut_int Try.underlying3 w1) (trodAll_cons_mk (shut_int Try.underlying3 w2) trodAll_mk0))
  · rfl
  · exact hb.frame _

theorem over : Rows.levelClicksRow.holds Try.pinned (OpenSpec.ofChange Rows.levelClicksSpec) :=
  OpenClaim.holds_of_wide 6 Try.f6 rfl rfl rfl rfl rfl rfl rfl ⟨rfl, rfl, rfl, rfl, rfl⟩ rfl rfl rfl rfl rfl (by kernel_rfl) Try.func6 (by kernel_rfl)
    (of_decide_eq_true (by kernel_rfl)) (by unfold Func.isWrapper; first | (rw [if_pos (by decide +kernel)]; kernel_rfl) | (rw [if_neg (by decide +kernel)]; exact ⟨rfl, rfl⟩))
    (fun os started H enc _ => lifted os started H enc)

/-- The statement. -/
theorem proved : Rows.LevelClicksSaid :=
  over
end Go.Proofs.Ytgdihdiadlmjiaa.levelClicks
