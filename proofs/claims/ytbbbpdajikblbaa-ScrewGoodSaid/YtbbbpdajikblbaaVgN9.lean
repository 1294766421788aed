/- ScrewGood: for any places, nut, limit and number, a screw is good after so many laps as Laps says and not after fewer, for a wider limit not more are needed, and the chapter's examples hold: the law returns true, and of what was there nothing turns. No conditions. -/
import Derived.Test.YtbbbpdajikblbaaRows
import Derived.Test.YtbbbpdajikblbaaVgM21
import Derived.Test.YtbbbpdajikblbaaVgN8
import Derived.Test.YtbbbpdajikblbaaVgC1
import Derived.WalkKit
import Derived.ProofKit
import Derived.OpenShut
import Derived.Carry
namespace Go.Proofs.Ytbbbpdajikblbaa.screwGood
open Go Go.Vg Go.ChangeShapes Go.WideShapes Go.ChangeAt Go.RowKit
set_option linter.unusedVariables false

theorem own : ownKnob Try.prog.godebug = none := by kernel_rfl
theorem cells3 : Try.prog.cellsOf 3 = 1 := by kernel_rfl
theorem laidOut : laidOutB Try.prog = true := by kernel_rfl

theorem p24 : PureOk Try.prog 24 (fcC F24) := by
  intro w im args vs K him ha hC
  unfold fcC F24 at hC
  split at hC <;> first | (exact hC.elim) | skip
  rename_i h
  split at h <;> first | (cases h; done) | skip
  cases h
  exact pp7 w im _ vs K him ha ⟨rfl, hC.2⟩
theorem q24 : Known Try.prog 24 := ⟨_, Try.func24, by simp [Try.f24], by simp [Try.f24]⟩
theorem walk (W : World) (v0 v1 v2 v3 : Value) (l : List Int) (n lim q : Int) (h0 : Cv W (fun b => b < W.heap.size) (.ints .i64 l) v0) (h1 : v1 = .int .i64 n) (h2 : v2 = .int .i64 lim) (h3 : v3 = .int .i64 q) :
    Calls Try.prog 12 #[v0, v1, v2, v3] W fun e W' => e = .returned (.bool true) ∧ Later W W' := by
  subst h1
  subst h2
  subst h3
  refine (p12 p24 q24 W (fun b => b < W.heap.size) [.ints .i64 l, .int .i64 n, .int .i64 lim, .int .i64 q] [v0, .int .i64 n, .int .i64 lim, .int .i64 q] (fun x => x = .bool true) (fun _ h => h) (.cons _ _ _ _ h0 (.cons _ _ _ _ (.int _ _) (.cons _ _ _ _ (.int _ _) (.cons _ _ _ _ (.int _ _) .nil)))) ⟨trivial, rfl⟩).mono ?_
  rintro e W' ⟨r, v, im', rfl, rfl, hv, _, _, _, hl⟩
  cases hv
  exact ⟨rfl, hl⟩

set_option maxRecDepth 100000 in
theorem lifted (os : Os) (started : os.Started) (H : Type) (enc : TypeId × Value → H) :
    ReturnsInHanded {} Try.checked os 12 .any (Rows.screwGoodSpec.pre6 enc Try.prog Try.f12 Rows.screwGoodRow.domain false) (Rows.screwGoodSpec.post enc Try.prog Try.f12 false true false false) := by
  refine returnsInHanded_of_change (C := Try.checked) own started (by kernel_rfl) Try.func12
    (ChangeSpec.witness6 (enc := enc) (C := Try.checked) false ⟨#[], #[.slice none 0 0, .int .i64 0, .int .i64 0, .int .i64 0], []⟩ 8 (by kernel_rfl) (by kernel_rfl) (by kernel_rfl) (by kernel_rfl)) ?_
  intro W base args ds gs before hval0 hW hcnd _
  have hval : ∀ (j : Nat) t v, Try.f12.params[j]? = some t → args[j]? = some v → Value.okWide Try.prog W .any base t v := hval0
  have hW' := hW
  obtain ⟨p, q, hA0, hV, rfl, hfz, hnd⟩ := hW
  have hA : DataW.TrodAll enc Try.prog W 0 (fun _ => true) true Try.f12.params.toList args.toList ds p := hA0
  rw [Try.params12] at hA hval
  obtain ⟨v0, vs0, d0, ds0, p0, q0, hargs, rfl, rfl, h0, r0⟩ := trodAll_cons hA
  obtain ⟨v1, vs1, d1, ds1, p1, q1, rfl, rfl, rfl, h1, r1⟩ := trodAll_cons r0
  obtain ⟨v2, vs2, d2, ds2, p2, q2, rfl, rfl, rfl, h2, r2⟩ := trodAll_cons r1
  obtain ⟨v3, vs3, d3, ds3, p3, q3, rfl, rfl, rfl, h3, r3⟩ := trodAll_cons r2
  obtain ⟨rfl, rfl, rfl⟩ := trodAll_nil r3
  obtain rfl : args = #[v0, v1, v2, v3] := by cases args; simp_all
  obtain ⟨rfl, rfl⟩ := trodVars_none hV
  have h0k := h0
  have hlt : ∀ x ∈ p0, x.block < W.heap.size := fun x hx => by simpa using hW'.lt x (by simp [hx])
  obtain ⟨a1, rfl, rfl, rfl, w1⟩ := open_int Try.underlying3 (hval 1 3 v1 rfl rfl) h1
  obtain ⟨a2, rfl, rfl, rfl, w2⟩ := open_int Try.underlying3 (hval 2 3 v2 rfl rfl) h2
  obtain ⟨a3, rfl, rfl, rfl, w3⟩ := open_int Try.underlying3 (hval 3 3 v3 rfl rfl) h3
  obtain ⟨l, hcv⟩ := ints_cv Try.underlying22 Try.underlying3 cells3 (hval 0 22 v0 rfl rfl) h0k
  clear hA0 hval0
  simp only [List.append_nil] at hW'
  refine (walk W v0 _ _ _ l a1 a2 a3 hcv rfl rfl rfl).mono fun e W' ⟨he, hl⟩ => ?_
  subst he
  have hb := below_of_later hl
  refine ⟨_, rfl, _, _, _, [], p0 ++ [], [], hW', ?_, ?_, ?_, ?_, fun h => by cases h⟩
  · exact trodAll_cons_mk (shut_bool Try.underlying4 _) trodAll_mk0
  · exact trodAll_cons_mk (Below.trod laidOut (by kernel_rfl) (of_decide_eq_true (by kernel_rfl)) h0k hb hlt) (trodAll_cons_mk (shut_int Try.underlying3 w1) (trodAll_cons_mk (shut_int Try.underlying3 w2) (trodAll_cons_mk (shut_int Try.underlying3 w3) trodAll_mk0)))
  · rfl
  · exact hb.frame _

theorem over : Rows.screwGoodRow.holds Try.pinned (OpenSpec.ofChange Rows.screwGoodSpec) :=
  OpenClaim.holds_of_wide 12 Try.f12 rfl rfl rfl rfl rfl rfl rfl ⟨rfl, rfl, rfl, rfl, rfl⟩ rfl rfl rfl rfl rfl (by kernel_rfl) Try.func12 (by kernel_rfl)
    (of_decide_eq_true (by kernel_rfl)) (by unfold Func.isWrapper; first | (rw [if_pos (by decide +kernel)]; kernel_rfl) | (rw [if_neg (by decide +kernel)]; exact ⟨rfl, rfl⟩))
    (fun os started H enc _ => lifted os started H enc)

/-- The statement. -/
theorem proved : Rows.ScrewGoodSaid :=
  over
end Go.Proofs.Ytbbbpdajikblbaa.screwGood
