/- ClockEnds: for any clock and voyage, each end of each span of the Cone is the error behind that day in a truth: that of all lower ends (all higher ones), each day as warm as when the clock is slowest (fastest) then; and the chapter's examples hold: the law returns true, and of what was there nothing turns. No conditions. -/
import Derived.Test.YtlegfejimphfbaaGreatRows
import Derived.Test.YtlegfejimphfbaaGreatVgMZ
import Derived.Test.YtlegfejimphfbaaGreatVgJE
import Derived.Test.YtlegfejimphfbaaGreatVgCY
import Derived.WalkKit
import Derived.ProofKit
import Derived.OpenShut
import Derived.Carry
namespace Go.Proofs.YtlegfejimphfbaaGreat.clockEnds
open Go Go.Vg Go.ChangeShapes Go.WideShapes Go.ChangeAt Go.RowKit
set_option linter.unusedVariables false

theorem own : ownKnob Tryz.prog.godebug = none := by kernel_rfl
theorem types27 : Tryz.prog.cellTypes Tryz.prog.depth 27 = some [22, 23, 3, 3, 3, 3] := by kernel_rfl
theorem cells27 : Tryz.prog.cellsOf 27 = 6 := by kernel_rfl
theorem cells25 : Tryz.prog.cellsOf 25 = 2 := by kernel_rfl
theorem cells22 : Tryz.prog.cellsOf 22 = 1 := by kernel_rfl
theorem cells23 : Tryz.prog.cellsOf 23 = 1 := by kernel_rfl
theorem cells3 : Tryz.prog.cellsOf 3 = 1 := by kernel_rfl
theorem laidOut : laidOutB Tryz.prog = true := by kernel_rfl

theorem p21 : PureOk Tryz.prog 21 (fcC F21) := by
  intro w im args vs K him ha hC
  unfold fcC F21 at hC
  split at hC <;> first | (exact hC.elim) | skip
  rename_i h
  split at h <;> first | (cases h; done) | skip
  cases h
  exact pp31 w im _ vs K him ha ⟨rfl, hC.2⟩
theorem q21 : Known Tryz.prog 21 := ⟨_, Tryz.func21, by simp [Tryz.f21], by simp [Tryz.f21]⟩
theorem walk (W : World) (v0 v1 : Value) (v : Ck) (D : List (Int × Int)) (h0 : Cv W (fun b => b < W.heap.size) v.sv v0) (h1 : Cv W (fun b => b < W.heap.size) (.rd 2 D.length (rowsS D)) v1) :
    Calls Tryz.prog 8 #[v0, v1] W fun e W' => e = .returned (.bool true) ∧ Later W W' := by
  refine (p8 p21 q21 W (fun b => b < W.heap.size) [v.sv, .rd 2 D.length (rowsS D)] [v0, v1] (fun x => x = .lit (.bool true)) (fun _ h => h) (.cons _ _ _ _ h0 (.cons _ _ _ _ h1 .nil)) ⟨v, D, rfl, rfl⟩).mono ?_
  rintro e W' ⟨r, v, im', rfl, rfl, hv, _, _, _, hl⟩
  cases hv
  exact ⟨rfl, hl⟩

set_option maxRecDepth 100000 in
theorem lifted (os : Os) (started : os.Started) (H : Type) (enc : TypeId × Value → H) :
    ReturnsInHanded {} Tryz.checked os 8 .any (Rows.clockEndsSpec.pre6 enc Tryz.prog Tryz.f8 Rows.clockEndsRow.domain false) (Rows.clockEndsSpec.post enc Tryz.prog Tryz.f8 false true false false) := by
  refine returnsInHanded_of_change (C := Tryz.checked) own started (by kernel_rfl) Tryz.func8
    (ChangeSpec.witness6 (enc := enc) (C := Tryz.checked) false ⟨#[], #[.agg #[.slice none 0 0, .slice none 0 0, .int .i64 0, .int .i64 0, .int .i64 0, .int .i64 0], .slice none 0 0], []⟩ 8 (by kernel_rfl) (by kernel_rfl) (by kernel_rfl) (by kernel_rfl)) ?_
  intro W base args ds gs before hval0 hW hcnd _
  have hval : ∀ (j : Nat) t v, Tryz.f8.params[j]? = some t → args[j]? = some v → Value.okWide Tryz.prog W .any base t v := hval0
  have hW' := hW
  obtain ⟨p, q, hA0, hV, rfl, hfz, hnd⟩ := hW
  have hA : DataW.TrodAll enc Tryz.prog W 0 (fun _ => true) true Tryz.f8.params.toList args.toList ds p := hA0
  rw [Tryz.params8] at hA hval
  obtain ⟨v0, vs0, d0, ds0, p0, q0, hargs, rfl, rfl, h0, r0⟩ := trodAll_cons hA
  obtain ⟨v1, vs1, d1, ds1, p1, q1, rfl, rfl, rfl, h1, r1⟩ := trodAll_cons r0
  obtain ⟨rfl, rfl, rfl⟩ := trodAll_nil r1
  obtain rfl : args = #[v0, v1] := by cases args; simp_all
  obtain ⟨rfl, rfl⟩ := trodVars_none hV
  have h0k := h0
  have h1k := h1
  have hlt : ∀ x ∈ p0, x.block < W.heap.size := fun x hx => by simpa using hW'.lt x (by simp [hx])
  have hlt1 : ∀ x ∈ p1, x.block < W.heap.size := fun x hx => by simpa using hW'.lt x (by simp [hx])
  obtain ⟨T, R, a, b, x, y, hcv⟩ := ck_cv Tryz.underlying27 types27 Tryz.underlying3 cells27 Tryz.underlying22 cells3 rfl rfl cells22 Tryz.underlying23 rfl rfl cells23 Tryz.underlying25 cells25 Tryz.underlying3 Tryz.underlying3 cells3 cells3 rfl rfl (hval 0 27 v0 rfl rfl) h0k
  obtain ⟨D, hcv1⟩ := pairs_cv Tryz.underlying23 Tryz.underlying25 cells25 Tryz.underlying3 Tryz.underlying3 cells3 cells3 rfl rfl (hval 1 23 v1 rfl rfl) h1k
  clear hA0 hval0
  simp only [List.append_nil] at hW'
  refine (walk W v0 v1 ⟨T, R, a, b, x, y⟩ D hcv hcv1).mono fun e W' ⟨he, hl⟩ => ?_
  subst he
  have hb := below_of_later hl
  refine ⟨_, rfl, _, _, _, [], p0 ++ (p1 ++ []), [], by simpa using hW', ?_, ?_, ?_, ?_, fun h => by cases h⟩
  · exact trodAll_cons_mk (shut_bool Tryz.underlying4 _) trodAll_mk0
  · exact trodAll_cons_mk (Below.trod laidOut (by kernel_rfl) (of_decide_eq_true (by kernel_rfl)) h0k hb hlt) (trodAll_cons_mk (Below.trod laidOut (by kernel_rfl) (of_decide_eq_true (by kernel_rfl)) h1k hb hlt1) trodAll_mk0)
  · rfl
  · exact hb.frame _

theorem over : Rows.clockEndsRow.holds Tryz.pinned (OpenSpec.ofChange Rows.clockEndsSpec) :=
  OpenClaim.holds_of_wide 8 Tryz.f8 rfl rfl rfl rfl rfl rfl rfl ⟨rfl, rfl, rfl, rfl, rfl⟩ rfl rfl rfl rfl rfl (by kernel_rfl) Tryz.func8 (by kernel_rfl)
    (of_decide_eq_true (by kernel_rfl)) (by unfold Func.isWrapper; first | (rw [if_pos (by decide +kernel)]; kernel_rfl) | (rw [if_neg (by decide +kernel)]; exact ⟨rfl, rfl⟩))
    (fun os started H enc _ => lifted os started H enc)

/-- The statement. -/
theorem proved : Rows.ClockEndsSaid :=
  over
end Go.Proofs.YtlegfejimphfbaaGreat.clockEnds
