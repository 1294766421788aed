/- SextantSunny: for any sextant and diameter, and for any index error, diameter and readings that bits choose, both lie between what Index returns, no further pair makes either wider, and the chapter's examples hold: the law returns true, and of what was there nothing turns. No conditions. -/
import Derived.Test.YtjagiieconpgbaaRows
import Derived.Test.YtjagiieconpgbaaVgM51
import Derived.Test.YtjagiieconpgbaaVgSP
import Derived.Test.YtjagiieconpgbaaVgCT
import Derived.WalkKit
import Derived.ProofKit
import Derived.OpenShut
import Derived.Carry
namespace Go.Proofs.Ytjagiieconpgbaa.sextantSunny
open Go Go.Vg Go.ChangeShapes Go.WideShapes Go.ChangeAt Go.RowKit
set_option linter.unusedVariables false

theorem own : ownKnob Try.prog.godebug = none := by kernel_rfl
theorem types26 : Try.prog.cellTypes Try.prog.depth 26 = some [3, 22, 3, 3, 3, 22] := by kernel_rfl
theorem types24 : Try.prog.cellTypes Try.prog.depth 24 = some [3, 3] := by kernel_rfl
theorem cells26 : Try.prog.cellsOf 26 = 6 := by kernel_rfl
theorem cells22 : Try.prog.cellsOf 22 = 1 := by kernel_rfl
theorem cells24 : Try.prog.cellsOf 24 = 2 := by kernel_rfl
theorem cells3 : Try.prog.cellsOf 3 = 1 := by kernel_rfl
theorem laidOut : laidOutB Try.prog = true := by kernel_rfl

theorem p21 : PureOk Try.prog 21 (fcC F21) := by
  intro w im args vs K him ha hC
  unfold fcC F21 at hC
  split at hC <;> first | (exact hC.elim) | skip
  rename_i h
  split at h <;> first | (cases h; done) | skip
  cases h
  exact pp16 w im _ vs K him ha ⟨rfl, hC.2⟩
theorem q21 : Known Try.prog 21 := ⟨_, Try.func21, by simp [Try.f21], by simp [Try.f21]⟩
theorem walk (W : World) (v0 v1 v2 : Value) (v : Sx) (D : Int × Int) (L : List Int) (hL : (L.length : Int) ≤ 9223372036854775807) (h0 : Cv W (fun b => b < W.heap.size) v.sv v0) (h1 : Cv W (fun b => b < W.heap.size) (.agg [.int .i64 D.1, .int .i64 D.2]) v1) (h2 : Cv W (fun b => b < W.heap.size) (.ints .i64 L) v2) :
    Calls Try.prog 9 #[v0, v1, v2] W fun e W' => e = .returned (.bool true) ∧ Later W W' := by
  refine (p9 p21 q21 W (fun b => b < W.heap.size) [v.sv, .agg [.int .i64 D.1, .int .i64 D.2], .ints .i64 L] [v0, v1, v2] (fun x => x = .lit (.bool true)) (fun _ h => h) (.cons _ _ _ _ h0 (.cons _ _ _ _ h1 (.cons _ _ _ _ h2 .nil))) ⟨v, D, L, rfl, hL, rfl⟩).mono ?_
  rintro e W' ⟨r, v, im', rfl, rfl, hv, _, _, _, hl⟩
  cases hv
  exact ⟨rfl, hl⟩

set_option maxRecDepth 100000 in
theorem lifted (os : Os) (started : os.Started) (H : Type) (enc : TypeId × Value → H) :
    ReturnsInHanded {} Try.checked os 9 .any (Rows.sextantSunnySpec.pre6 enc Try.prog Try.f9 Rows.sextantSunnyRow.domain false) (Rows.sextantSunnySpec.post enc Try.prog Try.f9 false true false false) := by
  refine returnsInHanded_of_change (C := Try.checked) own started (by kernel_rfl) Try.func9
    (ChangeSpec.witness6 (enc := enc) (C := Try.checked) false ⟨#[], #[.agg #[.int .i64 0, .slice none 0 0, .int .i64 0, .int .i64 0, .int .i64 0, .slice none 0 0], .agg #[.int .i64 0, .int .i64 0], .slice none 0 0], []⟩ 8 (by kernel_rfl) (by kernel_rfl) (by kernel_rfl) (by kernel_rfl)) ?_
  intro W base args ds gs before hval0 hW hcnd _
  have hval : ∀ (j : Nat) t v, Try.f9.params[j]? = some t → args[j]? = some v → Value.okWide Try.prog W .any base t v := hval0
  have hW' := hW
  obtain ⟨p, q, hA0, hV, rfl, hfz, hnd⟩ := hW
  have hA : DataW.TrodAll enc Try.prog W 0 (fun _ => true) true Try.f9.params.toList args.toList ds p := hA0
  rw [Try.params9] at hA hval
  obtain ⟨v0, vs0, d0, ds0, p0, q0, hargs, rfl, rfl, h0, r0⟩ := trodAll_cons hA
  obtain ⟨v1, vs1, d1, ds1, p1, q1, rfl, rfl, rfl, h1, r1⟩ := trodAll_cons r0
  obtain ⟨v2, vs2, d2, ds2, p2, q2, rfl, rfl, rfl, h2, r2⟩ := trodAll_cons r1
  obtain ⟨rfl, rfl, rfl⟩ := trodAll_nil r2
  obtain rfl : args = #[v0, v1, v2] := by cases args; simp_all
  obtain ⟨rfl, rfl⟩ := trodVars_none hV
  have h0k := h0
  have h1k := h1
  have h2k := h2
  have hlt : ∀ x ∈ p0, x.block < W.heap.size := fun x hx => by simpa using hW'.lt x (by simp [hx])
  have hlt1 : ∀ x ∈ p1, x.block < W.heap.size := fun x hx => by simpa using hW'.lt x (by simp [hx])
  have hlt2 : ∀ x ∈ p2, x.block < W.heap.size := fun x hx => by simpa using hW'.lt x (by simp [hx])
  obtain ⟨a0, a2, a3, a4, T, S, hcv⟩ := sx_cv Try.underlying26 types26 Try.underlying3 cells26 Try.underlying22 rfl rfl rfl rfl cells22 Try.underlying24 cells24 Try.underlying3 Try.underlying3 cells3 cells3 rfl rfl (hval 0 26 v0 rfl rfl) h0k
  obtain ⟨x, y, hcv1⟩ := agg2_cv (.inl ⟨_, Try.underlying24⟩) (hval 1 24 v1 rfl rfl) types24 Try.underlying3 cells24
  obtain ⟨L, hcv2⟩ := ints_cv Try.underlying45 Try.underlying3 cells3 (hval 2 45 v2 rfl rfl) h2k
  have hL := ints_len Try.underlying45 (hval 2 45 v2 rfl rfl) hcv2
  clear hA0 hval0
  simp only [List.append_nil] at hW'
  refine (walk W v0 v1 v2 ⟨a0, T, a2, a3, a4, S⟩ (x, y) L hL hcv hcv1 hcv2).mono fun e W' ⟨he, hl⟩ => ?_
  subst he
  have hb := below_of_later hl
  refine ⟨_, rfl, _, _, _, [], p0 ++ (p1 ++ (p2 ++ [])), [], by simpa using hW', ?_, ?_, ?_, ?_, fun h => by cases h⟩
  · exact trodAll_cons_mk (shut_bool Try.underlying4 _) trodAll_mk0
  · exact trodAll_cons_mk (Below.trod laidOut (by kernel_rfl) (of_decide_eq_true (by kernel_rfl)) h0k hb hlt) (trodAll_cons_mk (Below.trod laidOut (by kernel_rfl) (of_decide_eq_true (by kernel_rfl)) h1k hb hlt1) (trodAll_cons_mk (Below.trod laidOut (by kernel_rfl) (of_decide_eq_true (by kernel_rfl)) h2k hb hlt2) trodAll_mk0))
  · rfl
  · exact hb.frame _

theorem over : Rows.sextantSunnyRow.holds Try.pinned (OpenSpec.ofChange Rows.sextantSunnySpec) :=
  OpenClaim.holds_of_wide 9 Try.f9 rfl rfl rfl rfl rfl rfl rfl ⟨rfl, rfl, rfl, rfl, rfl⟩ rfl rfl rfl rfl rfl (by kernel_rfl) Try.func9 (by kernel_rfl)
    (of_decide_eq_true (by kernel_rfl)) (by unfold Func.isWrapper; first | (rw [if_pos (by decide +kernel)]; kernel_rfl) | (rw [if_neg (by decide +kernel)]; exact ⟨rfl, rfl⟩))
    (fun os started H enc _ => lifted os started H enc)

/-- The statement. -/
theorem proved : Rows.SextantSunnySaid :=
  over
end Go.Proofs.Ytjagiieconpgbaa.sextantSunny
