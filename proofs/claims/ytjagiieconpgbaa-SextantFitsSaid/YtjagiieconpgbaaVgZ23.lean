/- SextantFits: for any stock and bound, for any errors and any other three parts that bits choose, the three parts of Assemble err together by at most the bound at each angle, cost what is said, and no other three that fit are cheaper, nor as cheap, and come before them, and the chapter's examples hold: the law returns true, and of what was there nothing turns. No conditions. -/
import Derived.Test.YtjagiieconpgbaaRows
import Derived.Test.YtjagiieconpgbaaVgM51
import Derived.Test.YtjagiieconpgbaaVgCS
import Derived.Test.YtjagiieconpgbaaVgQS
import Derived.Test.YtjagiieconpgbaaVgPT
import Derived.WalkKit
import Derived.ProofKit
import Derived.OpenShut
import Derived.Carry
namespace Go.Proofs.Ytjagiieconpgbaa.sextantFits
open Go Go.Vg Go.ChangeShapes Go.WideShapes Go.ChangeAt Go.RowKit
set_option linter.unusedVariables false
theorem own : ownKnob Try.prog.godebug = none := by kernel_rfl
theorem cells77 : Try.prog.cellsOf 77 = 3 := by kernel_rfl
theorem cells22 : Try.prog.cellsOf 22 = 1 := by kernel_rfl
theorem cells24 : Try.prog.cellsOf 24 = 2 := by kernel_rfl
theorem cells3 : Try.prog.cellsOf 3 = 1 := by kernel_rfl
theorem laidOut : laidOutB Try.prog = true := by kernel_rfl
theorem p21 : PureOk Try.prog 21 (fcC F21) := by
 intro w im args vs K him ha hC
 unfold fcC F21 at hC
 split at hC <;> first | (exact hC.elim) | skip
 rename_i h
 split at h <;> first | (cases h; done) | skip
 cases h
 exact pp16 w im _ vs K him ha ⟨rfl, hC.2⟩
theorem q21 : Known Try.prog 21 := ⟨_, Try.func21, by simp [Try.f21], by simp [Try.f21]⟩
theorem walk (W : World) (v0 v2 : Value) (L : List Pt) (bd : Int) (bits : List Int) (h0 : Cv W (fun b => b < W.heap.size) (.rd 3 L.length (ptR L)) v0) (h2 : Cv W (fun b => b < W.heap.size) (.ints .i64 bits) v2) (hl : (bits.length : Int) ≤ 9223372036854775807) :
  Calls Try.prog 13 #[v0, .int .i64 bd, v2] W fun e W' => e = .returned (.bool true) ∧ Later W W' := by
 refine (p13 p21 q21 W (fun b => b < W.heap.size) [.rd 3 L.length (ptR L), .int .i64 bd, .ints .i64 bits] [v0, .int .i64 bd, v2] (fun x => x = .lit (.bool true)) (fun _ h => h) (.cons _ _ _ _ h0 (.cons _ _ _ _ (.int _ _) (.cons _ _ _ _ h2 .nil))) ⟨L, bd, bits, rfl, hl, rfl⟩).mono ?_
 rintro e W' ⟨r, v, im', rfl, rfl, hv, _, _, _, hl⟩
 cases hv
 exact ⟨rfl, hl⟩
def ptsOf (T : List (Int × Int × List (Int × Int))) : List Pt := T.map fun x => ⟨x.1, x.2.1, x.2.2⟩
theorem ptsOf_len {T : List (Int × Int × List (Int × Int))} : (ptsOf T).length = T.length := by simp [ptsOf]
theorem ptsOf_get {T : List (Int × Int × List (Int × Int))} (i : Nat) : ptR (ptsOf T) i = [.int .i64 (T.getD i (0, 0, [])).1, .int .i64 (T.getD i (0, 0, [])).2.1, .rd 2 (T.getD i (0, 0, [])).2.2.length (fun j => [.int .i64 ((T.getD i (0, 0, [])).2.2.getD j (0, 0)).1, .int .i64 ((T.getD i (0, 0, [])).2.2.getD j (0, 0)).2])] := by
 have e : ptG (ptsOf T) i = ⟨(T.getD i (0, 0, [])).1, (T.getD i (0, 0, [])).2.1, (T.getD i (0, 0, [])).2.2⟩ := by
  by_cases h : i < T.length
  ·simp [ptG, ptsOf, List.getD, h]
  ·simp [ptG, ptsOf, List.getD, Nat.not_lt.1 h]
 rw [ptR, e]; rfl
set_option maxRecDepth 100000 in
theorem lifted (os : Os) (started : os.Started) (H : Type) (enc : TypeId × Value → H) :
  ReturnsInHanded {} Try.checked os 13 .any (Rows.sextantFitsSpec.pre6 enc Try.prog Try.f13 Rows.sextantFitsRow.domain false) (Rows.sextantFitsSpec.post enc Try.prog Try.f13 false true false false) := by
 refine returnsInHanded_of_change (C := Try.checked) own started (by kernel_rfl) Try.func13
  (ChangeSpec.witness6 (enc := enc) (C := Try.checked) false ⟨#[], #[.slice none 0 0, .int .i64 0, .slice none 0 0], []⟩ 8 (by kernel_rfl) (by kernel_rfl) (by kernel_rfl) (by kernel_rfl)) ?_
 intro W base args ds gs before hval0 hW hcnd _
 have hval : ∀ (j : Nat) t v, Try.f13.params[j]? = some t → args[j]? = some v → Value.okWide Try.prog W .any base t v := hval0
 have hW' := hW
 obtain ⟨p, q, hA0, hV, rfl, hfz, hnd⟩ := hW
 have hA : DataW.TrodAll enc Try.prog W 0 (fun _ => true) true Try.f13.params.toList args.toList ds p := hA0
 rw [Try.params13] at hA hval
 obtain ⟨v0, vs0, d0, ds0, p0, q0, hargs, rfl, rfl, h0, r0⟩ := trodAll_cons hA
 obtain ⟨v1, vs1, d1, ds1, p1, q1, rfl, rfl, rfl, h1, r1⟩ := trodAll_cons r0
 obtain ⟨v2, vs2, d2, ds2, p2, q2, rfl, rfl, rfl, h2, r2⟩ := trodAll_cons r1
 obtain ⟨rfl, rfl, rfl⟩ := trodAll_nil r2
 obtain rfl : args = #[v0, v1, v2] := by cases args; simp_all
 obtain ⟨rfl, rfl⟩ := trodVars_none hV
 have h0k := h0
 have h2k := h2
 have hlt2 : ∀ x ∈ p2, x.block < W.heap.size := fun x hx => by simpa using hW'.lt x (by simp [hx])
 have hlt : ∀ x ∈ p0, x.block < W.heap.size := fun x hx => by simpa using hW'.lt x (by simp [hx])
 obtain ⟨T, hcv⟩ := trip_cv Try.underlying50 Try.underlying77 cells77 Try.underlying3 Try.underlying3 Try.underlying22 cells3 cells3 cells22 rfl rfl rfl Try.underlying24 cells24 Try.underlying3 Try.underlying3 cells3 cells3 rfl rfl (hval 0 50 v0 rfl rfl) h0
 obtain ⟨a1, rfl, rfl, rfl, w1⟩ := open_int Try.underlying3 (hval 1 3 v1 rfl rfl) h1
 obtain ⟨bits, hcv2⟩ := ints_cv Try.underlying45 Try.underlying3 cells3 (hval 2 45 v2 rfl rfl) h2k
 have hL := ints_len Try.underlying45 (hval 2 45 v2 rfl rfl) hcv2
 have hcv1 : Cv W (fun b => b < W.heap.size) (.rd 3 (ptsOf T).length (ptR (ptsOf T))) v0 := by
  rw [ptsOf_len, show ptR (ptsOf T) = _ from funext ptsOf_get]; exact hcv
 clear hA0 hval0
 simp only [List.append_nil] at hW'
 refine (walk W v0 v2 (ptsOf T) a1 bits hcv1 hcv2 hL).mono fun e W' ⟨he, hl⟩ => ?_
 subst he
 have hb := below_of_later hl
 refine ⟨_, rfl, _, _, _, [], p0 ++ ([] ++ (p2 ++ [])), [], by simpa using hW', ?_, ?_, ?_, ?_, fun h => by cases h⟩
 ·exact trodAll_cons_mk (shut_bool Try.underlying4 _) trodAll_mk0
 ·exact trodAll_cons_mk (Below.trod laidOut (by kernel_rfl) (of_decide_eq_true (by kernel_rfl)) h0k hb hlt) (trodAll_cons_mk (shut_int Try.underlying3 w1) (trodAll_cons_mk (Below.trod laidOut (by kernel_rfl) (of_decide_eq_true (by kernel_rfl)) h2k hb hlt2) trodAll_mk0))
 ·rfl
 ·exact hb.frame _
theorem over : Rows.sextantFitsRow.holds Try.pinned (OpenSpec.ofChange Rows.sextantFitsSpec) :=
 OpenClaim.holds_of_wide 13 Try.f13 rfl rfl rfl rfl rfl rfl rfl ⟨rfl, rfl, rfl, rfl, rfl⟩ rfl rfl rfl rfl rfl (by kernel_rfl) Try.func13 (by kernel_rfl)
  (of_decide_eq_true (by kernel_rfl)) (by unfold Func.isWrapper; first | (rw [if_pos (by decide +kernel)]; kernel_rfl) | (rw [if_neg (by decide +kernel)]; exact ⟨rfl, rfl⟩))
  (fun os started H enc _ => lifted os started H enc)
theorem proved : Rows.SextantFitsSaid :=
 over
end Go.Proofs.Ytjagiieconpgbaa.sextantFits
