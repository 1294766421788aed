/- TopPlates: for any screws, readings, errors and numbers, the true curvature of the surface is among those that agree, whatever the screw errs by, and none of these spans is wider than is said: the law returns true, and of what was there nothing turns. No conditions. -/
import Derived.Test.YtplldhepmmjmmaaRows
import Derived.Test.YtplldhepmmjmmaaVgMP3
import Derived.Test.YtplldhepmmjmmaaVgCR
import Derived.Test.YtplldhepmmjmmaaVgTP10
import Derived.WalkKit
import Derived.ProofKit
import Derived.OpenShut
import Derived.Carry
namespace Go.Proofs.Ytplldhepmmjmmaa.topPlates
open Go Go.Vg Go.ChangeShapes Go.WideShapes Go.ChangeAt Go.RowKit
set_option linter.unusedVariables false
theorem own : ownKnob Try.prog.godebug = none := by kernel_rfl
theorem cells28 : Try.prog.cellsOf 28 = 4 := by kernel_rfl
theorem cells24 : Try.prog.cellsOf 24 = 2 := by kernel_rfl
theorem cells98 : Try.prog.cellsOf 98 = 6 := by kernel_rfl
theorem cells22 : Try.prog.cellsOf 22 = 1 := by kernel_rfl
theorem cells25 : Try.prog.cellsOf 25 = 1 := by kernel_rfl
theorem cells26 : Try.prog.cellsOf 26 = 1 := by kernel_rfl
theorem cells29 : Try.prog.cellsOf 29 = 3 := by kernel_rfl
theorem cells3 : Try.prog.cellsOf 3 = 1 := by kernel_rfl
theorem laidOut : laidOutB Try.prog = true := by kernel_rfl
theorem p9 : PureOk Try.prog 9 (fcC F9) := by
 intro w im args vs K him ha hC
 unfold fcC F9 at hC
 split at hC <;> first | (exact hC.elim) | skip
 rename_i h
 split at h <;> first | (cases h; done) | skip
 cases h
 exact pp2 w im _ vs K him ha ⟨rfl, hC.2⟩
theorem q9 : Known Try.prog 9 := ⟨_, Try.func9, by simp [Try.f9], by simp [Try.f9]⟩
def rdg (l : List Int) : Rdg := ⟨l.getD 0 0, l.getD 1 0, l.getD 2 0, l.getD 3 0, l.getD 4 0, l.getD 5 0⟩
theorem rdg_row {l : List Int} (h : l.length = 6) : (rdg l).row = l.map (SV.int .i64) := by
 match l, h with
 | [a, b, c, d, e, f], _ => rfl
def rdgs (m : Nat) (F : Nat → List Int) : List Rdg := (List.range m).map fun i => rdg (F i)
theorem rdgs_len {m : Nat} {F : Nat → List Int} : (rdgs m F).length = m := by simp [rdgs]
theorem rdgs_get {m : Nat} {F : Nat → List Int} {i : Nat} (h : i < m) : rgR (rdgs m F) i = (rdg (F i)).row := by simp [rgR, rgG, rdgs, List.getD, h]
theorem walk (W : World) (v0 v1 : Value) (T : List Int) (m : Int) (L : List Rdg) (N : Nat) (Y : Nat → List Int) (n0 n1 n2 : Int)
  (h0 : Cv W (fun b => b < W.heap.size) (.agg [.ints .i64 T, .int .i64 m, .rd 6 L.length (rgR L), .rd 1 N fun i => [.ints .i64 (Y i)]]) v0)
  (h1 : Cv W (fun b => b < W.heap.size) (.agg [.int .i64 n0, .int .i64 n1, .int .i64 n2]) v1) :
  Calls Try.prog 3 #[v0, v1] W fun e W' => e = .returned (.bool true) ∧ Later W W' := by
 refine (p3 p9 q9 W (fun b => b < W.heap.size) [.agg [.ints .i64 T, .int .i64 m, .rd 6 L.length (rgR L), .rd 1 N fun i => [.ints .i64 (Y i)]], .agg [.int .i64 n0, .int .i64 n1, .int .i64 n2]] [v0, v1] (fun x => x = .lit (.bool true)) (fun _ h => h) (.cons _ _ _ _ h0 (.cons _ _ _ _ h1 .nil)) ⟨T, m, L, N, Y, n0, n1, n2, rfl, rfl⟩).mono ?_
 rintro e W' ⟨r, v, im', rfl, rfl, hv, _, _, _, hl⟩
 cases hv
 exact ⟨rfl, hl⟩
set_option maxRecDepth 100000 in
theorem lifted (os : Os) (started : os.Started) (H : Type) (enc : TypeId × Value → H) :
  ReturnsInHanded {} Try.checked os 3 .any (Rows.topPlatesSpec.pre6 enc Try.prog Try.f3 Rows.topPlatesRow.domain false) (Rows.topPlatesSpec.post enc Try.prog Try.f3 false true false false) := by
 refine returnsInHanded_of_change (C := Try.checked) own started (by kernel_rfl) Try.func3
  (ChangeSpec.witness6 (enc := enc) (C := Try.checked) false ⟨#[], #[.agg #[.slice none 0 0, .int .i64 0, .slice none 0 0, .slice none 0 0], .agg #[.int .i64 0, .int .i64 0, .int .i64 0]], []⟩ 3 (by kernel_rfl) (by kernel_rfl) (by kernel_rfl) (by kernel_rfl)) ?_
 intro W base args ds gs before hval0 hW hcnd _
 have hval : ∀ (j : Nat) t v, Try.f3.params[j]? = some t → args[j]? = some v → Value.okWide Try.prog W .any base t v := hval0
 have hW' := hW
 obtain ⟨p, q, hA0, hV, rfl, hfz, hnd⟩ := hW
 have hA : DataW.TrodAll enc Try.prog W 0 (fun _ => true) true Try.f3.params.toList args.toList ds p := hA0
 rw [Try.params3] at hA hval
 obtain ⟨v0, vs0, d0, ds0, p0, q0, hargs, rfl, rfl, h0, r0⟩ := trodAll_cons hA
 obtain ⟨v1, vs1, d1, ds1, p1, q1, rfl, rfl, rfl, h1, r1⟩ := trodAll_cons r0
 obtain ⟨rfl, rfl, rfl⟩ := trodAll_nil r1
 obtain rfl : args = #[v0, v1] := by cases args; simp_all
 obtain ⟨rfl, rfl⟩ := trodVars_none hV
 have hlt : ∀ x ∈ p0 ++ (p1 ++ []), x.block < W.heap.size := fun x hx => by simpa using hW'.lt x (by simpa using hx)
 have hlt0 : ∀ x ∈ p0, x.block < W.heap.size := fun x hx => hlt x (by simp [hx])
 have hlt1 : ∀ x ∈ p1, x.block < W.heap.size := fun x hx => hlt x (by simp [hx])
 obtain ⟨T, m, n, F, N, Y, hF, hcv0⟩ := scr_cv Try.underlying28 (by kernel_rfl) Try.underlying3 cells3 cells28 Try.underlying24 rfl rfl cells24 rfl rfl cells22 Try.underlying22 rfl rfl cells25 Try.underlying25 Try.underlying98 cells98 rfl (fun j f hj => by
  match j, hj with
  | 0, hj => cases hj; exact ⟨Try.underlying3, cells3, rfl⟩
  | 1, hj => cases hj; exact ⟨Try.underlying3, cells3, rfl⟩
  | 2, hj => cases hj; exact ⟨Try.underlying3, cells3, rfl⟩
  | 3, hj => cases hj; exact ⟨Try.underlying3, cells3, rfl⟩
  | 4, hj => cases hj; exact ⟨Try.underlying3, cells3, rfl⟩
  | 5, hj => cases hj; exact ⟨Try.underlying3, cells3, rfl⟩
  | j + 6, hj => cases hj) rfl rfl cells26 Try.underlying26 (hval 0 28 v0 rfl rfl) h0
 obtain ⟨ys, hys, hcv1⟩ := aggI_cv (n := 3) (.inr ⟨_, _, Try.underlying29⟩) (hval 1 29 v1 rfl rfl) (ts := [3, 3, 3]) (by kernel_rfl) (u := 3) (by decide) Try.underlying3 cells29
 obtain ⟨n0, n1, n2, rfl⟩ := len3 hys
 have hcv0' := hcv0 (rgR (rdgs n F)) fun i hi => by rw [rdgs_get hi, rdg_row (hF i hi)]
 have hcv0'' : Cv W (fun b => b < W.heap.size) (.agg [.ints .i64 T, .int .i64 m, .rd 6 (rdgs n F).length (rgR (rdgs n F)), .rd 1 N fun i => [.ints .i64 (Y i)]]) v0 := by rw [rdgs_len]; exact hcv0'
 clear hA0 hval0
 simp only [List.append_nil] at hW'
 refine (walk W v0 v1 T m (rdgs n F) N Y n0 n1 n2 hcv0'' hcv1).mono fun e W' ⟨he, hl⟩ => ?_
 subst he
 have hb := below_of_later hl
 refine ⟨_, rfl, _, _, _, [], p0 ++ (p1 ++ []), [], by simpa using hW', ?_, ?_, ?_, ?_, fun h => by cases h⟩
 ·exact trodAll_cons_mk (shut_bool Try.underlying4 _) trodAll_mk0
 ·exact trodAll_cons_mk (Below.trod laidOut (by kernel_rfl) (of_decide_eq_true (by kernel_rfl)) h0 hb hlt0) (trodAll_cons_mk (Below.trod laidOut (by kernel_rfl) (of_decide_eq_true (by kernel_rfl)) h1 hb hlt1) trodAll_mk0)
 ·rfl
 ·exact hb.frame _
theorem over : Rows.topPlatesRow.holds Try.pinned (OpenSpec.ofChange Rows.topPlatesSpec) :=
 OpenClaim.holds_of_wide 3 Try.f3 rfl rfl rfl rfl rfl rfl rfl ⟨rfl, rfl, rfl, rfl, rfl⟩ rfl rfl rfl rfl rfl (by kernel_rfl) Try.func3 (by kernel_rfl)
  (of_decide_eq_true (by kernel_rfl)) (by unfold Func.isWrapper; first | (rw [if_pos (by decide +kernel)]; kernel_rfl) | (rw [if_neg (by decide +kernel)]; exact ⟨rfl, rfl⟩))
  (fun os started H enc _ => lifted os started H enc)
theorem proved : Rows.TopPlatesSaid :=
 over
end Go.Proofs.Ytplldhepmmjmmaa.topPlates
