/- ScrewFound: for any set, readings and errors, a reading that alone does not hold is suspect if there is no truth, and without each suspect one there is a truth: the law returns true, and of what was there nothing turns. No conditions. -/
import Derived.Test.YtbbbpdajikblbaaRows
import Derived.Test.YtbbbpdajikblbaaVgM21
import Derived.Test.YtbbbpdajikblbaaVgCR
import Derived.Test.YtbbbpdajikblbaaVgSG10
import Derived.WalkKit
import Derived.ProofKit
import Derived.OpenShut
import Derived.Carry
namespace Go.Proofs.Ytbbbpdajikblbaa.screwFound
open Go Go.Vg Go.ChangeShapes Go.WideShapes Go.ChangeAt Go.RowKit
set_option linter.unusedVariables false
theorem own : ownKnob Try.prog.godebug = none := by kernel_rfl
theorem cells36 : Try.prog.cellsOf 36 = 2 := by kernel_rfl
theorem cells65 : Try.prog.cellsOf 65 = 6 := by kernel_rfl
theorem cells22 : Try.prog.cellsOf 22 = 1 := by kernel_rfl
theorem cells3 : Try.prog.cellsOf 3 = 1 := by kernel_rfl
theorem laidOut : laidOutB Try.prog = true := by kernel_rfl
theorem p24 : PureOk Try.prog 24 (fcC F24) := by
 intro w im args vs K him ha hC
 unfold fcC F24 at hC
 split at hC <;> first | (exact hC.elim) | skip
 rename_i h
 split at h <;> first | (cases h; done) | skip
 cases h
 exact pp11 w im _ vs K him ha ⟨rfl, hC.2⟩
theorem q24 : Known Try.prog 24 := ⟨_, Try.func24, by simp [Try.f24], by simp [Try.f24]⟩
def rdg (l : List Int) : Rdg := ⟨l.getD 0 0, l.getD 1 0, l.getD 2 0, l.getD 3 0, l.getD 4 0, l.getD 5 0⟩
theorem rdg_row {l : List Int} (h : l.length = 6) : (rdg l).row = l.map (SV.int .i64) := by
 match l, h with
 | [a, b, c, d, e, f], _ => rfl
def rdgs (m : Nat) (F : Nat → List Int) : List Rdg := (List.range m).map fun i => rdg (F i)
theorem rdgs_len {m : Nat} {F : Nat → List Int} : (rdgs m F).length = m := by simp [rdgs]
theorem rdgs_get {m : Nat} {F : Nat → List Int} {i : Nat} (h : i < m) : rgR (rdgs m F) i = (rdg (F i)).row := by simp [rgR, rgG, rdgs, List.getD, h]
theorem walk (W : World) (v0 v1 v2 : Value) (T : List Int) (m : Int) (L : List Rdg) (N : Nat) (Y : Nat → List Int) (h0 : Cv W (fun b => b < W.heap.size) (.agg [.ints .i64 T, .int .i64 m]) v0)
  (h1 : Cv W (fun b => b < W.heap.size) (.rd 6 L.length (rgR L)) v1) (h2 : Cv W (fun b => b < W.heap.size) (.rd 1 N fun i => [.ints .i64 (Y i)]) v2) :
  Calls Try.prog 10 #[v0, v1, v2] W fun e W' => e = .returned (.bool true) ∧ Later W W' := by
 refine (p10 p24 q24 W (fun b => b < W.heap.size) [.agg [.ints .i64 T, .int .i64 m], .rd 6 L.length (rgR L), .rd 1 N fun i => [.ints .i64 (Y i)]] [v0, v1, v2] (fun x => x = .lit (.bool true)) (fun _ h => h) (.cons _ _ _ _ h0 (.cons _ _ _ _ h1 (.cons _ _ _ _ h2 .nil))) ⟨T, m, L, N, Y, rfl, rfl⟩).mono ?_
 rintro e W' ⟨r, v, im', rfl, rfl, hv, _, _, _, hl⟩
 cases hv
 exact ⟨rfl, hl⟩
set_option maxRecDepth 100000 in
theorem lifted (os : Os) (started : os.Started) (H : Type) (enc : TypeId × Value → H) :
  ReturnsInHanded {} Try.checked os 10 .any (Rows.screwFoundSpec.pre6 enc Try.prog Try.f10 Rows.screwFoundRow.domain false) (Rows.screwFoundSpec.post enc Try.prog Try.f10 false true false false) := by
 refine returnsInHanded_of_change (C := Try.checked) own started (by kernel_rfl) Try.func10
  (ChangeSpec.witness6 (enc := enc) (C := Try.checked) false ⟨#[], #[.agg #[.slice none 0 0, .int .i64 0], .slice none 0 0, .slice none 0 0], []⟩ 10 (by kernel_rfl) (by kernel_rfl) (by kernel_rfl) (by kernel_rfl)) ?_
 intro W base args ds gs before hval0 hW hcnd _
 have hval : ∀ (j : Nat) t v, Try.f10.params[j]? = some t → args[j]? = some v → Value.okWide Try.prog W .any base t v := hval0
 have hW' := hW
 obtain ⟨p, q, hA0, hV, rfl, hfz, hnd⟩ := hW
 have hA : DataW.TrodAll enc Try.prog W 0 (fun _ => true) true Try.f10.params.toList args.toList ds p := hA0
 rw [Try.params10] at hA hval
 obtain ⟨v0, vs0, d0, ds0, p0, q0, hargs, rfl, rfl, h0, r0⟩ := trodAll_cons hA
 obtain ⟨v1, vs1, d1, ds1, p1, q1, rfl, rfl, rfl, h1, r1⟩ := trodAll_cons r0
 obtain ⟨v2, vs2, d2, ds2, p2, q2, rfl, rfl, rfl, h2, r2⟩ := trodAll_cons r1
 obtain ⟨rfl, rfl, rfl⟩ := trodAll_nil r2
 obtain rfl : args = #[v0, v1, v2] := by cases args; simp_all
 obtain ⟨rfl, rfl⟩ := trodVars_none hV
 have hlt : ∀ x ∈ p0 ++ (p1 ++ (p2 ++ [])), x.block < W.heap.size := fun x hx => by simpa using hW'.lt x (by simpa using hx)
 have hlt0 : ∀ x ∈ p0, x.block < W.heap.size := fun x hx => hlt x (by simp [hx])
 have hlt1 : ∀ x ∈ p1, x.block < W.heap.size := fun x hx => hlt x (by simp [hx])
 have hlt2 : ∀ x ∈ p2, x.block < W.heap.size := fun x hx => hlt x (by simp [hx])
 obtain ⟨T, m, hcv0⟩ := ss_cv Try.underlying36 (by kernel_rfl) Try.underlying3 cells36 Try.underlying22 rfl rfl cells22 Try.underlying3 cells3 (hval 0 36 v0 rfl rfl) h0
 obtain ⟨n, F, hn, hF, hcv1⟩ := rowsI_cv (n := 6) Try.underlying37 Try.underlying65 cells65 rfl (fun j f hj => by
  match j, hj with
  | 0, hj => cases hj; exact ⟨Try.underlying3, cells3, rfl⟩
  | 1, hj => cases hj; exact ⟨Try.underlying3, cells3, rfl⟩
  | 2, hj => cases hj; exact ⟨Try.underlying3, cells3, rfl⟩
  | 3, hj => cases hj; exact ⟨Try.underlying3, cells3, rfl⟩
  | 4, hj => cases hj; exact ⟨Try.underlying3, cells3, rfl⟩
  | 5, hj => cases hj; exact ⟨Try.underlying3, cells3, rfl⟩
  | j + 6, hj => cases hj) (hval 1 37 v1 rfl rfl) h1
 obtain ⟨N, Y, hcv2⟩ := intss_cv Try.underlying38 Try.underlying22 cells22 Try.underlying3 cells3 (hval 2 38 v2 rfl rfl) h2
 have hcv1' := hcv1 (rgR (rdgs n F)) fun i hi => by rw [rdgs_get hi, rdg_row (hF i hi)]
 have hcv1'' : Cv W (fun b => b < W.heap.size) (.rd 6 (rdgs n F).length (rgR (rdgs n F))) v1 := by rw [rdgs_len]; exact hcv1'
 clear hA0 hval0
 simp only [List.append_nil] at hW'
 refine (walk W v0 v1 v2 T m (rdgs n F) N Y hcv0 hcv1'' hcv2).mono fun e W' ⟨he, hl⟩ => ?_
 subst he
 have hb := below_of_later hl
 refine ⟨_, rfl, _, _, _, [], p0 ++ (p1 ++ (p2 ++ [])), [], by simpa using hW', ?_, ?_, ?_, ?_, fun h => by cases h⟩
 ·exact trodAll_cons_mk (shut_bool Try.underlying4 _) trodAll_mk0
 ·exact trodAll_cons_mk (Below.trod laidOut (by kernel_rfl) (of_decide_eq_true (by kernel_rfl)) h0 hb hlt0) (trodAll_cons_mk (Below.trod laidOut (by kernel_rfl) (of_decide_eq_true (by kernel_rfl)) h1 hb hlt1) (trodAll_cons_mk (Below.trod laidOut (by kernel_rfl) (of_decide_eq_true (by kernel_rfl)) h2 hb hlt2) trodAll_mk0))
 ·rfl
 ·exact hb.frame _
theorem over : Rows.screwFoundRow.holds Try.pinned (OpenSpec.ofChange Rows.screwFoundSpec) :=
 OpenClaim.holds_of_wide 10 Try.f10 rfl rfl rfl rfl rfl rfl rfl ⟨rfl, rfl, rfl, rfl, rfl⟩ rfl rfl rfl rfl rfl (by kernel_rfl) Try.func10 (by kernel_rfl)
  (of_decide_eq_true (by kernel_rfl)) (by unfold Func.isWrapper; first | (rw [if_pos (by decide +kernel)]; kernel_rfl) | (rw [if_neg (by decide +kernel)]; exact ⟨rfl, rfl⟩))
  (fun os started H enc _ => lifted os started H enc)
theorem proved : Rows.ScrewFoundSaid :=
 over
end Go.Proofs.Ytbbbpdajikblbaa.screwFound
