/- LevelDoes: for any stock, prices and wish, and five numbers, the vial that is chosen does, and no cheaper one does: the law returns true, and of what was there nothing turns. No conditions. -/
import Derived.Test.YtgdihdiadlmjiaaRows
import Derived.Test.YtgdihdiadlmjiaaVgM33
import Derived.Test.YtgdihdiadlmjiaaVgCR
import Derived.Test.YtgdihdiadlmjiaaVgLD
import Derived.WalkKit
import Derived.ProofKit
import Derived.OpenShut
import Derived.Carry
set_option linter.all false
namespace Go.Proofs.Ytgdihdiadlmjiaa.levelDoes
open Go Go.Vg Go.ChangeShapes Go.WideShapes Go.ChangeAt Go.RowKit
theorem own : ownKnob Try.prog.godebug = none := by kernel_rfl
theorem cells3 : Try.prog.cellsOf 3 = 1 := by kernel_rfl
theorem cells4 : Try.prog.cellsOf 4 = 1 := by kernel_rfl
theorem cells25 : Try.prog.cellsOf 25 = 8 := by kernel_rfl
theorem cells49 : Try.prog.cellsOf 49 = 2 := by kernel_rfl
theorem cells69 : Try.prog.cellsOf 69 = 5 := by kernel_rfl
theorem laidOut : laidOutB Try.prog = true := by kernel_rfl
theorem p22 : PureOk Try.prog 22 (fcC F22) := by
 intro w im args vs K him ha hC
 unfold fcC F22 at hC
 split at hC <;> first | (exact hC.elim) | skip
 rename_i h
 split at h <;> first | (cases h; done) | skip
 cases h
 exact pp216 w im _ vs K him ha ⟨rfl, hC.2⟩
theorem q22 : Known Try.prog 22 := ⟨_, Try.func22, by simp [Try.f22], by simp [Try.f22]⟩
def vl8 : List Int → Vl
 | [a, b, c, d, e, f, g, h] => ⟨a, b, c, d, e, f, g, h⟩
 | _ => v0
theorem vl8_c {l : List Int} (h : l.length = 8) : (vl8 l).cells = l.map (SV.int .i64) := by
 match l, h with
 | [a, b, c, d, e, f, g, h], _ => rfl
def vws (m : Nat) (F : Nat → List Int) : List Vl := (List.range m).map fun i => vl8 (F i)
theorem xSe {m : Nat} {F : Nat → List Int} : (vws m F).length = m := by simp [vws]
theorem xSf {m : Nat} {F : Nat → List Int} {i : Nat} (h : i < m) : rowV (vws m F) i = (vl8 (F i)).cells := by simp [rowV, vws, List.getD, h]
theorem walk (W : World) (v0 v1 v2 v3 : Value) (V : List Vl) (p : List Int) (r f : Int) (a1 a2 a3 a4 a5 : Int) (h0 : Cv W (fun b => b < W.heap.size) (.rd 8 V.length (rowV V)) v0) (h1 : Cv W (fun b => b < W.heap.size) (.ints .i64 p) v1) (h2 : Cv W (fun b => b < W.heap.size) (.agg [.int .i64 r, .int .i64 f]) v2) (h3 : Cv W (fun b => b < W.heap.size) (.agg [.int .i64 a1, .int .i64 a2, .int .i64 a3, .int .i64 a4, .int .i64 a5]) v3) :
  Calls Try.prog 14 #[v0, v1, v2, v3] W fun e W' => e = .returned (.bool true) ∧ Later W W' := by
 refine (p14 p22 q22 W (fun b => b < W.heap.size) [.rd 8 V.length (rowV V), .ints .i64 p, .agg [.int .i64 r, .int .i64 f], .agg [.int .i64 a1, .int .i64 a2, .int .i64 a3, .int .i64 a4, .int .i64 a5]] [v0, v1, v2, v3] (fun x => x = .bool true) (fun _ h => h) (.cons _ _ _ _ h0 (.cons _ _ _ _ h1 (.cons _ _ _ _ h2 (.cons _ _ _ _ h3 .nil)))) ⟨V, p, r, f, a1, a2, a3, a4, a5, rfl, rfl⟩).mono ?_
 rintro e W' ⟨r, v, im', rfl, rfl, hv, _, _, _, hl⟩
 cases hv
 exact ⟨rfl, hl⟩
set_option maxRecDepth 100000 in
theorem lifted (os : Os) (started : os.Started) (H : Type) (enc : TypeId × Value → H) :
  ReturnsInHanded {} Try.checked os 14 .any (Rows.levelDoesSpec.pre6 enc Try.prog Try.f14 Rows.levelDoesRow.domain false) (Rows.levelDoesSpec.post enc Try.prog Try.f14 false true false false) := by
 refine returnsInHanded_of_change (C := Try.checked) own started (by kernel_rfl) Try.func14
  (ChangeSpec.witness6 (enc := enc) (C := Try.checked) false ⟨#[], #[.slice none 0 0, .slice none 0 0, .agg #[.int .i64 0, .int .i64 0], .agg #[.int .i64 0, .int .i64 0, .int .i64 0, .int .i64 0, .int .i64 0]], []⟩ 8 (by kernel_rfl) (by kernel_rfl) (by kernel_rfl) (by kernel_rfl) (by kernel_rfl)) ?_
 intro W base args ds gs before hval0 hW hcnd _
 have hval : ∀ (j : Nat) t v, Try.f14.params[j]? = some t → args[j]? = some v → Value.okWide Try.prog W .any base t v := hval0
 have hW' := hW
 obtain ⟨p, q, hA0, hV, rfl, hfz, hnd⟩ := hW
 have hA : DataW.TrodAll enc Try.prog W 0 (fun _ => true) true Try.f14.params.toList args.toList ds p := hA0
 rw [Try.params14] at hA hval
 obtain ⟨v0, vs0, d0, ds0, p0, q0, hargs, rfl, rfl, h0, r0⟩ := trodAll_cons hA
 obtain ⟨v1, vs1, d1, ds1, p1, q1, rfl, rfl, rfl, h1, r1⟩ := trodAll_cons r0
 obtain ⟨v2, vs2, d2, ds2, p2, q2, rfl, rfl, rfl, h2, r2⟩ := trodAll_cons r1
 obtain ⟨v3, vs3, d3, ds3, p3, q3, rfl, rfl, rfl, h3, r3⟩ := trodAll_cons r2
 obtain ⟨rfl, rfl, rfl⟩ := trodAll_nil r3
 obtain rfl : args = #[v0, v1, v2, v3] := by cases args; simp_all
 obtain ⟨rfl, rfl⟩ := trodVars_none hV
 have hlt : ∀ x ∈ p0 ++ (p1 ++ (p2 ++ (p3 ++ ([])))), x.block < W.heap.size := fun x hx => by simpa using hW'.lt x (by simpa using hx)
 have hlt0 : ∀ x ∈ p0, x.block < W.heap.size := fun x hx => hlt x (by simp [hx])
 have hlt1 : ∀ x ∈ p1, x.block < W.heap.size := fun x hx => hlt x (by simp [hx])
 have hlt2 : ∀ x ∈ p2, x.block < W.heap.size := fun x hx => hlt x (by simp [hx])
 have hlt3 : ∀ x ∈ p3, x.block < W.heap.size := fun x hx => hlt x (by simp [hx])
 obtain ⟨n, F, hn, hF, hcv0⟩ := xQu (n := 8) Try.underlying47 Try.underlying25 cells25 (flds Try.underlying3 cells3 Try.underlying23 (by kernel_rfl) rfl rfl rfl) (hval 0 47 v0 rfl rfl) h0
 have hcv0' := hcv0 (rowV (vws n F)) fun i hi => by rw [xSf hi, vl8_c (hF i hi)]
 have hcv0'' : Cv W (fun b => b < W.heap.size) (.rd 8 (vws n F).length (rowV (vws n F))) v0 := by rw [xSe]; exact hcv0'
 obtain ⟨p, hcv1⟩ := xTm Try.underlying37 Try.underlying3 cells3 (hval 1 37 v1 rfl rfl) h1
 obtain ⟨l2, hl2, hcv2⟩ := xIe (n := 2) (.inl ⟨_, Try.underlying49⟩) (hval 2 49 v2 rfl rfl) (ts := [3, 3]) (by kernel_rfl) (u := 3) (by decide) Try.underlying3 cells49
 obtain ⟨r, f, ht2⟩ : ∃ r f : Int, l2.map (SV.int .i64) = [.int .i64 r, .int .i64 f] := by
  match l2, hl2 with
  | [r, f], _ => exact ⟨r, f, rfl⟩
 rw [ht2] at hcv2
 obtain ⟨l3, hl3, hcv3⟩ := xIe (n := 5) (.inr ⟨_, _, Try.underlying69⟩) (hval 3 69 v3 rfl rfl) (ts := [3, 3, 3, 3, 3]) (by kernel_rfl) (u := 3) (by decide) Try.underlying3 cells69
 obtain ⟨a1, a2, a3, a4, a5, ht3⟩ : ∃ a1 a2 a3 a4 a5 : Int, l3.map (SV.int .i64) = [.int .i64 a1, .int .i64 a2, .int .i64 a3, .int .i64 a4, .int .i64 a5] := by
  match l3, hl3 with
  | [a1, a2, a3, a4, a5], _ => exact ⟨a1, a2, a3, a4, a5, rfl⟩
 rw [ht3] at hcv3
 clear hA0 hval0
 simp only [List.append_nil] at hW'
 refine (walk W v0 v1 v2 v3 (vws n F) p r f a1 a2 a3 a4 a5 hcv0'' hcv1 hcv2 hcv3).mono fun e W' ⟨he, hl⟩ => ?_
 subst he
 have hb := xBz hl
 refine ⟨_, rfl, _, _, _, [], p0 ++ (p1 ++ (p2 ++ (p3 ++ ([])))), [], by simpa using hW', ?_, ?_, ?_, ?_, fun h => by cases h⟩
 ·exact trodAll_cons_mk (shut_bool Try.underlying4 _) trodAll_mk0
 ·exact trodAll_cons_mk (Below.trod laidOut (by kernel_rfl) (of_decide_eq_true (by kernel_rfl)) h0 hb hlt0) (trodAll_cons_mk (Below.trod laidOut (by kernel_rfl) (of_decide_eq_true (by kernel_rfl)) h1 hb hlt1) (trodAll_cons_mk (Below.trod laidOut (by kernel_rfl) (of_decide_eq_true (by kernel_rfl)) h2 hb hlt2) (trodAll_cons_mk (Below.trod laidOut (by kernel_rfl) (of_decide_eq_true (by kernel_rfl)) h3 hb hlt3) trodAll_mk0)))
 ·rfl
 ·exact hb.frame _
theorem over : Rows.levelDoesRow.holds Try.pinned (OpenSpec.ofChange Rows.levelDoesSpec) :=
 OpenClaim.holds_of_wide 14 Try.f14 rfl rfl rfl rfl rfl rfl rfl ⟨rfl, rfl, rfl, rfl, rfl⟩ rfl rfl rfl rfl rfl (by kernel_rfl) Try.func14 (by kernel_rfl)
  (of_decide_eq_true (by kernel_rfl)) (by unfold Func.isWrapper; first | (rw [if_pos (by decide +kernel)]; kernel_rfl) | (rw [if_neg (by decide +kernel)]; exact ⟨rfl, rfl⟩))
  (fun os started H enc _ => lifted os started H enc)
theorem proved : Rows.LevelDoesSaid :=
 over
end Go.Proofs.Ytgdihdiadlmjiaa.levelDoes
