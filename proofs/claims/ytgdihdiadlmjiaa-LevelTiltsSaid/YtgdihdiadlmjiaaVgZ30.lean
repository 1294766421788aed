/- Check, Can and Tilt return what the specification returns, for any vial, readings and truth. No conditions. -/
import Derived.Test.YtgdihdiadlmjiaaRows
import Derived.Test.YtgdihdiadlmjiaaVgM33
import Derived.Test.YtgdihdiadlmjiaaVgCR
import Derived.Test.YtgdihdiadlmjiaaVgLM8
import Derived.WalkKit
import Derived.ProofKit
import Derived.OpenShut
import Derived.Carry
set_option linter.unusedSimpArgs false
set_option linter.unusedVariables false
namespace Go.Proofs.Ytgdihdiadlmjiaa.levelTilts
open Go Go.Vg Go.ChangeShapes Go.WideShapes Go.ChangeAt Go.RowKit
theorem lO : laidOutB Try.prog = true := by kernel_rfl
theorem p22 : PureOk Try.prog 22 (fcC F22) := by
 intro w im args vs K him ha hC
 unfold fcC F22 at hC
 split at hC <;> first | (exact hC.elim) | skip
 rename_i h
 split at h <;> first | (cases h; done) | skip
 cases h
 exact pp216 w im _ vs K him ha ⟨rfl, hC.2⟩
theorem q22 : Known Try.prog 22 := ⟨_, Try.func22, by simp [Try.f22], by simp [Try.f22]⟩
def rws (m : Nat) (F : Nat → Rg) : List Rg := (List.range m).map F
theorem rwl {m : Nat} {F : Nat → Rg} : (rws m F).length = m := by simp [rws]
theorem rwg {m : Nat} {F : Nat → Rg} {i : Nat} (h : i < m) : rowR (rws m F) i = [.int .i64 (F i).1, .int .i64 (F i).2.1, .bool (F i).2.2] := by simp [rowR, rws, List.getD, h]
theorem walk (W : World) (v0 v1 v2 : Value) (v : Vl) (R : List Rg) (a z t : Int) (h0 : Cv W (fun b => b < W.heap.size) v.sv v0)
  (h1 : Cv W (fun b => b < W.heap.size) (.rd 3 R.length (rowR R)) v1) (h2 : Cv W (fun b => b < W.heap.size) (.agg [.int .i64 a, .int .i64 z, .int .i64 t]) v2) :
  Calls Try.prog 3 #[v0, v1, v2] W fun e W' => e = .returned (.bool true) ∧ Later W W' := by
 refine (p3 p22 q22 W (fun b => b < W.heap.size) [v.sv, .rd 3 R.length (rowR R), .agg [.int .i64 a, .int .i64 z, .int .i64 t]] [v0, v1, v2] (fun x => x = .bool true) (fun _ h => h) (.cons _ _ _ _ h0 (.cons _ _ _ _ h1 (.cons _ _ _ _ h2 .nil))) ⟨v, R, a, z, t, rfl, rfl⟩).mono ?_
 rintro e W' ⟨r, v, im', rfl, rfl, hv, _, _, _, hl⟩
 cases hv
 exact ⟨rfl, hl⟩
set_option maxRecDepth 100000 in
theorem lifted (os : Os) (started : os.Started) (H : Type) (enc : TypeId × Value → H) :
  ReturnsInHanded {} Try.checked os 3 .any (Rows.levelTiltsSpec.pre6 enc Try.prog Try.f3 Rows.levelTiltsRow.domain false) (Rows.levelTiltsSpec.post enc Try.prog Try.f3 false true false false) := by
 refine returnsInHanded_of_change (C := Try.checked) (by kernel_rfl) started (by kernel_rfl) Try.func3
  (ChangeSpec.witness6 (enc := enc) (C := Try.checked) false ⟨#[], #[.agg #[.int .i64 0, .int .i64 0, .int .i64 0, .int .i64 0, .int .i64 0, .int .i64 0, .int .i64 0, .int .i64 0], .slice none 0 0, .agg #[.int .i64 0, .int .i64 0, .int .i64 0]], []⟩ 8 (by kernel_rfl) (by kernel_rfl) (by kernel_rfl) (by kernel_rfl)) ?_
 intro W base args ds gs before w0 hW hcnd _
 have hu : ∀ (j : Nat) t v, Try.f3.params[j]? = some t → args[j]? = some v → Value.okWide Try.prog W .any base t v := w0
 have hW' := hW
 obtain ⟨p, q, hA0, hV, rfl, hfz, hnd⟩ := hW
 have hA : DataW.TrodAll enc Try.prog W 0 (fun _ => true) true Try.f3.params.toList args.toList ds p := hA0
 rw [Try.params3] at hA hu
 obtain ⟨v0, vs0, d0, ds0, p0, q0, hz, rfl, rfl, h0, r0⟩ := trodAll_cons hA
 obtain ⟨v1, vs1, d1, ds1, p1, q1, rfl, rfl, rfl, h1, r1⟩ := trodAll_cons r0
 obtain ⟨v2, vs2, d2, ds2, p2, q2, rfl, rfl, rfl, h2, r2⟩ := trodAll_cons r1
 obtain ⟨rfl, rfl, rfl⟩ := trodAll_nil r2
 obtain rfl : args = #[v0, v1, v2] := by cases args; simp_all
 obtain ⟨rfl, rfl⟩ := trodVars_none hV
 have hlt : ∀ x ∈ p0 ++ (p1 ++ (p2 ++ [])), x.block < W.heap.size := fun x hx => by simpa using hW'.lt x (by simpa using hx)
 have b0 : ∀ x ∈ p0, x.block < W.heap.size := fun x hx => hlt x (by simp [hx])
 have b1 : ∀ x ∈ p1, x.block < W.heap.size := fun x hx => hlt x (by simp [hx])
 have b2 : ∀ x ∈ p2, x.block < W.heap.size := fun x hx => hlt x (by simp [hx])
 obtain ⟨l, hl, c0⟩ := aggI_cv (n := 8) (.inl ⟨_, Try.underlying25⟩) (hu 0 25 v0 rfl rfl) (ts := [3, 3, 3, 3, 3, 3, 3, 3]) (by kernel_rfl) (u := 3) (by decide) Try.underlying3 (by kernel_rfl)
 obtain ⟨n, F, hn, c1⟩ := rowsR_cv Try.underlying26 Try.underlying57 (by kernel_rfl) Try.underlying3 (by kernel_rfl) rfl Try.underlying3 (by kernel_rfl) rfl Try.underlying4 (by kernel_rfl) rfl (hu 1 26 v1 rfl rfl) h1
 obtain ⟨l2, hl2, c2⟩ := aggI_cv (n := 3) (.inl ⟨_, Try.underlying28⟩) (hu 2 28 v2 rfl rfl) (ts := [3, 3, 3]) (by kernel_rfl) (u := 3) (by decide) Try.underlying3 (by kernel_rfl)
 have c4 := c1 (rowR (rws n F)) fun i hi => rwg hi
 have c3 : Cv W (fun b => b < W.heap.size) (.rd 3 (rws n F).length (rowR (rws n F))) v1 := by rw [rwl]; exact c4
 obtain ⟨v, hv⟩ : ∃ v : Vl, l.map (SV.int .i64) = v.cells := by
  match l, hl with
  | [m, l1, l2, v1, v2, z1, z2, w], _ => exact ⟨⟨m, l1, l2, v1, v2, z1, z2, w⟩, rfl⟩
 obtain ⟨a, z, t, ht⟩ : ∃ a z t : Int, l2.map (SV.int .i64) = [.int .i64 a, .int .i64 z, .int .i64 t] := by
  match l2, hl2 with
  | [a, z, t], _ => exact ⟨a, z, t, rfl⟩
 rw [hv] at c0
 rw [ht] at c2
 simp only [List.append_nil] at hW'
 refine (walk W v0 v1 v2 v (rws n F) a z t c0 c3 c2).mono fun e W' ⟨he, hl⟩ => ?_
 subst he
 have hb := xCy hl
 refine ⟨_, rfl, _, _, _, [], p0 ++ (p1 ++ (p2 ++ [])), [], by simpa using hW', ?_, ?_, ?_, ?_, fun h => by cases h⟩
 ·exact trodAll_cons_mk (shut_bool Try.underlying4 _) trodAll_mk0
 ·exact trodAll_cons_mk (Below.trod lO (by kernel_rfl) (of_decide_eq_true (by kernel_rfl)) h0 hb b0) (trodAll_cons_mk (Below.trod lO (by kernel_rfl) (of_decide_eq_true (by kernel_rfl)) h1 hb b1) (trodAll_cons_mk (Below.trod lO (by kernel_rfl) (of_decide_eq_true (by kernel_rfl)) h2 hb b2) trodAll_mk0))
 ·rfl
 ·exact hb.frame _
theorem over : Rows.levelTiltsRow.holds Try.pinned (OpenSpec.ofChange Rows.levelTiltsSpec) :=
 OpenClaim.holds_of_wide 3 Try.f3 rfl rfl rfl rfl rfl rfl rfl ⟨rfl, rfl, rfl, rfl, rfl⟩ rfl rfl rfl rfl rfl (by kernel_rfl) Try.func3 (by kernel_rfl)
  (of_decide_eq_true (by kernel_rfl)) (by unfold Func.isWrapper; first | (rw [if_pos (by decide +kernel)]; kernel_rfl) | (rw [if_neg (by decide +kernel)]; exact ⟨rfl, rfl⟩))
  (fun os started H enc _ => lifted os started H enc)
theorem proved : Rows.LevelTiltsSaid :=
 over
end Go.Proofs.Ytgdihdiadlmjiaa.levelTilts
