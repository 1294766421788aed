/- LevelTurned: for any vial and readings, and two numbers, the zero differs from half the sum of a direct and a turned middle by at most Wrong: the law returns true, and of what was there nothing turns. No conditions. -/
import Derived.Test.YtgdihdiadlmjiaaRows
import Derived.Test.YtgdihdiadlmjiaaVgM33
import Derived.Test.YtgdihdiadlmjiaaVgCR
import Derived.Test.YtgdihdiadlmjiaaVgLMT
import Derived.WalkKit
import Derived.ProofKit
import Derived.OpenShut
import Derived.Carry
set_option linter.all false
namespace Go.Proofs.Ytgdihdiadlmjiaa.levelTurned
open Go Go.Vg Go.ChangeShapes Go.WideShapes Go.ChangeAt Go.RowKit
theorem own : ownKnob Try.prog.godebug = none := by kernel_rfl
theorem cells3 : Try.prog.cellsOf 3 = 1 := by kernel_rfl
theorem cells4 : Try.prog.cellsOf 4 = 1 := by kernel_rfl
theorem cells25 : Try.prog.cellsOf 25 = 8 := by kernel_rfl
theorem cells55 : Try.prog.cellsOf 55 = 2 := by kernel_rfl
theorem cells57 : Try.prog.cellsOf 57 = 3 := by kernel_rfl
theorem laidOut : laidOutB Try.prog = true := by kernel_rfl
theorem p22 : PureOk Try.prog 22 (fcC F22) := by
 intro w im args vs K him ha hC
 unfold fcC F22 at hC
 split at hC <;> first | (exact hC.elim) | skip
 rename_i h
 split at h <;> first | (cases h; done) | skip
 cases h
 exact pp216 w im _ vs K him ha ⟨rfl, hC.2⟩
theorem q22 : Known Try.prog 22 := ⟨_, Try.func22, by simp [Try.f22], by simp [Try.f22]⟩
def rws (m : Nat) (F : Nat → Rg) : List Rg := (List.range m).map F
theorem rws_len {m : Nat} {F : Nat → Rg} : (rws m F).length = m := by simp [rws]
theorem rws_get {m : Nat} {F : Nat → Rg} {i : Nat} (h : i < m) : rowR (rws m F) i = [.int .i64 (F i).1, .int .i64 (F i).2.1, .bool (F i).2.2] := by simp [rowR, rws, List.getD, h]
theorem walk (W : World) (v0 v1 v2 : Value) (v : Vl) (R : List Rg) (a1 a2 : Int) (h0 : Cv W (fun b => b < W.heap.size) (v.sv) v0) (h1 : Cv W (fun b => b < W.heap.size) (.rd 3 R.length (rowR R)) v1) (h2 : Cv W (fun b => b < W.heap.size) (.agg [.int .i64 a1, .int .i64 a2]) v2) :
  Calls Try.prog 10 #[v0, v1, v2] W fun e W' => e = .returned (.bool true) ∧ Later W W' := by
 refine (p10 p22 q22 W (fun b => b < W.heap.size) [v.sv, .rd 3 R.length (rowR R), .agg [.int .i64 a1, .int .i64 a2]] [v0, v1, v2] (fun x => x = .bool true) (fun _ h => h) (.cons _ _ _ _ h0 (.cons _ _ _ _ h1 (.cons _ _ _ _ h2 .nil))) ⟨v, R, a1, a2, rfl, rfl⟩).mono ?_
 rintro e W' ⟨r, v, im', rfl, rfl, hv, _, _, _, hl⟩
 cases hv
 exact ⟨rfl, hl⟩
set_option maxRecDepth 100000 in
theorem lifted (os : Os) (started : os.Started) (H : Type) (enc : TypeId × Value → H) :
  ReturnsInHanded {} Try.checked os 10 .any (Rows.levelTurnedSpec.pre6 enc Try.prog Try.f10 Rows.levelTurnedRow.domain false) (Rows.levelTurnedSpec.post enc Try.prog Try.f10 false true false false) := by
 refine returnsInHanded_of_change (C := Try.checked) own started (by kernel_rfl) Try.func10
  (ChangeSpec.witness6 (enc := enc) (C := Try.checked) false ⟨#[], #[.agg #[.int .i64 0, .int .i64 0, .int .i64 0, .int .i64 0, .int .i64 0, .int .i64 0, .int .i64 0, .int .i64 0], .slice none 0 0, .agg #[.int .i64 0, .int .i64 0]], []⟩ 8 (by kernel_rfl) (by kernel_rfl) (by kernel_rfl) (by kernel_rfl) (by kernel_rfl)) ?_
 intro W base args ds gs before hval0 hW hcnd _
 have hval : ∀ (j : Nat) t v, Try.f10.params[j]? = some t → args[j]? = some v → Value.okWide Try.prog W .any base t v := hval0
 have hW' := hW
 obtain ⟨p, q, hA0, hV, rfl, hfz, hnd⟩ := hW
 have hA : DataW.TrodAll enc Try.prog W 0 (fun _ => true) true Try.f10.params.toList args.toList ds p := hA0
 rw [Try.params10] at hA hval
 obtain ⟨v0, vs0, d0, ds0, p0, q0, hargs, rfl, rfl, h0, r0⟩ := trodAll_cons hA
 obtain ⟨v1, vs1, d1, ds1, p1, q1, rfl, rfl, rfl, h1, r1⟩ := trodAll_cons r0
 obtain ⟨v2, vs2, d2, ds2, p2, q2, rfl, rfl, rfl, h2, r2⟩ := trodAll_cons r1
 obtain ⟨rfl, rfl, rfl⟩ := trodAll_nil r2
 obtain rfl : args = #[v0, v1, v2] := by cases args; simp_all
 obtain ⟨rfl, rfl⟩ := trodVars_none hV
 have hlt : ∀ x ∈ p0 ++ (p1 ++ (p2 ++ ([]))), x.block < W.heap.size := fun x hx => by simpa using hW'.lt x (by simpa using hx)
 have hlt0 : ∀ x ∈ p0, x.block < W.heap.size := fun x hx => hlt x (by simp [hx])
 have hlt1 : ∀ x ∈ p1, x.block < W.heap.size := fun x hx => hlt x (by simp [hx])
 have hlt2 : ∀ x ∈ p2, x.block < W.heap.size := fun x hx => hlt x (by simp [hx])
 obtain ⟨l0, hl0, hcv0⟩ := xIe (n := 8) (.inl ⟨_, Try.underlying25⟩) (hval 0 25 v0 rfl rfl) (ts := [3, 3, 3, 3, 3, 3, 3, 3]) (by kernel_rfl) (u := 3) (by decide) Try.underlying3 cells25
 obtain ⟨v, hv⟩ : ∃ v : Vl, l0.map (SV.int .i64) = v.cells := by
  match l0, hl0 with
  | [m, l1, l2, v1, v2, z1, z2, w], _ => exact ⟨⟨m, l1, l2, v1, v2, z1, z2, w⟩, rfl⟩
 rw [hv] at hcv0
 obtain ⟨n, F, hn, hcv1⟩ := xMa Try.underlying26 Try.underlying57 cells57 Try.underlying3 cells3 rfl Try.underlying3 cells3 rfl Try.underlying4 cells4 rfl (hval 1 26 v1 rfl rfl) h1
 have hcv1' := hcv1 (rowR (rws n F)) fun i hi => rws_get hi
 have hcv1'' : Cv W (fun b => b < W.heap.size) (.rd 3 (rws n F).length (rowR (rws n F))) v1 := by rw [rws_len]; exact hcv1'
 obtain ⟨l2, hl2, hcv2⟩ := xIe (n := 2) (.inr ⟨_, _, Try.underlying55⟩) (hval 2 55 v2 rfl rfl) (ts := [3, 3]) (by kernel_rfl) (u := 3) (by decide) Try.underlying3 cells55
 obtain ⟨a1, a2, ht2⟩ : ∃ a1 a2 : Int, l2.map (SV.int .i64) = [.int .i64 a1, .int .i64 a2] := by
  match l2, hl2 with
  | [a1, a2], _ => exact ⟨a1, a2, rfl⟩
 rw [ht2] at hcv2
 clear hA0 hval0
 simp only [List.append_nil] at hW'
 refine (walk W v0 v1 v2 v (rws n F) a1 a2 hcv0 hcv1'' hcv2).mono fun e W' ⟨he, hl⟩ => ?_
 subst he
 have hb := xBz hl
 refine ⟨_, rfl, _, _, _, [], p0 ++ (p1 ++ (p2 ++ ([]))), [], by simpa using hW', ?_, ?_, ?_, ?_, fun h => by cases h⟩
 ·exact trodAll_cons_mk (shut_bool Try.underlying4 _) trodAll_mk0
 ·exact trodAll_cons_mk (Below.trod laidOut (by kernel_rfl) (of_decide_eq_true (by kernel_rfl)) h0 hb hlt0) (trodAll_cons_mk (Below.trod laidOut (by kernel_rfl) (of_decide_eq_true (by kernel_rfl)) h1 hb hlt1) (trodAll_cons_mk (Below.trod laidOut (by kernel_rfl) (of_decide_eq_true (by kernel_rfl)) h2 hb hlt2) trodAll_mk0))
 ·rfl
 ·exact hb.frame _
theorem over : Rows.levelTurnedRow.holds Try.pinned (OpenSpec.ofChange Rows.levelTurnedSpec) :=
 OpenClaim.holds_of_wide 10 Try.f10 rfl rfl rfl rfl rfl rfl rfl ⟨rfl, rfl, rfl, rfl, rfl⟩ rfl rfl rfl rfl rfl (by kernel_rfl) Try.func10 (by kernel_rfl)
  (of_decide_eq_true (by kernel_rfl)) (by unfold Func.isWrapper; first | (rw [if_pos (by decide +kernel)]; kernel_rfl) | (rw [if_neg (by decide +kernel)]; exact ⟨rfl, rfl⟩))
  (fun os started H enc _ => lifted os started H enc)
theorem proved : Rows.LevelTurnedSaid :=
 over
end Go.Proofs.Ytgdihdiadlmjiaa.levelTurned
