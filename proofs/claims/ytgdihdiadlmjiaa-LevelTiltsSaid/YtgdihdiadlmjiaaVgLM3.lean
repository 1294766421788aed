import Derived.Test.YtgdihdiadlmjiaaVgLM2
set_option linter.unusedSimpArgs false
set_option linter.unusedVariables false
namespace Go.Proofs.Ytgdihdiadlmjiaa
open Go Go.Vg
set_option maxRecDepth 10000
def s77 : SC :=
 (.seq (.reg [⟨(some 3), none, .box 78 (.t 0)⟩,
  ⟨(some 5), none, .box 57 (.t 2)⟩,
  ⟨(some 6), none, .v (.mov (.c (.lit (.map none))))⟩])
 (.seq (.drw [(0, ⟨(some 7), none, .v (.mov (.t 1))⟩, false),
  (1, ⟨(some 8), none, .v (.off (.t 5) 2)⟩, false),
  (2, ⟨(some 9), none, .v (.load (.t 8) none)⟩, false),
  (3, ⟨(some 10), none, .v (.load (.t 3) (some 8))⟩, false),
  (4, ⟨(some 11), none, .v (.off (.t 5) 0)⟩, false),
  (5, ⟨(some 12), none, .v (.load (.t 11) none)⟩, false),
  (6, ⟨(some 13), none, .v (.off (.t 5) 1)⟩, false),
  (7, ⟨(some 14), none, .v (.load (.t 13) none)⟩, false),
  (8, ⟨(some 15), none, .v (.bin .add (.t 12) (.t 14))⟩, false),
  (9, ⟨(some 16), none, .call (.c (.fn 94 [])) [(.t 10), (.t 15)]⟩, false)]
  none
  [⟨(some 17), none, .call (.c (.fn 93 [])) [(.t 7), (.t 9), (.t 16)]⟩,
  ⟨(some 6), none, .v (.mov (.t 17))⟩])
 .ret))
def r77 : List RV := [.t 6]
theorem k77 : (Try.f77.body.bind (cC Try.prog), cR Try.prog Try.f77.results.toList, Try.f77.ntmps) = (some s77, some r77, 18) := by kernel_rfl
theorem q77 : Known Try.prog 77 := ⟨_, Try.func77, by decide, by simp [Try.f77]⟩
noncomputable def s49 : SC :=
 (.seq (.reg [⟨(some 2), none, .box 78 (.t 0)⟩,
  ⟨(some 4), none, .v (.mov (.c (.lit (.map none))))⟩])
 (.seq (.sem (rq Try.f49 1))
 (.seq (.seq (.reg [⟨(some 9), none, .v (.mov (.t 1))⟩,
  ⟨(some 10), none, .v (.len (.t 9))⟩,
  ⟨(some 11), none, .v (.mov (.c (.int .i64 (0))))⟩])
 (.block 0 (.loop
  (.seq (.reg [⟨(some 12), none, .v (.bin .lss (.t 11) (.t 10))⟩])
  (.seq (.cond (.t 12)
   .skip
   (.exit 0))
  (.seq (.block 1 (.seq (.reg [⟨(some 13), none, .v (.ixa (.t 9) (.t 11) 3)⟩,
   ⟨(some 14), none, .v (.load (.t 13) (some 3))⟩,
   ⟨(some 7), none, .new 57 [(.int .i64 (0)), (.int .i64 (0)), (.lit (.bool false))]⟩,
   ⟨none, none, .store 3 (.t 7) (.t 14)⟩])
  (.reg [⟨(some 15), none, .v (.load (.t 2) (some 8))⟩,
   ⟨(some 16), none, .v (.mov (.t 5))⟩,
   ⟨(some 17), none, .v (.load (.t 7) (some 3))⟩,
   ⟨(some 18), none, .call (.c (.fn 77 [])) [(.t 15), (.t 16), (.t 17)]⟩,
   ⟨(some 5), none, .v (.mov (.t 18))⟩])))
  (.reg [⟨(some 19), none, .v (.bin .add (.t 11) (.c (.int .i64 (1))))⟩,
   ⟨(some 11), none, .v (.mov (.t 19))⟩])))))))
 (.seq (.reg [⟨(some 20), none, .v (.mov (.t 5))⟩,
  ⟨(some 4), none, .v (.mov (.t 20))⟩])
 .ret))))
def r49 : List RV := [.t 4]
theorem k49 : (Try.f49.body.bind (cC Try.prog), cR Try.prog Try.f49.results.toList, Try.f49.ntmps) = (some s49, some r49, 21) := by kernel_rfl
theorem q49 : Known Try.prog 49 := ⟨_, Try.func49, by decide, by simp [Try.f49]⟩
def F94 : FC := fun args => match args with
 | [.agg [.int .i64 m, .int .i64 l1, .int .i64 l2, .int .i64 v1, .int .i64 v2, .int .i64 z1, .int .i64 z2, .int .i64 w], .int .i64 x] => some (Vl.ok ⟨m, l1, l2, v1, v2, z1, z2, w⟩ ∧ -1000000 ≤ x ∧ x ≤ 1000000, .agg [.int .i64 (x - w), .int .i64 (x + w)])
 | _ => none
theorem p94f : PureOk Try.prog 94 (fcC F94) := by
 intro w im args vs K him ha hC
 unfold fcC F94 at hC
 split at hC <;> first | (exact hC.elim) | skip
 rename_i h
 split at h <;> first | (cases h; done) | skip
 cases h
 exact p94 w im _ vs K him ha ⟨⟨_, _, _, _, _, _, _, _⟩, _, rfl, hC.1, hC.2⟩
def Mp.rd (M : Mp) (w : Int) (e : Rg) : Mp := M.wth e.2.2 (e.1 + e.2.1 - w) (e.1 + e.2.1 + w)
def Mp.mid (w : Int) (R : List Rg) : Mp := R.foldl (fun M e => M.rd w e) .e0
def C77 : PC := fun args K => ∃ (v : Vl) (M : Mp) (e : Rg), args = [v.sv, M.sv, .agg [.int .i64 e.1, .int .i64 e.2.1, .bool e.2.2]] ∧ (v.ok ∧ (0 ≤ e.1 ∧ e.1 ≤ 200) ∧ 0 ≤ e.2.1 ∧ e.2.1 ≤ 200) ∧ K (M.rd v.w e).sv
set_option maxHeartbeats 1000000 in
theorem p77 : PureOk Try.prog 77 C77 := by
 refine pure_of (T := [(94, .fc F94), (93, .pc C93)]) ⟨⟨p94f, q94⟩, ⟨p93, q93⟩, trivial⟩ Try.func77 k77 ?_
 rintro args K ⟨v, M, ⟨l, r, t⟩, rfl, ⟨hv, hl, hr⟩, hK⟩
 simp only at hl hr
 have hv' := eq_true hv
 obtain ⟨m, l1, l2, v1, v2, z1, z2, w⟩ := v
 simp only [Vl.sv]
 simp only [xCb, xAn, xCi, xAp, xAm, xAb, xAa, xAc, xAd, vK_e, xBd, xAr, xAj, xAo, xAy, xAf, dX_e, dG_t, xCj, xBt, xCm, xAe, xAv, xBe, xCa, xBs, pc_e, evp, bin, gt, gq, st, putf, X.get, gets, ap, mkfr, rep, clV, clL, clS, clo, clo.clos, ld, lda, tk, dr, cs1, gb, pb, ln, lk, evq, gdl, undef, Bool.and_true, Nat.reduceSub, Nat.reduceAdd, Nat.reduceBEq, beq_self_eq_true, true_and, s77, r77, F94]
 repeat' (first | omega | exact hv | (with_reducible refine And.intro ?_ ?_))
 refine ⟨M, t, _, _, rfl, ?_⟩
 simp only [xBa, xAm, xAb, xAa, xAc, xAd, vK_e, xAo, xAe, xAs, xAl, evp, gt, st, putf, X.get, rdR, tupled, clV, clS, true_and]
 exact ⟨_, hK, rfl⟩
def C49 : PC := fun args K => ∃ (v : Vl) (R : List Rg), args = [v.sv, .rd 3 R.length (rowR R)] ∧ (v.ok ∧ okRs v R) ∧ K (Mp.mid v.w R).sv
theorem mid_snoc {w : Int} {R : List Rg} {i : Nat} (h : i < R.length) : Mp.mid w (R.take (i + 1)) = (Mp.mid w (R.take i)).rd w (R.getD i r0) := by
 rw [List.take_add_one, List.getElem?_eq_getElem h]
 unfold Mp.mid
 rw [List.foldl_append]
 simp [List.getD, h]
set_option maxHeartbeats 1000000 in
theorem p49 : PureOk Try.prog 49 C49 := by
 refine pure_of (T := [(77, .pc C77)]) ⟨⟨p77, q77⟩, trivial⟩ Try.func49 k49 ?_
 rintro args K ⟨v, R, rfl, ⟨hv, hR⟩, hK⟩
 have hsv : v.sv = .agg [.int .i64 v.m, .int .i64 v.l1, .int .i64 v.l2, .int .i64 v.v1, .int .i64 v.v2, .int .i64 v.z1, .int .i64 v.z2, .int .i64 v.w] := rfl
 rw [hsv]
 simp only [xAn, xAp, xAm, xAb, xAa, xAc, xAd, vK_e, xBd, xAo, xAy, xAe, evp, gt, st, putf, X.get, mkfr, rep, cs1, pb, ln, undef, Nat.reduceSub, true_and, s49, r49, xCc]
 refine xBb [(8, .lb .mp 1), (5, .lb .mp 1)] [.box 78 [.int .i64 v.m, .int .i64 v.l1, .int .i64 v.l2, .int .i64 v.v1, .int .i64 v.v2, .int .i64 v.z1, .int .i64 v.z2, .int .i64 v.w], .ob (.mp [])] rfl rfl (by kernel_rfl) ?_
 simp only [xBp, xBq]
 simp only [xAn, xAp, xBc, xCq, xAm, xAb, xAa, xAc, xAd, vK_e, xAo, xAe, evp, gt, st, putf, X.get, lens, true_and]
 refine loop_cl 8 5 (x := Mp.e0.sv) (by rfl) ?_
 simp only [st, sb]
 refine xBy (G := Nat) (fun i => [(11, .int .i64 i), (5, (Mp.mid v.w (R.take i)).sv), (8, .any)]) (fun i => [.box 78 [.int .i64 v.m, .int .i64 v.l1, .int .i64 v.l2, .int .i64 v.v1, .int .i64 v.v2, .int .i64 v.z1, .int .i64 v.z2, .int .i64 v.w]]) (fun i => i ≤ R.length) (fun i => R.length - i) 0 (Nat.zero_le _) ?_
 (intro fr1 hf1; simp only [forget, dstC, dstO, st] at hf1; subst hf1)
 refine ⟨?_, ?_⟩
 ·refine xBv 1 [] (Nat.zero_le _) (by simp [ln]) (by simp [ln]) rfl ?_ ?_
  ·have e0 : Mp.mid v.w [] = .e0 := rfl
   simp only [reL, reX, inb, inb.inbs, ln, sts, st, Bool.and_self, Nat.reduceLT, Nat.reduceAdd, decide_true, and_self, Int.natCast_zero, implies_true, List.take_zero, e0, Mp.sv, Mp.ks, Mp.vs]
  ·simp only [reL, reX, reH, reB, reN, inb, and_self]
 ·intro i hi1
  have hl8 := hR.1
  by_cases hi2 : i < R.length
  ·have n0 : ((i : Int) < (R.length : Int)) = True := eq_true (by omega)
   have he := hR.2 (R.getD i r0) (by simp [List.getD, hi2])
   unfold okR at he
   have hv2 := hv
   unfold Vl.ok at hv2
   simp only [xBl, decide_true, xCb, xAw, xAn, and_self, xAp, xAu, xBc, xAm, xAb, xAa, xAc, xAd, vK_e, xAg, xAh, xAk, xAr, xAj, xAo, xAt, xAi, xAf, xBu, xAe, xBm, xAv, xBe, pc_e, xAx, evp, bin, gt, st, putf, X.get, gets, ap, clV, clL, clS, clo, ld, lda, ixs, tk, dr, sp, sp.spl, ll, cs1, one, allOne, gb, sb, pb, ln, lk, Bool.and_true, Nat.reduceAdd, beq_self_eq_true, true_and, and_true, sts, n0, rowR, Int.toNat_natCast, Mp.sv]
   refine ⟨by omega, v, Mp.mid v.w (R.take i), R.getD i r0, rfl, ⟨hv, by omega, by omega⟩, ?_⟩
   rw [← mid_snoc hi2]
   simp only []
   refine ⟨by omega, ?_⟩
   refine Nx.mk (i + 1) (by show i + 1 ≤ R.length; omega) (by show R.length - (i + 1) < R.length - i; omega) (xBv 1 [] (Nat.zero_le _) (by simp [ln]) (by simp [ln]) rfl ?_ ?_)
   ·simp only [reL, reX, inb, inb.inbs, Bool.and_self, Nat.reduceLT, decide_true, and_self, Int.natCast_add, Int.natCast_one, implies_true, Mp.sv]
   ·simp only [reL, reX, reH, reB, reN, inb, and_self]
  ·have n0 : ((i : Int) < (R.length : Int)) = False := eq_false (by omega)
   have e : R.take i = R := List.take_of_length_le (by omega)
   have hK2 : K (Mp.mid v.w (R.take i)).sv := by rw [e]; exact hK
   simp only [xBg, decide_false, xAn, xAp, xAu, xCg, xBa, xAm, xAb, xAa, xAc, xAd, vK_e, xAo, xBz, xAe, xCh, xBw, xBr, xAs, xAl, xAq, evp, bin, gt, st, putf, X.get, rdR, tupled, clV, clS, clo, beq_self_eq_true, true_and, sts, n0, Mp.sv]
   exact ⟨_, hK2, rfl⟩
end Go.Proofs.Ytgdihdiadlmjiaa
