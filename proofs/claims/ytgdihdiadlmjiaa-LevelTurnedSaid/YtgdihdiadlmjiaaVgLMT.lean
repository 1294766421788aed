import Derived.Test.YtgdihdiadlmjiaaVgLM9
import Derived.Test.YtgdihdiadlmjiaaVgV17
set_option linter.all false
namespace Go.Proofs.Ytgdihdiadlmjiaa
open Go Go.Vg
set_option maxRecDepth 10000
noncomputable def s10 : SC :=
 (.seq (.reg [⟨(some 3),none,.box 25 (.t 0)⟩,⟨(some 5),none,.box 55 (.t 2)⟩,.w5 6 false]) (.seq (.reg [.u4 14 3 8,.u0 15 1,(.w1 16 20 [(.t 14),(.t 15)]),.u0 13 16,.u5 17 13 0,.u5 18 13 1,.u5 19 13 2,.w4 7,.w4 8,.w3 2 7 17,.w3 2 8 18,.u0 9 19]) (.seq (.seq (.reg [.u0 20 9,.u7 21 .neq 20 (0),.u0 22 21,(.w0 23 22 false (.mov (.t 1))),(.w0 24 22 false (.len (.t 23))),(.w0 25 22 false (.bin .eql (.t 24) (.c (.int .i64 (0))))),.u9 26 22 25,.u0 27 26,(.w0 28 27 false (.mov (.t 1))),(.w0 29 27 false (.len (.t 28))),(.w0 30 27 false (.bin .gtr (.t 29) (.c (.int .i64 (8))))),.u9 31 27 30]) (.cond (.t 31) (.seq (.reg [.u0 32 9,.u7 33 .neq 32 (0),.u0 34 33,(.w0 35 34 true (.load (.t 8) (some 2))),⟨(some 36),(some (34,true)),.bld [(.int .i64 (0)),(.int .i64 (0))] []⟩,(.w0 37 34 true (.eqs [(some .i64),(some .i64)] false (.t 35) (.t 36))),.u8 38 34 37,.u0 39 38,⟨(some 40),(some (39,true)),.call (.c (.fn 22 [])) []⟩,.u8 41 39 40,.u0 6 41]) .ret) .skip)) (.seq (.sem (rq Try.f10 4)) (.seq (.seq (.reg [.u2 58 10 2,.u3 59 58,.u2 60 11 2,.u3 61 60,(.w6 62 (.binb .eql (.t 59) (.t 61)))]) (.cond (.t 62) (.seq (.reg [(.w1 63 22 []),.u0 6 63]) .ret) .skip)) (.seq (.reg [.u2 64 10 0,.u3 65 64,.u2 66 10 1,.u3 67 66,.u6 68 .add 65 67,.u2 69 11 0,.u3 70 69,.u6 71 .add 68 70,.u2 72 11 1,.u3 73 72,.u6 74 .add 71 73,.u0 12 74]) (.seq (.reg [.u2 75 8 0,.u3 76 75,(.w6 77 (.bin .mul (.c (.int .i64 (2))) (.t 76))),.u0 78 12,.u2 79 3 7,.u3 80 79,(.w6 81 (.bin .mul (.c (.int .i64 (2))) (.t 80))),.u6 82 .sub 78 81,.u6 83 .geq 77 82,.u0 84 83,(.w0 85 84 true (.off (.t 8) 1)),(.w0 86 84 true (.load (.t 85) none)),(.w0 87 84 true (.bin .mul (.c (.int .i64 (2))) (.t 86))),(.w0 88 84 true (.mov (.t 12))),(.w0 89 84 true (.off (.t 3) 7)),(.w0 90 84 true (.load (.t 89) none)),(.w0 91 84 true (.bin .mul (.c (.int .i64 (2))) (.t 90))),(.w0 92 84 true (.bin .add (.t 88) (.t 91))),(.w0 93 84 true (.bin .leq (.t 87) (.t 92))),.u8 94 84 93,.u0 95 94,⟨(some 96),(some (95,true)),.call (.c (.fn 22 [])) []⟩,.u8 97 95 96,.u0 6 97]) .ret)))))))
def r10 : List RV := [.t 6]
theorem k10 : (Try.f10.body.bind (cC Try.prog), cR Try.prog Try.f10.results.toList, Try.f10.ntmps) = (some s10, some r10, 98) := by kernel_rfl
def C10 : PC := fun args K => ∃ (v : Vl) (R : List Rg) (a b : Int), args = [v.sv, .rd 3 R.length (rowR R), .agg [.int .i64 a, .int .i64 b]] ∧ K (.bool true)
def A10 : List (Opq × Kd) := [(⟨some 42, none, .o (.v (.mov (.t 1)))⟩, .val 0 []), (⟨some 43, none, .o (.v (.ixarr (.t 5) (.c (.int .i64 (Int.ofNat 0))) 2 1))⟩, .val 0 []), (⟨some 44, none, .o (.v (.load (.t 43) none))⟩, .val 0 []), (⟨some 45, none, .o (.v (.mov (.t 1)))⟩, .val 0 []), (⟨some 46, none, .o (.v (.len (.t 45)))⟩, .val 0 []), (⟨some 47, none, .o (.call (.c (.fn 34 [])) [.t 44, .t 46])⟩, .val 0 []), (⟨some 48, none, .o (.v (.ixa (.t 42) (.t 47) 3))⟩, .val 0 []), (⟨some 49, none, .o (.v (.load (.t 48) (some 3)))⟩, .val 0 []), (⟨some 50, none, .o (.v (.mov (.t 1)))⟩, .prd []), (⟨some 51, none, .o (.v (.ixarr (.t 5) (.c (.int .i64 (Int.ofNat 1))) 2 1))⟩, .val 0 []), (⟨some 52, none, .o (.v (.load (.t 51) none))⟩, .val 0 []), (⟨some 53, none, .o (.v (.mov (.t 1)))⟩, .val 0 []), (⟨some 54, none, .o (.v (.len (.t 53)))⟩, .val 0 []), (⟨some 55, none, .o (.call (.c (.fn 34 [])) [.t 52, .t 54])⟩, .val 0 []), (⟨some 56, none, .o (.v (.ixa (.t 50) (.t 55) 3))⟩, .prd []), (⟨some 57, none, .o (.v (.load (.t 56) (some 3)))⟩, .prd [])]
def B10 : List (Opq × Kd) := [(⟨some 10, none, .o (.new 57 [.int .i64 (Int.ofNat 0), .int .i64 (Int.ofNat 0), .lit (.bool false)])⟩, .cre 0), (⟨some 11, none, .o (.new 57 [.int .i64 (Int.ofNat 0), .int .i64 (Int.ofNat 0), .lit (.bool false)])⟩, .cre 1), (⟨none, none, .o (.store 3 (.t 10) (.t 49))⟩, .efs 0 [0, 1] [])]
theorem d10 : (rgnD Try.prog (rq Try.f10 4)).bind (·[0]?) = some ⟨[1, 5], 2, 1, A10 ++ B10, [], [⟨none, none, .o (.store 3 (.t 11) (.t 57))⟩], none⟩ := by kernel_rfl
def rgV (e : Rg) : SV := .agg [.int .i64 e.1, .int .i64 e.2.1, .bool e.2.2]
def rgC (e : Rg) : List SV := [.int .i64 e.1, .int .i64 e.2.1, .bool e.2.2]
def Q10 (R : List Rg) (a b : Int) (i j : Nat) : List (Nat × SV) := [(42, .rd 3 R.length (rowR R)), (43, .ptr 1 0), (44, .int .i64 a), (45, .rd 3 R.length (rowR R)), (46, .int .i64 R.length), (47, .int .i64 i), (48, .rp (rgC (R.getD i r0)) 0), (49, rgV (R.getD i r0)), (50, .rd 3 R.length (rowR R)), (51, .ptr 1 1), (52, .int .i64 b), (53, .rd 3 R.length (rowR R)), (54, .int .i64 R.length), (55, .int .i64 j), (56, .rp (rgC (R.getD j r0)) 0), (57, rgV (R.getD j r0)), (10, .ptr 4 0), (11, .ptr 5 0)]
set_option maxHeartbeats 8000000 in
theorem p10 (p22 : PureOk Try.prog 22 (fcC F22)) (q22 : Known Try.prog 22) : PureOk Try.prog 10 C10 := by
 refine pure_of (T := [(20, .pc C20), (34, .fc F34), (22, .fc F22)]) ⟨⟨p20, q20⟩, ⟨p34, q34⟩, ⟨p22, q22⟩, trivial⟩ Try.func10 k10 ?_
 rintro args K ⟨v, R, a, b, rfl, hK⟩
 simp only [Vl.sv]
 have n33 : ((33 : Int) = 0) = False := eq_false (by decide)
 simp only [e_reg, e_seq, o_nil, o_cons, gd_none, putK_e, runK_e, vK_e, boxK_e, conK_e, callK_e, evh_v, evh_box, evh_call, seqK_n, gam_e, gamK_p, pc_e, pcK_e, evp, gt, st, putf, X.get, gets, ap, mkfr, rep, clV, clL, clS, clo, ld, lda, tk, dr, cs1, gb, pb, ln, lk, undef, Nat.reduceSub, Nat.reduceAdd, beq_self_eq_true, true_and, s10, r10]
 refine ⟨v, R, rfl, fun h => ?_, fun h h2 => ?_, fun h h2 => ?_⟩
 ·have hF : (askI v R = 0) = False := eq_false h
  simp only [gdK_btt, gdK_bft, decide_true, decide_false, e_reg, and_self, e_seq, e_cond, e_ret, o_nil, o_cons, gd_none, gd_some, gdK_tt, gdK_tf, putK_e, runK_e, skipK_e, vK_e, bldK_e, storeK3_e, storeK2_e, storeK_e, conK_e, callK_e, evh_v, evh_new, evh_bld, evh_store, evh_call, seqK_n, seqK_r, condK_t, ends_r, endK1_e, endK2_e, gam_e, gamK_f, pc_e, pcK_e, fcC_e, fcK_e, evp, fit, InQ, bin, gt, gq, st, putf, X.get, gets, getp, ap, rdR, tupled, clV, clL, clS, clo, ld, lda, tk, dr, sp, sp.spl, lay, ll, cs1, one, allOne, gb, sb, pb, ln, lk, undef, Bool.and_true, Bool.not_true, Bool.not_false, cond_false, Nat.reduceAdd, Nat.reduceBEq, beq_self_eq_true, true_and, and_true, hF, F22]
  exact ⟨by omega, _, hK, rfl⟩
 ·simp only [gdK_btt, gdK_bft, decide_true, decide_false, e_reg, and_self, e_seq, e_cond, e_ret, o_nil, o_cons, gd_none, gd_some, gdK_tt, gdK_tf, putK_e, runK_e, skipK_e, vK_e, bldK_e, storeK3_e, storeK2_e, storeK_e, conK_e, callK_e, evh_v, evh_new, evh_bld, evh_store, evh_call, seqK_n, seqK_r, condK_t, ends_r, endK1_e, endK2_e, gam_e, gamK_f, pc_e, pcK_e, fcC_e, fcK_e, evp, fit, InQ, bin, gt, gq, st, putf, X.get, gets, getp, ap, rdR, tupled, clV, clL, clS, clo, ld, lda, tk, dr, sp, sp.spl, lay, ll, cs1, one, allOne, gb, sb, pb, ln, lk, undef, Bool.and_true, Bool.not_true, Bool.not_false, cond_false, Nat.reduceAdd, Nat.reduceBEq, beq_self_eq_true, true_and, and_true, n33, F22]
  exact ⟨by omega, _, hK, rfl⟩
 ·obtain ⟨hv, hR⟩ := ask0 h
  have hv2 := hv
  unfold Vl.ok at hv2
  have hl0 : ((R.length : Int) = 0) = False := eq_false (by have := hR.1; omega)
  have hl8 : ((R.length : Int) > 8) = False := eq_false (by have := hR.1; omega)
  have hl8' : (8 < (R.length : Int)) = False := eq_false (by have := hR.1; omega)
  simp only [gdK_bff, condK_bf, decide_true, decide_false, e_skip, e_reg, and_self, e_seq, e_cond, o_nil, o_cons, gd_none, gd_some, gdK_ff, putK_e, runK_e, vK_e, storeK3_e, storeK2_e, storeK_e, evh_v, evh_new, evh_store, seqK_n, evp, bin, gt, gq, st, putf, X.get, lens, sp, sp.spl, ll, cs1, one, allOne, gb, sb, pb, ln, Bool.and_true, Bool.not_true, Nat.reduceAdd, true_and, hl0, hl8, e_sem]
  obtain ⟨i, hi⟩ : ∃ i : Nat, a % (R.length : Int) = i := ⟨(a % (R.length : Int)).toNat, by have := Int.emod_nonneg a (b := (R.length : Int)) (by have := hR.1; omega); omega⟩
  obtain ⟨j, hj⟩ : ∃ j : Nat, b % (R.length : Int) = j := ⟨(b % (R.length : Int)).toNat, by have := Int.emod_nonneg b (b := (R.length : Int)) (by have := hR.1; omega); omega⟩
  have hi2 : i < R.length := by have := Int.emod_lt_of_pos a (b := (R.length : Int)) (by have := hR.1; omega); omega
  have hj2 : j < R.length := by have := Int.emod_lt_of_pos b (b := (R.length : Int)) (by have := hR.1; omega); omega
  have hix : ixB (i : Int) R.length = true := by simp [ixB]; omega
  have hjx : ixB (j : Int) R.length = true := by simp [ixB]; omega
  have hFS : ∀ e ∈ [((34, [.int .i64 a, .int .i64 R.length], .int .i64 i) : Kc), (34, [.int .i64 b, .int .i64 R.length], .int .i64 j)], KcOk Try.prog e := by
   intro e he
   simp only [List.mem_cons, List.not_mem_nil, or_false] at he
   rcases he with rfl | rfl
   ·exact ⟨q34, rfl, _, p34, ⟨by have := hR.1; omega, by have := hR.1; omega⟩, by rw [hi]⟩
   ·exact ⟨q34, rfl, _, p34, ⟨by have := hR.1; omega, by have := hR.1; omega⟩, by rw [hj]⟩
  refine sem_rgnB (i := 0) (sh := [1, 5]) (m := 2) (ne := 1) (cs := []) (tl := [⟨none, none, .o (.store 3 (.t 11) (.t 57))⟩]) [((34, [.int .i64 a, .int .i64 R.length], .int .i64 i) : Kc), (34, [.int .i64 b, .int .i64 R.length], .int .i64 j)] A10 B10 [.rd 3 R.length (rowR R), .ptr 1 0, .int .i64 a, .rd 3 R.length (rowR R), .int .i64 R.length, .int .i64 i, .rp (rgC (R.getD i r0)) 0, rgV (R.getD i r0), .rd 3 R.length (rowR R), .ptr 1 1, .int .i64 b, .rd 3 R.length (rowR R), .int .i64 R.length, .int .i64 j, .rp (rgC (R.getD j r0)) 0, rgV (R.getD j r0)]
   (Q10 R a b i j)
   [.box 25 [.int .i64 v.m, .int .i64 v.l1, .int .i64 v.l2, .int .i64 v.v1, .int .i64 v.v2, .int .i64 v.z1, .int .i64 v.z2, .int .i64 v.w], .box 55 [.int .i64 a, .int .i64 b], .box 23 [.int .i64 (trM v R).1.1, .int .i64 (trM v R).1.2], .box 23 [.int .i64 (trM v R).2.1, .int .i64 (trM v R).2.2], .box 57 (rgC (R.getD i r0)), .box 57 (rgC (R.getD j r0))]
   d10 hFS ?_ rfl rfl rfl ?_ ?_ ?_
  ·intro e he e' he' h3 h4
   simp only [List.mem_cons, List.not_mem_nil, or_false] at he he'
   rcases he with rfl | rfl <;> rcases he' with rfl | rfl <;> simp at h4 ⊢
   ·have := hi.symm.trans ((congrArg (· % (R.length : Int)) h4).trans hj); omega
   ·have := hi.symm.trans ((congrArg (· % (R.length : Int)) h4).symm.trans hj); omega
  ·intro cq hq
   have q1 := hq _ (List.mem_cons_self ..)
   have q2 := hq _ (List.mem_cons_of_mem _ (List.mem_cons_self ..))
   have x1 : chk (true && ixB (i : Int) R.length) (.rp (rgC (R.getD i r0)) 0) = some (.rp (rgC (R.getD i r0)) 0) := by rw [hix]; rfl
   have x2 : chk (true && ixB (j : Int) R.length) (.rp (rgC (R.getD j r0)) 0) = some (.rp (rgC (R.getD j r0)) 0) := by rw [hjx]; rfl
   unfold A10
   refine stps_cons (by kernel_rfl) ?_
   refine stps_cons (by kernel_rfl) ?_
   refine stps_cons (by kernel_rfl) ?_
   refine stps_cons (by kernel_rfl) ?_
   refine stps_cons (by kernel_rfl) ?_
   refine stps_cons (Eq.trans (b := cq (.fn 34 []) [.int .i64 a, .int .i64 R.length]) (by kernel_rfl) q1) ?_
   refine stps_cons (Eq.trans (b := chk (true && ixB (i : Int) R.length) (.rp (rgC (R.getD i r0)) 0)) (by kernel_rfl) x1) ?_
   refine stps_cons (by kernel_rfl) ?_
   refine stps_cons (by kernel_rfl) ?_
   refine stps_cons (by kernel_rfl) ?_
   refine stps_cons (by kernel_rfl) ?_
   refine stps_cons (by kernel_rfl) ?_
   refine stps_cons (by kernel_rfl) ?_
   refine stps_cons (Eq.trans (b := cq (.fn 34 []) [.int .i64 b, .int .i64 R.length]) (by kernel_rfl) q2) ?_
   refine stps_cons (Eq.trans (b := chk (true && ixB (j : Int) R.length) (.rp (rgC (R.getD j r0)) 0)) (by kernel_rfl) x2) ?_
   refine stps_cons (by kernel_rfl) ?_
   exact stps_nil
  ·intro cq
   kernel_rfl
  ·simp only [Q10, puts_n, puts_c]
   simp only [e_reg, e_seq, e_cond, o_nil, o_cons, gd_none, putK_e, runK_e, vK_e, evh_v, seqK_n, evp, binB, gt, gq, st, putf, X.get, asB, ld, lda, gb, Nat.reduceAdd, true_and, rgV, rgC]
   have m1 := memR hi2
   have m2 := memR hj2
   have b1 := hR.2 _ m1
   have b2 := hR.2 _ m2
   have hb := trM_bnd hv hR
   have z1 := @zero_all v hv R hR h2 (R.getD i r0) (R.getD j r0) m1 m2
   have z2 := @zero_all v hv R hR h2 (R.getD j r0) (R.getD i r0) m2 m1
   generalize R.getD i r0 = x at *
   generalize R.getD j r0 = y at *
   obtain ⟨x1, x2, x3⟩ := x
   obtain ⟨y1, y2, y3⟩ := y
   simp only [okR] at b1 b2 z1 z2
   have key : ∀ (_ : 2 * (trM v R).2.1 ≥ x1 + x2 + y1 + y2 - 2 * v.w) (_ : 2 * (trM v R).2.2 ≤ x1 + x2 + y1 + y2 + 2 * v.w), (2 * (trM v R).2.1 ≥ x1 + x2 + y1 + y2 - 2 * v.w) = True ∧ (2 * (trM v R).2.2 ≤ x1 + x2 + y1 + y2 + 2 * v.w) = True := fun h1 h2 => ⟨eq_true h1, eq_true h2⟩
   cases x3 <;> cases y3 <;> simp only [beq_self_eq_true, Bool.false_beq, Bool.true_beq, Bool.not_true]
   ·simp only [condK_bt, e_reg, e_seq, e_ret, o_nil, o_cons, gd_none, putK_e, runK_e, vK_e, conK_e, callK_e, evh_v, evh_call, seqK_n, seqK_r, ends_r, endK1_e, endK2_e, gam_e, gamK_f, pc_e, pcK_e, fcC_e, fcK_e, evp, gt, st, putf, X.get, gets, ap, rdR, tupled, clV, clL, clS, clo, lk, Nat.reduceBEq, beq_self_eq_true, true_and, F22]
    exact ⟨_, hK, rfl⟩
   ·have z := z1 rfl rfl
    obtain ⟨k1, k2⟩ := key (by omega) (by omega)
    simp only [gdK_btt, condK_bf, decide_true, inr64, e_skip, e_reg, e_seq, e_ret, o_nil, o_cons, gd_none, gd_some, gdK_tt, putK_e, runK_e, vK_e, conK_e, callK_e, evh_v, evh_call, seqK_n, ends_r, endK1_e, endK2_e, gam_e, gamK_f, pc_e, pcK_e, fcC_e, fcK_e, evp, bin, gt, gq, st, putf, X.get, gets, ap, rdR, tupled, clV, clL, clS, clo, ld, lda, gb, lk, Nat.reduceAdd, Nat.reduceBEq, beq_self_eq_true, true_and, F22, k1, k2]
    exact ⟨by omega, by omega, by omega, by omega, by omega, by omega, by omega, by omega, by omega, _, hK, rfl⟩
   ·have z := z2 rfl rfl
    obtain ⟨k1, k2⟩ := key (by omega) (by omega)
    simp only [gdK_btt, condK_bf, decide_true, inr64, e_skip, e_reg, e_seq, e_ret, o_nil, o_cons, gd_none, gd_some, gdK_tt, putK_e, runK_e, vK_e, conK_e, callK_e, evh_v, evh_call, seqK_n, ends_r, endK1_e, endK2_e, gam_e, gamK_f, pc_e, pcK_e, fcC_e, fcK_e, evp, bin, gt, gq, st, putf, X.get, gets, ap, rdR, tupled, clV, clL, clS, clo, ld, lda, gb, lk, Nat.reduceAdd, Nat.reduceBEq, beq_self_eq_true, true_and, F22, k1, k2]
    exact ⟨by omega, by omega, by omega, by omega, by omega, by omega, by omega, by omega, by omega, _, hK, rfl⟩
   ·simp only [condK_bt, e_reg, e_seq, e_ret, o_nil, o_cons, gd_none, putK_e, runK_e, vK_e, conK_e, callK_e, evh_v, evh_call, seqK_n, seqK_r, ends_r, endK1_e, endK2_e, gam_e, gamK_f, pc_e, pcK_e, fcC_e, fcK_e, evp, gt, st, putf, X.get, gets, ap, rdR, tupled, clV, clL, clS, clo, lk, Nat.reduceBEq, beq_self_eq_true, true_and, F22]
    exact ⟨_, hK, rfl⟩
end Go.Proofs.Ytgdihdiadlmjiaa
