import Derived.Test.YtgdihdiadlmjiaaVgLP
set_option linter.all false
namespace Go.Proofs.Ytgdihdiadlmjiaa
open Go Go.Vg
set_option maxRecDepth 10000
def s7 : SC :=
 (.seq (.reg [⟨(some 5),none,.box 49 (.t 2)⟩,.w5 6 false]) (.seq (.reg [.u0 12 0,.u0 13 1,.u4 14 5 2,(.w1 15 30 [(.t 12),(.t 13),(.t 14)]),.u0 11 15,.u5 16 11 0,.u5 17 11 1,.u0 7 16,.u0 8 17]) (.seq (.reg [.u0 19 0,.u0 20 1,.u4 21 5 2,(.w1 22 31 [(.t 19),(.t 20),(.t 21)]),.u0 18 22,.u5 23 18 0,.u5 24 18 1,.u0 9 23,.u0 10 24]) (.seq (.reg [.u0 25 7,.u0 26 9,.u6 27 .eql 25 26,.u0 28 27,(.w0 29 28 true (.mov (.t 8))),(.w0 30 28 true (.mov (.t 10))),(.w0 31 28 true (.bin .eql (.t 29) (.t 30))),.u8 32 28 31,.u0 33 32,⟨(some 34),(some (33,true)),.call (.c (.fn 22 [])) []⟩,.u8 35 33 34,.u0 6 35]) .ret))))
def r7 : List RV := [.t 6]
theorem k7 : (Try.f7.body.bind (cC Try.prog), cR Try.prog Try.f7.results.toList, Try.f7.ntmps) = (some s7, some r7, 36) := by kernel_rfl
def C7 : PC := fun args K => ∃ (V : List Vl) (p : List Int) (r f : Int), args = [.rd 8 V.length (rowV V), .ints .i64 p, .agg [.int .i64 r, .int .i64 f]] ∧ K (.bool true)
set_option maxHeartbeats 4000000 in
theorem p7 (p22 : PureOk Try.prog 22 (fcC F22)) (q22 : Known Try.prog 22) : PureOk Try.prog 7 C7 := by
 refine pure_of (T := [(30, .pc C31), (31, .pc C31), (22, .fc F22)]) ⟨⟨p30 p100, q30⟩, ⟨p31 p58, q31⟩, ⟨p22, q22⟩, trivial⟩ Try.func7 k7 ?_
 rintro args K ⟨V, p, r, f, rfl, hK⟩
 simp only [e_reg, e_seq, o_nil, o_cons, gd_none, putK_e, runK_e, vK_e, boxK_e, conK_e, callK_e, evh_v, evh_box, evh_call, seqK_n, gam_e, gamK_p, pc_e, pcK_e, evp, gt, st, putf, X.get, gets, ap, mkfr, rep, clV, clL, clS, clo, ld, lda, tk, dr, cs1, gb, pb, ln, lk, undef, Nat.reduceSub, beq_self_eq_true, true_and, s7, r7]
 refine ⟨V, p, r, f, rfl, fun h h2 => ?_, fun h h2 => ?_, fun h => ?_⟩
 ·simp only [e_reg, e_seq, o_nil, o_cons, gd_none, putK_e, runK_e, vK_e, conK_e, callK_e, evh_v, evh_call, seqK_n, gam_e, gamK_p, pc_e, pcK_e, evp, gt, gq, st, putf, X.get, gets, ap, clV, clL, clS, clo, ld, lda, tk, dr, gb, lk, Nat.reduceBEq, beq_self_eq_true, true_and]
  refine ⟨V, p, r, f, rfl, fun _ _ => ?_, fun _ h3 => absurd h2 (by omega), fun h3 => absurd h h3⟩
  simp only [gdK_btt, decide_true, e_reg, e_seq, e_ret, o_nil, o_cons, gd_none, gd_some, gdK_tt, putK_e, runK_e, vK_e, conK_e, callK_e, evh_v, evh_call, seqK_n, ends_r, endK1_e, endK2_e, gam_e, gamK_f, pc_e, pcK_e, fcC_e, fcK_e, evp, bin, gt, gq, st, putf, X.get, gets, ap, rdR, tupled, clV, clL, clS, clo, lk, Nat.reduceBEq, beq_self_eq_true, true_and, F22]
  exact res hK (by simp [leR])
 ·simp only [e_reg, e_seq, o_nil, o_cons, gd_none, putK_e, runK_e, vK_e, conK_e, callK_e, evh_v, evh_call, seqK_n, gam_e, gamK_p, pc_e, pcK_e, evp, gt, gq, st, putf, X.get, gets, ap, clV, clL, clS, clo, ld, lda, tk, dr, gb, lk, Nat.reduceBEq, beq_self_eq_true, true_and]
  refine ⟨V, p, r, f, rfl, fun _ h3 => absurd h2 (by omega), fun _ _ => ?_, fun h3 => absurd h h3⟩
  simp only [gdK_btt, decide_true, e_reg, e_seq, e_ret, o_nil, o_cons, gd_none, gd_some, gdK_tt, putK_e, runK_e, vK_e, conK_e, callK_e, evh_v, evh_call, seqK_n, ends_r, endK1_e, endK2_e, gam_e, gamK_f, pc_e, pcK_e, fcC_e, fcK_e, evp, bin, gt, gq, st, putf, X.get, gets, ap, rdR, tupled, clV, clL, clS, clo, lk, Nat.reduceBEq, beq_self_eq_true, true_and, F22]
  exact res hK (by simp [leR])
 ·simp only [e_reg, e_seq, o_nil, o_cons, gd_none, putK_e, runK_e, vK_e, conK_e, callK_e, evh_v, evh_call, seqK_n, gam_e, gamK_p, pc_e, pcK_e, evp, gt, gq, st, putf, X.get, gets, ap, clV, clL, clS, clo, ld, lda, tk, dr, gb, lk, Nat.reduceBEq, beq_self_eq_true, true_and]
  refine ⟨V, p, r, f, rfl, fun h3 => absurd h3 h, fun h3 => absurd h3 h, fun _ => ?_⟩
  simp only [gdK_btt, decide_true, e_reg, e_seq, e_ret, o_nil, o_cons, gd_none, gd_some, gdK_tt, putK_e, runK_e, vK_e, conK_e, callK_e, evh_v, evh_call, seqK_n, ends_r, endK1_e, endK2_e, gam_e, gamK_f, pc_e, pcK_e, fcC_e, fcK_e, evp, bin, gt, gq, st, putf, X.get, gets, ap, rdR, tupled, clV, clL, clS, clo, lk, Nat.reduceBEq, beq_self_eq_true, true_and, F22]
  exact res hK (by simp [leR])
end Go.Proofs.Ytgdihdiadlmjiaa
