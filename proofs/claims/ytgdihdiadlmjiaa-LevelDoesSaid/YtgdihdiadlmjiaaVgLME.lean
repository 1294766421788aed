import Derived.Test.YtgdihdiadlmjiaaVgLM9
set_option linter.all false
namespace Go.Proofs.Ytgdihdiadlmjiaa
open Go Go.Vg
set_option maxRecDepth 10000
def s33 : SC :=
 (.seq (.reg [⟨(some 1),none,.box 25 (.t 0)⟩,.w5 2 false]) (.seq (.reg [.u4 3 1 8,(.w1 4 18 [(.t 3)]),.u7 5 .eql 4 (0),.u0 6 5,(.w0 7 6 true (.off (.t 1) 0)),(.w0 8 6 true (.load (.t 7) none)),⟨(some 9),(some (6,true)),.call (.c (.fn 42 [])) [(.t 8),(.c (.int .i64 (10))),(.c (.int .i64 (200)))]⟩,.u8 10 6 9,.u0 11 10,(.w0 12 11 true (.off (.t 1) 5)),(.w0 13 11 true (.load (.t 12) (some 2))),⟨(some 14),(some (11,true)),.call (.c (.fn 55 [])) [(.t 13),(.c (.int .i64 (0))),(.c (.int .i64 (400)))]⟩,.u8 15 11 14,.u0 16 15,(.w0 17 16 true (.off (.t 1) 3)),(.w0 18 16 true (.load (.t 17) (some 2))),⟨(some 19),(some (16,true)),.call (.c (.fn 55 [])) [(.t 18),(.c (.int .i64 (1))),(.c (.int .i64 (500)))]⟩,.u8 20 16 19,.u0 21 20,(.w0 22 21 true (.off (.t 1) 7)),(.w0 23 21 true (.load (.t 22) none)),⟨(some 24),(some (21,true)),.call (.c (.fn 42 [])) [(.t 23),(.c (.int .i64 (0))),(.c (.int .i64 (8)))]⟩,.u8 25 21 24,.u0 26 25,(.w0 27 26 true (.off (.t 1) 1)),(.w0 28 26 true (.load (.t 27) (some 2))),(.w0 29 26 true (.off (.t 1) 0)),(.w0 30 26 true (.load (.t 29) none)),⟨(some 31),(some (26,true)),.call (.c (.fn 55 [])) [(.t 28),(.c (.int .i64 (1))),(.t 30)]⟩,.u8 32 26 31,.u0 2 32]) .ret))
def r33 : List RV := [.t 2]
theorem k33 : (Try.f33.body.bind (cC Try.prog), cR Try.prog Try.f33.results.toList, Try.f33.ntmps) = (some s33, some r33, 33) := by kernel_rfl
theorem q33 : Known Try.prog 33 := ⟨_, Try.func33, by decide, by simp [Try.f33]⟩
def F33 : FC := fun args => match args with
 | [.agg [.int .i64 m, .int .i64 l1, .int .i64 l2, .int .i64 v1, .int .i64 v2, .int .i64 z1, .int .i64 z2, .int .i64 w]] => some (True, .bool (decide (Vl.ok ⟨m, l1, l2, v1, v2, z1, z2, w⟩)))
 | _ => none
theorem p33 : PureOk Try.prog 33 (fcC F33) := by
 refine pure_of (T := [(18, .fc F18), (42, .fc F42), (55, .fc F55)]) ⟨⟨p18f, q18⟩, ⟨p42, q42⟩, ⟨p55, q55⟩, trivial⟩ Try.func33 k33 ?_
 intro args K hC
 unfold fcC F33 at hC
 split at hC <;> first | (exact hC.elim) | skip
 rename_i h
 split at h <;> first | (cases h; done) | skip
 rename_i m l1 l2 v1 v2 z1 z2 w
 cases h
 obtain ⟨-, hK⟩ := hC
 by_cases hv : Vl.ok ⟨m, l1, l2, v1, v2, z1, z2, w⟩
 ·have hc : Vl.chk ⟨m, l1, l2, v1, v2, z1, z2, w⟩ = 0 := if_pos hv
  have hd : decide (Vl.ok ⟨m, l1, l2, v1, v2, z1, z2, w⟩) = true := decide_eq_true hv
  rw [hd] at hK
  unfold Vl.ok at hv
  simp only at hv
  have d1 : (10 ≤ m ∧ m ≤ 200) = True := eq_true hv.1
  have d2 : ((0 ≤ z1 ∧ z1 ≤ z2) ∧ z2 ≤ 400) = True := eq_true (by omega)
  have d3 : ((1 ≤ v1 ∧ v1 ≤ v2) ∧ v2 ≤ 500) = True := eq_true (by omega)
  have d4 : (0 ≤ w ∧ w ≤ 8) = True := eq_true (by omega)
  have d5 : ((1 ≤ l1 ∧ l1 ≤ l2) ∧ l2 ≤ m) = True := eq_true (by omega)
  simp only [gdK_btt, decide_true, e_reg, e_seq, e_ret, o_nil, o_cons, gd_none, gd_some, gdK_tt, putK_e, runK_e, vK_e, boxK_e, conK_e, callK_e, evh_v, evh_box, evh_call, seqK_n, ends_r, endK1_e, endK2_e, gam_e, gamK_f, pc_e, pcK_e, fcC_e, fcK_e, evp, bin, gt, gq, st, putf, X.get, gets, ap, mkfr, rep, rdR, tupled, clV, clL, clS, clo, ld, lda, tk, dr, cs1, gb, pb, ln, lk, undef, Nat.reduceSub, Nat.reduceAdd, Nat.reduceBEq, beq_self_eq_true, true_and, s33, r33, F18, F42, F55, hc, d1, d2, d3, d4, d5]
  exact res hK (by simp [leR])
 ·have hc : Vl.chk ⟨m, l1, l2, v1, v2, z1, z2, w⟩ = 30 := if_neg hv
  have hd : decide (Vl.ok ⟨m, l1, l2, v1, v2, z1, z2, w⟩) = false := decide_eq_false hv
  rw [hd] at hK
  have n30 : ((30 : Int) = 0) = False := eq_false (by decide)
  simp only [gdK_btf, decide_false, e_reg, e_seq, e_ret, o_nil, o_cons, gd_none, gd_some, gdK_ft, putK_e, runK_e, skipK_e, vK_e, boxK_e, conK_e, callK_e, evh_v, evh_box, evh_call, seqK_n, ends_r, endK1_e, endK2_e, gam_e, gamK_f, pc_e, pcK_e, fcC_e, fcK_e, evp, bin, gt, st, putf, X.get, gets, ap, mkfr, rep, rdR, tupled, clV, clL, clS, clo, ld, lda, tk, dr, cs1, gb, pb, ln, lk, undef, Nat.reduceSub, beq_self_eq_true, true_and, s33, r33, F18, hc, n30]
  exact res hK (by simp [leR])
end Go.Proofs.Ytgdihdiadlmjiaa
