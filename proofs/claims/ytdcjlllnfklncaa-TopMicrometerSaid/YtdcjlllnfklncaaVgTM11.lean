import Derived.Test.YtdcjlllnfklncaaVgTM10
namespace Go.Proofs.Ytdcjlllnfklncaa
open Go Go.Vg
set_option linter.unusedSimpArgs false
set_option linter.unusedVariables false
set_option maxRecDepth 10000
theorem Rp.Rlen (v : Rp) : v.R.length ≤ 1000000 := by
 unfold Rp.R
 split
 ·rename_i h
  have := acc_len v.pw (v.t + 2).toNat
  unfold Rp.ok at h
  unfold Rp.pl
  omega
 ·simp
def s3 : SC :=
 (.seq (.reg [⟨(some 3), none, .box 28 (.t 0)⟩,
  ⟨(some 4), none, .box 32 (.t 1)⟩,
  ⟨(some 5), none, .box 33 (.t 2)⟩,
  ⟨(some 6), none, .v (.mov (.c (.lit (.bool false))))⟩])
 (.seq (.reg [⟨(some 23), none, .v (.load (.t 3) (some 4))⟩,
  ⟨(some 24), none, .v (.ixarr (.t 5) (.c (.int .i64 (0))) 3 1)⟩,
  ⟨(some 25), none, .v (.load (.t 24) none)⟩,
  ⟨(some 26), none, .call (.c (.fn 4 [])) [(.t 23), (.t 25)]⟩,
  ⟨(some 22), none, .v (.mov (.t 26))⟩,
  ⟨(some 27), none, .v (.ext (.t 22) 0)⟩,
  ⟨(some 28), none, .v (.ext (.t 22) 1)⟩,
  ⟨(some 29), none, .v (.ext (.t 22) 2)⟩,
  ⟨(some 8), none, .new 30 [(.int .i64 (0)), (.int .i64 (0))]⟩,
  ⟨(some 7), none, .v (.mov (.t 27))⟩,
  ⟨none, none, .store 2 (.t 8) (.t 28)⟩,
  ⟨(some 9), none, .v (.mov (.t 29))⟩])
 (.seq (.reg [⟨(some 31), none, .v (.load (.t 3) (some 4))⟩,
  ⟨(some 32), none, .v (.ixarr (.t 5) (.c (.int .i64 (1))) 3 1)⟩,
  ⟨(some 33), none, .v (.load (.t 32) none)⟩,
  ⟨(some 34), none, .call (.c (.fn 4 [])) [(.t 31), (.t 33)]⟩,
  ⟨(some 30), none, .v (.mov (.t 34))⟩,
  ⟨(some 35), none, .v (.ext (.t 30) 0)⟩,
  ⟨(some 36), none, .v (.ext (.t 30) 1)⟩,
  ⟨(some 37), none, .v (.ext (.t 30) 2)⟩,
  ⟨(some 11), none, .new 30 [(.int .i64 (0)), (.int .i64 (0))]⟩,
  ⟨(some 10), none, .v (.mov (.t 35))⟩,
  ⟨none, none, .store 2 (.t 11) (.t 36)⟩,
  ⟨(some 12), none, .v (.mov (.t 37))⟩])
 (.seq (.drw [(0, ⟨(some 38), none, .v (.off (.t 8) 0)⟩, false),
  (1, ⟨(some 39), none, .v (.load (.t 38) none)⟩, false),
  (2, ⟨(some 40), none, .call (.c (.fn 5 [])) [(.t 39)]⟩, false),
  (3, ⟨(some 41), none, .v (.off (.t 8) 1)⟩, false),
  (4, ⟨(some 42), none, .v (.load (.t 41) none)⟩, false),
  (5, ⟨(some 43), none, .call (.c (.fn 5 [])) [(.t 42)]⟩, false),
  (6, ⟨(some 44), none, .v (.max2 (.t 40) (.t 43))⟩, false),
  (7, ⟨(some 45), none, .v (.off (.t 11) 0)⟩, false),
  (8, ⟨(some 46), none, .v (.load (.t 45) none)⟩, false),
  (9, ⟨(some 47), none, .call (.c (.fn 5 [])) [(.t 46)]⟩, false),
  (10, ⟨(some 48), none, .v (.off (.t 11) 1)⟩, false),
  (11, ⟨(some 49), none, .v (.load (.t 48) none)⟩, false),
  (12, ⟨(some 50), none, .call (.c (.fn 5 [])) [(.t 49)]⟩, false),
  (13, ⟨(some 51), none, .v (.max2 (.t 47) (.t 50))⟩, false)]
  none
  [⟨(some 52), none, .v (.max2 (.t 44) (.t 51))⟩,
  ⟨(some 13), none, .v (.mov (.t 52))⟩])
 (.seq (.seq (.reg [⟨(some 53), none, .v (.mov (.t 9))⟩,
  ⟨(some 54), none, .v (.not (.t 53))⟩,
  ⟨(some 55), none, .v (.mov (.t 54))⟩,
  ⟨(some 56), (some (55, false)), .v (.mov (.t 12))⟩,
  ⟨(some 57), (some (55, false)), .v (.not (.t 56))⟩,
  ⟨(some 58), none, .v (.pick (.t 55) (.c (.lit (.bool true))) (.t 57))⟩,
  ⟨(some 59), none, .v (.mov (.t 58))⟩,
  ⟨(some 60), (some (59, false)), .v (.mov (.t 13))⟩,
  ⟨(some 61), (some (59, false)), .v (.bin .gtr (.t 60) (.c (.int .i64 (10000))))⟩,
  ⟨(some 62), none, .v (.pick (.t 59) (.c (.lit (.bool true))) (.t 61))⟩])
 (.cond (.t 62)
  (.seq (.reg [⟨(some 63), none, .v (.mov (.t 9))⟩,
   ⟨(some 64), none, .v (.mov (.t 12))⟩,
   ⟨(some 65), none, .v (.binb .eql (.t 63) (.t 64))⟩,
   ⟨(some 66), none, .v (.mov (.t 65))⟩,
   ⟨(some 67), (some (66, true)), .call (.c (.fn 6 [])) []⟩,
   ⟨(some 68), none, .v (.pick (.t 66) (.t 67) (.c (.lit (.bool false))))⟩,
   ⟨(some 6), none, .v (.mov (.t 68))⟩])
  .ret)
  .skip))
 (.seq (.drw [(0, ⟨(some 69), none, .v (.ixarr (.t 5) (.c (.int .i64 (2))) 3 1)⟩, false),
  (1, ⟨(some 70), none, .v (.load (.t 69) none)⟩, false),
  (2, ⟨(some 71), none, .call (.c (.fn 7 [])) [(.t 70), (.c (.int .i64 (1296000)))]⟩, false),
  (3, ⟨(some 72), none, .v (.off (.t 4) 2)⟩, false),
  (4, ⟨(some 73), none, .v (.load (.t 72) none)⟩, false),
  (5, ⟨(some 74), none, .call (.c (.fn 7 [])) [(.t 73), (.c (.int .i64 (100)))]⟩, false),
  (6, ⟨(some 75), none, .v (.bin .add (.c (.int .i64 (1))) (.t 74))⟩, false),
  (7, ⟨(some 76), none, .v (.off (.t 4) 0)⟩, false),
  (8, ⟨(some 77), none, .v (.load (.t 76) none)⟩, false),
  (9, ⟨(some 78), none, .call (.c (.fn 7 [])) [(.t 77), (.c (.int .i64 (1296000)))]⟩, false),
  (10, ⟨(some 14), none, .v (.mov (.t 71))⟩, false)]
  none
  [⟨(some 15), none, .v (.mov (.t 75))⟩,
  ⟨(some 16), none, .v (.mov (.t 78))⟩])
 (.seq (.reg [⟨(some 79), none, .v (.mov (.t 16))⟩,
  ⟨(some 80), none, .v (.mov (.t 7))⟩,
  ⟨(some 81), none, .v (.bin .add (.t 79) (.t 80))⟩,
  ⟨(some 82), none, .call (.c (.fn 7 [])) [(.t 81), (.c (.int .i64 (1296000)))]⟩,
  ⟨(some 83), none, .v (.mov (.t 16))⟩,
  ⟨(some 84), none, .v (.mov (.t 15))⟩,
  ⟨(some 85), none, .v (.mov (.t 14))⟩,
  ⟨(some 86), none, .v (.bin .mul (.t 84) (.t 85))⟩,
  ⟨(some 87), none, .v (.bin .add (.t 83) (.t 86))⟩,
  ⟨(some 88), none, .v (.mov (.t 10))⟩,
  ⟨(some 89), none, .v (.bin .add (.t 87) (.t 88))⟩,
  ⟨(some 90), none, .call (.c (.fn 7 [])) [(.t 89), (.c (.int .i64 (1296000)))]⟩,
  ⟨(some 91), none, .v (.mov (.t 15))⟩,
  ⟨(some 92), none, .v (.mov (.t 14))⟩,
  ⟨(some 93), none, .v (.bin .sub (.t 92) (.c (.int .i64 (3000))))⟩,
  ⟨(some 94), none, .v (.max2 (.c (.int .i64 (0))) (.t 93))⟩,
  ⟨(some 95), none, .v (.mov (.t 14))⟩,
  ⟨(some 96), none, .v (.bin .add (.t 95) (.c (.int .i64 (3000))))⟩,
  ⟨(some 97), none, .v (.min2 (.c (.int .i64 (1295999))) (.t 96))⟩,
  ⟨(some 98), none, .call (.c (.fn 8 [])) [(.t 94), (.t 97)]⟩,
  ⟨(some 99), none, .v (.mov (.t 13))⟩,
  ⟨(some 100), none, .bld [(.int .i64 (0)), (.int .i64 (0)), (.int .i64 (0)), (.int .i64 (0)), (.int .i64 (0)), (.int .i64 (0))] [(0, 1, (.t 82)), (1, 1, (.t 90)), (2, 1, (.t 91)), (3, 2, (.t 98)), (5, 1, (.t 99))]⟩,
  ⟨(some 17), none, .new 32 [(.int .i64 (0)), (.int .i64 (0)), (.int .i64 (0)), (.int .i64 (0)), (.int .i64 (0)), (.int .i64 (0))]⟩,
  ⟨none, none, .store 6 (.t 17) (.t 100)⟩])
 (.seq (.reg [⟨(some 102), none, .v (.load (.t 17) (some 6))⟩,
  ⟨(some 103), none, .call (.c (.fn 9 [])) [(.t 102)]⟩,
  ⟨(some 101), none, .v (.mov (.t 103))⟩,
  ⟨(some 104), none, .v (.ext (.t 101) 0)⟩,
  ⟨(some 105), none, .v (.ext (.t 101) 1)⟩,
  ⟨(some 18), none, .v (.mov (.t 104))⟩,
  ⟨(some 19), none, .v (.mov (.t 105))⟩])
 (.seq (.seq (.reg [⟨(some 106), none, .v (.mov (.t 19))⟩,
  ⟨(some 107), none, .v (.bin .neq (.t 106) (.c (.int .i64 (0))))⟩])
 (.cond (.t 107)
  (.seq (.reg [⟨(some 6), none, .v (.mov (.c (.lit (.bool false))))⟩])
  .ret)
  .skip))
 (.seq (.reg [⟨(some 20), none, .v (.mov (.c (.lit (.bool false))))⟩])
 (.seq (.seq (.reg [⟨(some 21), none, .v (.mov (.c (.int .i64 (0))))⟩])
 (.block 0 (.loop
  (.seq (.seq (.reg [⟨(some 108), none, .v (.mov (.t 21))⟩,
   ⟨(some 109), none, .v (.mov (.t 18))⟩,
   ⟨(some 110), none, .v (.len (.t 109))⟩,
   ⟨(some 111), none, .v (.bin .lss (.t 108) (.t 110))⟩])
  (.cond (.t 111)
   .skip
   (.exit 0)))
  (.seq (.block 1 (.reg [⟨(some 114), none, .v (.mov (.t 20))⟩,
   ⟨(some 115), none, .v (.mov (.t 114))⟩,
   ⟨(some 116), (some (115, false)), .v (.mov (.t 18))⟩,
   ⟨(some 117), (some (115, false)), .v (.mov (.t 21))⟩,
   ⟨(some 118), (some (115, false)), .v (.ixa (.t 116) (.t 117) 2)⟩,
   ⟨(some 119), (some (115, false)), .v (.load (.t 118) (some 2))⟩,
   ⟨(some 120), (some (115, false)), .v (.mov (.t 14))⟩,
   ⟨(some 121), (some (115, false)), .call (.c (.fn 10 [])) [(.t 119), (.t 120)]⟩,
   ⟨(some 122), none, .v (.pick (.t 115) (.c (.lit (.bool true))) (.t 121))⟩,
   ⟨(some 20), none, .v (.mov (.t 122))⟩]))
  (.reg [⟨(some 112), none, .v (.mov (.t 21))⟩,
   ⟨(some 113), none, .v (.bin .add (.t 112) (.c (.int .i64 (1))))⟩,
   ⟨(some 21), none, .v (.mov (.t 113))⟩]))))))
 (.seq (.reg [⟨(some 123), none, .v (.mov (.t 20))⟩,
  ⟨(some 124), none, .v (.mov (.t 123))⟩,
  ⟨(some 125), (some (124, true)), .call (.c (.fn 6 [])) []⟩,
  ⟨(some 126), none, .v (.pick (.t 124) (.t 125) (.c (.lit (.bool false))))⟩,
  ⟨(some 6), none, .v (.mov (.t 126))⟩])
 .ret))))))))))))
def r3 : List RV := [.t 6]
theorem k3 : (Try.f3.body.bind (cC Try.prog), cR Try.prog Try.f3.results.toList, Try.f3.ntmps) = (some s3, some r3, 127) := by kernel_rfl
theorem q3 : Known Try.prog 3 := ⟨_, Try.func3, by decide, by simp [Try.f3]⟩
def F6 : FC := fun args => match args with
 | [] => some (True, .lit (.bool true))
 | _ => none
def C3 : PC := fun args K => ∃ (T : List Int) (m : Int) (L : List Rdg) (N : Nat) (Y : Nat → List Int) (f l t a b w n0 n1 n2 : Int), args = [.agg [.ints .i64 T, .int .i64 m, .rd 6 L.length (rgR L), .rd 1 N fun i => [.ints .i64 (Y i)]],
 .agg [.int .i64 f, .int .i64 l, .int .i64 t, .int .i64 a, .int .i64 b, .int .i64 w], .agg [.int .i64 n0, .int .i64 n1, .int .i64 n2]] ∧ K (.lit (.bool true))
set_option maxHeartbeats 4000000 in
theorem p3 (p6 : PureOk Try.prog 6 (fcC F6)) (q6 : Known Try.prog 6) : PureOk Try.prog 3 C3 := by
 refine pure_of (T := [(4, .pc C4), (5, .fc Fabs), (6, .fc F6), (7, .fc Fmod), (8, .fc Fto), (9, .fc F9), (10, .fc F10)]) ⟨⟨p4, q4⟩, ⟨p5, q5⟩, ⟨p6, q6⟩, ⟨p7, q7⟩, ⟨p8, q8⟩, ⟨p9', q9⟩, ⟨p10, q10⟩, trivial⟩ Try.func3 k3 ?_
 rintro args K ⟨T, m, L, N, Y, f, l, t, a, b, w, n0, n1, n2, rfl, hK⟩
 have e1 : ∀ x : Int, (x = x) = True := fun x => eq_self x
 simp only [e_reg, e_seq, o_nil, o_cons, gd_none, putK_e, runK_e, vK_e, boxK_e, conK_e, callK_e, evh_v, evh_box, evh_call, seqK_n, gam_e, gamK_p, pc_e, pcK_e, evp, gt, gq, st, putf, X.get, gets, ap, mkfr, rep, clV, clL, clS, clo, ld, lda, tk, dr, cs1, gb, pb, ln, lk, undef, Nat.reduceSub, Nat.reduceAdd, Nat.reduceMul, beq_self_eq_true, true_and, s3, r3, gq, Int.reduceToNat]
 refine ⟨by omega, T, m, L, N, Y, n0, rfl, fun x1 a1 b1 h1 => ?_⟩
 simp only [e_reg, and_self, e_seq, o_nil, o_cons, gd_none, putK_e, runK_e, vK_e, storeK3_e, storeK2_e, storeK_e, conK_e, callK_e, evh_v, evh_new, evh_store, evh_call, seqK_n, gam_e, gamK_p, pc_e, pcK_e, evp, gt, gq, st, putf, X.get, gets, ap, clV, clL, clS, clo, ld, lda, tk, dr, sp, sp.spl, ll, cs1, one, allOne, gb, sb, pb, ln, lk, Bool.and_true, Nat.reduceAdd, Nat.reduceMul, beq_self_eq_true, true_and, gq, Int.reduceToNat]
 refine ⟨by omega, T, m, L, N, Y, n1, rfl, fun x2 a2 b2 h2 => ?_⟩
 cases ht : truE T m L N Y with
 | false =>
  simp only [gdK_btt, gdK_bft, e_reg, and_self, e_drw, e_seq, e_cond, e_ret, o_nil, o_cons, gd_none, gd_some, gdK_tf, putK_e, runK_e, skipK_e, vK_e, storeK3_e, storeK2_e, storeK_e, conK_e, callK_e, evh_v, evh_new, evh_store, evh_call, dX_e, dG_t, d_nil, d_cons, tlK_n, seqK_n, seqK_r, condK_t, ends_r, endK1_e, endK2_e, gam_e, gamK_f, gamq_e, gamqK_f, pc_e, pcK_e, fcC_e, fcK_e, evp, binB, gt, gq, st, putf, X.get, gets, ap, rdR, tupled, clV, clL, clS, clo, clo.clos, asB, ld, lda, sp, sp.spl, ll, cs1, one, allOne, gb, sb, pb, ln, lk, evq, gdl, undef, Bool.and_true, Bool.not_false, Nat.reduceAdd, Nat.reduceBEq, beq_self_eq_true, true_and, Fabs, mx_eq, F6, gq]
  repeat' (first | omega | (with_reducible refine And.intro ?_ ?_))
  exact res hK (by simp [leR])
 | true =>
  by_cases hw : max (max (max a1 (-a1)) (max b1 (-b1))) (max (max a2 (-a2)) (max b2 (-b2))) > 10000
  ·have t1 := eq_true hw
   simp only [gdK_btt, gdK_bff, condK_bt, decide_true, e_reg, and_self, e_drw, e_seq, e_cond, e_ret, o_nil, o_cons, gd_none, gd_some, gdK_ff, putK_e, runK_e, vK_e, storeK3_e, storeK2_e, storeK_e, conK_e, callK_e, evh_v, evh_new, evh_store, evh_call, dX_e, dG_t, d_nil, d_cons, tlK_n, seqK_n, seqK_r, ends_r, endK1_e, endK2_e, gam_e, gamK_f, gamq_e, gamqK_f, pc_e, pcK_e, fcC_e, fcK_e, evp, bin, binB, gt, gq, st, putf, X.get, gets, ap, rdR, tupled, clV, clL, clS, clo, clo.clos, asB, ld, lda, sp, sp.spl, ll, cs1, one, allOne, gb, sb, pb, ln, lk, evq, gdl, Bool.and_true, Bool.not_true, Nat.reduceAdd, Nat.reduceBEq, beq_self_eq_true, true_and, Fabs, mx_eq, F6, gq, t1]
   repeat' (first | omega | (with_reducible refine And.intro ?_ ?_))
   exact res hK (by simp [leR])
  ·have t1 := eq_false hw
   simp only [gdK_bff, condK_bf, decide_false, inr64, ↓reduceIte, e_skip, e_reg, and_self, e_drw, e_seq, e_cond, o_nil, o_cons, gd_none, gd_some, gdK_ff, putK_e, runK_e, vK_e, bldK_e, storeK3_e, storeK2_e, storeK_e, conK_e, callK_e, evh_v, evh_new, evh_bld, evh_store, evh_call, dX_e, dG_t, d_nil, d_cons, tlK_n, seqK_n, gam_e, gamK_f, gamq_e, gamqK_f, pc_e, pcK_e, fcC_e, fcK_e, evp, bin, gt, gq, st, putf, X.get, gets, getp, ap, clV, clL, clS, clo, clo.clos, ld, lda, tk, dr, sp, sp.spl, lay, ll, cs1, one, allOne, gb, sb, pb, ln, lk, evq, gdl, Value.oneCell', Bool.and_true, Bool.not_true, Nat.reduceAdd, Nat.reduceMul, Nat.reduceBEq, beq_self_eq_true, true_and, Fabs, mx_eq, mn_eq, gq, Int.reduceToNat, t1, Fmod, Fto, F9]
   have hF : 0 ≤ f % 1296000 ∧ f % 1296000 ≤ 1295999 := by omega
   have hT : 1 ≤ 1 + t % 100 ∧ 1 + t % 100 ≤ 100 := by omega
   have hA : 0 ≤ n2 % 1296000 ∧ n2 % 1296000 ≤ 1295999 := by omega
   have hW : (0 ≤ max (max (max a1 (-a1)) (max b1 (-b1))) (max (max a2 (-a2)) (max b2 (-b2))) ∧ max (max (max a1 (-a1)) (max b1 (-b1))) (max (max a2 (-a2)) (max b2 (-b2))) ≤ 10000) ∧
     (-(max (max (max a1 (-a1)) (max b1 (-b1))) (max (max a2 (-a2)) (max b2 (-b2)))) ≤ x1 ∧ x1 ≤ max (max (max a1 (-a1)) (max b1 (-b1))) (max (max a2 (-a2)) (max b2 (-b2)))) ∧
     (-(max (max (max a1 (-a1)) (max b1 (-b1))) (max (max a2 (-a2)) (max b2 (-b2)))) ≤ x2 ∧ x2 ≤ max (max (max a1 (-a1)) (max b1 (-b1))) (max (max a2 (-a2)) (max b2 (-b2)))) := by omega
   generalize max (max (max a1 (-a1)) (max b1 (-b1))) (max (max a2 (-a2)) (max b2 (-b2))) = W at hW ⊢
   clear hw t1
   generalize f % 1296000 = F at hF ⊢
   generalize 1 + t % 100 = U at hT ⊢
   generalize n2 % 1296000 = A at hA ⊢
   have hTA : 0 ≤ U * A ∧ U * A ≤ 129599900 := by
    have h1 := Int.mul_nonneg (show 0 ≤ U by omega) hA.1
    have h2 := Int.mul_le_mul hT.2 hA.2 hA.1 (show (0 : Int) ≤ 100 by omega)
    omega
   have hk : -1 ≤ (U * A + x2 - x1) / 1296000 ∧ (U * A + x2 - x1) / 1296000 ≤ U ∧ (U * A + x2 - x1) % 1296000 + 1296000 * ((U * A + x2 - x1) / 1296000) = U * A + x2 - x1 := by
    have h1 : U * A ≤ U * 1295999 := Int.mul_le_mul_of_nonneg_left hA.2 (by omega)
    omega
   have hra : 0 ≤ max 0 (A - 3000) ∧ max 0 (A - 3000) ≤ A := by omega
   have hrb : A ≤ min 1295999 (A + 3000) ∧ min 1295999 (A + 3000) ≤ 1295999 := by omega
   have hD : ((F + U * A + x2) % 1296000 - (F + x1) % 1296000) % 1296000 = (U * A + x2 - x1) % 1296000 := by omega
   have hB1 : 0 ≤ (F + x1) % 1296000 ∧ (F + x1) % 1296000 ≤ 1295999 := by omega
   have hB2 : 0 ≤ (F + U * A + x2) % 1296000 ∧ (F + U * A + x2) % 1296000 ≤ 1295999 := by omega
   refine ⟨by omega, by omega, by omega, by omega, by omega, by omega, by omega, by omega, by omega, by omega, by omega, by omega, by omega, by omega, by omega, by omega, by omega, ?_⟩
   generalize (F + x1) % 1296000 = G at hD hB1 ⊢
   generalize (F + U * A + x2) % 1296000 = M at hD hB2 ⊢
   generalize max 0 (A - 3000) = ra at hra ⊢
   generalize min 1295999 (A + 3000) = rb at hrb ⊢
   generalize (U * A + x2 - x1) / 1296000 = k at hk
   generalize (U * A + x2 - x1) % 1296000 = D at hD hk
   generalize hv : (⟨G, M, U, ra, rb, W⟩ : Rp) = v
   have hvo : v.ok := by subst hv; unfold Rp.ok; simp only; omega
   have hvd : v.d = D := by subst hv; exact hD
   have hvt : v.t = U ∧ v.a = ra ∧ v.b = rb ∧ v.w = W := by subst hv; exact ⟨rfl, rfl, rfl, rfl⟩
   have hf : RpF v A := Rp.facts hvo (by omega) ⟨(k + 1).toNat, by omega, by rw [hvd, hvt.1, hvt.2.2.2, Int.mul_comm A U]; omega, by rw [hvd, hvt.1, hvt.2.2.2, Int.mul_comm A U]; omega⟩
   rw [hf.e]
   have f00 : ((0 : Int) = 0) = True := eq_self 0
   simp only [condK_bf, decide_true, e_skip, e_reg, e_seq, e_block, e_loop, o_nil, o_cons, gd_none, putK_e, runK_e, vK_e, evh_v, seqK_n, evp, st, putf, X.get, Bool.not_true, true_and]
   have hlen := v.Rlen
   refine loop_atc (G := Nat × Bool) (fun g => [(21, .int .i64 g.1), (20, .bool g.2)]) (fun g => g.1 ≤ v.R.length ∧ (g.2 = true ↔ ∃ j, j < g.1 ∧ lo v.R j ≤ A ∧ A ≤ hi v.R j)) (fun g => v.R.length - g.1) (0, false) ⟨Nat.zero_le _, by simp⟩ ?_
   (intro fr1 hf1; simp only [forget, dstC, dstO, st] at hf1; subst hf1)
   refine ⟨?_, ?_⟩
   ·refine Lw_re 6 [] (Nat.zero_le _) (by simp [ln]) (by simp [ln]) rfl ?_ ?_
    ·simp only [reL, reX, inb, inb.inbs, ln, sts, st, Bool.and_self, Nat.reduceLT, Nat.reduceAdd, decide_true, and_self, Int.natCast_zero, implies_true]
    ·simp only [reL, reX, reH, reB, reN, inb, and_self, implies_true]
   ·rintro ⟨i, g⟩ ⟨hi1, hp⟩
    dsimp only at hi1 hp
    by_cases hlt : i < v.R.length
    ·have n0 : ((i : Int) < (v.R.length : Int)) = True := eq_true (by omega)
     rcases g with _ | _
     ·simp only [gdK_bff, condK_bt, decide_true, inr64, e_skip, e_reg, e_seq, e_cond, e_block, o_nil, o_cons, gd_none, gd_some, gdK_ff, putK_e, runK_e, vK_e, conK_e, callK_e, evh_v, evh_call, loopK_n, seqK_n, blockK_n, gam_e, gamK_f, pc_e, pcK_e, fcC_e, fcK_e, evp, bin, gt, st, putf, X.get, gets, ap, clV, clL, clS, clo, ld, lda, lens, ixs, tk, dr, lk, Nat.reduceBEq, beq_self_eq_true, true_and, and_true, sts, rowsS, Int.toNat_natCast, F10, n0]
      repeat refine And.intro (by omega) ?_
      refine Nx.mk (i + 1, decide (lo v.R i ≤ A ∧ A ≤ hi v.R i)) ⟨by simp only; omega, ?_⟩ (by simp only; omega) (Lw_re 6 [] (Nat.zero_le _) (by simp [ln]) (by simp [ln]) rfl ?_ ?_)
      ·simp only [decide_eq_true_eq]; exact ⟨fun h => ⟨i, by omega, h⟩, fun ⟨j, h1, h2⟩ => by
        by_cases hj : j = i
        ·subst hj; exact h2
        ·exact absurd (hp.2 ⟨j, by omega, h2⟩) (by simp)⟩
      ·simp only [reL, reX, inb, inb.inbs, Bool.and_self, Nat.reduceLT, decide_true, and_self, Int.natCast_add, Int.natCast_one, implies_true]
      ·simp only [reL, reX, reH, reB, reN, inb, and_self, implies_true]
     ·simp only [gdK_bft, condK_bt, decide_true, inr64, e_skip, e_reg, e_seq, e_cond, e_block, o_nil, o_cons, gd_none, gd_some, gdK_tf, putK_e, runK_e, skipK_e, vK_e, evh_v, loopK_n, seqK_n, blockK_n, evp, bin, gt, st, putf, X.get, lens, undef, true_and, sts, n0]
      repeat refine And.intro (by omega) ?_
      refine Nx.mk (i + 1, true) ⟨by simp only; omega, ?_⟩ (by simp only; omega) (Lw_re 6 [] (Nat.zero_le _) (by simp [ln]) (by simp [ln]) rfl ?_ ?_)
      ·simp only [true_iff]; obtain ⟨j, h1, h2⟩ := hp.1 rfl; exact ⟨j, by omega, h2⟩
      ·simp only [reL, reX, inb, inb.inbs, Bool.and_self, Nat.reduceLT, decide_true, and_self, Int.natCast_add, Int.natCast_one, implies_true]
      ·simp only [reL, reX, reH, reB, reN, inb, and_self, implies_true]
    ·have n0 : ((i : Int) < (v.R.length : Int)) = False := eq_false (by omega)
     obtain ⟨j, j1, j2⟩ := hf.in_
     have hd : g = true := hp.2 ⟨j, by omega, j2⟩
     subst hd
     simp only [gdK_btt, condK_bf, decide_false, e_reg, e_seq, e_cond, e_exit, e_ret, o_nil, o_cons, gd_none, gd_some, putK_e, runK_e, vK_e, conK_e, callK_e, evh_v, evh_call, loopK_x, seqK_n, seqK_x, exitK_t, blockK_x, ends_r, endK1_e, endK2_e, gam_e, gamK_f, pc_e, pcK_e, fcC_e, fcK_e, evp, bin, gt, st, putf, X.get, gets, ap, rdR, tupled, clV, clL, clS, clo, lens, lk, Nat.reduceBEq, beq_self_eq_true, true_and, sts, n0, F6]
     exact res hK (by simp [leR])
end Go.Proofs.Ytdcjlllnfklncaa
