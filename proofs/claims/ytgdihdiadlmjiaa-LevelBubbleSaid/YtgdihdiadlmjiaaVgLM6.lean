import Derived.Test.YtgdihdiadlmjiaaVgLM5
namespace Go.Proofs.Ytgdihdiadlmjiaa
open Go Go.Vg
set_option linter.unusedSimpArgs false
set_option linter.unusedVariables false
set_option maxRecDepth 10000
def s8 : SC :=
 (.seq (.reg [⟨(some 3), none, .box 25 (.t 0)⟩,
  ⟨(some 5), none, .box 28 (.t 2)⟩,
  ⟨(some 6), none, .v (.mov (.c (.lit (.bool false))))⟩])
 (.seq (.reg [⟨(some 13), none, .v (.load (.t 3) (some 8))⟩,
  ⟨(some 14), none, .v (.mov (.t 1))⟩,
  ⟨(some 15), none, .v (.load (.t 5) (some 3))⟩,
  ⟨(some 16), none, .call (.c (.fn 16 [])) [(.t 13), (.t 14), (.t 15)]⟩,
  ⟨(some 12), none, .v (.mov (.t 16))⟩,
  ⟨(some 17), none, .v (.ext (.t 12) 0)⟩,
  ⟨(some 18), none, .v (.ext (.t 12) 1)⟩,
  ⟨(some 7), none, .v (.mov (.t 17))⟩,
  ⟨(some 8), none, .v (.mov (.t 18))⟩])
 (.seq (.reg [⟨(some 20), none, .v (.load (.t 3) (some 8))⟩,
  ⟨(some 21), none, .v (.mov (.t 1))⟩,
  ⟨(some 22), none, .call (.c (.fn 20 [])) [(.t 20), (.t 21)]⟩,
  ⟨(some 19), none, .v (.mov (.t 22))⟩,
  ⟨(some 23), none, .v (.ext (.t 19) 0)⟩,
  ⟨(some 24), none, .v (.ext (.t 19) 1)⟩,
  ⟨(some 25), none, .v (.ext (.t 19) 2)⟩,
  ⟨(some 9), none, .new 23 [(.int .i64 (0)), (.int .i64 (0))]⟩,
  ⟨(some 10), none, .new 23 [(.int .i64 (0)), (.int .i64 (0))]⟩,
  ⟨none, none, .store 2 (.t 9) (.t 23)⟩,
  ⟨none, none, .store 2 (.t 10) (.t 24)⟩,
  ⟨(some 11), none, .v (.mov (.t 25))⟩])
 (.seq (.seq (.reg [⟨(some 26), none, .v (.mov (.t 8))⟩,
  ⟨(some 27), none, .v (.bin .neq (.t 26) (.c (.int .i64 (0))))⟩])
 (.cond (.t 27)
  (.seq (.reg [⟨(some 28), none, .v (.mov (.t 7))⟩,
   ⟨(some 29), none, .v (.not (.t 28))⟩,
   ⟨(some 30), none, .v (.mov (.t 29))⟩,
   ⟨(some 31), (some (30, true)), .v (.mov (.t 11))⟩,
   ⟨(some 32), (some (30, true)), .v (.mov (.t 8))⟩,
   ⟨(some 33), (some (30, true)), .v (.bin .eql (.t 31) (.t 32))⟩,
   ⟨(some 34), (some (30, true)), .v (.mov (.t 33))⟩,
   ⟨(some 35), (some (34, false)), .v (.mov (.t 8))⟩,
   ⟨(some 36), (some (34, false)), .v (.bin .eql (.t 35) (.c (.int .i64 (32))))⟩,
   ⟨(some 37), (some (30, true)), .v (.pick (.t 34) (.c (.lit (.bool true))) (.t 36))⟩,
   ⟨(some 38), none, .v (.pick (.t 30) (.t 37) (.c (.lit (.bool false))))⟩,
   ⟨(some 39), none, .v (.mov (.t 38))⟩,
   ⟨(some 40), (some (39, true)), .call (.c (.fn 22 [])) []⟩,
   ⟨(some 41), none, .v (.pick (.t 39) (.t 40) (.c (.lit (.bool false))))⟩,
   ⟨(some 6), none, .v (.mov (.t 41))⟩])
  .ret)
  .skip))
 (.seq (.seq (.reg [⟨(some 42), none, .v (.mov (.t 11))⟩,
  ⟨(some 43), none, .v (.bin .neq (.t 42) (.c (.int .i64 (0))))⟩])
 (.cond (.t 43)
  (.seq (.reg [⟨(some 44), none, .v (.mov (.t 11))⟩,
   ⟨(some 45), none, .v (.bin .eql (.t 44) (.c (.int .i64 (33))))⟩,
   ⟨(some 46), none, .v (.mov (.t 45))⟩,
   ⟨(some 47), (some (46, true)), .v (.mov (.t 7))⟩,
   ⟨(some 48), (some (46, true)), .v (.not (.t 47))⟩,
   ⟨(some 49), none, .v (.pick (.t 46) (.t 48) (.c (.lit (.bool false))))⟩,
   ⟨(some 50), none, .v (.mov (.t 49))⟩,
   ⟨(some 51), (some (50, true)), .v (.load (.t 9) (some 2))⟩,
   ⟨(some 52), (some (50, true)), .bld [(.int .i64 (0)), (.int .i64 (0))] []⟩,
   ⟨(some 53), (some (50, true)), .v (.eqs [(some .i64), (some .i64)] false (.t 51) (.t 52))⟩,
   ⟨(some 54), none, .v (.pick (.t 50) (.t 53) (.c (.lit (.bool false))))⟩,
   ⟨(some 55), none, .v (.mov (.t 54))⟩,
   ⟨(some 56), (some (55, true)), .v (.load (.t 10) (some 2))⟩,
   ⟨(some 57), (some (55, true)), .bld [(.int .i64 (0)), (.int .i64 (0))] []⟩,
   ⟨(some 58), (some (55, true)), .v (.eqs [(some .i64), (some .i64)] false (.t 56) (.t 57))⟩,
   ⟨(some 59), none, .v (.pick (.t 55) (.t 58) (.c (.lit (.bool false))))⟩,
   ⟨(some 60), none, .v (.mov (.t 59))⟩,
   ⟨(some 61), (some (60, true)), .call (.c (.fn 22 [])) []⟩,
   ⟨(some 62), none, .v (.pick (.t 60) (.t 61) (.c (.lit (.bool false))))⟩,
   ⟨(some 6), none, .v (.mov (.t 62))⟩])
  .ret)
  .skip))
 (.seq (.reg [⟨(some 63), none, .v (.mov (.t 7))⟩,
  ⟨(some 64), none, .v (.not (.t 63))⟩,
  ⟨(some 65), none, .v (.mov (.t 64))⟩,
  ⟨(some 66), (some (65, false)), .v (.load (.t 9) (some 2))⟩,
  ⟨(some 67), (some (65, false)), .v (.off (.t 5) 2)⟩,
  ⟨(some 68), (some (65, false)), .v (.load (.t 67) none)⟩,
  ⟨(some 69), (some (65, false)), .call (.c (.fn 32 [])) [(.t 66), (.t 68)]⟩,
  ⟨(some 70), (some (65, false)), .v (.mov (.t 69))⟩,
  ⟨(some 71), (some (70, true)), .v (.load (.t 10) (some 2))⟩,
  ⟨(some 72), (some (70, true)), .v (.off (.t 5) 1)⟩,
  ⟨(some 73), (some (70, true)), .v (.load (.t 72) none)⟩,
  ⟨(some 74), (some (70, true)), .call (.c (.fn 32 [])) [(.t 71), (.t 73)]⟩,
  ⟨(some 75), (some (65, false)), .v (.pick (.t 70) (.t 74) (.c (.lit (.bool false))))⟩,
  ⟨(some 76), none, .v (.pick (.t 65) (.c (.lit (.bool true))) (.t 75))⟩,
  ⟨(some 77), none, .v (.mov (.t 76))⟩,
  ⟨(some 78), (some (77, true)), .call (.c (.fn 22 [])) []⟩,
  ⟨(some 79), none, .v (.pick (.t 77) (.t 78) (.c (.lit (.bool false))))⟩,
  ⟨(some 6), none, .v (.mov (.t 79))⟩])
 .ret))))))
def r8 : List RV := [.t 6]
theorem k8 : (Try.f8.body.bind (cC Try.prog), cR Try.prog Try.f8.results.toList, Try.f8.ntmps) = (some s8, some r8, 80) := by kernel_rfl
theorem cm_in {a t : Int} {p q : Int × Int} (ha : 0 < a) (h1 : a * p.1 ≤ t) (h2 : t ≤ a * p.2) (h3 : a * q.1 ≤ t) (h4 : t ≤ a * q.2) : a * (cmP p q).1 ≤ t ∧ t ≤ a * (cmP p q).2 := by
 have hmax : a * max p.1 q.1 ≤ t := by
  rcases Int.le_total p.1 q.1 with h | h
  ·rw [Int.max_eq_right h]; exact h3
  ·rw [Int.max_eq_left h]; exact h1
 have hmin : t ≤ a * min p.2 q.2 := by
  rcases Int.le_total p.2 q.2 with h | h
  ·rw [Int.min_eq_left h]; exact h2
  ·rw [Int.min_eq_right h]; exact h4
 have hle : max p.1 q.1 ≤ min p.2 q.2 := Int.le_of_mul_le_mul_left (Int.le_trans hmax hmin) ha
 unfold cmP cmL cmH
 simp only
 rw [if_pos hle, if_pos hle]
 exact ⟨hmax, hmin⟩
theorem cm_full {q : Int × Int} (h1 : -20000 ≤ q.1 ∧ q.1 ≤ 20000) (h2 : -20000 ≤ q.2 ∧ q.2 ≤ 20000) (h : q.1 ≤ q.2) : cmP (-9223372036854775808, 9223372036854775807) q = q := by
 unfold cmP cmL cmH
 have h2 : max (-9223372036854775808) q.1 ≤ min 9223372036854775807 q.2 := by omega
 simp only
 rw [if_pos h2, if_pos h2]
 exact Prod.ext (by simp only; omega) (by simp only; omega)
theorem now_in {L : Evs} (hL : okE L) {a z t : Int} (ha : 1 ≤ a) (hz : 0 ≤ z ∧ z ≤ 400) (h : ∀ j, j < L.length → agrJ L a z t j) : ∀ k, k < L.length → a * (nowM L z (k + 1)).1 ≤ t ∧ t ≤ a * (nowM L z (k + 1)).2
 | 0, hk => by
  have hj := h 0 hk
  unfold agrJ at hj
  have hb := mvE_bnd hL hk hz
  have hle : (mvE (ev0 L 0) z).1 ≤ (mvE (ev0 L 0) z).2 := Int.le_of_mul_le_mul_left (Int.le_trans hj.1 hj.2) (show 0 < a by omega)
  have e : nowM L z (0 + 1) = mvE (ev0 L 0) z := cm_full hb.1 hb.2 hle
  rw [e]
  exact hj
 | k + 1, hk => by
  have h1 := now_in hL ha hz h k (by omega)
  have hj := h (k + 1) hk
  unfold agrJ at hj
  exact cm_in (by omega) h1.1 h1.2 hj.1 hj.2
theorem tl_in {v : Vl} {a : Int} (ha : v.v1 ≤ a ∧ a ≤ v.v2) (x : Int) : v.tl x ≤ a * x ∧ a * x ≤ v.th x := by
 unfold Vl.tl Vl.th
 rcases Int.le_total 0 x with h | h
 ·have h1 := Int.mul_le_mul_of_nonneg_right ha.1 h
  have h2 := Int.mul_le_mul_of_nonneg_right ha.2 h
  omega
 ·have h1 := Int.mul_le_mul_of_nonpos_right ha.1 h
  have h2 := Int.mul_le_mul_of_nonpos_right ha.2 h
  omega
theorem ar_r {p q : Int × Int} : (arP p q).1 ≤ q.1 ∧ q.2 ≤ (arP p q).2 := by
 unfold arP arL arH
 simp only
 by_cases h : p.1 = 1 ∧ p.2 = 0
 ·rw [if_pos h, if_pos h]; omega
 ·rw [if_neg h, if_neg h]; omega
theorem ar_l {p q : Int × Int} (h : p.1 ≤ p.2) : (arP p q).1 ≤ p.1 ∧ p.2 ≤ (arP p q).2 := by
 unfold arP arL arH
 simp only
 have h : ¬ (p.1 = 1 ∧ p.2 = 0) := by omega
 rw [if_neg h, if_neg h]; omega
theorem acc_in {v : Vl} {L : Evs} {a t : Int} (ha : v.v1 ≤ a ∧ a ≤ v.v2) {i : Nat} (h1 : a * (nowM L (v.z1 + i) L.length).1 ≤ t) (h2 : t ≤ a * (nowM L (v.z1 + i) L.length).2) (h0 : 0 < a) : ∀ n, i < n →
  ((accM v L n).1.1 ≤ t ∧ t ≤ (accM v L n).1.2) ∧ (accM v L n).2.1 ≤ v.z1 + i ∧ v.z1 + i ≤ (accM v L n).2.2
 | 0, h => absurd h (Nat.not_lt_zero _)
 | n + 1, h => by
  rcases Nat.lt_or_eq_of_le (Nat.le_of_lt_succ h) with hi | rfl
  ·have ih := acc_in ha h1 h2 h0 n hi
   simp only [accM]
   split
   ·exact ih
   ·have a1 := ar_l (p := (accM v L n).1) (q := (v.tl (nowM L (v.z1 + n) L.length).1, v.th (nowM L (v.z1 + n) L.length).2)) (by omega)
    have a2 := ar_l (p := (accM v L n).2) (q := (v.z1 + n, v.z1 + n)) (by omega)
    dsimp only
    omega
  ·have hne : ¬ nowM L (v.z1 + i) L.length = (1, 0) := fun e => by
    have hle := Int.le_of_mul_le_mul_left (Int.le_trans h1 h2) h0
    rw [e] at hle
    simp at hle
   simp only [accM, if_neg hne]
   have a1 := ar_r (p := (accM v L i).1) (q := (v.tl (nowM L (v.z1 + i) L.length).1, v.th (nowM L (v.z1 + i) L.length).2))
   have a2 := ar_r (p := (accM v L i).2) (q := (v.z1 + i, v.z1 + i))
   have b1 := tl_in ha (nowM L (v.z1 + i) L.length).1
   have b2 := tl_in ha (nowM L (v.z1 + i) L.length).2
   simp only at a1 a2
   omega
theorem bub {v : Vl} (hv : v.ok) {R : List Rg} (hR : okRs v R) {a z t : Int} (ht : truP v a z) (h : agrB (Mp.mid v.w R).ev a z t = true) :
  ((trM v R).1.1 ≤ t ∧ t ≤ (trM v R).1.2) ∧ (trM v R).2.1 ≤ z ∧ z ≤ (trM v R).2.2 := by
 have hv2 := hv
 unfold Vl.ok at hv2
 unfold truP at ht
 have hM := mid_ok hv hR
 have hl := hM.1
 have h1 := now_in hM (z := z) (t := t) (show 1 ≤ a by omega) (by omega) (agr_all h) ((Mp.mid v.w R).ev.length - 1) (by omega)
 rw [show (Mp.mid v.w R).ev.length - 1 + 1 = (Mp.mid v.w R).ev.length by omega] at h1
 have e : z = v.z1 + ((z - v.z1).toNat : Int) := by omega
 rw [e] at h1 ⊢
 exact acc_in ht.1 h1.1 h1.2 (by omega) (nzV v) (by unfold nzV; omega)
def C8 : PC := fun args K => ∃ (v : Vl) (R : List Rg) (a z t : Int), args = [v.sv, .rd 3 R.length (rowR R), .agg [.int .i64 a, .int .i64 z, .int .i64 t]] ∧ K (.bool true)
set_option maxHeartbeats 4000000 in
theorem p8 (p22 : PureOk Try.prog 22 (fcC F22)) (q22 : Known Try.prog 22) : PureOk Try.prog 8 C8 := by
 refine pure_of (T := [(16, .pc C16), (20, .pc C20), (32, .fc F32), (22, .fc F22)]) ⟨⟨p16, q16⟩, ⟨p20, q20⟩, ⟨p32, q32⟩, ⟨p22, q22⟩, trivial⟩ Try.func8 k8 ?_
 rintro args K ⟨v, R, a, z, t, rfl, hK⟩
 simp only [Vl.sv]
 have n32 : ((32 : Int) = 0) = False := eq_false (by decide)
 have n33 : ((33 : Int) = 0) = False := eq_false (by decide)
 have n3 : ((33 : Int) = 32) = False := eq_false (by decide)
 have n4 : ((0 : Int) = 32) = False := eq_false (by decide)
 have n5 : ((32 : Int) = 32) = True := eq_true rfl
 have n6 : ((33 : Int) = 33) = True := eq_true rfl
 simp only [e_reg, e_seq, o_nil, o_cons, gd_none, putK_e, runK_e, vK_e, boxK_e, conK_e, callK_e, evh_v, evh_box, evh_call, seqK_n, gam_e, gamK_p, pc_e, pcK_e, evp, gt, st, putf, X.get, gets, ap, mkfr, rep, clV, clL, clS, clo, ld, lda, tk, dr, cs1, gb, pb, ln, lk, undef, Nat.reduceSub, Nat.reduceAdd, beq_self_eq_true, true_and, s8, r8]
 refine ⟨v, R, a, z, t, rfl, fun h => ?_, fun h h2 => ?_, fun h h2 => ?_⟩
 ·have hF : (askI v R = 0) = False := eq_false h
  simp only [e_reg, e_seq, o_nil, o_cons, gd_none, putK_e, runK_e, vK_e, conK_e, callK_e, evh_v, evh_call, seqK_n, gam_e, gamK_p, pc_e, pcK_e, evp, gt, gq, st, putf, X.get, gets, ap, clV, clL, clS, clo, ld, lda, tk, dr, gb, lk, Nat.reduceBEq, beq_self_eq_true, true_and]
  refine ⟨v, R, rfl, fun _ => ?_, fun h3 => absurd h3 h, fun h3 => absurd h3 h⟩
  simp only [gdK_btt, gdK_bft, condK_bt, decide_true, decide_false, e_reg, and_self, e_seq, e_cond, e_ret, o_nil, o_cons, gd_none, gd_some, gdK_tt, gdK_tf, putK_e, runK_e, skipK_e, vK_e, storeK3_e, storeK2_e, storeK_e, conK_e, callK_e, evh_v, evh_new, evh_store, evh_call, seqK_n, seqK_r, ends_r, endK1_e, endK2_e, gam_e, gamK_f, pc_e, pcK_e, fcC_e, fcK_e, evp, bin, gt, gq, st, putf, X.get, gets, ap, rdR, tupled, clV, clL, clS, clo, sp, sp.spl, ll, cs1, one, allOne, gb, sb, pb, ln, lk, undef, Bool.and_true, Bool.not_false, Nat.reduceAdd, Nat.reduceBEq, beq_self_eq_true, true_and, hF, F22]
  exact res hK (by simp [leR])
 ·simp only [e_reg, e_seq, o_nil, o_cons, gd_none, putK_e, runK_e, vK_e, conK_e, callK_e, evh_v, evh_call, seqK_n, gam_e, gamK_p, pc_e, pcK_e, evp, gt, gq, st, putf, X.get, gets, ap, clV, clL, clS, clo, ld, lda, tk, dr, gb, lk, Nat.reduceBEq, beq_self_eq_true, true_and]
  refine ⟨v, R, rfl, fun h3 => absurd h h3, fun _ h4 => ?_, fun _ h4 => ?_⟩
  ·simp only [gdK_btt, gdK_bff, condK_bt, decide_true, decide_false, e_reg, and_self, e_seq, e_cond, e_ret, o_nil, o_cons, gd_none, gd_some, gdK_tt, gdK_ff, putK_e, runK_e, vK_e, storeK3_e, storeK2_e, storeK_e, conK_e, callK_e, evh_v, evh_new, evh_store, evh_call, seqK_n, seqK_r, ends_r, endK1_e, endK2_e, gam_e, gamK_f, pc_e, pcK_e, fcC_e, fcK_e, evp, bin, gt, gq, st, putf, X.get, gets, ap, rdR, tupled, clV, clL, clS, clo, sp, sp.spl, ll, cs1, one, allOne, gb, sb, pb, ln, lk, Bool.and_true, Bool.not_false, Nat.reduceAdd, Nat.reduceBEq, beq_self_eq_true, true_and, F22, n32, n3]
   exact res hK (by simp [leR])
  ·simp only [gdK_btt, gdK_bff, condK_bt, decide_true, decide_false, e_reg, and_self, e_seq, e_cond, e_ret, o_nil, o_cons, gd_none, gd_some, gdK_tt, gdK_ff, putK_e, runK_e, vK_e, storeK3_e, storeK2_e, storeK_e, conK_e, callK_e, evh_v, evh_new, evh_store, evh_call, seqK_n, seqK_r, ends_r, endK1_e, endK2_e, gam_e, gamK_f, pc_e, pcK_e, fcC_e, fcK_e, evp, bin, gt, gq, st, putf, X.get, gets, ap, rdR, tupled, clV, clL, clS, clo, sp, sp.spl, ll, cs1, one, allOne, gb, sb, pb, ln, lk, Bool.and_true, Bool.not_false, Nat.reduceAdd, Nat.reduceBEq, beq_self_eq_true, true_and, F22, n32, n4]
   exact res hK (by simp [leR])
 ·obtain ⟨hv, hR⟩ := ask0 h
  cases hb : agrB (Mp.mid v.w R).ev a z t with
  | false =>
   simp only [e_reg, e_seq, o_nil, o_cons, gd_none, putK_e, runK_e, vK_e, conK_e, callK_e, evh_v, evh_call, seqK_n, gam_e, gamK_p, pc_e, pcK_e, evp, gt, gq, st, putf, X.get, gets, ap, clV, clL, clS, clo, ld, lda, tk, dr, gb, lk, Nat.reduceBEq, beq_self_eq_true, true_and]
   refine ⟨v, R, rfl, fun h3 => absurd h h3, fun _ h4 => ?_, fun _ h4 => ?_⟩
   ·simp only [gdK_btt, condK_bt, condK_bf, decide_true, decide_false, e_skip, e_reg, and_self, e_seq, e_cond, e_ret, o_nil, o_cons, gd_none, gd_some, gdK_tt, putK_e, runK_e, vK_e, bldK_e, storeK3_e, storeK2_e, storeK_e, conK_e, callK_e, evh_v, evh_new, evh_bld, evh_store, evh_call, seqK_n, seqK_r, ends_r, endK1_e, endK2_e, gam_e, gamK_f, pc_e, pcK_e, fcC_e, fcK_e, evp, fit, InQ, bin, gt, gq, st, putf, X.get, gets, getp, ap, rdR, tupled, clV, clL, clS, clo, ld, lda, tk, dr, sp, sp.spl, lay, ll, cs1, one, allOne, gb, sb, pb, ln, lk, Bool.and_true, Bool.not_true, Bool.not_false, cond_false, Nat.reduceAdd, Nat.reduceBEq, beq_self_eq_true, true_and, and_true, F22, n33]
    exact ⟨by omega, by omega, res hK (by simp [leR])⟩
   ·simp only [gdK_bft, condK_bf, decide_true, e_skip, e_reg, and_self, e_seq, e_cond, e_ret, o_nil, o_cons, gd_none, gd_some, gdK_tt, gdK_tf, gdK_u, putK_e, runK_e, skipK_e, vK_e, storeK3_e, storeK2_e, storeK_e, conK_e, callK_e, evh_v, evh_new, evh_store, evh_call, seqK_n, ends_r, endK1_e, endK2_e, gam_e, gamK_f, pc_e, pcK_e, fcC_e, fcK_e, evp, bin, gt, gq, st, putf, X.get, gets, ap, rdR, tupled, clV, clL, clS, clo, sp, sp.spl, ll, cs1, one, allOne, gb, sb, pb, ln, lk, undef, Bool.and_true, Bool.not_true, Bool.not_false, Nat.reduceAdd, Nat.reduceBEq, beq_self_eq_true, true_and, F22]
    exact res hK (by simp [leR])
  | true =>
   have hin := bub hv hR h2 hb
   have d1 : ((trM v R).1.1 ≤ t ∧ t ≤ (trM v R).1.2) = True := eq_true hin.1
   have d2 : ((trM v R).2.1 ≤ z ∧ z ≤ (trM v R).2.2) = True := eq_true hin.2
   simp only [e_reg, e_seq, o_nil, o_cons, gd_none, putK_e, runK_e, vK_e, conK_e, callK_e, evh_v, evh_call, seqK_n, gam_e, gamK_p, pc_e, pcK_e, evp, gt, gq, st, putf, X.get, gets, ap, clV, clL, clS, clo, ld, lda, tk, dr, gb, lk, Nat.reduceBEq, beq_self_eq_true, true_and]
   refine ⟨v, R, rfl, fun h3 => absurd h h3, fun _ h4 => ?_, fun _ h4 => ?_⟩
   ·exfalso
    rw [h4] at hin
    simp only [noT] at hin
    omega
   ·simp only [gdK_btt, gdK_bff, condK_bf, decide_true, e_skip, e_reg, and_self, e_seq, e_cond, e_ret, o_nil, o_cons, gd_none, gd_some, gdK_tt, gdK_ff, putK_e, runK_e, vK_e, storeK3_e, storeK2_e, storeK_e, conK_e, callK_e, evh_v, evh_new, evh_store, evh_call, seqK_n, ends_r, endK1_e, endK2_e, gam_e, gamK_f, pc_e, pcK_e, fcC_e, fcK_e, evp, bin, gt, gq, st, putf, X.get, gets, ap, rdR, tupled, clV, clL, clS, clo, ld, lda, tk, dr, sp, sp.spl, ll, cs1, one, allOne, gb, sb, pb, ln, lk, Bool.and_true, Bool.not_true, Nat.reduceAdd, Nat.reduceBEq, beq_self_eq_true, true_and, F22, F32, d1, d2]
    exact res hK (by simp [leR])
end Go.Proofs.Ytgdihdiadlmjiaa
