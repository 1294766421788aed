/- ScrewNut. -/
import Derived.Test.YtbbbpdajikblbaaVgW1
namespace Go.Proofs.Ytbbbpdajikblbaa
open Go Go.Vg
set_option linter.unusedSimpArgs false
set_option linter.unusedVariables false
set_option maxRecDepth 10000
/- 11: octant/octantlaw02.ScrewNut -/
def s11 : SC :=
  (.seq (.reg [⟨(some 6), none, .v (.mov (.c (.lit (.bool false))))⟩])
  (.seq (.reg [⟨(some 15), none, .v (.mov (.t 0))⟩,
    ⟨(some 16), none, .v (.mov (.t 1))⟩,
    ⟨(some 17), none, .call (.c (.fn 32 [])) [(.t 15), (.t 16)]⟩,
    ⟨(some 14), none, .v (.mov (.t 17))⟩,
    ⟨(some 18), none, .v (.ext (.t 14) 0)⟩,
    ⟨(some 19), none, .v (.ext (.t 14) 1)⟩,
    ⟨(some 7), none, .v (.mov (.t 18))⟩,
    ⟨(some 8), none, .v (.mov (.t 19))⟩])
  (.seq (.seq (.reg [⟨(some 20), none, .v (.mov (.t 8))⟩,
    ⟨(some 21), none, .v (.bin .neq (.t 20) (.c (.int .i64 (0))))⟩,
    ⟨(some 22), none, .v (.mov (.t 21))⟩,
    ⟨(some 23), (some (22, false)), .v (.mov (.t 0))⟩,
    ⟨(some 24), (some (22, false)), .v (.len (.t 23))⟩,
    ⟨(some 25), (some (22, false)), .v (.bin .gtr (.t 24) (.c (.int .i64 (64))))⟩,
    ⟨(some 26), none, .v (.pick (.t 22) (.c (.lit (.bool true))) (.t 25))⟩,
    ⟨(some 27), none, .v (.mov (.t 26))⟩,
    ⟨(some 28), (some (27, false)), .v (.mov (.t 1))⟩,
    ⟨(some 29), (some (27, false)), .v (.mov (.t 0))⟩,
    ⟨(some 30), (some (27, false)), .v (.len (.t 29))⟩,
    ⟨(some 31), (some (27, false)), .call (.c (.fn 39 [])) [(.t 28), (.c (.int .i64 (1))), (.t 30)]⟩,
    ⟨(some 32), (some (27, false)), .v (.not (.t 31))⟩,
    ⟨(some 33), none, .v (.pick (.t 27) (.c (.lit (.bool true))) (.t 32))⟩])
  (.cond (.t 33)
    (.seq (.reg [⟨(some 34), none, .v (.mov (.t 8))⟩,
      ⟨(some 35), none, .v (.bin .neq (.t 34) (.c (.int .i64 (0))))⟩,
      ⟨(some 36), none, .v (.mov (.t 35))⟩,
      ⟨(some 37), (some (36, true)), .v (.mov (.t 7))⟩,
      ⟨(some 38), (some (36, true)), .v (.len (.t 37))⟩,
      ⟨(some 39), (some (36, true)), .v (.bin .eql (.t 38) (.c (.int .i64 (0))))⟩,
      ⟨(some 40), none, .v (.pick (.t 36) (.t 39) (.c (.lit (.bool false))))⟩,
      ⟨(some 41), none, .v (.mov (.t 40))⟩,
      ⟨(some 42), (some (41, true)), .call (.c (.fn 24 [])) []⟩,
      ⟨(some 43), none, .v (.pick (.t 41) (.t 42) (.c (.lit (.bool false))))⟩,
      ⟨(some 6), none, .v (.mov (.t 43))⟩])
    .ret)
    .skip))
  (.seq (.seq (.shut [7, 44, 0, 46, 1, 47, 48, 49, 45, 50, 51, 52, 53, 56, 55, 57, 54, 58, 59, 60, 61, 62, 63, 65, 66, 67, 64, 68, 69]
    (.drw [(0, ⟨(some 44), none, .v (.mov (.t 7))⟩, false),
      (1, ⟨(some 45), none, .v (.len (.t 44))⟩, false),
      (2, ⟨(some 46), none, .v (.mov (.t 0))⟩, false),
      (3, ⟨(some 47), none, .v (.len (.t 46))⟩, false),
      (4, ⟨(some 48), none, .v (.mov (.t 1))⟩, false),
      (5, ⟨(some 49), none, .v (.bin .sub (.t 47) (.t 48))⟩, false),
      (6, ⟨(some 50), none, .v (.bin .add (.t 49) (.c (.int .i64 (1))))⟩, false),
      (7, ⟨(some 51), none, .v (.bin .neq (.t 45) (.t 50))⟩, false),
      (8, ⟨(some 52), none, .v (.mov (.t 51))⟩, true),
      (9, ⟨(some 53), (some (52, false)), .v (.mov (.t 7))⟩, false),
      (10, ⟨(some 54), (some (52, false)), .call (.c (.fn 48 [])) [(.t 53)]⟩, false),
      (11, ⟨(some 55), (some (52, false)), .v (.mov (.t 1))⟩, false),
      (12, ⟨(some 56), (some (52, false)), .v (.mov (.t 0))⟩, false),
      (13, ⟨(some 57), (some (52, false)), .call (.c (.fn 48 [])) [(.t 56)]⟩, false),
      (14, ⟨(some 58), (some (52, false)), .v (.bin .mul (.t 55) (.t 57))⟩, false),
      (15, ⟨(some 59), (some (52, false)), .v (.bin .gtr (.t 54) (.t 58))⟩, false),
      (16, ⟨(some 60), none, .v (.pick (.t 52) (.c (.lit (.bool true))) (.t 59))⟩, false),
      (17, ⟨(some 61), none, .v (.mov (.t 60))⟩, true),
      (18, ⟨(some 62), (some (61, false)), .v (.mov (.t 7))⟩, false),
      (19, ⟨(some 63), (some (61, false)), .v (.ixa (.t 62) (.c (.int .i64 (0))) 1)⟩, false),
      (20, ⟨(some 64), (some (61, false)), .v (.load (.t 63) none)⟩, false),
      (21, ⟨(some 65), (some (61, false)), .v (.mov (.t 0))⟩, false),
      (22, ⟨(some 66), (some (61, false)), .v (.mov (.t 1))⟩, false),
      (23, ⟨(some 67), (some (61, false)), .slc (.t 65) none (some (.t 66)) none 1⟩, false),
      (24, ⟨(some 68), (some (61, false)), .call (.c (.fn 49 [])) [(.t 67)]⟩, false)]
      none
      [⟨(some 69), (some (61, false)), .v (.bin .neq (.t 64) (.t 68))⟩,
      ⟨(some 70), none, .v (.pick (.t 61) (.c (.lit (.bool true))) (.t 69))⟩]))
  (.cond (.t 70)
    (.seq (.reg [⟨(some 6), none, .v (.mov (.c (.lit (.bool false))))⟩])
    .ret)
    .skip))
  (.seq (.seq (.reg [⟨(some 9), none, .v (.mov (.c (.int .i64 (1))))⟩])
  (.block 0 (.loop
    (.seq (.seq (.reg [⟨(some 71), none, .v (.mov (.t 9))⟩,
      ⟨(some 72), none, .v (.mov (.t 7))⟩,
      ⟨(some 73), none, .v (.len (.t 72))⟩,
      ⟨(some 74), none, .v (.bin .lss (.t 71) (.t 73))⟩])
    (.cond (.t 74)
      .skip
      (.exit 0)))
    (.seq (.block 1 (.seq (.drw [(0, ⟨(some 77), none, .v (.mov (.t 7))⟩, false),
      (1, ⟨(some 78), none, .v (.mov (.t 9))⟩, false),
      (2, ⟨(some 79), none, .v (.ixa (.t 77) (.t 78) 1)⟩, false),
      (3, ⟨(some 80), none, .v (.load (.t 79) none)⟩, false),
      (4, ⟨(some 81), none, .v (.mov (.t 7))⟩, false),
      (5, ⟨(some 82), none, .v (.mov (.t 9))⟩, false),
      (6, ⟨(some 83), none, .v (.bin .sub (.t 82) (.c (.int .i64 (1))))⟩, false),
      (7, ⟨(some 84), none, .v (.ixa (.t 81) (.t 83) 1)⟩, false),
      (8, ⟨(some 85), none, .v (.load (.t 84) none)⟩, false),
      (9, ⟨(some 86), none, .v (.bin .sub (.t 80) (.t 85))⟩, false),
      (10, ⟨(some 87), none, .v (.mov (.t 0))⟩, false),
      (11, ⟨(some 88), none, .v (.mov (.t 9))⟩, false),
      (12, ⟨(some 89), none, .v (.mov (.t 1))⟩, false),
      (13, ⟨(some 90), none, .v (.bin .add (.t 88) (.t 89))⟩, false),
      (14, ⟨(some 91), none, .v (.bin .sub (.t 90) (.c (.int .i64 (1))))⟩, false),
      (15, ⟨(some 92), none, .v (.ixa (.t 87) (.t 91) 1)⟩, false),
      (16, ⟨(some 93), none, .v (.load (.t 92) none)⟩, false),
      (17, ⟨(some 94), none, .v (.mov (.t 0))⟩, false),
      (18, ⟨(some 95), none, .v (.mov (.t 9))⟩, false),
      (19, ⟨(some 96), none, .v (.bin .sub (.t 95) (.c (.int .i64 (1))))⟩, false),
      (20, ⟨(some 97), none, .v (.ixa (.t 94) (.t 96) 1)⟩, false),
      (21, ⟨(some 98), none, .v (.load (.t 97) none)⟩, false),
      (22, ⟨(some 99), none, .v (.bin .sub (.t 93) (.t 98))⟩, false)]
      none
      [⟨(some 100), none, .v (.bin .neq (.t 86) (.t 99))⟩])
    (.cond (.t 100)
      (.seq (.reg [⟨(some 6), none, .v (.mov (.c (.lit (.bool false))))⟩])
      .ret)
      .skip)))
    (.reg [⟨(some 75), none, .v (.mov (.t 9))⟩,
      ⟨(some 76), none, .v (.bin .add (.t 75) (.c (.int .i64 (1))))⟩,
      ⟨(some 9), none, .v (.mov (.t 76))⟩]))))))
  (.seq (.reg [⟨(some 101), none, .v (.mov (.t 2))⟩,
    ⟨(some 102), none, .v (.mov (.t 1))⟩,
    ⟨(some 103), none, .call (.c (.fn 38 [])) [(.t 101), (.t 102)]⟩,
    ⟨(some 104), none, .v (.bin .add (.c (.int .i64 (1))) (.t 103))⟩,
    ⟨(some 10), none, .v (.mov (.t 104))⟩])
  (.seq (.block 2 (.loop
    (.seq (.seq (.reg [⟨(some 105), none, .v (.mov (.t 1))⟩,
      ⟨(some 106), none, .v (.mov (.t 10))⟩,
      ⟨(some 107), none, .v (.bin .rem (.t 105) (.t 106))⟩,
      ⟨(some 108), none, .v (.bin .neq (.t 107) (.c (.int .i64 (0))))⟩])
    (.cond (.t 108)
      .skip
      (.exit 2)))
    (.block 3 (.reg [⟨(some 109), none, .v (.mov (.t 10))⟩,
      ⟨(some 110), none, .v (.bin .sub (.t 109) (.c (.int .i64 (1))))⟩,
      ⟨(some 10), none, .v (.mov (.t 110))⟩])))))
  (.seq (.reg [⟨(some 11), none, .v (.mov (.c (.lit (.slice none 0 0))))⟩])
  (.seq (.seq (.reg [⟨(some 12), none, .v (.mov (.c (.int .i64 (0))))⟩])
  (.block 4 (.loop
    (.seq (.seq (.reg [⟨(some 111), none, .v (.mov (.t 12))⟩,
      ⟨(some 112), none, .v (.mov (.t 0))⟩,
      ⟨(some 113), none, .v (.len (.t 112))⟩,
      ⟨(some 114), none, .v (.bin .lss (.t 111) (.t 113))⟩])
    (.cond (.t 114)
      .skip
      (.exit 4)))
    (.seq (.block 5 (.reg [⟨(some 117), none, .v (.mov (.t 11))⟩,
      ⟨(some 118), none, .v (.mov (.t 0))⟩,
      ⟨(some 119), none, .v (.mov (.t 12))⟩,
      ⟨(some 120), none, .v (.mov (.t 10))⟩,
      ⟨(some 121), none, .v (.bin .rem (.t 119) (.t 120))⟩,
      ⟨(some 122), none, .v (.ixa (.t 118) (.t 121) 1)⟩,
      ⟨(some 123), none, .v (.load (.t 122) none)⟩,
      ⟨(some 124), none, .bsl 3 1 [(.int .i64 (0))] [(0, 1, (.t 123))]⟩,
      ⟨(some 125), none, .app 3 1 8 (.t 117) (.t 124)⟩,
      ⟨(some 11), none, .v (.mov (.t 125))⟩]))
    (.reg [⟨(some 115), none, .v (.mov (.t 12))⟩,
      ⟨(some 116), none, .v (.bin .add (.t 115) (.c (.int .i64 (1))))⟩,
      ⟨(some 12), none, .v (.mov (.t 116))⟩]))))))
  (.seq (.reg [⟨(some 127), none, .v (.mov (.t 11))⟩,
    ⟨(some 128), none, .v (.mov (.t 1))⟩,
    ⟨(some 129), none, .call (.c (.fn 32 [])) [(.t 127), (.t 128)]⟩,
    ⟨(some 126), none, .v (.mov (.t 129))⟩,
    ⟨(some 130), none, .v (.ext (.t 126) 0)⟩,
    ⟨(some 131), none, .v (.ext (.t 126) 1)⟩,
    ⟨(some 13), none, .v (.mov (.t 130))⟩,
    ⟨(some 8), none, .v (.mov (.t 131))⟩])
  (.seq (.reg [⟨(some 132), none, .v (.mov (.t 8))⟩,
    ⟨(some 133), none, .v (.bin .eql (.t 132) (.c (.int .i64 (0))))⟩,
    ⟨(some 134), none, .v (.mov (.t 133))⟩,
    ⟨(some 135), (some (134, true)), .v (.mov (.t 13))⟩,
    ⟨(some 136), (some (134, true)), .v (.len (.t 135))⟩,
    ⟨(some 137), (some (134, true)), .v (.mov (.t 7))⟩,
    ⟨(some 138), (some (134, true)), .v (.len (.t 137))⟩,
    ⟨(some 139), (some (134, true)), .v (.bin .eql (.t 136) (.t 138))⟩,
    ⟨(some 140), none, .v (.pick (.t 134) (.t 139) (.c (.lit (.bool false))))⟩,
    ⟨(some 141), none, .v (.mov (.t 140))⟩,
    ⟨(some 142), (some (141, true)), .v (.mov (.t 13))⟩,
    ⟨(some 143), (some (141, true)), .call (.c (.fn 48 [])) [(.t 142)]⟩,
    ⟨(some 144), (some (141, true)), .v (.bin .eql (.t 143) (.c (.int .i64 (0))))⟩,
    ⟨(some 145), none, .v (.pick (.t 141) (.t 144) (.c (.lit (.bool false))))⟩,
    ⟨(some 146), none, .v (.mov (.t 145))⟩,
    ⟨(some 147), (some (146, true)), .call (.c (.fn 24 [])) []⟩,
    ⟨(some 148), none, .v (.pick (.t 146) (.t 147) (.c (.lit (.bool false))))⟩,
    ⟨(some 6), none, .v (.mov (.t 148))⟩])
  .ret)))))))))))
def r11 : List RV := [.t 6]
def n11 : Nat := 149
theorem k11 : (Try.f11.body.bind (cC Try.prog), cR Try.prog Try.f11.results.toList, Try.f11.ntmps) = (some s11, some r11, 149) := by kernel_rfl
theorem q11 : Known Try.prog 11 := ⟨_, Try.func11, by decide, by simp [Try.f11]⟩


def F11 : FC := fun args => match args with
  | [.ints .i64 l, .int .i64 n, .int .i64 c] => some (True, .bool true)
  | _ => none
theorem p11 (p24 : PureOk Try.prog 24 (fcC F24)) (q24 : Known Try.prog 24) : PureOk Try.prog 11 (fcC F11) := by
  refine pure_of (T := [(32, .pc (fcC F32)), (39, .fc F39), (48, .fc F48), (49, .fc F49), (38, .fc F38), (24, .fc F24)]) ⟨⟨p32, q32⟩, ⟨p39, q39⟩, ⟨p48, q48⟩, ⟨p49, q49⟩, ⟨p38, q38⟩, ⟨p24, q24⟩, trivial⟩ Try.func11 k11 ?_
  intro args K hC
  unfold fcC F11 at hC
  split at hC <;> first | (exact hC.elim) | skip
  rename_i h
  split at h <;> first | (cases h; done) | skip
  cases h
  rename_i l n c
  obtain ⟨-, hK⟩ := hC
  by_cases hp : places2 l n = true
  · obtain ⟨⟨⟨q1, q2⟩, q3⟩, q4, q5⟩ := places2_iff.1 hp
    obtain ⟨m, rfl⟩ : ∃ m : Nat, n = m := ⟨n.toNat, by omega⟩
    have hF : F32 [.ints .i64 l, .int .i64 m] = some (True, .tup [.ints .i64 (winL l m), .int .i64 0]) := by simp [F32, hp]
    have hm1 : 1 ≤ m := by omega
    have hm2 : m ≤ l.length := by omega
    have hlen : (winL l m).length = l.length + 1 - m := len_wins ..
    have hw : ∀ j, j + m ≤ l.length → (winL l m).getD j 0 = win l m j := fun j hj => wins_getD (by omega)
    have e00 : (winL l m).getD 0 0 = (l.take m).sum := by rw [hw 0 (by omega)]; simp [win]
    have hl0 := getD_mem (cs := l) (i := 0) (by omega)
    have hg := gr_le (l := l) (M := 1000000) (by omega) (fun x hx => (q3 x hx).2)
    have hl := le_le0 (l := l) (M := -1000000) (by omega) (fun x hx => (q3 x hx).1)
    have hgl := mem_gr hl0
    have hs := spreadL_eq l
    have hsw := spread_win hm1 hm2
    have hmul : (m : Int) * spreadL l ≤ 64 * spreadL l := Int.mul_le_mul_of_nonneg_right (by omega) (by omega)
    have hmul0 : 0 ≤ (m : Int) * spreadL l := Int.mul_nonneg (by omega) (by omega)
    have I0 : LapI m 0 l 0 := ⟨by omega, by omega, by omega, q3, by omega, by omega⟩
    have hwb : within 100000000000000 (winL l m) := (I0.next (by omega) (by omega) (by omega)).b1 (by omega)
    have hwb1 : within 64000000 (winL l m) := within_le (I0.next (by omega) (by omega) (by omega)).b (by decide)
    have hb : within 100000000000000 l := within_le q3 (by omega)
    have t0 : List.take ((m : Int) - 0).toNat (List.drop (Int.toNat 0) l) = l.take m := by simp
    simp only [inr64, ↓reduceIte, ite_true, ite_false, List.cons.injEq, ne_eq, not_true_eq_false, not_false_eq_true, reduceCtorEq, e_skip, e_reg, e_drw, e_seq, e_cond, e_block, e_loop, e_exit, e_ret, e_shut, e_scp, scpK_n, scpK_x, scpK_r, shutH, shut1, shutB, slQ, o_nil, o_cons, gd_none, gd_some, gdK_tt, gdK_tf, gdK_ft, gdK_ff, gdK_u, gdK_bt, gdK_bf, putK_e, runK_e, skipK_e, vK_e, boxK_e, bslK_e, bldK_e, storeK3_e, storeK2_e, storeK_e, appK2_oi, appK2_or, appK_e, conK_e, callK_e, callK_m, evh_v, evh_new, evh_box, evh_bsl, evh_bld, evh_store, evh_app, evh_call, evh_inv, evh_slc, slcK_e, appC_e, appK_c, appK_l, slO, bnd, slv, od_none, od_some, invK_e, invK2_e, lkm, dX_e, dX_b, dX_l, dG_t, dG_f, d_nil, d_cons, creK_e, tlK_n, tlK_s, evc_e, loopK_n, loopK_x, loopK_r, seqK_n, seqK_x, seqK_r, condK_t, condK_f, condK_b, exitK_t, exitK_f, blockK_x, blockK_n, blockK_r, ends_r, ends_n, endK1_e, endK2_e, gam_e, gamK_f, gamK_p, gamK_c, gamq_e, gamqK_f, pc_e, pcK_e, fcC_e, fcK_e, evp, fit, InQ, nilq, nb, bin, binB, gt, gq, st, putf, X.get, gets, getp, ap, mkfr, rep, rdR, tupled, clV, clL, clS, clo, clo.clos, asB, ld, lda, lens, ixs, tk, dr, sp, sp.spl, lay, ll, cs1, one, allOne, gb, sb, pb, ln, lk, evq, gdl, crv, Value.oneCell', undef, Bool.and_true, Bool.true_and, Bool.not_true, Bool.not_false, cond_true, cond_false, Nat.reduceSub, Nat.reduceAdd, Nat.reduceMul, Nat.reduceDiv, Nat.reduceBEq, beq_self_eq_true, true_and, and_true, decide_eq_true_eq, decide_eq_false_iff_not, Bool.not_eq_eq_eq_not, sts, s11, r11, hF, F39, F48, F49, F38, F24]
    refine ⟨fun _ => ⟨fun h64 => ⟨fun h => absurd ⟨q4, q5⟩ h, fun _ => ?_⟩, fun h64 => absurd h64 (by omega)⟩, fun h => h.elim⟩
    rw [t0]
    refine ⟨by omega, by omega, fun h => absurd (by omega) h, fun _ => ⟨⟨hwb, by omega⟩, ⟨hb, by omega⟩, by omega, fun h => absurd h (by omega), fun _ => ⟨by omega, by omega, ⟨within_take hb m, by simp; omega⟩, fun h => absurd e00 h, fun _ => ?_⟩⟩⟩
    refine loop_at2 (G := Nat) (fun i => [(9, .int .i64 i)]) (fun i => []) (fun i => 1 ≤ i ∧ i ≤ (winL l m).length) (fun i => (winL l m).length - i) 1 ⟨Nat.le_refl _, by omega⟩ ?_
    (intro fr1 hf1; simp only [forget, dstC, dstO, dstD, dst1, st] at hf1; subst hf1)
    refine ⟨?_, ?_⟩
    · refine Lw_re 0 [] (Nat.zero_le _) (by simp [ln]) (by simp [ln]) rfl ?_ ?_
      · simp only [reL, reX, reH, reB, reM, reN, newB, rn, once, gb, List.getElem?_cons_zero, List.getElem?_cons_succ, Nat.reduceSub, Nat.reduceLeDiff, Nat.lt_irrefl, Nat.le_refl, false_and, or_false, false_or, and_false, reduceCtorEq, true_or, or_true, leL, leX, leH, leB, news, inb, inb.inbs, ln, sts, st, Bool.and_self, Bool.and_true, Bool.true_and, Nat.reduceLT, Nat.reduceAdd, decide_true, true_and, and_true, and_self, SV.agg.injEq, Int.natCast_one]
      · simp only [reL, reX, reH, reB, reM, reN, newB, rn, once, gb, List.getElem?_cons_zero, List.getElem?_cons_succ, Nat.reduceSub, Nat.reduceLeDiff, Nat.lt_irrefl, Nat.le_refl, false_and, or_false, false_or, and_false, reduceCtorEq, true_or, or_true, leL, leX, leH, leB, news, inb, inb.inbs, ln, sts, st, Bool.and_self, Bool.and_true, Bool.true_and, Nat.reduceLT, Nat.reduceAdd, decide_true, true_and, and_true, and_self, SV.agg.injEq]
    · rintro i ⟨hi1, hi2⟩
      simp only [inr64, ↓reduceIte, ite_true, ite_false, List.cons.injEq, ne_eq, not_true_eq_false, not_false_eq_true, reduceCtorEq, e_skip, e_reg, e_drw, e_seq, e_cond, e_block, e_loop, e_exit, e_ret, e_shut, e_scp, scpK_n, scpK_x, scpK_r, shutH, shut1, shutB, slQ, o_nil, o_cons, gd_none, gd_some, gdK_tt, gdK_tf, gdK_ft, gdK_ff, gdK_u, gdK_bt, gdK_bf, putK_e, runK_e, skipK_e, vK_e, boxK_e, bslK_e, bldK_e, storeK3_e, storeK2_e, storeK_e, appK2_oi, appK2_or, appK_e, conK_e, callK_e, callK_m, evh_v, evh_new, evh_box, evh_bsl, evh_bld, evh_store, evh_app, evh_call, evh_inv, evh_slc, slcK_e, appC_e, appK_c, appK_l, slO, bnd, slv, od_none, od_some, invK_e, invK2_e, lkm, dX_e, dX_b, dX_l, dG_t, dG_f, d_nil, d_cons, creK_e, tlK_n, tlK_s, evc_e, loopK_n, loopK_x, loopK_r, seqK_n, seqK_x, seqK_r, condK_t, condK_f, condK_b, exitK_t, exitK_f, blockK_x, blockK_n, blockK_r, ends_r, ends_n, endK1_e, endK2_e, gam_e, gamK_f, gamK_p, gamK_c, gamq_e, gamqK_f, pc_e, pcK_e, fcC_e, fcK_e, evp, fit, InQ, nilq, nb, bin, binB, gt, gq, st, putf, X.get, gets, getp, ap, mkfr, rep, rdR, tupled, clV, clL, clS, clo, clo.clos, asB, ld, lda, lens, ixs, tk, dr, sp, sp.spl, lay, ll, cs1, one, allOne, gb, sb, pb, ln, lk, evq, gdl, crv, Value.oneCell', undef, Bool.and_true, Bool.true_and, Bool.not_true, Bool.not_false, cond_true, cond_false, Nat.reduceSub, Nat.reduceAdd, Nat.reduceMul, Nat.reduceDiv, Nat.reduceBEq, beq_self_eq_true, true_and, and_true, decide_eq_true_eq, decide_eq_false_iff_not, Bool.not_eq_eq_eq_not, sts, Int.toNat_natCast, F38]
      refine ⟨fun h => ?_, fun h => ?_⟩
      · have hi' : i < (winL l m).length := by omega
        have t1 : ((i : Int) - 1).toNat = i - 1 := by omega
        have t2 : ((i : Int) + m - 1).toNat = i + m - 1 := by omega
        rw [t1, t2]
        have w1 := hw i (by omega)
        have w0 := hw (i - 1) (by omega)
        have st := win_step (l := l) (m := m) (j := i - 1) hm1 (by omega)
        rw [show i - 1 + 1 = i by omega, show i - 1 + m = i + m - 1 by omega, ← w1, ← w0] at st
        have x1 := hwb1 _ (getD_mem hi')
        have x0 := hwb1 _ (getD_mem (show i - 1 < (winL l m).length by omega))
        have y1 := q3 _ (getD_mem (show i + m - 1 < l.length by omega))
        have y0 := q3 _ (getD_mem (show i - 1 < l.length by omega))
        refine ⟨by omega, by omega, by omega, by omega, by omega, by omega, by omega, by omega, by omega, by omega, fun h => absurd st h, fun _ => ⟨by omega, ?_⟩⟩
        refine Nx.mk (i + 1) ⟨by omega, by omega⟩ (by show (winL l m).length - (i + 1) < (winL l m).length - i; omega) (Lw_re 0 [] (Nat.zero_le _) (by simp [ln]) (by simp [ln]) rfl ?_ ?_)
        · simp only [reL, reX, reH, reB, reM, reN, newB, rn, once, gb, List.getElem?_cons_zero, List.getElem?_cons_succ, Nat.reduceSub, Nat.reduceLeDiff, Nat.lt_irrefl, Nat.le_refl, false_and, or_false, false_or, and_false, reduceCtorEq, true_or, or_true, leL, leX, leH, leB, news, inb, inb.inbs, ln, sts, st, Bool.and_self, Bool.and_true, Bool.true_and, Nat.reduceLT, Nat.reduceAdd, decide_true, true_and, and_true, and_self, SV.agg.injEq, Int.natCast_add, Int.natCast_one]
        · simp only [reL, reX, reH, reB, reM, reN, newB, rn, once, gb, List.getElem?_cons_zero, List.getElem?_cons_succ, Nat.reduceSub, Nat.reduceLeDiff, Nat.lt_irrefl, Nat.le_refl, false_and, or_false, false_or, and_false, reduceCtorEq, true_or, or_true, leL, leX, leH, leB, news, inb, inb.inbs, ln, sts, st, Bool.and_self, Bool.and_true, Bool.true_and, Nat.reduceLT, Nat.reduceAdd, decide_true, true_and, and_true, and_self, SV.agg.injEq]
      · have c1 := Int.emod_nonneg c (show (m : Int) ≠ 0 by omega)
        have c2 := Int.emod_lt_of_pos c (show (0 : Int) < m by omega)
        obtain ⟨g0, hg0⟩ : ∃ g0 : Nat, 1 + c % m = g0 := ⟨(1 + c % m).toNat, by omega⟩
        rw [hg0]
        refine ⟨by omega, by omega, ?_⟩
        refine loop_at2 (G := Nat) (fun g => [(10, .int .i64 g)]) (fun g => []) (fun g => 1 ≤ g ∧ g ≤ m) (fun g => g) g0 ⟨by omega, by omega⟩ ?_
        (intro fr1 hf1; simp only [forget, dstC, dstO, dstD, dst1, st] at hf1; subst hf1)
        refine ⟨?_, ?_⟩
        · refine Lw_re 0 [] (Nat.zero_le _) (by simp [ln]) (by simp [ln]) rfl ?_ ?_
          · simp only [reL, reX, reH, reB, reM, reN, newB, rn, once, gb, List.getElem?_cons_zero, List.getElem?_cons_succ, Nat.reduceSub, Nat.reduceLeDiff, Nat.lt_irrefl, Nat.le_refl, false_and, or_false, false_or, and_false, reduceCtorEq, true_or, or_true, leL, leX, leH, leB, news, inb, inb.inbs, ln, sts, st, Bool.and_self, Bool.and_true, Bool.true_and, Nat.reduceLT, Nat.reduceAdd, decide_true, true_and, and_true, and_self, SV.agg.injEq]
          · simp only [reL, reX, reH, reB, reM, reN, newB, rn, once, gb, List.getElem?_cons_zero, List.getElem?_cons_succ, Nat.reduceSub, Nat.reduceLeDiff, Nat.lt_irrefl, Nat.le_refl, false_and, or_false, false_or, and_false, reduceCtorEq, true_or, or_true, leL, leX, leH, leB, news, inb, inb.inbs, ln, sts, st, Bool.and_self, Bool.and_true, Bool.true_and, Nat.reduceLT, Nat.reduceAdd, decide_true, true_and, and_true, and_self, SV.agg.injEq]
        · rintro g ⟨hg1, hg2⟩
          simp only [inr64, ↓reduceIte, ite_true, ite_false, List.cons.injEq, ne_eq, not_true_eq_false, not_false_eq_true, reduceCtorEq, e_skip, e_reg, e_drw, e_seq, e_cond, e_block, e_loop, e_exit, e_ret, e_shut, e_scp, scpK_n, scpK_x, scpK_r, shutH, shut1, shutB, slQ, o_nil, o_cons, gd_none, gd_some, gdK_tt, gdK_tf, gdK_ft, gdK_ff, gdK_u, gdK_bt, gdK_bf, putK_e, runK_e, skipK_e, vK_e, boxK_e, bslK_e, bldK_e, storeK3_e, storeK2_e, storeK_e, appK2_oi, appK2_or, appK_e, conK_e, callK_e, callK_m, evh_v, evh_new, evh_box, evh_bsl, evh_bld, evh_store, evh_app, evh_call, evh_inv, evh_slc, slcK_e, appC_e, appK_c, appK_l, slO, bnd, slv, od_none, od_some, invK_e, invK2_e, lkm, dX_e, dX_b, dX_l, dG_t, dG_f, d_nil, d_cons, creK_e, tlK_n, tlK_s, evc_e, loopK_n, loopK_x, loopK_r, seqK_n, seqK_x, seqK_r, condK_t, condK_f, condK_b, exitK_t, exitK_f, blockK_x, blockK_n, blockK_r, ends_r, ends_n, endK1_e, endK2_e, gam_e, gamK_f, gamK_p, gamK_c, gamq_e, gamqK_f, pc_e, pcK_e, fcC_e, fcK_e, evp, fit, InQ, nilq, nb, bin, binB, gt, gq, st, putf, X.get, gets, getp, ap, mkfr, rep, rdR, tupled, clV, clL, clS, clo, clo.clos, asB, ld, lda, lens, ixs, tk, dr, sp, sp.spl, lay, ll, cs1, one, allOne, gb, sb, pb, ln, lk, evq, gdl, crv, Value.oneCell', undef, Bool.and_true, Bool.true_and, Bool.not_true, Bool.not_false, cond_true, cond_false, Nat.reduceSub, Nat.reduceAdd, Nat.reduceMul, Nat.reduceDiv, Nat.reduceBEq, beq_self_eq_true, true_and, and_true, decide_eq_true_eq, decide_eq_false_iff_not, Bool.not_eq_eq_eq_not, sts, Int.toNat_natCast]
          have ht : ((m : Int)).tmod g = ((m % g : Nat) : Int) := by
            rw [Int.tmod_eq_emod_of_nonneg (by omega)]; exact (Int.natCast_emod m g).symm
          rw [ht]
          refine ⟨by omega, fun h => ⟨by omega, ?_⟩, fun h => ?_⟩
          · have hg : g ≠ 1 := by
              intro e; subst e
              exact h (by rw [Nat.mod_one]; rfl)
            have eg : (g : Int) - 1 = ((g - 1 : Nat) : Int) := by omega
            rw [eg]
            refine Nx.mk (g - 1) ⟨by omega, by omega⟩ (by show g - 1 < g; omega) (Lw_re 0 [] (Nat.zero_le _) (by simp [ln]) (by simp [ln]) rfl ?_ ?_)
            · simp only [reL, reX, reH, reB, reM, reN, newB, rn, once, gb, List.getElem?_cons_zero, List.getElem?_cons_succ, Nat.reduceSub, Nat.reduceLeDiff, Nat.lt_irrefl, Nat.le_refl, false_and, or_false, false_or, and_false, reduceCtorEq, true_or, or_true, leL, leX, leH, leB, news, inb, inb.inbs, ln, sts, st, Bool.and_self, Bool.and_true, Bool.true_and, Nat.reduceLT, Nat.reduceAdd, decide_true, true_and, and_true, and_self, SV.agg.injEq]
            · simp only [reL, reX, reH, reB, reM, reN, newB, rn, once, gb, List.getElem?_cons_zero, List.getElem?_cons_succ, Nat.reduceSub, Nat.reduceLeDiff, Nat.lt_irrefl, Nat.le_refl, false_and, or_false, false_or, and_false, reduceCtorEq, true_or, or_true, leL, leX, leH, leB, news, inb, inb.inbs, ln, sts, st, Bool.and_self, Bool.and_true, Bool.true_and, Nat.reduceLT, Nat.reduceAdd, decide_true, true_and, and_true, and_self, SV.agg.injEq]
          · have hd : g ∣ m := Nat.dvd_of_mod_eq_zero (by omega)
            have hgl2 : g ≤ l.length := by omega
            have hper : ∀ x, x ∈ perL l g l.length → x ∈ l := fun x hx => perL_mem (by omega) hgl2 hx
            have hp2 : places2 (perL l g l.length) m = true := places2_iff.2 ⟨⟨by rw [len_perL]; exact ⟨q1, q2⟩, fun x hx => q3 x (hper x hx)⟩, q4, by rw [len_perL]; exact q5⟩
            have hF2 : F32 [.ints .i64 (perL l g l.length), .int .i64 m] = some (True, .tup [.ints .i64 (winL (perL l g l.length) m), .int .i64 0]) := by simp [F32, hp2]
            have hlen2 : (winL (perL l g l.length) m).length = l.length + 1 - m := by
              have := len_wins (perL l g l.length) m ((perL l g l.length).length + 1 - m)
              rw [len_perL] at this; simpa [winL, len_perL] using this
            have hsp : spreadL (winL (perL l g l.length) m) = 0 := spread_same hm1 (by rw [len_perL]; exact hm2) fun j hj => by
              rw [len_perL] at hj
              exact perL_period hd j hj
            refine loop_at2 (G := Nat) (fun j => [(12, .int .i64 j), (11, .own 0)]) (fun j => [.oi .i64 3 (perL l g j)]) (fun j => j ≤ l.length) (fun j => l.length - j) 0 (Nat.zero_le _) ?_
            (intro fr1 hf1; simp only [forget, dstC, dstO, dstD, dst1, st] at hf1; subst hf1)
            refine ⟨?_, ?_⟩
            · refine Lw_re 0 [none] (Nat.zero_le _) (by simp [ln]) (by simp [ln]) rfl ?_ ?_
              · simp only [reL, reX, reH, reB, reM, reN, newB, rn, once, gb, List.getElem?_cons_zero, List.getElem?_cons_succ, Nat.reduceSub, Nat.reduceLeDiff, Nat.lt_irrefl, Nat.le_refl, false_and, or_false, false_or, and_false, reduceCtorEq, true_or, or_true, leL, leX, leH, leB, news, inb, inb.inbs, ln, sts, st, Bool.and_self, Bool.and_true, Bool.true_and, Nat.reduceLT, Nat.reduceAdd, decide_true, true_and, and_true, and_self, SV.agg.injEq, Int.natCast_zero]
              · simp only [reL, reX, reH, reB, reM, reN, newB, rn, once, gb, List.getElem?_cons_zero, List.getElem?_cons_succ, Nat.reduceSub, Nat.reduceLeDiff, Nat.lt_irrefl, Nat.le_refl, false_and, or_false, false_or, and_false, reduceCtorEq, true_or, or_true, leL, leX, leH, leB, news, inb, inb.inbs, ln, sts, st, Bool.and_self, Bool.and_true, Bool.true_and, Nat.reduceLT, Nat.reduceAdd, decide_true, true_and, and_true, and_self, SV.agg.injEq, perL, List.range_zero, List.map_nil]
            · intro j hj
              simp only [inr64, ↓reduceIte, ite_true, ite_false, List.cons.injEq, ne_eq, not_true_eq_false, not_false_eq_true, reduceCtorEq, e_skip, e_reg, e_drw, e_seq, e_cond, e_block, e_loop, e_exit, e_ret, e_shut, e_scp, scpK_n, scpK_x, scpK_r, shutH, shut1, shutB, slQ, o_nil, o_cons, gd_none, gd_some, gdK_tt, gdK_tf, gdK_ft, gdK_ff, gdK_u, gdK_bt, gdK_bf, putK_e, runK_e, skipK_e, vK_e, boxK_e, bslK_e, bldK_e, storeK3_e, storeK2_e, storeK_e, appK2_oi, appK2_or, appK_e, conK_e, callK_e, callK_m, evh_v, evh_new, evh_box, evh_bsl, evh_bld, evh_store, evh_app, evh_call, evh_inv, evh_slc, slcK_e, appC_e, appK_c, appK_l, slO, bnd, slv, od_none, od_some, invK_e, invK2_e, lkm, dX_e, dX_b, dX_l, dG_t, dG_f, d_nil, d_cons, creK_e, tlK_n, tlK_s, evc_e, loopK_n, loopK_x, loopK_r, seqK_n, seqK_x, seqK_r, condK_t, condK_f, condK_b, exitK_t, exitK_f, blockK_x, blockK_n, blockK_r, ends_r, ends_n, endK1_e, endK2_e, gam_e, gamK_f, gamK_p, gamK_c, gamq_e, gamqK_f, pc_e, pcK_e, fcC_e, fcK_e, evp, fit, InQ, nilq, nb, bin, binB, gt, gq, st, putf, X.get, gets, getp, ap, mkfr, rep, rdR, tupled, clV, clL, clS, clo, clo.clos, asB, ld, lda, lens, ixs, tk, dr, sp, sp.spl, lay, ll, cs1, one, allOne, gb, sb, pb, ln, lk, evq, gdl, crv, Value.oneCell', undef, Bool.and_true, Bool.true_and, Bool.not_true, Bool.not_false, cond_true, cond_false, Nat.reduceSub, Nat.reduceAdd, Nat.reduceMul, Nat.reduceDiv, Nat.reduceBEq, beq_self_eq_true, true_and, and_true, decide_eq_true_eq, decide_eq_false_iff_not, Bool.not_eq_eq_eq_not, sts, Int.toNat_natCast]
              have htj : ((j : Int)).tmod g = ((j % g : Nat) : Int) := by
                rw [Int.tmod_eq_emod_of_nonneg (by omega)]; exact (Int.natCast_emod j g).symm
              have hjg : j % g < g := Nat.mod_lt _ (by omega)
              have lp := len_perL l g j
              rw [htj]
              refine ⟨fun h => ?_, fun h => ?_⟩
              · refine ⟨by omega, by omega, by omega, by omega, ?_⟩
                refine Nx.mk (j + 1) (by show j + 1 ≤ l.length; omega) (by show l.length - (j + 1) < l.length - j; omega) (Lw_re 0 [some 2] (Nat.zero_le _) (by simp [ln]) (by simp [ln]) rfl ?_ ?_)
                · simp only [reL, reX, reH, reB, reM, reN, newB, rn, once, gb, List.getElem?_cons_zero, List.getElem?_cons_succ, Nat.reduceSub, Nat.reduceLeDiff, Nat.lt_irrefl, Nat.le_refl, false_and, or_false, false_or, and_false, reduceCtorEq, true_or, or_true, leL, leX, leH, leB, news, inb, inb.inbs, ln, sts, st, Bool.and_self, Bool.and_true, Bool.true_and, Nat.reduceLT, Nat.reduceAdd, decide_true, true_and, and_true, and_self, SV.agg.injEq, Int.natCast_add, Int.natCast_one]
                · simp only [reL, reX, reH, reB, reM, reN, newB, rn, once, gb, List.getElem?_cons_zero, List.getElem?_cons_succ, Nat.reduceSub, Nat.reduceLeDiff, Nat.lt_irrefl, Nat.le_refl, false_and, or_false, false_or, and_false, reduceCtorEq, true_or, or_true, leL, leX, leH, leB, news, inb, inb.inbs, ln, sts, st, Bool.and_self, Bool.and_true, Bool.true_and, Nat.reduceLT, Nat.reduceAdd, decide_true, true_and, and_true, and_self, SV.agg.injEq, perL_snoc, Int.toNat_natCast]
              · obtain rfl : j = l.length := by omega
                have I2 : LapI m 0 (perL l g l.length) 0 := ⟨by omega, by omega, by omega, fun x hx => q3 x (hper x hx), by omega, by omega⟩
                have hwb2 : within 100000000000000 (winL (perL l g l.length) m) := (I2.next (by omega) (by omega) (by omega)).b1 (by omega)
                simp only [inr64, ↓reduceIte, ite_true, ite_false, List.cons.injEq, ne_eq, not_true_eq_false, not_false_eq_true, reduceCtorEq, e_skip, e_reg, e_drw, e_seq, e_cond, e_block, e_loop, e_exit, e_ret, e_shut, e_scp, scpK_n, scpK_x, scpK_r, shutH, shut1, shutB, slQ, o_nil, o_cons, gd_none, gd_some, gdK_tt, gdK_tf, gdK_ft, gdK_ff, gdK_u, gdK_bt, gdK_bf, putK_e, runK_e, skipK_e, vK_e, boxK_e, bslK_e, bldK_e, storeK3_e, storeK2_e, storeK_e, appK2_oi, appK2_or, appK_e, conK_e, callK_e, callK_m, evh_v, evh_new, evh_box, evh_bsl, evh_bld, evh_store, evh_app, evh_call, evh_inv, evh_slc, slcK_e, appC_e, appK_c, appK_l, slO, bnd, slv, od_none, od_some, invK_e, invK2_e, lkm, dX_e, dX_b, dX_l, dG_t, dG_f, d_nil, d_cons, creK_e, tlK_n, tlK_s, evc_e, loopK_n, loopK_x, loopK_r, seqK_n, seqK_x, seqK_r, condK_t, condK_f, condK_b, exitK_t, exitK_f, blockK_x, blockK_n, blockK_r, ends_r, ends_n, endK1_e, endK2_e, gam_e, gamK_f, gamK_p, gamK_c, gamq_e, gamqK_f, pc_e, pcK_e, fcC_e, fcK_e, evp, fit, InQ, nilq, nb, bin, binB, gt, gq, st, putf, X.get, gets, getp, ap, mkfr, rep, rdR, tupled, clV, clL, clS, clo, clo.clos, asB, ld, lda, lens, ixs, tk, dr, sp, sp.spl, lay, ll, cs1, one, allOne, gb, sb, pb, ln, lk, evq, gdl, crv, Value.oneCell', undef, Bool.and_true, Bool.true_and, Bool.not_true, Bool.not_false, cond_true, cond_false, Nat.reduceSub, Nat.reduceAdd, Nat.reduceMul, Nat.reduceDiv, Nat.reduceBEq, beq_self_eq_true, true_and, and_true, decide_eq_true_eq, decide_eq_false_iff_not, Bool.not_eq_eq_eq_not, sts, hF2, F48, F24]
                exact ⟨fun _ => ⟨fun _ => ⟨⟨hwb2, by omega⟩, fun _ => res hK (by simp [leR]), fun h => absurd hsp h⟩, fun h => absurd (by omega) h⟩, fun h => h.elim⟩
  · have hF : F32 [.ints .i64 l, .int .i64 n] = some (True, .tup [.ints .i64 [], .int .i64 25]) := by simp [F32, hp]
    simp only [inr64, ↓reduceIte, ite_true, ite_false, List.cons.injEq, ne_eq, not_true_eq_false, not_false_eq_true, reduceCtorEq, e_skip, e_reg, e_drw, e_seq, e_cond, e_block, e_loop, e_exit, e_ret, e_shut, e_scp, scpK_n, scpK_x, scpK_r, shutH, shut1, shutB, slQ, o_nil, o_cons, gd_none, gd_some, gdK_tt, gdK_tf, gdK_ft, gdK_ff, gdK_u, gdK_bt, gdK_bf, putK_e, runK_e, skipK_e, vK_e, boxK_e, bslK_e, bldK_e, storeK3_e, storeK2_e, storeK_e, appK2_oi, appK2_or, appK_e, conK_e, callK_e, callK_m, evh_v, evh_new, evh_box, evh_bsl, evh_bld, evh_store, evh_app, evh_call, evh_inv, evh_slc, slcK_e, appC_e, appK_c, appK_l, slO, bnd, slv, od_none, od_some, invK_e, invK2_e, lkm, dX_e, dX_b, dX_l, dG_t, dG_f, d_nil, d_cons, creK_e, tlK_n, tlK_s, evc_e, loopK_n, loopK_x, loopK_r, seqK_n, seqK_x, seqK_r, condK_t, condK_f, condK_b, exitK_t, exitK_f, blockK_x, blockK_n, blockK_r, ends_r, ends_n, endK1_e, endK2_e, gam_e, gamK_f, gamK_p, gamK_c, gamq_e, gamqK_f, pc_e, pcK_e, fcC_e, fcK_e, evp, fit, InQ, nilq, nb, bin, binB, gt, gq, st, putf, X.get, gets, getp, ap, mkfr, rep, rdR, tupled, clV, clL, clS, clo, clo.clos, asB, ld, lda, lens, ixs, tk, dr, sp, sp.spl, lay, ll, cs1, one, allOne, gb, sb, pb, ln, lk, evq, gdl, crv, Value.oneCell', undef, Bool.and_true, Bool.true_and, Bool.not_true, Bool.not_false, cond_true, cond_false, Nat.reduceSub, Nat.reduceAdd, Nat.reduceMul, Nat.reduceDiv, Nat.reduceBEq, beq_self_eq_true, true_and, and_true, decide_eq_true_eq, decide_eq_false_iff_not, Bool.not_eq_eq_eq_not, sts, s11, r11, hF, F39, F48, F49, F38, F24]
    exact ⟨fun h => absurd h (by decide), fun _ => ⟨fun _ => ⟨fun _ => res hK (by simp [leR]), fun h => absurd rfl h⟩, fun h => absurd h (by decide)⟩⟩
end Go.Proofs.Ytbbbpdajikblbaa
