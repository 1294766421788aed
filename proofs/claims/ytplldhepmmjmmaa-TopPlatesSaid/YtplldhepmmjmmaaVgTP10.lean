import Derived.Test.YtplldhepmmjmmaaVgTP9
namespace Go.Proofs.Ytplldhepmmjmmaa
open Go Go.Vg
set_option linter.unusedSimpArgs false
set_option linter.unusedVariables false
set_option maxRecDepth 10000
def s3t1 : SC :=
 (.seq (.seq (.reg [⟨(some 82), none, .v (.mov (.t 14))⟩,
  ⟨(some 83), none, .v (.bin .neq (.t 82) (.c (.int .i64 (0))))⟩,
  ⟨(some 84), none, .v (.mov (.t 83))⟩,
  ⟨(some 85), (some (84, false)), .v (.mov (.t 13))⟩,
  ⟨(some 86), (some (84, false)), .v (.len (.t 85))⟩,
  ⟨(some 87), (some (84, false)), .v (.bin .eql (.t 86) (.c (.int .i64 (0))))⟩,
  ⟨(some 88), none, .v (.pick (.t 84) (.c (.lit (.bool true))) (.t 87))⟩,
  ⟨(some 89), none, .v (.mov (.t 88))⟩,
  ⟨(some 90), (some (89, false)), .v (.mov (.t 13))⟩,
  ⟨(some 91), (some (89, false)), .v (.len (.t 90))⟩,
  ⟨(some 92), (some (89, false)), .v (.bin .gtr (.t 91) (.c (.int .i64 (2))))⟩,
  ⟨(some 93), none, .v (.pick (.t 89) (.c (.lit (.bool true))) (.t 92))⟩])
 (.cond (.t 93)
  (.seq (.reg [⟨(some 4), none, .v (.mov (.c (.lit (.bool false))))⟩])
  .ret)
  .skip))
 (.seq (.reg [⟨(some 15), none, .v (.mov (.c (.lit (.bool false))))⟩])
 (.seq (.seq (.reg [⟨(some 16), none, .v (.mov (.c (.int .i64 (0))))⟩])
 (.block 0 (.loop
  (.seq (.seq (.reg [⟨(some 94), none, .v (.mov (.t 16))⟩,
   ⟨(some 95), none, .v (.mov (.t 13))⟩,
   ⟨(some 96), none, .v (.len (.t 95))⟩,
   ⟨(some 97), none, .v (.bin .lss (.t 94) (.t 96))⟩])
  (.cond (.t 97)
   .skip
   (.exit 0)))
  (.seq (.block 1 (.seq (.reg [⟨(some 100), none, .v (.mov (.t 15))⟩,
   ⟨(some 101), none, .v (.mov (.t 100))⟩,
   ⟨(some 102), (some (101, false)), .v (.mov (.t 13))⟩,
   ⟨(some 103), (some (101, false)), .v (.mov (.t 16))⟩,
   ⟨(some 104), (some (101, false)), .v (.ixa (.t 102) (.t 103) 2)⟩,
   ⟨(some 105), (some (101, false)), .v (.load (.t 104) (some 2))⟩,
   ⟨(some 106), (some (101, false)), .v (.mov (.t 9))⟩,
   ⟨(some 107), (some (101, false)), .call (.c (.fn 8 [])) [(.t 105), (.t 106)]⟩,
   ⟨(some 108), none, .v (.pick (.t 101) (.c (.lit (.bool true))) (.t 107))⟩,
   ⟨(some 15), none, .v (.mov (.t 108))⟩])
  (.seq (.drw [(0, ⟨(some 109), none, .v (.mov (.t 13))⟩, false),
   (1, ⟨(some 110), none, .v (.mov (.t 16))⟩, false),
   (2, ⟨(some 111), none, .v (.ixa (.t 109) (.t 110) 2)⟩, false),
   (3, ⟨(some 112), none, .v (.off (.t 111) 1)⟩, false),
   (4, ⟨(some 113), none, .v (.load (.t 112) none)⟩, false),
   (5, ⟨(some 114), none, .v (.mov (.t 13))⟩, false),
   (6, ⟨(some 115), none, .v (.mov (.t 16))⟩, false),
   (7, ⟨(some 116), none, .v (.ixa (.t 114) (.t 115) 2)⟩, false),
   (8, ⟨(some 117), none, .v (.off (.t 116) 0)⟩, false),
   (9, ⟨(some 118), none, .v (.load (.t 117) none)⟩, false),
   (10, ⟨(some 119), none, .v (.bin .sub (.t 113) (.t 118))⟩, false),
   (11, ⟨(some 120), none, .v (.off (.t 6) 1)⟩, false),
   (12, ⟨(some 121), none, .v (.load (.t 120) none)⟩, false),
   (13, ⟨(some 122), none, .v (.off (.t 6) 0)⟩, false),
   (14, ⟨(some 123), none, .v (.load (.t 122) none)⟩, false),
   (15, ⟨(some 124), none, .v (.bin .sub (.t 121) (.t 123))⟩, false),
   (16, ⟨(some 125), none, .v (.bin .mul (.c (.int .i64 (2))) (.t 124))⟩, false),
   (17, ⟨(some 126), none, .v (.mov (.t 12))⟩, false),
   (18, ⟨(some 127), none, .v (.bin .mul (.c (.int .i64 (2))) (.t 126))⟩, false),
   (19, ⟨(some 128), none, .v (.bin .add (.t 125) (.t 127))⟩, false)]
   none
   [⟨(some 129), none, .v (.bin .gtr (.t 119) (.t 128))⟩])
  (.cond (.t 129)
   (.seq (.reg [⟨(some 4), none, .v (.mov (.c (.lit (.bool false))))⟩])
   .ret)
   .skip))))
  (.reg [⟨(some 98), none, .v (.mov (.t 16))⟩,
   ⟨(some 99), none, .v (.bin .add (.t 98) (.c (.int .i64 (1))))⟩,
   ⟨(some 16), none, .v (.mov (.t 99))⟩]))))))
 (.seq (.reg [⟨(some 130), none, .v (.mov (.t 15))⟩,
  ⟨(some 131), none, .v (.mov (.t 130))⟩,
  ⟨(some 132), (some (131, true)), .call (.c (.fn 9 [])) []⟩,
  ⟨(some 133), none, .v (.pick (.t 131) (.t 132) (.c (.lit (.bool false))))⟩,
  ⟨(some 4), none, .v (.mov (.t 133))⟩])
 .ret))))
def s3 : SC :=
 (.seq (.reg [⟨(some 2), none, .box 28 (.t 0)⟩,
  ⟨(some 3), none, .box 29 (.t 1)⟩,
  ⟨(some 4), none, .v (.mov (.c (.lit (.bool false))))⟩])
 (.seq (.reg [⟨(some 18), none, .v (.load (.t 2) (some 4))⟩,
  ⟨(some 19), none, .v (.ixarr (.t 3) (.c (.int .i64 (0))) 3 1)⟩,
  ⟨(some 20), none, .v (.load (.t 19) none)⟩,
  ⟨(some 21), none, .call (.c (.fn 4 [])) [(.t 18), (.t 20)]⟩,
  ⟨(some 17), none, .v (.mov (.t 21))⟩,
  ⟨(some 22), none, .v (.ext (.t 17) 0)⟩,
  ⟨(some 23), none, .v (.ext (.t 17) 1)⟩,
  ⟨(some 24), none, .v (.ext (.t 17) 2)⟩,
  ⟨(some 6), none, .new 31 [(.int .i64 (0)), (.int .i64 (0))]⟩,
  ⟨(some 5), none, .v (.mov (.t 22))⟩,
  ⟨none, none, .store 2 (.t 6) (.t 23)⟩,
  ⟨(some 7), none, .v (.mov (.t 24))⟩])
 (.seq (.drw [(0, ⟨(some 25), none, .v (.ixarr (.t 3) (.c (.int .i64 (1))) 3 1)⟩, false),
  (1, ⟨(some 26), none, .v (.load (.t 25) none)⟩, false),
  (2, ⟨(some 27), none, .call (.c (.fn 5 [])) [(.t 26), (.c (.int .i64 (400)))]⟩, false),
  (3, ⟨(some 28), none, .v (.bin .sub (.t 27) (.c (.int .i64 (200))))⟩, false),
  (4, ⟨(some 29), none, .v (.ixarr (.t 3) (.c (.int .i64 (2))) 3 1)⟩, false),
  (5, ⟨(some 30), none, .v (.load (.t 29) none)⟩, false),
  (6, ⟨(some 31), none, .call (.c (.fn 5 [])) [(.t 30), (.c (.int .i64 (400)))]⟩, false),
  (7, ⟨(some 32), none, .v (.bin .sub (.t 31) (.c (.int .i64 (200))))⟩, false),
  (8, ⟨(some 8), none, .v (.mov (.t 28))⟩, false)]
  none
  [⟨(some 9), none, .v (.mov (.t 32))⟩])
 (.seq (.reg [⟨(some 33), none, .v (.mov (.t 8))⟩,
  ⟨(some 34), none, .v (.mov (.t 5))⟩,
  ⟨(some 35), none, .v (.bin .add (.t 33) (.t 34))⟩,
  ⟨(some 10), none, .v (.mov (.t 35))⟩])
 (.seq (.reg [⟨(some 36), none, .v (.mov (.t 10))⟩,
  ⟨(some 37), none, .v (.off (.t 6) 1)⟩,
  ⟨(some 38), none, .v (.load (.t 37) none)⟩,
  ⟨(some 39), none, .v (.bin .sub (.t 36) (.t 38))⟩,
  ⟨(some 40), none, .v (.mov (.t 10))⟩,
  ⟨(some 41), none, .v (.off (.t 6) 0)⟩,
  ⟨(some 42), none, .v (.load (.t 41) none)⟩,
  ⟨(some 43), none, .v (.bin .sub (.t 40) (.t 42))⟩,
  ⟨(some 44), none, .call (.c (.fn 6 [])) [(.t 39), (.t 43)]⟩,
  ⟨(some 11), none, .new 31 [(.int .i64 (0)), (.int .i64 (0))]⟩,
  ⟨none, none, .store 2 (.t 11) (.t 44)⟩])
 (.seq (.seq (.reg [⟨(some 45), none, .v (.mov (.t 7))⟩,
  ⟨(some 46), none, .v (.not (.t 45))⟩,
  ⟨(some 47), none, .v (.mov (.t 46))⟩,
  ⟨(some 48), (some (47, false)), .v (.load (.t 11) (some 2))⟩,
  ⟨(some 49), (some (47, false)), .call (.c (.fn 7 [])) [(.t 48), (.c (.int .i64 (-1000))), (.c (.int .i64 (1000)))]⟩,
  ⟨(some 50), (some (47, false)), .v (.not (.t 49))⟩,
  ⟨(some 51), none, .v (.pick (.t 47) (.c (.lit (.bool true))) (.t 50))⟩])
 (.cond (.t 51)
  (.seq (.drw [(0, ⟨(some 52), none, .v (.mov (.t 7))⟩, false),
   (1, ⟨(some 53), none, .v (.not (.t 52))⟩, false),
   (2, ⟨(some 54), none, .v (.mov (.t 53))⟩, true),
   (3, ⟨(some 55), (some (54, false)), .v (.load (.t 11) (some 2))⟩, false),
   (4, ⟨(some 56), (some (54, false)), .v (.mov (.t 8))⟩, false),
   (5, ⟨(some 57), (some (54, false)), .call (.c (.fn 8 [])) [(.t 55), (.t 56)]⟩, false),
   (6, ⟨(some 58), (some (54, false)), .v (.not (.t 57))⟩, false),
   (7, ⟨(some 59), (some (54, false)), .v (.load (.t 6) (some 2))⟩, false),
   (8, ⟨(some 60), (some (54, false)), .v (.mov (.t 5))⟩, false),
   (9, ⟨(some 61), (some (54, false)), .call (.c (.fn 8 [])) [(.t 59), (.t 60)]⟩, false),
   (10, ⟨(some 62), (some (54, false)), .v (.not (.t 61))⟩, false)]
   none
   [⟨(some 63), (some (54, false)), .v (.binb .eql (.t 58) (.t 62))⟩,
   ⟨(some 64), none, .v (.pick (.t 54) (.c (.lit (.bool true))) (.t 63))⟩,
   ⟨(some 65), none, .v (.mov (.t 64))⟩,
   ⟨(some 66), (some (65, true)), .call (.c (.fn 9 [])) []⟩,
   ⟨(some 67), none, .v (.pick (.t 65) (.t 66) (.c (.lit (.bool false))))⟩,
   ⟨(some 4), none, .v (.mov (.t 67))⟩])
  .ret)
  .skip))
 (.seq (.reg [⟨(some 68), none, .v (.mov (.t 9))⟩,
  ⟨(some 69), none, .v (.mov (.t 8))⟩,
  ⟨(some 70), none, .v (.bin .sub (.t 68) (.t 69))⟩,
  ⟨(some 71), none, .call (.c (.fn 10 [])) [(.t 70)]⟩,
  ⟨(some 12), none, .v (.mov (.t 71))⟩])
 (.seq (.tre (.op ⟨(some 74), none, .v (.mov (.t 12))⟩ (.op ⟨(some 75), none, .v (.mov (.t 12))⟩ (.op ⟨(some 73), none, .v (.load (.t 11) (some 2))⟩ (.op ⟨(some 76), none, .call (.c (.fn 6 [])) [(.t 74), (.t 75)]⟩ (.op ⟨(some 77), none, .bld [(.int .i64 (0)), (.int .i64 (0)), (.int .i64 (0)), (.int .i64 (0)), (.int .i64 (0))] [(0, 2, (.t 73)), (2, 2, (.t 76))]⟩ (.op ⟨(some 78), none, .bsl 45 1 [(.int .i64 (0)), (.int .i64 (0)), (.int .i64 (0)), (.int .i64 (0)), (.int .i64 (0))] [(0, 5, (.t 77))]⟩ (.op ⟨(some 79), none, .call (.c (.fn 11 [])) [(.t 78)]⟩ (.op ⟨(some 72), none, .v (.mov (.t 79))⟩ (.op ⟨(some 80), none, .v (.ext (.t 72) 0)⟩ (.op ⟨(some 81), none, .v (.ext (.t 72) 1)⟩ (.op ⟨(some 13), none, .v (.mov (.t 80))⟩ (.op ⟨(some 14), none, .v (.mov (.t 81))⟩ .leaf
  .stop)
  .stop)
  .stop)
  .stop)
  .stop)
  .stop)
  .stop)
  .stop)
  .stop)
  (.op ⟨(some 76), none, .call (.c (.fn 6 [])) [(.t 74), (.t 75)]⟩ (.op ⟨(some 73), none, .v (.load (.t 11) (some 2))⟩ (.op ⟨(some 77), none, .bld [(.int .i64 (0)), (.int .i64 (0)), (.int .i64 (0)), (.int .i64 (0)), (.int .i64 (0))] [(0, 2, (.t 73)), (2, 2, (.t 76))]⟩ (.op ⟨(some 78), none, .bsl 45 1 [(.int .i64 (0)), (.int .i64 (0)), (.int .i64 (0)), (.int .i64 (0)), (.int .i64 (0))] [(0, 5, (.t 77))]⟩ (.op ⟨(some 79), none, .call (.c (.fn 11 [])) [(.t 78)]⟩ (.op ⟨(some 72), none, .v (.mov (.t 79))⟩ (.op ⟨(some 80), none, .v (.ext (.t 72) 0)⟩ (.op ⟨(some 81), none, .v (.ext (.t 72) 1)⟩ (.op ⟨(some 13), none, .v (.mov (.t 80))⟩ (.op ⟨(some 14), none, .v (.mov (.t 81))⟩ .leaf
  .stop)
  .stop)
  .stop)
  .stop)
  .stop)
  .stop)
  .stop)
  .stop)
  .stop)
  .stop))
  .stop)
  .stop))
 s3t1))))))))
def r3 : List RV := [.t 4]
theorem k3 : (Try.f3.body.bind (cC Try.prog), cR Try.prog Try.f3.results.toList, Try.f3.ntmps) = (some s3, some r3, 134) := by kernel_rfl
theorem q3 : Known Try.prog 3 := ⟨_, Try.func3, by decide, by simp [Try.f3]⟩
def C11 : PC := fun args K => ∃ (p q r : Int) (f : Nat → List SV), args = [.rd 5 1 f] ∧ f 0 = [.int .i64 p, .int .i64 q, .int .i64 r, .int .i64 r, .int .i64 0] ∧ okFr p q r r 0 = true ∧
 K (.tup [.rd 2 (Tw.N ⟨p - r, q - r, p + r, q + r⟩ 2001) (Tw.row ⟨p - r, q - r, p + r, q + r⟩ 2001), .int .i64 0])
theorem p11 : PureOk Try.prog 11 C11 := by
 refine pure_of (T := [(20, .pc C20), (21, .pc C21)]) ⟨⟨p20, q20⟩, ⟨p21, q21⟩, trivial⟩ Try.func11 k11 ?_
 rintro args K ⟨p, q, r, f, rfl, hf, hok, hK⟩
 have hok' := hok
 simp only [okFr, Bool.and_eq_true, decide_eq_true_eq] at hok'
 simp only [e_reg, e_seq, o_nil, o_cons, gd_none, putK_e, runK_e, vK_e, conK_e, callK_e, evh_v, evh_call, seqK_n, gam_e, gamK_p, pc_e, pcK_e, evp, gt, st, putf, X.get, gets, ap, mkfr, rep, clV, clL, clS, clo, lk, undef, Nat.reduceSub, beq_self_eq_true, true_and, s11, r11]
 refine ⟨p, q, r, r, 0, f, rfl, hf, ?_⟩
 rw [hok]
 simp only [condK_bf, e_skip, e_reg, e_seq, e_cond, o_nil, o_cons, gd_none, putK_e, runK_e, vK_e, conK_e, callK_e, evh_v, evh_call, seqK_n, gam_e, gamK_p, pc_e, pcK_e, evp, gt, st, putf, X.get, gets, ap, clV, clL, clS, clo, lens, gb, lk, Bool.not_true, Nat.reduceBEq, beq_self_eq_true, true_and]
 refine ⟨p, q, r, f, rfl, hf, hok, ?_⟩
 have hN : ((Tw.N ⟨p - r, q - r, p + r, q + r⟩ 2001 : Nat) : Int) ≠ 0 := by
  unfold Tw.N
  rw [if_neg (by simp only; omega)]
  split <;> simp
 have t := eq_false hN
 simp only [condK_bf, decide_false, e_skip, e_reg, e_seq, e_cond, e_ret, o_nil, o_cons, gd_none, putK_e, runK_e, vK_e, evh_v, seqK_n, ends_r, endK1_e, endK2_e, evp, bin, gt, st, putf, X.get, rdR, tupled, clV, clL, clS, clo, true_and, t]
 exact res hK (by simp [leR, leR.leRs])
theorem Tw.fin {t : Tw} (h : t.ok) : (1 ≤ t.N 2001 ∧ t.N 2001 ≤ 2) ∧ (∀ i, i < t.N 2001 → (-2000 ≤ t.lo i ∧ t.lo i ≤ 2000) ∧ (-2000 ≤ t.hi 2001 i ∧ t.hi 2001 i ≤ 2000) ∧ (t.hi 2001 i - t.lo i ≤ t.b - t.a ∨ t.hi 2001 i - t.lo i ≤ t.d - t.c ∨ (t.hi 2001 i - t.lo i ≤ t.d - t.a ∧ t.c ≤ t.b + 1))) ∧
  ∀ x, t.q x → ∃ i, i < t.N 2001 ∧ t.lo i ≤ x ∧ x ≤ t.hi 2001 i := by
 unfold Tw.ok at h
 have h0 : ¬ (2001 : Int) ≤ t.a := by omega
 have h2 : ¬ (2001 : Int) ≤ t.c := by omega
 by_cases hm : t.c ≤ t.b + 1
 ·rw [Tw.N_1 h0 (.inl hm)]
  refine ⟨by omega, fun i hi => ?_, fun x hx => ⟨0, by omega, ?_⟩⟩
  ·obtain rfl : i = 0 := by omega
   rw [Tw.hi_m hm, Tw.lo_0]; omega
  ·unfold Tw.q at hx
   rw [Tw.hi_m hm, Tw.lo_0]; omega
 ·rw [Tw.N_2 h0 hm h2]
  refine ⟨by omega, fun i hi => ?_, fun x hx => ?_⟩
  ·by_cases hi0 : i = 0
   ·subst hi0
    rw [Tw.hi_0 hm, Tw.lo_0]; omega
   ·rw [Tw.hi_1 hm hi0, Tw.lo_1 hi0]; omega
  ·unfold Tw.q at hx
   rcases hx with hx | hx
   ·exact ⟨1, by omega, by rw [Tw.hi_1 hm (by omega), Tw.lo_1 (by omega)]; omega⟩
   ·exact ⟨0, by omega, by rw [Tw.hi_0 hm, Tw.lo_0]; omega⟩
theorem toInts5 (a b c d e : Int) : toInts [.int .i64 a, .int .i64 b, .int .i64 c, .int .i64 d, .int .i64 e] = some (.i64, [a, b, c, d, e]) := rfl
def F9 : FC := fun args => match args with
 | [] => some (True, .lit (.bool true))
 | _ => none
def C3 : PC := fun args K => ∃ (T : List Int) (m : Int) (L : List Rdg) (N : Nat) (Y : Nat → List Int) (n0 n1 n2 : Int), args = [.agg [.ints .i64 T, .int .i64 m, .rd 6 L.length (rgR L), .rd 1 N fun i => [.ints .i64 (Y i)]],
 .agg [.int .i64 n0, .int .i64 n1, .int .i64 n2]] ∧ K (.lit (.bool true))
set_option maxHeartbeats 4000000 in
theorem p3 (p9 : PureOk Try.prog 9 (fcC F9)) (q9 : Known Try.prog 9) : PureOk Try.prog 3 C3 := by
 refine pure_of (T := [(4, .pc C4), (5, .fc Fmod), (6, .fc Fto), (7, .fc Fspd), (8, .fc F8), (9, .fc F9), (10, .fc Fabs), (11, .pc C11)]) ⟨⟨p4, q4⟩, ⟨p5, q5⟩, ⟨p6, q6⟩, ⟨p7, q7⟩, ⟨p8, q8⟩, ⟨p9, q9⟩, ⟨p10, q10⟩, ⟨p11, q11⟩, trivial⟩ Try.func3 k3 ?_
 rintro args K ⟨T, m, L, N, Y, n0, n1, n2, rfl, hK⟩
 have e1 : ∀ x : Int, (x = x) = True := fun x => eq_self x
 simp only [e_reg, e_seq, o_nil, o_cons, gd_none, putK_e, runK_e, vK_e, boxK_e, conK_e, callK_e, evh_v, evh_box, evh_call, seqK_n, gam_e, gamK_p, pc_e, pcK_e, evp, gt, gq, st, putf, X.get, gets, ap, mkfr, rep, clV, clL, clS, clo, ld, lda, tk, dr, cs1, gb, pb, ln, lk, undef, Nat.reduceSub, Nat.reduceAdd, Nat.reduceMul, beq_self_eq_true, true_and, s3, r3, gq, Int.reduceToNat]
 refine ⟨by omega, T, m, L, N, Y, n0, rfl, fun x a b h1 => ?_⟩
 cases ht : truE T m L N Y with
 | false =>
  simp only [dX_bt, gdK_bft, inr64, e_reg, and_self, e_drw, e_seq, e_cond, e_ret, o_nil, o_cons, gd_none, gd_some, gdK_tt, gdK_tf, putK_e, runK_e, skipK_e, vK_e, storeK3_e, storeK2_e, storeK_e, conK_e, callK_e, evh_v, evh_new, evh_store, evh_call, dX_e, dG_t, dG_f, d_nil, d_cons, tlK_n, seqK_n, seqK_r, condK_t, ends_r, endK1_e, endK2_e, gam_e, gamK_f, gamq_e, gamqK_f, pc_e, pcK_e, fcC_e, fcK_e, evp, bin, gt, gq, st, putf, X.get, gets, ap, rdR, tupled, clV, clL, clS, clo, clo.clos, ld, lda, tk, dr, sp, sp.spl, ll, cs1, one, allOne, gb, sb, pb, ln, lk, evq, gdl, Value.oneCell', undef, Bool.and_true, Bool.not_false, Nat.reduceAdd, Nat.reduceMul, Nat.reduceBEq, beq_self_eq_true, true_and, Fmod, Fto, F8, F9, gq, Int.reduceToNat]
  repeat' (first | omega | (with_reducible refine And.intro ?_ ?_))
  exact res hK (by simp [leR])
 | true =>
  have hP : -200 ≤ n1 % 400 - 200 ∧ n1 % 400 - 200 ≤ 199 := by omega
  have hS : -200 ≤ n2 % 400 - 200 ∧ n2 % 400 - 200 ≤ 199 := by omega
  by_cases hsp : (-1000 ≤ n1 % 400 - 200 + x - b ∧ n1 % 400 - 200 + x - b ≤ n1 % 400 - 200 + x - a) ∧ n1 % 400 - 200 + x - a ≤ 1000
  ·have t1 : decide ((-1000 ≤ n1 % 400 - 200 + x - b ∧ n1 % 400 - 200 + x - b ≤ n1 % 400 - 200 + x - a) ∧ n1 % 400 - 200 + x - a ≤ 1000) = true := decide_eq_true hsp
   have hfr : ∀ far : Int, 0 ≤ far ∧ far ≤ 1000 → okFr (n1 % 400 - 200 + x - b) (n1 % 400 - 200 + x - a) far far 0 = true := fun far hfar => by
    simp only [okFr, Bool.and_eq_true, decide_eq_true_eq]; omega
   generalize hP1 : n1 % 400 - 200 = P at hP hsp t1 hfr ⊢
   generalize hS1 : n2 % 400 - 200 = S at hS ⊢
   simp only [gdK_bff, condK_bf, inr64, e_skip, e_reg, e_tre, t_stop, t_op, and_self, e_drw, e_seq, e_cond, o_nil, o_cons, gd_none, gd_some, gdK_ff, putK_e, runK_e, vK_e, bslK_e, bldK_e, storeK3_e, storeK2_e, storeK_e, conK_e, callK_e, evh_v, evh_new, evh_bsl, evh_bld, evh_store, evh_call, dX_e, dG_t, d_nil, d_cons, tlK_n, seqK_n, gam_e, gamK_f, gamK_p, gamq_e, gamqK_f, pc_e, pcK_e, fcC_e, fcK_e, evp, bin, gt, gq, st, putf, X.get, gets, getp, ap, clV, clL, clS, clo, clo.clos, ld, lda, tk, dr, sp, sp.spl, lay, ll, cs1, one, allOne, gb, sb, pb, ln, lk, evq, gdl, Value.oneCell', Bool.and_true, Bool.not_true, Nat.reduceAdd, Nat.reduceMul, Nat.reduceDiv, Nat.reduceBEq, beq_self_eq_true, true_and, and_true, hP1, hS1, Fmod, Fto, Fspd, Fabs, t1, toInts5, gq, Int.reduceToNat]
   repeat' (first | omega | (with_reducible refine And.intro ?_ ?_))
   have hfar : 0 ≤ max (S - P) (-(S - P)) ∧ max (S - P) (-(S - P)) ≤ 1000 := by omega
   refine ⟨_, _, _, _, rfl, rfl, hfr _ hfar, ?_⟩
   have hSP : (P ≤ S ∧ S = P + max (S - P) (-(S - P))) ∨ (S ≤ P ∧ S = P - max (S - P) (-(S - P))) := by omega
   generalize max (S - P) (-(S - P)) = far at hfar hSP ⊢
   generalize htw : (⟨P + x - b - far, P + x - a - far, P + x - b + far, P + x - a + far⟩ : Tw) = t
   have htv : (t.a = P + x - b - far ∧ t.b = P + x - a - far) ∧ (t.c = P + x - b + far ∧ t.d = P + x - a + far) := by subst htw; exact ⟨⟨rfl, rfl⟩, rfl, rfl⟩
   have hto : t.ok := by unfold Tw.ok; omega
   obtain ⟨⟨hN1, hN2⟩, hB, hQ⟩ := Tw.fin hto
   obtain ⟨j0, hj0, hj1⟩ := hQ S (by unfold Tw.q; omega)
   have t2 : (((t.N 2001 : Nat) : Int) = 0) = False := eq_false (by omega)
   have t3 : (((t.N 2001 : Nat) : Int) > 2) = False := eq_false (by omega)
   have f00 : ((0 : Int) = 0) = True := eq_self 0
   simp only [gdK_bff, condK_bf, decide_true, decide_false, e_skip, e_reg, t_leaf, t_stop, t_op, e_seq, e_cond, e_block, e_loop, o_nil, o_cons, gd_none, gd_some, gdK_ff, putK_e, runK_e, vK_e, evh_v, seqK_n, evp, bin, gt, gq, st, putf, X.get, lens, Bool.not_true, true_and, and_true, s3t1, t2, t3]
   refine loop_atc (G := Nat × Bool) (fun g => [(16, .int .i64 g.1), (15, .bool g.2)]) (fun g => g.1 ≤ t.N 2001 ∧ (g.2 = true ↔ ∃ j, j < g.1 ∧ t.lo j ≤ S ∧ S ≤ t.hi 2001 j)) (fun g => t.N 2001 - g.1) (0, false) ⟨Nat.zero_le _, by simp⟩ ?_
   (intro fr1 hf1; simp only [forget, dstC, dstO, dstD, dst1, st] at hf1; subst hf1)
   refine ⟨?_, ?_⟩
   ·refine Lw_re 5 [] (Nat.zero_le _) (by simp [ln]) (by simp [ln]) rfl ?_ ?_
    ·simp only [reL, reX, inb, inb.inbs, ln, sts, st, Bool.and_self, Nat.reduceLT, Nat.reduceAdd, decide_true, and_self, Int.natCast_zero, implies_true]
    ·simp only [reL, reX, reH, reB, reN, inb, and_self, implies_true]
   ·rintro ⟨i, g⟩ ⟨hi1, hp⟩
    dsimp only at hi1 hp
    by_cases hlt : i < t.N 2001
    ·have n0 : ((i : Int) < ((t.N 2001 : Nat) : Int)) = True := eq_true (by omega)
     obtain ⟨b1, b2, b3⟩ := hB i hlt
     have n1 : (t.hi 2001 i - t.lo i > 2 * (b - a) + 2 * far) = False := eq_false (by omega)
     rcases g with _ | _
     ·simp only [gdK_bff, condK_bt, condK_bf, decide_true, decide_false, inr64, e_skip, e_reg, e_drw, e_seq, e_cond, e_block, o_nil, o_cons, gd_none, gd_some, gdK_ff, putK_e, runK_e, vK_e, conK_e, callK_e, evh_v, evh_call, dX_e, dG_t, d_nil, d_cons, tlK_n, loopK_n, seqK_n, blockK_n, gam_e, gamK_f, pc_e, pcK_e, fcC_e, fcK_e, evp, bin, gt, gq, st, putf, X.get, gets, ap, clV, clL, clS, clo, ld, lda, lens, ixs, tk, dr, gb, lk, evq, gdl, Nat.reduceAdd, Nat.reduceBEq, beq_self_eq_true, true_and, and_true, sts, Tw.row, Int.toNat_natCast, F8, n0, n1]
      repeat refine And.intro (by omega) ?_
      refine Nx.mk (i + 1, decide (t.lo i ≤ S ∧ S ≤ t.hi 2001 i)) ⟨by simp only; omega, ?_⟩ (by simp only; omega) (Lw_re 5 [] (Nat.zero_le _) (by simp [ln]) (by simp [ln]) rfl ?_ ?_)
      ·simp only [decide_eq_true_eq]; exact ⟨fun h => ⟨i, by omega, h⟩, fun ⟨j, h1, h2⟩ => by
        by_cases hj : j = i
        ·subst hj; exact h2
        ·exact absurd (hp.2 ⟨j, by omega, h2⟩) (by simp)⟩
      ·simp only [reL, reX, inb, inb.inbs, Bool.and_self, Nat.reduceLT, decide_true, and_self, Int.natCast_add, Int.natCast_one, implies_true]
      ·simp only [reL, reX, reH, reB, reN, inb, and_self, implies_true]
     ·simp only [gdK_bft, condK_bt, condK_bf, decide_true, decide_false, inr64, e_skip, e_reg, e_drw, e_seq, e_cond, e_block, o_nil, o_cons, gd_none, gd_some, gdK_tf, putK_e, runK_e, skipK_e, vK_e, evh_v, dX_e, dG_t, d_nil, d_cons, tlK_n, loopK_n, seqK_n, blockK_n, evp, bin, gt, gq, st, putf, X.get, ld, lda, lens, ixs, gb, evq, gdl, undef, Nat.reduceAdd, true_and, and_true, sts, Tw.row, Int.toNat_natCast, n0, n1]
      repeat refine And.intro (by omega) ?_
      refine Nx.mk (i + 1, true) ⟨by simp only; omega, ?_⟩ (by simp only; omega) (Lw_re 5 [] (Nat.zero_le _) (by simp [ln]) (by simp [ln]) rfl ?_ ?_)
      ·simp only [true_iff]; obtain ⟨j, h1, h2⟩ := hp.1 rfl; exact ⟨j, by omega, h2⟩
      ·simp only [reL, reX, inb, inb.inbs, Bool.and_self, Nat.reduceLT, decide_true, and_self, Int.natCast_add, Int.natCast_one, implies_true]
      ·simp only [reL, reX, reH, reB, reN, inb, and_self, implies_true]
    ·have n0 : ((i : Int) < ((t.N 2001 : Nat) : Int)) = False := eq_false (by omega)
     have hd : g = true := hp.2 ⟨j0, by omega, hj1⟩
     subst hd
     simp only [gdK_btt, condK_bf, decide_false, e_reg, e_seq, e_cond, e_exit, e_ret, o_nil, o_cons, gd_none, gd_some, putK_e, runK_e, vK_e, conK_e, callK_e, evh_v, evh_call, loopK_x, seqK_n, seqK_x, exitK_t, blockK_x, ends_r, endK1_e, endK2_e, gam_e, gamK_f, pc_e, pcK_e, fcC_e, fcK_e, evp, bin, gt, st, putf, X.get, gets, ap, rdR, tupled, clV, clL, clS, clo, lens, lk, Nat.reduceBEq, beq_self_eq_true, true_and, sts, n0, F9]
     exact res hK (by simp [leR])
  ·have t1 : decide ((-1000 ≤ n1 % 400 - 200 + x - b ∧ n1 % 400 - 200 + x - b ≤ n1 % 400 - 200 + x - a) ∧ n1 % 400 - 200 + x - a ≤ 1000) = false := decide_eq_false hsp
   have t2 : decide (n1 % 400 - 200 + x - b ≤ n1 % 400 - 200 ∧ n1 % 400 - 200 ≤ n1 % 400 - 200 + x - a) = true := decide_eq_true (by omega)
   have t3 : decide (a ≤ x ∧ x ≤ b) = true := decide_eq_true (by omega)
   simp only [dX_bf, gdK_btt, gdK_bff, condK_bt, inr64, e_reg, and_self, e_drw, e_seq, e_cond, e_ret, o_nil, o_cons, gd_none, gd_some, gdK_ff, putK_e, runK_e, vK_e, storeK3_e, storeK2_e, storeK_e, conK_e, callK_e, evh_v, evh_new, evh_store, evh_call, dX_e, dG_t, d_nil, d_cons, tlK_n, seqK_n, seqK_r, ends_r, endK1_e, endK2_e, gam_e, gamK_f, gamq_e, gamqK_f, pc_e, pcK_e, fcC_e, fcK_e, evp, bin, binB, gt, gq, st, putf, X.get, gets, ap, rdR, tupled, clV, clL, clS, clo, clo.clos, asB, ld, lda, tk, dr, sp, sp.spl, ll, cs1, one, allOne, gb, sb, pb, ln, lk, evq, gdl, Value.oneCell', Bool.and_true, Bool.not_true, Bool.not_false, Nat.reduceAdd, Nat.reduceMul, Nat.reduceBEq, beq_self_eq_true, true_and, Fmod, Fto, Fspd, F8, F9, t1, t2, t3, gq, Int.reduceToNat]
   repeat' (first | omega | (with_reducible refine And.intro ?_ ?_))
   exact res hK (by simp [leR])
end Go.Proofs.Ytplldhepmmjmmaa
