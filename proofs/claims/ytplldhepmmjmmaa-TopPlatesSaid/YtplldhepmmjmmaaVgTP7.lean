import Derived.Test.YtplldhepmmjmmaaVgTP6
namespace Go.Proofs.Ytplldhepmmjmmaa
open Go Go.Vg
set_option linter.unusedSimpArgs false
set_option linter.unusedVariables false
set_option maxRecDepth 10000
def s5 : SC :=
 (.seq (.reg [⟨(some 4), none, .v (.mov (.c (.int .i64 (0))))⟩])
 (.seq (.reg [⟨(some 6), none, .v (.mov (.t 0))⟩,
  ⟨(some 7), none, .v (.mov (.t 1))⟩,
  ⟨(some 8), none, .v (.bin .rem (.t 6) (.t 7))⟩,
  ⟨(some 5), none, .v (.mov (.t 8))⟩])
 (.seq (.seq (.reg [⟨(some 9), none, .v (.mov (.t 5))⟩,
  ⟨(some 10), none, .v (.bin .lss (.t 9) (.c (.int .i64 (0))))⟩])
 (.cond (.t 10)
  (.reg [⟨(some 11), none, .v (.mov (.t 5))⟩,
   ⟨(some 12), none, .v (.mov (.t 1))⟩,
   ⟨(some 13), none, .v (.bin .add (.t 11) (.t 12))⟩,
   ⟨(some 5), none, .v (.mov (.t 13))⟩])
  .skip))
 (.seq (.reg [⟨(some 14), none, .v (.mov (.t 5))⟩,
  ⟨(some 4), none, .v (.mov (.t 14))⟩])
 .ret))))
def r5 : List RV := [.t 4]
theorem k5 : (Try.f5.body.bind (cC Try.prog), cR Try.prog Try.f5.results.toList, Try.f5.ntmps) = (some s5, some r5, 15) := by kernel_rfl
theorem q5 : Known Try.prog 5 := ⟨_, Try.func5, by decide, by simp [Try.f5]⟩
def s10 : SC :=
 (.seq (.reg [⟨(some 2), none, .v (.mov (.c (.int .i64 (0))))⟩])
 (.seq (.reg [⟨(some 3), none, .v (.mov (.t 0))⟩,
  ⟨(some 4), none, .v (.mov (.t 0))⟩,
  ⟨(some 5), none, .v (.neg (.t 4))⟩,
  ⟨(some 6), none, .v (.max2 (.t 3) (.t 5))⟩,
  ⟨(some 2), none, .v (.mov (.t 6))⟩])
 .ret))
def r10 : List RV := [.t 2]
theorem k10 : (Try.f10.body.bind (cC Try.prog), cR Try.prog Try.f10.results.toList, Try.f10.ntmps) = (some s10, some r10, 7) := by kernel_rfl
theorem q10 : Known Try.prog 10 := ⟨_, Try.func10, by decide, by simp [Try.f10]⟩
theorem mx_eq (a b : Int) : (if a < b then b else a) = max a b := by split <;> omega
def Fmod : FC := fun args => match args with
 | [.int .i64 a, .int .i64 b] => some (0 < b ∧ b ≤ 9223372036854775807, .int .i64 (a % b))
 | _ => none
theorem p5 : PureOk Try.prog 5 (fcC Fmod) := by
 refine pure_of (T := []) trivial Try.func5 k5 ?_
 intro args K hC
 unfold fcC Fmod at hC
 split at hC <;> first | (exact hC.elim) | skip
 rename_i h
 split at h <;> first | (cases h; done) | skip
 cases h
 rename_i a b
 obtain ⟨⟨hb, hb2⟩, hK⟩ := hC
 have e := Int.tmod_eq_emod (a := a) (b := b)
 have h1 := Int.emod_nonneg a (show b ≠ 0 by omega)
 have h2 := Int.emod_lt_of_pos a hb
 have h3 : (b.natAbs : Int) = b := by omega
 simp only [inr64, ne_eq, e_skip, e_reg, e_seq, e_cond, e_ret, o_nil, o_cons, gd_none, putK_e, runK_e, vK_e, evh_v, seqK_n, condK_b, ends_r, endK1_e, endK2_e, evp, bin, gt, st, putf, X.get, mkfr, rep, rdR, tupled, clV, clS, clo, undef, Nat.reduceSub, true_and, decide_eq_true_eq, decide_eq_false_iff_not, s5, r5]
 have e2 : a.tmod b = a % b ∨ a.tmod b = a % b - b := by
  by_cases c : 0 ≤ a ∨ b ∣ a
  ·rw [if_pos c] at e; exact .inl (by simpa using e)
  ·rw [if_neg c, h3] at e; exact .inr e
 exact ⟨by omega, fun h => ⟨by omega, res hK (by simp [leR]; omega)⟩, fun h => res hK (by simp [leR]; omega)⟩
def Fabs : FC := fun args => match args with
 | [.int .i64 n] => some (-4611686018427387904 ≤ n ∧ n ≤ 4611686018427387904, .int .i64 (max n (-n)))
 | _ => none
theorem p10 : PureOk Try.prog 10 (fcC Fabs) := by
 refine pure_of (T := []) trivial Try.func10 k10 ?_
 intro args K hC
 unfold fcC Fabs at hC
 split at hC <;> first | (exact hC.elim) | skip
 rename_i h
 split at h <;> first | (cases h; done) | skip
 cases h
 obtain ⟨h1, hK⟩ := hC
 simp only [inr64, e_reg, e_seq, e_ret, o_nil, o_cons, gd_none, putK_e, runK_e, vK_e, evh_v, seqK_n, ends_r, endK1_e, endK2_e, evp, gt, st, putf, X.get, mkfr, rep, rdR, tupled, clV, clS, clo, undef, Nat.reduceSub, true_and, s10, r10, mx_eq]
 exact ⟨by omega, res hK (by simp [leR])⟩
def Fto : FC := fun args => match args with
 | [.int .i64 a, .int .i64 b] => some (True, .agg [.int .i64 a, .int .i64 b])
 | _ => none
def s4 : SC :=
 (.seq (.reg [⟨(some 2), none, .box 28 (.t 0)⟩,
  ⟨(some 4), none, .v (.mov (.c (.int .i64 (0))))⟩,
  ⟨(some 5), none, .new 31 [(.int .i64 (0)), (.int .i64 (0))]⟩,
  ⟨(some 6), none, .v (.mov (.c (.lit (.bool false))))⟩])
 (.seq (.reg [⟨(some 13), none, .v (.off (.t 2) 0)⟩,
  ⟨(some 14), none, .v (.load (.t 13) (some 2))⟩,
  ⟨(some 15), none, .v (.off (.t 2) 2)⟩,
  ⟨(some 16), none, .v (.load (.t 15) none)⟩,
  ⟨(some 17), none, .v (.off (.t 2) 3)⟩,
  ⟨(some 18), none, .v (.load (.t 17) none)⟩,
  ⟨(some 19), none, .call (.c (.fn 12 [])) [(.t 14), (.t 16), (.t 18)]⟩,
  ⟨(some 12), none, .v (.mov (.t 19))⟩,
  ⟨(some 20), none, .v (.ext (.t 12) 0)⟩,
  ⟨(some 21), none, .v (.ext (.t 12) 1)⟩,
  ⟨(some 7), none, .v (.mov (.t 20))⟩,
  ⟨(some 8), none, .v (.mov (.t 21))⟩])
 (.seq (.reg [⟨(some 23), none, .v (.off (.t 2) 0)⟩,
  ⟨(some 24), none, .v (.load (.t 23) (some 2))⟩,
  ⟨(some 25), none, .v (.off (.t 2) 2)⟩,
  ⟨(some 26), none, .v (.load (.t 25) none)⟩,
  ⟨(some 27), none, .call (.c (.fn 13 [])) [(.t 24), (.t 26)]⟩,
  ⟨(some 22), none, .v (.mov (.t 27))⟩,
  ⟨(some 28), none, .v (.ext (.t 22) 0)⟩,
  ⟨(some 29), none, .v (.ext (.t 22) 1)⟩,
  ⟨(some 9), none, .v (.mov (.t 28))⟩,
  ⟨(some 10), none, .v (.mov (.t 29))⟩])
 (.seq (.seq (.drw [(0, ⟨(some 30), none, .v (.mov (.t 8))⟩, false),
  (1, ⟨(some 31), none, .v (.bin .neq (.t 30) (.c (.int .i64 (0))))⟩, false),
  (2, ⟨(some 32), none, .v (.mov (.t 31))⟩, true),
  (3, ⟨(some 33), (some (32, false)), .v (.mov (.t 10))⟩, false),
  (4, ⟨(some 34), (some (32, false)), .v (.bin .neq (.t 33) (.c (.int .i64 (0))))⟩, false),
  (5, ⟨(some 35), none, .v (.pick (.t 32) (.c (.lit (.bool true))) (.t 34))⟩, false),
  (6, ⟨(some 36), none, .v (.mov (.t 35))⟩, true),
  (7, ⟨(some 37), (some (36, false)), .v (.mov (.t 7))⟩, false),
  (8, ⟨(some 38), (some (36, false)), .v (.not (.t 37))⟩, false),
  (9, ⟨(some 39), none, .v (.pick (.t 36) (.c (.lit (.bool true))) (.t 38))⟩, false),
  (10, ⟨(some 40), none, .v (.mov (.t 39))⟩, true),
  (11, ⟨(some 41), (some (40, false)), .v (.off (.t 2) 3)⟩, false),
  (12, ⟨(some 42), (some (40, false)), .v (.load (.t 41) none)⟩, false),
  (13, ⟨(some 43), (some (40, false)), .v (.len (.t 42))⟩, false),
  (14, ⟨(some 44), (some (40, false)), .v (.bin .eql (.t 43) (.c (.int .i64 (0))))⟩, false),
  (15, ⟨(some 45), none, .v (.pick (.t 40) (.c (.lit (.bool true))) (.t 44))⟩, false),
  (16, ⟨(some 46), none, .v (.mov (.t 45))⟩, true),
  (17, ⟨(some 47), (some (46, false)), .v (.mov (.t 9))⟩, false),
  (18, ⟨(some 48), (some (46, false)), .v (.len (.t 47))⟩, false),
  (19, ⟨(some 49), (some (46, false)), .v (.bin .eql (.t 48) (.c (.int .i64 (0))))⟩, false),
  (20, ⟨(some 50), none, .v (.pick (.t 46) (.c (.lit (.bool true))) (.t 49))⟩, false),
  (21, ⟨(some 51), none, .v (.mov (.t 50))⟩, true),
  (22, ⟨(some 52), (some (51, false)), .v (.off (.t 2) 3)⟩, false),
  (23, ⟨(some 53), (some (51, false)), .v (.load (.t 52) none)⟩, false),
  (24, ⟨(some 54), (some (51, false)), .v (.ixa (.t 53) (.c (.int .i64 (0))) 1)⟩, false),
  (25, ⟨(some 55), (some (51, false)), .v (.load (.t 54) none)⟩, false),
  (26, ⟨(some 56), (some (51, false)), .v (.len (.t 55))⟩, false),
  (27, ⟨(some 57), (some (51, false)), .v (.bin .eql (.t 56) (.c (.int .i64 (0))))⟩, false),
  (28, ⟨(some 58), none, .v (.pick (.t 51) (.c (.lit (.bool true))) (.t 57))⟩, false),
  (29, ⟨(some 59), none, .v (.mov (.t 58))⟩, true),
  (30, ⟨(some 60), (some (59, false)), .v (.mov (.t 9))⟩, false),
  (31, ⟨(some 61), (some (59, false)), .v (.ixa (.t 60) (.c (.int .i64 (0))) 1)⟩, false),
  (32, ⟨(some 62), (some (59, false)), .v (.load (.t 61) none)⟩, false),
  (33, ⟨(some 63), (some (59, false)), .v (.len (.t 62))⟩, false),
  (34, ⟨(some 64), (some (59, false)), .v (.off (.t 2) 3)⟩, false),
  (35, ⟨(some 65), (some (59, false)), .v (.load (.t 64) none)⟩, false),
  (36, ⟨(some 66), (some (59, false)), .v (.ixa (.t 65) (.c (.int .i64 (0))) 1)⟩, false),
  (37, ⟨(some 67), (some (59, false)), .v (.load (.t 66) none)⟩, false),
  (38, ⟨(some 68), (some (59, false)), .v (.len (.t 67))⟩, false)]
  none
  [⟨(some 69), (some (59, false)), .v (.bin .neq (.t 63) (.t 68))⟩,
  ⟨(some 70), none, .v (.pick (.t 59) (.c (.lit (.bool true))) (.t 69))⟩])
 (.cond (.t 70)
  (.seq (.reg [⟨(some 71), none, .bld [(.int .i64 (0)), (.int .i64 (0))] []⟩,
   ⟨(some 4), none, .v (.mov (.c (.int .i64 (0))))⟩,
   ⟨none, none, .store 2 (.t 5) (.t 71)⟩,
   ⟨(some 6), none, .v (.mov (.c (.lit (.bool false))))⟩])
  .ret)
  .skip))
 (.seq (.reg [⟨(some 72), none, .v (.mov (.t 1))⟩,
  ⟨(some 73), none, .v (.mov (.t 9))⟩,
  ⟨(some 74), none, .v (.ixa (.t 73) (.c (.int .i64 (0))) 1)⟩,
  ⟨(some 75), none, .v (.load (.t 74) none)⟩,
  ⟨(some 76), none, .v (.len (.t 75))⟩,
  ⟨(some 77), none, .call (.c (.fn 5 [])) [(.t 72), (.t 76)]⟩,
  ⟨(some 11), none, .v (.mov (.t 77))⟩])
 (.seq (.drw [(0, ⟨(some 78), none, .v (.off (.t 2) 3)⟩, false),
  (1, ⟨(some 79), none, .v (.load (.t 78) none)⟩, false),
  (2, ⟨(some 80), none, .v (.ixa (.t 79) (.c (.int .i64 (0))) 1)⟩, false),
  (3, ⟨(some 81), none, .v (.load (.t 80) none)⟩, false),
  (4, ⟨(some 82), none, .v (.mov (.t 11))⟩, false),
  (5, ⟨(some 83), none, .v (.ixa (.t 81) (.t 82) 1)⟩, false),
  (6, ⟨(some 84), none, .v (.load (.t 83) none)⟩, false),
  (7, ⟨(some 85), none, .v (.mov (.t 9))⟩, false),
  (8, ⟨(some 86), none, .v (.ixa (.t 85) (.c (.int .i64 (0))) 1)⟩, false),
  (9, ⟨(some 87), none, .v (.load (.t 86) none)⟩, false),
  (10, ⟨(some 88), none, .v (.mov (.t 11))⟩, false),
  (11, ⟨(some 89), none, .v (.ixa (.t 87) (.t 88) 2)⟩, false),
  (12, ⟨(some 90), none, .v (.load (.t 89) (some 2))⟩, false),
  (13, ⟨(some 4), none, .v (.mov (.t 84))⟩, false)]
  none
  [⟨none, none, .store 2 (.t 5) (.t 90)⟩,
  ⟨(some 6), none, .v (.mov (.c (.lit (.bool true))))⟩])
 .ret))))))
def r4 : List RV := [.t 4, .c 5 (some 2), .t 6]
theorem k4 : (Try.f4.body.bind (cC Try.prog), cR Try.prog Try.f4.results.toList, Try.f4.ntmps) = (some s4, some r4, 91) := by kernel_rfl
theorem q4 : Known Try.prog 4 := ⟨_, Try.func4, by decide, by simp [Try.f4]⟩
def s6 : SC :=
 (.seq (.reg [⟨(some 4), none, .new 31 [(.int .i64 (0)), (.int .i64 (0))]⟩])
 (.seq (.reg [⟨(some 5), none, .v (.mov (.t 0))⟩,
  ⟨(some 6), none, .v (.mov (.t 1))⟩,
  ⟨(some 7), none, .bld [(.int .i64 (0)), (.int .i64 (0))] [(0, 1, (.t 5)), (1, 1, (.t 6))]⟩,
  ⟨none, none, .store 2 (.t 4) (.t 7)⟩])
 .ret))
def r6 : List RV := [.c 4 (some 2)]
theorem k6 : (Try.f6.body.bind (cC Try.prog), cR Try.prog Try.f6.results.toList, Try.f6.ntmps) = (some s6, some r6, 8) := by kernel_rfl
theorem q6 : Known Try.prog 6 := ⟨_, Try.func6, by decide, by simp [Try.f6]⟩
def C4 : PC := fun args K => ∃ (T : List Int) (m : Int) (L : List Rdg) (N : Nat) (Y : Nat → List Int) (n : Int), args = [.agg [.ints .i64 T, .int .i64 m, .rd 6 L.length (rgR L), .rd 1 N fun i => [.ints .i64 (Y i)]], .int .i64 n] ∧
 ∀ e a b : Int, (-100000 ≤ a ∧ a ≤ e) ∧ (e ≤ b ∧ b ≤ 100000) → K (.tup [.int .i64 e, .agg [.int .i64 a, .int .i64 b], .bool (truE T m L N Y)])
theorem F11_e {T : List Int} {m : Int} {L : List Rdg} {N : Nat} {Y : Nat → List Int} {b : Bool} {c : Int} (hb : truE T m L N Y = b) (hc : chk T m L = c) :
  F12 [.agg [.ints .i64 T, .int .i64 m], .rd 6 L.length (rgR L), .rd 1 N fun i => [.ints .i64 (Y i)]] = some (True, .tup [.bool b, .int .i64 c]) := by
 have h1 : F12 [.agg [.ints .i64 T, .int .i64 m], .rd 6 L.length (rgR L), .rd 1 N fun i => [.ints .i64 (Y i)]] = some ((∀ i, i < L.length → rgR L i = (rdOf (rgR L i)).row) ∧ ((∀ i, i < N → [SV.ints .i64 (Y i)] = [.ints .i64 (gI [.ints .i64 (Y i)])]) ∨ (∀ i, i < N → [SV.ints .i64 (Y i)] = [.clip .i64 (gI [.ints .i64 (Y i)])])),
  .tup [.bool (truE T m (rdsOf L.length (rgR L)) N fun i => gI [.ints .i64 (Y i)]), .int .i64 (chk T m (rdsOf L.length (rgR L)))]) := rfl
 rw [h1, rdsOf_rgR, hc, show (fun i => gI [.ints .i64 (Y i)]) = Y from rfl, hb]
 exact congrArg some (Prod.ext (eq_true ⟨fun i _ => rfl, .inl fun i _ => rfl⟩) rfl)
set_option maxHeartbeats 1000000 in
theorem p4 : PureOk Try.prog 4 C4 := by
 refine pure_of (T := [(12, .fc F12), (13, .pc C13), (5, .fc Fmod)]) ⟨⟨p12, q12⟩, ⟨p13, q13⟩, ⟨p5, q5⟩, trivial⟩ Try.func4 k4 ?_
 rintro args K ⟨T, m, L, N, Y, n, rfl, hK⟩
 have e1 : ∀ x : Int, (x = x) = True := fun x => eq_self x
 have f40 : ((4 : Int) = 0) = False := eq_false (by decide)
 cases ht : truE T m L N Y with
 | false =>
  rw [ht] at hK
  have hk := hK 0 0 0 (by omega)
  have e11 := F11_e ht rfl
  simp only [e_reg, e_seq, o_nil, o_cons, gd_none, putK_e, runK_e, vK_e, boxK_e, conK_e, callK_e, evh_v, evh_new, evh_box, evh_call, seqK_n, gam_e, gamK_f, gamK_p, pc_e, pcK_e, fcC_e, fcK_e, evp, gt, gq, st, putf, X.get, gets, ap, mkfr, rep, clV, clL, clS, clo, ld, lda, tk, dr, cs1, gb, pb, ln, lk, undef, Nat.reduceSub, Nat.reduceAdd, Nat.reduceBEq, beq_self_eq_true, true_and, s4, r4, e11]
  refine ⟨T, m, L, rfl, ?_⟩
  by_cases h0 : chk T m L = 0
  ·cases htr : trR T m L with
   | none =>
    have e : spnS T m L = .tup [.lit (.slice none 0 0), .int .i64 4] := by simp [spnS, h0, htr]
    rw [e, h0]
    simp only [dX_bt, dX_bf, decide_true, decide_false, e_reg, and_self, e_drw, e_seq, e_cond, e_ret, o_nil, o_cons, gd_none, gd_some, gdK_tf, putK_e, runK_e, skipK_e, vK_e, bldK_e, storeK3_e, storeK2_e, storeK_e, evh_v, evh_bld, evh_store, dX_e, dX_l, dG_t, dG_f, d_nil, d_cons, tlK_n, seqK_n, seqK_r, condK_t, ends_r, endK1_e, endK2_e, evp, bin, gt, gq, st, putf, X.get, getp, rdR, tupled, clV, clL, clS, clo, ld, lda, lens, ixs, tk, dr, sp, sp.spl, lay, ll, cs1, one, allOne, gb, sb, evq, gdl, undef, Bool.and_true, Bool.not_true, Bool.not_false, Nat.reduceAdd, true_and, f40]
    exact res hk (by simp [leR, leR.leRs])
   | some d =>
    have e : spnS T m L = .tup [.rd 1 T.length (spW T d), .int .i64 0] := by simp [spnS, h0, htr]
    rw [e, h0]
    simp only [dX_bt, dX_bf, decide_true, e_reg, and_self, e_drw, e_seq, e_cond, e_ret, o_nil, o_cons, gd_none, gd_some, gdK_tf, putK_e, runK_e, skipK_e, vK_e, bldK_e, storeK3_e, storeK2_e, storeK_e, evh_v, evh_bld, evh_store, dX_e, dX_l, dG_t, dG_f, d_nil, d_cons, tlK_n, seqK_n, seqK_r, condK_t, ends_r, endK1_e, endK2_e, evp, bin, gt, gq, st, putf, X.get, getp, rdR, tupled, clV, clL, clS, clo, ld, lda, lens, ixs, tk, dr, sp, sp.spl, lay, ll, cs1, one, allOne, gb, sb, evq, gdl, undef, Bool.and_true, Bool.not_true, Bool.not_false, Nat.reduceAdd, true_and]
    exact res hk (by simp [leR, leR.leRs])
  ·have e : spnS T m L = .tup [.lit (.slice none 0 0), .int .i64 (chk T m L)] := by simp [spnS, h0]
   have t0 := eq_false h0
   rw [e]
   simp only [dX_bt, decide_false, e_reg, and_self, e_drw, e_seq, e_cond, e_ret, o_nil, o_cons, gd_none, gd_some, gdK_tf, putK_e, runK_e, skipK_e, vK_e, bldK_e, storeK3_e, storeK2_e, storeK_e, evh_v, evh_bld, evh_store, dX_e, dX_l, dG_t, dG_f, d_nil, d_cons, tlK_n, seqK_n, seqK_r, condK_t, ends_r, endK1_e, endK2_e, evp, bin, gt, gq, st, putf, X.get, getp, rdR, tupled, clV, clL, clS, clo, ld, lda, lens, ixs, tk, dr, sp, sp.spl, lay, ll, cs1, one, allOne, gb, sb, evq, gdl, undef, Bool.and_true, Bool.not_false, Nat.reduceAdd, true_and, t0]
   exact res hk (by simp [leR, leR.leRs])
 | true =>
  rw [ht] at hK
  have hc0 : chk T m L = 0 := by
   simp only [truE, Bool.and_eq_true, decide_eq_true_eq] at ht; exact ht.1
  obtain ⟨hs, hL⟩ := chk_0.1 hc0
  obtain ⟨⟨hT1, hT4⟩, hm, hT⟩ := okS_all hs
  have hh : haveE T m N Y = true := by
   simp only [truE, Bool.and_eq_true] at ht; exact ht.2.1
  obtain ⟨hN1, hrow⟩ := haveE_row hh
  obtain ⟨d, hd⟩ := tr_of hs hL (true_isT ht)
  have hin := tr_in (true_isT ht) hd
  have hbd := tr_bd hs hL hd
  obtain ⟨q1, q2, q3⟩ := hrow 0 (by omega)
  have hT0 := hT 0 (by omega)
  have hsp : ((spN T 0 : Nat) : Int) = T.getD 0 0 + 1 := by unfold spN; omega
  have e11 := F11_e ht hc0
  have e : spnS T m L = .tup [.rd 1 T.length (spW T d), .int .i64 0] := by simp [spnS, hc0, hd]
  have hm1 := Int.emod_nonneg n (show ((spN T 0 : Nat) : Int) ≠ 0 by omega)
  have hm2 := Int.emod_lt_of_pos n (show (0 : Int) < ((spN T 0 : Nat) : Int) by omega)
  have hiv := hin (n % ((spN T 0 : Nat) : Int)).toNat
  have hbv := hbd (n % ((spN T 0 : Nat) : Int)).toNat
  unfold errE at hiv
  rw [show (n % ((spN T 0 : Nat) : Int)).toNat / 9 = 0 by omega, show (n % ((spN T 0 : Nat) : Int)).toNat % 9 = (n % ((spN T 0 : Nat) : Int)).toNat by omega, if_pos (by omega)] at hiv
  have t1 : (((Y 0).length : Int) = 0) = False := eq_false (by omega)
  have t2 : ((N : Int) = 0) = False := eq_false (by omega)
  have t3 : ((T.length : Int) = 0) = False := eq_false (by omega)
  have t4 : (((spN T 0 : Nat) : Int) = ((Y 0).length : Int)) = True := eq_true (by omega)
  simp only [e_reg, e_seq, o_nil, o_cons, gd_none, putK_e, runK_e, vK_e, boxK_e, conK_e, callK_e, evh_v, evh_new, evh_box, evh_call, seqK_n, gam_e, gamK_f, gamK_p, pc_e, pcK_e, fcC_e, fcK_e, evp, gt, gq, st, putf, X.get, gets, ap, mkfr, rep, clV, clL, clS, clo, ld, lda, tk, dr, cs1, gb, pb, ln, lk, undef, Nat.reduceSub, Nat.reduceAdd, Nat.reduceBEq, beq_self_eq_true, true_and, s4, r4, e11]
  refine ⟨T, m, L, rfl, ?_⟩
  rw [e]
  simp only [dX_bf, condK_bf, decide_true, decide_false, e_skip, e_reg, and_self, e_drw, e_seq, e_cond, e_ret, o_nil, o_cons, gd_none, gd_some, gdK_ff, putK_e, runK_e, vK_e, storeK3_e, storeK2_e, storeK_e, conK_e, callK_e, evh_v, evh_store, evh_call, dX_e, dG_t, d_nil, d_cons, tlK_n, seqK_n, ends_r, endK1_e, endK2_e, gam_e, gamK_f, pc_e, pcK_e, fcC_e, fcK_e, evp, bin, gt, gq, st, putf, X.get, gets, ap, rdR, tupled, clV, clL, clS, clo, ld, lda, lens, ixs, tk, dr, sp, sp.spl, ll, cs1, one, allOne, gb, sb, lk, evq, gdl, Bool.and_true, Bool.not_true, Bool.not_false, Nat.reduceAdd, Nat.reduceMul, Nat.reduceBEq, beq_self_eq_true, true_and, t1, t2, t3, t4, Int.toNat_zero, spW, spC, Fmod]
  repeat' (first | omega | (with_reducible refine And.intro ?_ ?_))
  simp only [Nat.zero_add]
  exact res (hK _ _ _ ⟨⟨(hbv.1).1, hiv.1⟩, hiv.2, hbv.2⟩) (by simp [leR, leR.leRs])
theorem p6 : PureOk Try.prog 6 (fcC Fto) := by
 refine pure_of (T := []) trivial Try.func6 k6 ?_
 intro args K hC
 unfold fcC Fto at hC
 split at hC <;> first | (exact hC.elim) | skip
 rename_i h
 split at h <;> first | (cases h; done) | skip
 cases h
 obtain ⟨-, hK⟩ := hC
 simp only [↓reduceIte, e_reg, and_self, e_seq, e_ret, o_nil, o_cons, gd_none, putK_e, runK_e, vK_e, bldK_e, storeK3_e, storeK2_e, storeK_e, evh_v, evh_new, evh_bld, evh_store, seqK_n, ends_r, endK1_e, endK2_e, evp, gt, st, putf, X.get, getp, mkfr, rep, rdR, tupled, clV, clL, clS, clo, ld, tk, dr, sp, sp.spl, lay, ll, cs1, one, allOne, gb, sb, pb, ln, undef, Bool.and_true, Nat.reduceSub, Nat.reduceAdd, beq_self_eq_true, true_and, s6, r6]
 exact res hK (by simp [leR, leR.leRs])
end Go.Proofs.Ytplldhepmmjmmaa
