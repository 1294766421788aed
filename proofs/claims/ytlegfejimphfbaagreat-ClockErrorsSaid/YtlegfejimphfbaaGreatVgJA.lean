import Derived.Test.YtlegfejimphfbaaGreatVgHC
section
namespace Go.Proofs.YtlegfejimphfbaaGreat
open Go Go.Vg
set_option linter.unusedSimpArgs false
set_option linter.unusedVariables false
set_option maxRecDepth 10000
def s39 : SC :=
 (.seq (.reg [⟨(some 4), none, .v (.mov (.c (.int .i64 (0))))⟩])
 (.seq (.reg [⟨(some 6), none, .v (.mov (.t 0))⟩,
 ⟨(some 7), none, .v (.mov (.t 1))⟩,
 ⟨(some 8), none, .v (.bin .rem (.t 6) (.t 7))⟩,
 ⟨(some 5), none, .v (.mov (.t 8))⟩])
 (.seq (.seq (.reg [⟨(some 9), none, .v (.mov (.t 5))⟩,
 ⟨(some 10), none, .v (.bin .lss (.t 9) (.c (.int .i64 (0))))⟩])
 (.cond (.t 10)
 (.reg [⟨(some 11), none, .v (.mov (.t 5))⟩,
 ⟨(some 12), none, .v (.mov (.t 1))⟩,
 ⟨(some 13), none, .v (.bin .add (.t 11) (.t 12))⟩,
 ⟨(some 5), none, .v (.mov (.t 13))⟩])
 .skip))
 (.seq (.reg [⟨(some 14), none, .v (.mov (.t 5))⟩,
 ⟨(some 4), none, .v (.mov (.t 14))⟩])
 .ret))))
def r39 : List RV := [.t 4]
theorem k39 : (Tryz.f39.body.bind (cC Tryz.prog), cR Tryz.prog Tryz.f39.results.toList, Tryz.f39.ntmps) = (some s39, some r39, 15) := by kernel_rfl
theorem q39 : Known Tryz.prog 39 := ⟨_, Tryz.func39, by decide, by simp [Tryz.f39]⟩
def s38 : SC :=
 (.seq (.reg [⟨(some 6), none, .v (.mov (.c (.lit (.bool false))))⟩])
 (.seq (.reg [⟨(some 7), none, .v (.mov (.t 0))⟩,
 ⟨(some 8), none, .v (.mov (.t 1))⟩,
 ⟨(some 9), none, .v (.bin .geq (.t 7) (.t 8))⟩,
 ⟨(some 10), none, .v (.mov (.t 9))⟩,
 ⟨(some 11), (some (10, true)), .v (.mov (.t 0))⟩,
 ⟨(some 12), (some (10, true)), .v (.mov (.t 2))⟩,
 ⟨(some 13), (some (10, true)), .v (.bin .leq (.t 11) (.t 12))⟩,
 ⟨(some 14), none, .v (.pick (.t 10) (.t 13) (.c (.lit (.bool false))))⟩,
 ⟨(some 6), none, .v (.mov (.t 14))⟩])
 .ret))
def r38 : List RV := [.t 6]
theorem k38 : (Tryz.f38.body.bind (cC Tryz.prog), cR Tryz.prog Tryz.f38.results.toList, Tryz.f38.ntmps) = (some s38, some r38, 15) := by kernel_rfl
theorem q38 : Known Tryz.prog 38 := ⟨_, Tryz.func38, by decide, by simp [Tryz.f38]⟩
def s33 : SC :=
 (.seq (.reg [⟨(some 2), none, .box 25 (.t 0)⟩,
 ⟨(some 4), none, .v (.mov (.c (.lit (.bool false))))⟩])
 (.seq (.reg [⟨(some 5), none, .v (.mov (.t 1))⟩,
 ⟨(some 6), none, .v (.off (.t 2) 0)⟩,
 ⟨(some 7), none, .v (.load (.t 6) none)⟩,
 ⟨(some 8), none, .v (.off (.t 2) 1)⟩,
 ⟨(some 9), none, .v (.load (.t 8) none)⟩,
 ⟨(some 10), none, .call (.c (.fn 38 [])) [(.t 5), (.t 7), (.t 9)]⟩,
 ⟨(some 4), none, .v (.mov (.t 10))⟩])
 .ret))
def r33 : List RV := [.t 4]
theorem k33 : (Tryz.f33.body.bind (cC Tryz.prog), cR Tryz.prog Tryz.f33.results.toList, Tryz.f33.ntmps) = (some s33, some r33, 11) := by kernel_rfl
theorem q33 : Known Tryz.prog 33 := ⟨_, Tryz.func33, by decide, by simp [Tryz.f33]⟩
theorem p38 : PureOk Tryz.prog 38 (fcC Fin) := by
 refine pure_of (T := []) trivial Tryz.func38 k38 ?_
 intro args K hC
 unfold fcC Fin at hC
 split at hC <;> first | (exact hC.elim) | skip
 rename_i h
 split at h <;> first | (cases h; done) | skip
 cases h
 simp only [e_reg, e_seq, e_ret, o_nil, o_cons, gd_none, gd_some, gdK_tt, gdK_ft, gdK_bt, putK_e, runK_e, skipK_e, vK_e, evh_v, seqK_n, ends_r, endK1_e, endK2_e, evp, bin, gt, st, putf, X.get, mkfr, rep, rdR, tupled, clV, clS, clo, undef, Nat.reduceSub, true_and, decide_eq_true_eq, decide_eq_false_iff_not, s38, r38]
 exact ⟨fun h => res hC.2 (by simp [leR, h]), fun h => res hC.2 (by simp [leR, h])⟩
def Fmod : FC := fun args => match args with
 | [.int .i64 a, .int .i64 b] => some (0 < b ∧ b ≤ 9223372036854775807, .int .i64 (a % b))
 | _ => none
theorem p39 : PureOk Tryz.prog 39 (fcC Fmod) := by
 refine pure_of (T := []) trivial Tryz.func39 k39 ?_
 intro args K hC
 unfold fcC Fmod at hC
 split at hC <;> first | (exact hC.elim) | skip
 rename_i h
 split at h <;> first | (cases h; done) | skip
 cases h
 rename_i a b
 obtain ⟨⟨hb, hb2⟩, hK⟩ := hC
 have e := Int.tmod_eq_emod (a := a) (b := b)
 have h1 := Int.emod_nonneg a (show b ≠ 0 by omega)
 have h2 := Int.emod_lt_of_pos a hb
 have h3 : (b.natAbs : Int) = b := by omega
 simp only [inr64, ne_eq, e_skip, e_reg, e_seq, e_cond, e_ret, o_nil, o_cons, gd_none, putK_e, runK_e, vK_e, evh_v, seqK_n, condK_b, ends_r, endK1_e, endK2_e, evp, bin, gt, st, putf, X.get, mkfr, rep, rdR, tupled, clV, clS, clo, undef, Nat.reduceSub, true_and, decide_eq_true_eq, decide_eq_false_iff_not, s39, r39]
 have e2 : a.tmod b = a % b ∨ a.tmod b = a % b - b := by
  by_cases c : 0 ≤ a ∨ b ∣ a
  ·rw [if_pos c] at e; exact .inl (by simpa using e)
  ·rw [if_neg c, h3] at e; exact .inr e
 exact ⟨by omega, fun h => ⟨by omega, res hK (by simp [leR]; omega)⟩, fun h => res hK (by simp [leR]; omega)⟩
def Fhol : FC := fun args => match args with
 | [.agg [.int .i64 a, .int .i64 b], .int .i64 n] => some (True, .bool (decide (a ≤ n ∧ n ≤ b)))
 | _ => none
theorem p33 : PureOk Tryz.prog 33 (fcC Fhol) := by
 refine pure_of (T := [(38, .fc Fin)]) ⟨⟨p38, q38⟩, trivial⟩ Tryz.func33 k33 ?_
 intro args K hC
 unfold fcC Fhol at hC
 split at hC <;> first | (exact hC.elim) | skip
 rename_i h
 split at h <;> first | (cases h; done) | skip
 cases h
 obtain ⟨-, hK⟩ := hC
 simp only [e_reg, e_seq, e_ret, o_nil, o_cons, gd_none, putK_e, runK_e, vK_e, boxK_e, conK_e, callK_e, evh_v, evh_box, evh_call, seqK_n, ends_r, endK1_e, endK2_e, gam_e, gamK_f, pc_e, pcK_e, fcC_e, fcK_e, evp, gt, gq, st, putf, X.get, gets, ap, mkfr, rep, rdR, tupled, clV, clL, clS, clo, ld, lda, cs1, gb, pb, ln, lk, undef, Nat.reduceSub, Nat.reduceAdd, beq_self_eq_true, true_and, s33, r33, Fin]
 exact res hK (by simp [leR])
end Go.Proofs.YtlegfejimphfbaaGreat
end
section
namespace Go.Proofs.YtlegfejimphfbaaGreat
open Go Go.Vg
set_option linter.unusedSimpArgs false
set_option linter.unusedVariables false
set_option maxRecDepth 10000
def s40 : SC :=
 (.seq (.reg [⟨(some 3), none, .box 25 (.t 0)⟩,
 ⟨(some 6), none, .v (.mov (.c (.lit (.bool false))))⟩])
 (.seq (.reg [⟨(some 7), none, .v (.mov (.t 1))⟩,
 ⟨(some 8), none, .v (.off (.t 3) 0)⟩,
 ⟨(some 9), none, .v (.load (.t 8) none)⟩,
 ⟨(some 10), none, .v (.bin .leq (.t 7) (.t 9))⟩,
 ⟨(some 11), none, .v (.mov (.t 10))⟩,
 ⟨(some 12), (some (11, true)), .v (.off (.t 3) 0)⟩,
 ⟨(some 13), (some (11, true)), .v (.load (.t 12) none)⟩,
 ⟨(some 14), (some (11, true)), .v (.off (.t 3) 1)⟩,
 ⟨(some 15), (some (11, true)), .v (.load (.t 14) none)⟩,
 ⟨(some 16), (some (11, true)), .v (.bin .leq (.t 13) (.t 15))⟩,
 ⟨(some 17), none, .v (.pick (.t 11) (.t 16) (.c (.lit (.bool false))))⟩,
 ⟨(some 18), none, .v (.mov (.t 17))⟩,
 ⟨(some 19), (some (18, true)), .v (.off (.t 3) 1)⟩,
 ⟨(some 20), (some (18, true)), .v (.load (.t 19) none)⟩,
 ⟨(some 21), (some (18, true)), .v (.mov (.t 2))⟩,
 ⟨(some 22), (some (18, true)), .v (.bin .leq (.t 20) (.t 21))⟩,
 ⟨(some 23), none, .v (.pick (.t 18) (.t 22) (.c (.lit (.bool false))))⟩,
 ⟨(some 6), none, .v (.mov (.t 23))⟩])
 .ret))
def r40 : List RV := [.t 6]
def n40 : Nat := 24
theorem k40 : (Tryz.f40.body.bind (cC Tryz.prog), cR Tryz.prog Tryz.f40.results.toList, Tryz.f40.ntmps) = (some s40, some r40, 24) := by kernel_rfl
theorem q40 : Known Tryz.prog 40 := ⟨_, Tryz.func40, by decide, by simp [Tryz.f40]⟩
def s79 : SC :=
 (.seq (.reg [⟨(some 4), none, .v (.mov (.c (.int .i64 (0))))⟩])
 (.seq (.reg [⟨(some 5), none, .v (.mov (.t 0))⟩,
 ⟨(some 6), none, .v (.mov (.t 0))⟩,
 ⟨(some 7), none, .v (.mov (.t 1))⟩,
 ⟨(some 8), none, .call (.c (.fn 39 [])) [(.t 6), (.t 7)]⟩,
 ⟨(some 9), none, .v (.bin .sub (.t 5) (.t 8))⟩,
 ⟨(some 10), none, .v (.mov (.t 1))⟩,
 ⟨(some 11), none, .v (.bin .quo (.t 9) (.t 10))⟩,
 ⟨(some 4), none, .v (.mov (.t 11))⟩])
 .ret))
def r79 : List RV := [.t 4]
def n79 : Nat := 12
theorem k79 : (Tryz.f79.body.bind (cC Tryz.prog), cR Tryz.prog Tryz.f79.results.toList, Tryz.f79.ntmps) = (some s79, some r79, 12) := by kernel_rfl
theorem q79 : Known Tryz.prog 79 := ⟨_, Tryz.func79, by decide, by simp [Tryz.f79]⟩
def s17 : SC :=
 (.seq (.reg [⟨(some 1), none, .box 27 (.t 0)⟩,
 ⟨(some 2), none, .v (.mov (.c (.int .i64 (0))))⟩])
 (.seq (.reg [⟨(some 5), none, .v (.off (.t 1) 0)⟩,
 ⟨(some 6), none, .v (.load (.t 5) none)⟩,
 ⟨(some 7), none, .v (.len (.t 6))⟩,
 ⟨(some 8), none, .call (.c (.fn 38 [])) [(.t 7), (.c (.int .i64 (2))), (.c (.int .i64 (8)))]⟩,
 ⟨(some 9), none, .v (.mov (.t 8))⟩,
 ⟨(some 10), (some (9, true)), .v (.off (.t 1) 1)⟩,
 ⟨(some 11), (some (9, true)), .v (.load (.t 10) none)⟩,
 ⟨(some 12), (some (9, true)), .v (.len (.t 11))⟩,
 ⟨(some 13), (some (9, true)), .v (.off (.t 1) 0)⟩,
 ⟨(some 14), (some (9, true)), .v (.load (.t 13) none)⟩,
 ⟨(some 15), (some (9, true)), .v (.len (.t 14))⟩,
 ⟨(some 16), (some (9, true)), .v (.bin .eql (.t 12) (.t 15))⟩,
 ⟨(some 17), none, .v (.pick (.t 9) (.t 16) (.c (.lit (.bool false))))⟩,
 ⟨(some 18), none, .v (.mov (.t 17))⟩,
 ⟨(some 19), (some (18, true)), .v (.off (.t 1) 2)⟩,
 ⟨(some 20), (some (18, true)), .v (.load (.t 19) (some 2))⟩,
 ⟨(some 21), (some (18, true)), .call (.c (.fn 40 [])) [(.t 20), (.c (.int .i64 (-1000))), (.c (.int .i64 (1000)))]⟩,
 ⟨(some 22), none, .v (.pick (.t 18) (.t 21) (.c (.lit (.bool false))))⟩,
 ⟨(some 23), none, .v (.mov (.t 22))⟩,
 ⟨(some 24), (some (23, true)), .v (.off (.t 1) 4)⟩,
 ⟨(some 25), (some (23, true)), .v (.load (.t 24) (some 2))⟩,
 ⟨(some 26), (some (23, true)), .call (.c (.fn 40 [])) [(.t 25), (.c (.int .i64 (-10000000))), (.c (.int .i64 (10000000)))]⟩,
 ⟨(some 27), none, .v (.pick (.t 23) (.t 26) (.c (.lit (.bool false))))⟩,
 ⟨(some 3), none, .v (.mov (.t 27))⟩])
 (.seq (.seq (.reg [⟨(some 4), none, .v (.mov (.c (.int .i64 (0))))⟩])
 (.block 0 (.loop
 (.seq (.seq (.reg [⟨(some 28), none, .v (.mov (.t 3))⟩,
 ⟨(some 29), none, .v (.mov (.t 28))⟩,
 ⟨(some 30), (some (29, true)), .v (.mov (.t 4))⟩,
 ⟨(some 31), (some (29, true)), .v (.off (.t 1) 0)⟩,
 ⟨(some 32), (some (29, true)), .v (.load (.t 31) none)⟩,
 ⟨(some 33), (some (29, true)), .v (.len (.t 32))⟩,
 ⟨(some 34), (some (29, true)), .v (.bin .lss (.t 30) (.t 33))⟩,
 ⟨(some 35), none, .v (.pick (.t 29) (.t 34) (.c (.lit (.bool false))))⟩])
 (.cond (.t 35)
 .skip
 (.exit 0)))
 (.seq (.block 1 (.drw [(0, ⟨(some 38), none, .v (.off (.t 1) 0)⟩, false),
 (1, ⟨(some 39), none, .v (.load (.t 38) none)⟩, false),
 (2, ⟨(some 40), none, .v (.mov (.t 4))⟩, false),
 (3, ⟨(some 41), none, .v (.ixa (.t 39) (.t 40) 1)⟩, false),
 (4, ⟨(some 42), none, .v (.load (.t 41) none)⟩, false),
 (5, ⟨(some 43), none, .call (.c (.fn 38 [])) [(.t 42), (.c (.int .i64 (0))), (.c (.int .i64 (60)))]⟩, false),
 (6, ⟨(some 44), none, .v (.mov (.t 43))⟩, true),
 (7, ⟨(some 45), (some (44, true)), .v (.mov (.t 4))⟩, false),
 (8, ⟨(some 46), (some (44, true)), .v (.bin .eql (.t 45) (.c (.int .i64 (0))))⟩, false),
 (9, ⟨(some 47), (some (44, true)), .v (.mov (.t 46))⟩, true),
 (10, ⟨(some 48), (some (47, false)), .v (.off (.t 1) 0)⟩, false),
 (11, ⟨(some 49), (some (47, false)), .v (.load (.t 48) none)⟩, false),
 (12, ⟨(some 50), (some (47, false)), .v (.mov (.t 4))⟩, false),
 (13, ⟨(some 51), (some (47, false)), .v (.ixa (.t 49) (.t 50) 1)⟩, false),
 (14, ⟨(some 52), (some (47, false)), .v (.load (.t 51) none)⟩, false),
 (15, ⟨(some 53), (some (47, false)), .v (.off (.t 1) 0)⟩, false),
 (16, ⟨(some 54), (some (47, false)), .v (.load (.t 53) none)⟩, false),
 (17, ⟨(some 55), (some (47, false)), .v (.mov (.t 4))⟩, false),
 (18, ⟨(some 56), (some (47, false)), .v (.bin .sub (.t 55) (.c (.int .i64 (1))))⟩, false),
 (19, ⟨(some 57), (some (47, false)), .v (.ixa (.t 54) (.t 56) 1)⟩, false),
 (20, ⟨(some 58), (some (47, false)), .v (.load (.t 57) none)⟩, false),
 (21, ⟨(some 59), (some (47, false)), .v (.bin .gtr (.t 52) (.t 58))⟩, false),
 (22, ⟨(some 60), (some (44, true)), .v (.pick (.t 47) (.c (.lit (.bool true))) (.t 59))⟩, false),
 (23, ⟨(some 61), none, .v (.pick (.t 44) (.t 60) (.c (.lit (.bool false))))⟩, false),
 (24, ⟨(some 62), none, .v (.mov (.t 61))⟩, true),
 (25, ⟨(some 63), (some (62, true)), .v (.off (.t 1) 1)⟩, false),
 (26, ⟨(some 64), (some (62, true)), .v (.load (.t 63) none)⟩, false),
 (27, ⟨(some 65), (some (62, true)), .v (.mov (.t 4))⟩, false)]
 none
 [⟨(some 66), (some (62, true)), .v (.ixa (.t 64) (.t 65) 2)⟩,
 ⟨(some 67), (some (62, true)), .v (.load (.t 66) (some 2))⟩,
 ⟨(some 68), (some (62, true)), .call (.c (.fn 40 [])) [(.t 67), (.c (.int .i64 (-100000))), (.c (.int .i64 (100000)))]⟩,
 ⟨(some 69), none, .v (.pick (.t 62) (.t 68) (.c (.lit (.bool false))))⟩,
 ⟨(some 3), none, .v (.mov (.t 69))⟩]))
 (.reg [⟨(some 36), none, .v (.mov (.t 4))⟩,
 ⟨(some 37), none, .v (.bin .add (.t 36) (.c (.int .i64 (1))))⟩,
 ⟨(some 4), none, .v (.mov (.t 37))⟩]))))))
 (.seq (.seq (.reg [⟨(some 70), none, .v (.mov (.t 3))⟩,
 ⟨(some 71), none, .v (.not (.t 70))⟩])
 (.cond (.t 71)
 (.seq (.reg [⟨(some 2), none, .v (.mov (.c (.int .i64 (70))))⟩])
 .ret)
 .skip))
 (.seq (.reg [⟨(some 2), none, .v (.mov (.c (.int .i64 (0))))⟩])
 .ret)))))
def r17 : List RV := [.t 2]
def n17 : Nat := 72
theorem k17 : (Tryz.f17.body.bind (cC Tryz.prog), cR Tryz.prog Tryz.f17.results.toList, Tryz.f17.ntmps) = (some s17, some r17, 72) := by kernel_rfl
theorem q17 : Known Tryz.prog 17 := ⟨_, Tryz.func17, by decide, by simp [Tryz.f17]⟩
def F21 : FC := fun args => match args with
 | [] => some (True, .lit (.bool true))
 | _ => none
theorem dX_l {s : St} {d} {r : St → Prop} {v} : dX true (.lit v) d r s = r ⟨putf s.fr d (.lit v), s.hp⟩ := rfl
theorem p40 : PureOk Tryz.prog 40 (fcC Fsp) := by
 refine pure_of (T := []) trivial Tryz.func40 k40 ?_
 intro args K hC
 unfold fcC Fsp at hC
 split at hC <;> first | (exact hC.elim) | skip
 rename_i h
 split at h <;> first | (cases h; done) | skip
 cases h
 obtain ⟨-, hK⟩ := hC
 simp only [e_reg, e_seq, e_ret, o_nil, o_cons, gd_none, gd_some, gdK_tt, gdK_ft, gdK_bt, putK_e, runK_e, skipK_e, vK_e, boxK_e, evh_v, evh_box, seqK_n, ends_r, endK1_e, endK2_e, evp, bin, gt, gq, st, putf, X.get, mkfr, rep, rdR, tupled, clV, clS, clo, ld, lda, cs1, gb, pb, ln, undef, Nat.reduceSub, Nat.reduceAdd, true_and, decide_eq_true_eq, decide_eq_false_iff_not, s40, r40]
 exact ⟨fun h1 => ⟨fun h2 => res hK (by simp [leR, h1, h2]), fun h2 => res hK (by simp [leR, h1, h2])⟩, fun h1 => res hK (by simp [leR, h1])⟩
theorem p79 : PureOk Tryz.prog 79 (fcC Fdwn) := by
 refine pure_of (T := [(39, .fc Fmod)]) ⟨⟨p39, q39⟩, trivial⟩ Tryz.func79 k79 ?_
 intro args K hC
 unfold fcC Fdwn at hC
 split at hC <;> first | (exact hC.elim) | skip
 rename_i h
 split at h <;> first | (cases h; done) | skip
 cases h
 rename_i a b
 obtain ⟨⟨hb, hb2, ha, ha2⟩, hK⟩ := hC
 have h1 := Int.emod_nonneg a (show b ≠ 0 by omega)
 have h2 := Int.emod_lt_of_pos a hb
 have e1 : a - a % b = b * (a / b) := by have := Int.emod_add_mul_ediv a b; omega
 have e2 : (a - a % b).tdiv b = a / b := by rw [e1]; exact Int.mul_tdiv_cancel_left _ (by omega)
 have e3 : -4611686018427387904 ≤ a / b := Int.le_ediv_of_mul_le hb (by omega)
 have e4 : a / b ≤ 4611686018427387904 := Int.ediv_le_of_le_mul hb (by omega)
 simp only [inr64, ne_eq, e_reg, e_seq, e_ret, o_nil, o_cons, gd_none, putK_e, runK_e, vK_e, conK_e, callK_e, evh_v, evh_call, seqK_n, ends_r, endK1_e, endK2_e, gam_e, gamK_f, pc_e, pcK_e, fcC_e, fcK_e, evp, bin, gt, st, putf, X.get, gets, ap, mkfr, rep, rdR, tupled, clV, clL, clS, clo, lk, undef, Nat.reduceSub, beq_self_eq_true, true_and, s79, r79, Fmod]
 rw [e2]
 exact ⟨⟨hb, by omega⟩, by omega, ⟨by omega, by omega, by omega⟩, res hK (by simp [leR])⟩
theorem loop_once {N : Nat} {body : (Exit → St → Prop) → St → Prop} {K : Exit → St → Prop} {s : St} (h : body (loopK K fun _ => False) s) : LoopP N body K s := by
 refine ⟨fun n s' => n = 0 ∧ s' = s, ⟨0, s, fun E a _ hn hr => ⟨E, Env.Le.xt (.refl E) hn, rfl, hr⟩, rfl, rfl⟩, ?_⟩
 rintro n s' ⟨rfl, rfl⟩
 have e : (fun s'' : St => ∃ m s3, m < 0 ∧ Lw N s'' s3 ∧ (m = 0 ∧ s3 = s')) = fun _ => False := by
  funext x
  exact propext ⟨fun ⟨m, _, h, _⟩ => by omega, fun h => h.elim⟩
 rw [e]; exact h
theorem ris_snoc : ∀ {T : List Int} {l : Int} {i : Nat}, i < T.length → risF l (T.take (i + 1)) = (risF l (T.take i) && decide ((if i = 0 then l else T.getD (i - 1) 0 + 1) ≤ T.getD i 0 ∧ T.getD i 0 ≤ 60))
 | [], l, i, h => by simp at h
 | t :: ts, l, 0, h => by simp [risF]
 | t :: ts, l, i + 1, h => by
  have := ris_snoc (T := ts) (l := t + 1) (i := i) (by simpa using h)
  simp only [List.take_succ_cons, risF, this, Bool.and_assoc]
  cases i with
  | zero => simp [List.getD]
  | succ i => simp [List.getD]
theorem ris_le : ∀ {T : List Int} {l : Int}, risF l T = true → ∀ x ∈ T, l ≤ x
 | [], l, h => by simp
 | t :: ts, l, h => by
  simp only [risF, Bool.and_eq_true, decide_eq_true_eq] at h
  intro x hx
  rcases List.mem_cons.1 hx with rfl | hx
  ·exact h.1.1
  ·have := ris_le h.2 x hx; omega
theorem ris_step {T : List Int} {i : Nat} (hi : i < T.length) (h : risF 0 (T.take i) = true) : risF 0 (T.take (i + 1)) = decide ((0 ≤ T.getD i 0 ∧ T.getD i 0 ≤ 60) ∧ (i = 0 ∨ T.getD (i - 1) 0 < T.getD i 0)) := by
 rw [ris_snoc hi, h, Bool.true_and]
 by_cases h0 : i = 0
 ·subst h0; simp
 ·have hm : T.getD (i - 1) 0 ∈ T.take i := by
   rw [List.mem_take_iff_getElem]
   exact ⟨i - 1, by omega, by simp [List.getD, show i - 1 < T.length by omega]⟩
  have := ris_le h _ hm
  congr 1
  rw [eq_iff_iff, if_neg h0]
  omega
theorem ris_take : ∀ {T : List Int} {l : Int} {i : Nat}, risF l T = true → risF l (T.take i) = true
 | [], l, i, h => by simpa using h
 | t :: ts, l, 0, h => by simp [risF]
 | t :: ts, l, i + 1, h => by
  simp only [List.take_succ_cons, risF, Bool.and_eq_true] at h ⊢
  exact ⟨h.1, ris_take h.2⟩
theorem p17 : PureOk Tryz.prog 17 C16 := by
 refine pure_of (T := [(38, .fc Fin), (40, .fc Fsp)]) ⟨⟨p38, q38⟩, ⟨p40, q40⟩, trivial⟩ Tryz.func17 k17 ?_
 rintro args K ⟨⟨T, R, a, b, e, g⟩, rfl, hK⟩
 have hn : ¬ Ck.ok ⟨T, R, a, b, e, g⟩ → ∃ r', K r' ∧ leR 4 (SV.int .i64 70) r' := fun h => by rw [Ck.chk, if_neg h] at hK; exact res hK (by simp [leR])
 simp only [Ck.sv]
 simp only [e_reg, e_seq, e_block, e_loop, o_nil, o_cons, gd_none, gd_some, gdK_tt, gdK_ft, gdK_bt, putK_e, runK_e, skipK_e, vK_e, boxK_e, conK_e, callK_e, evh_v, evh_box, evh_call, seqK_n, gam_e, gamK_f, pc_e, pcK_e, fcC_e, fcK_e, evp, bin, gt, gq, st, putf, X.get, gets, ap, mkfr, rep, clV, clL, clS, clo, ld, lda, lens, tk, dr, cs1, gb, pb, ln, lk, undef, Nat.reduceSub, Nat.reduceAdd, Nat.reduceBEq, beq_self_eq_true, true_and, decide_eq_true_eq, decide_eq_false_iff_not, s17, r17, Fin, Fsp]
 refine ⟨fun h1 => ⟨fun h2 => ⟨fun h3 => ?_, fun h3 => ?_⟩, fun h2 => ?_⟩, fun h1 => ?_⟩
 ·refine loop_at2 (G := Nat) (fun i => [(4, .int .i64 i), (3, .bool (decide ((-10000000 ≤ e ∧ e ≤ g) ∧ g ≤ 10000000) && (risF 0 (T.take i) && (R.take i).all (spE (-100000) 100000))))])
   (fun _ => [.box 27 [.ints .i64 T, .rd 2 R.length (rowsS R), .int .i64 a, .int .i64 b, .int .i64 e, .int .i64 g]]) (fun i => i ≤ T.length) (fun i => T.length - i) 0 (Nat.zero_le _) ?_
  (intro fr1 hf1; simp only [forget, dstC, dstO, dstD, dst1, st] at hf1; subst hf1)
  refine ⟨?_, ?_⟩
  ·refine Lw_re 1 [] (Nat.zero_le _) (by simp [ln]) (by simp [ln]) rfl ?_ ?_
   ·simp only [reL, reX, inb, inb.inbs, ln, sts, st, Bool.and_self, Bool.and_true, Nat.reduceLT, Nat.reduceAdd, decide_true, and_self, Int.natCast_zero, List.take_zero, List.all_nil, Bool.and_true, risF, implies_true]
   ·simp only [reL, reX, reH, reB, reN, inb, true_and, and_true, and_self]
    exact fun _ _ => trivial
  ·intro i hi1
   simp only [inr64, e_skip, e_reg, e_drw, e_seq, e_cond, e_block, e_exit, e_ret, o_nil, o_cons, gd_none, gd_some, gdK_tt, gdK_ft, gdK_bt, putK_e, runK_e, skipK_e, vK_e, conK_e, callK_e, evh_v, evh_call, dX_e, dX_b, dX_l, dG_t, dG_f, d_nil, d_cons, tlK_n, loopK_n, loopK_x, seqK_n, seqK_x, seqK_r, condK_f, condK_b, exitK_t, blockK_x, blockK_n, ends_r, endK1_e, endK2_e, gam_e, gamK_f, gamq_e, gamqK_f, pc_e, pcK_e, fcC_e, fcK_e, evp, bin, gt, gq, st, putf, X.get, gets, ap, rdR, tupled, clV, clL, clS, clo, clo.clos, ld, lda, lens, ixs, tk, dr, gb, lk, evq, gdl, undef, Bool.and_true, Bool.not_true, Bool.not_false, Nat.reduceAdd, Nat.reduceBEq, beq_self_eq_true, true_and, decide_eq_true_eq, decide_eq_false_iff_not, Bool.not_eq_eq_eq_not, sts, Int.toNat_natCast, rowsS, Fin, Fsp]
   have hsp : spE (-100000) 100000 (R.getD i (0, 0)) = decide ((-100000 ≤ lo R i ∧ lo R i ≤ hi R i) ∧ hi R i ≤ 100000) := rfl
   have hst : (decide ((-10000000 ≤ e ∧ e ≤ g) ∧ g ≤ 10000000) && (risF 0 (T.take i) && (R.take i).all (spE (-100000) 100000))) = true → i < T.length →
     (decide ((-10000000 ≤ e ∧ e ≤ g) ∧ g ≤ 10000000) && (risF 0 (T.take (i + 1)) && (R.take (i + 1)).all (spE (-100000) 100000))) = (decide ((0 ≤ T.getD i 0 ∧ T.getD i 0 ≤ 60) ∧ (i = 0 ∨ T.getD (i - 1) 0 < T.getD i 0)) && decide ((-100000 ≤ lo R i ∧ lo R i ≤ hi R i) ∧ hi R i ≤ 100000)) := by
    intro h ha
    simp only [Bool.and_eq_true] at h
    rw [h.1, allS_snoc (show i < R.length by omega), h.2.2, ris_step ha h.2.1, hsp, Bool.true_and, Bool.true_and]
   have hko : (decide ((-10000000 ≤ e ∧ e ≤ g) ∧ g ≤ 10000000) && (risF 0 (T.take i) && (R.take i).all (spE (-100000) 100000))) = false → ∃ r', K r' ∧ leR 4 (SV.int .i64 70) r' := fun h => hn fun hok => by
    have e1 : (R.take i).all (spE (-100000) 100000) = true := by
     have h9 := hok.1.2.2.2
     rw [List.all_eq_true] at h9 ⊢
     exact fun x hx => h9 x (List.mem_of_mem_take hx)
    have e2 : risF 0 (T.take i) = true := ris_take hok.1.2.1
    have e3 := hok.2.2
    simp only at e3
    rw [e1, e2, decide_eq_true e3] at h
    cases h
   have nat1 : ((i : Int) - 1).toNat = i - 1 := by omega
   refine ⟨fun h => ⟨fun h4 => ⟨⟨by omega, by omega⟩, fun h5 => ⟨fun h6 => ⟨⟨by omega, by omega⟩, ⟨by omega, by omega⟩, ?_⟩, fun h6 => ⟨⟨by omega, by omega⟩, ⟨by omega, by omega⟩, ⟨by omega, by omega⟩, fun h7 => ⟨⟨by omega, by omega⟩, ⟨by omega, by omega⟩, ?_⟩, fun h7 => ⟨⟨by omega, by omega⟩, ?_⟩⟩⟩, fun h5 => ⟨⟨by omega, by omega⟩, ?_⟩⟩, fun h4 => ⟨hko, fun _ => ?_⟩⟩, fun h => ⟨hko, fun h' => by rw [h] at h'; cases h'⟩⟩
   ·have ha : i < T.length := by omega
    have e1 := hst h ha
    rw [decide_eq_true (show (0 ≤ T.getD i 0 ∧ T.getD i 0 ≤ 60) ∧ (i = 0 ∨ T.getD (i - 1) 0 < T.getD i 0) from ⟨h5, .inl (by omega)⟩), Bool.true_and] at e1
    rw [← e1]
    refine Nx.mk (i + 1) (by show i + 1 ≤ T.length; omega) (by show T.length - (i + 1) < T.length - i; omega) (Lw_re 1 [] (Nat.zero_le _) (by simp [ln]) (by simp [ln]) rfl ?_ ?_)
    ·simp only [reL, reX, inb, inb.inbs, Bool.and_self, Nat.reduceLT, decide_true, and_self, Int.natCast_add, Int.natCast_one, implies_true]
    ·simp only [reL, reX, reH, reB, reN, inb, and_self, implies_true]
   ·have ha : i < T.length := by omega
    have e1 := hst h ha
    rw [nat1] at h7
    rw [decide_eq_true (show (0 ≤ T.getD i 0 ∧ T.getD i 0 ≤ 60) ∧ (i = 0 ∨ T.getD (i - 1) 0 < T.getD i 0) from ⟨h5, .inr h7⟩), Bool.true_and] at e1
    rw [← e1]
    refine Nx.mk (i + 1) (by show i + 1 ≤ T.length; omega) (by show T.length - (i + 1) < T.length - i; omega) (Lw_re 1 [] (Nat.zero_le _) (by simp [ln]) (by simp [ln]) rfl ?_ ?_)
    ·simp only [reL, reX, inb, inb.inbs, Bool.and_self, Nat.reduceLT, decide_true, and_self, Int.natCast_add, Int.natCast_one, implies_true]
    ·simp only [reL, reX, reH, reB, reN, inb, and_self, implies_true]
   ·have ha : i < T.length := by omega
    have e1 := hst h ha
    rw [nat1] at h7
    rw [decide_eq_false (show ¬ ((0 ≤ T.getD i 0 ∧ T.getD i 0 ≤ 60) ∧ (i = 0 ∨ T.getD (i - 1) 0 < T.getD i 0)) by omega), Bool.false_and] at e1
    refine Nx.mk (i + 1) (by show i + 1 ≤ T.length; omega) (by show T.length - (i + 1) < T.length - i; omega) (Lw_re 1 [] (Nat.zero_le _) (by simp [ln]) (by simp [ln]) rfl ?_ ?_)
    ·simp only [reL, reX, inb, inb.inbs, Bool.and_self, Nat.reduceLT, decide_true, and_self, Int.natCast_add, Int.natCast_one, implies_true, e1]
    ·simp only [reL, reX, reH, reB, reN, inb, and_self, implies_true]
   ·have ha : i < T.length := by omega
    have e1 := hst h ha
    rw [decide_eq_false (show ¬ ((0 ≤ T.getD i 0 ∧ T.getD i 0 ≤ 60) ∧ (i = 0 ∨ T.getD (i - 1) 0 < T.getD i 0)) by omega), Bool.false_and] at e1
    refine Nx.mk (i + 1) (by show i + 1 ≤ T.length; omega) (by show T.length - (i + 1) < T.length - i; omega) (Lw_re 1 [] (Nat.zero_le _) (by simp [ln]) (by simp [ln]) rfl ?_ ?_)
    ·simp only [reL, reX, inb, inb.inbs, Bool.and_self, Nat.reduceLT, decide_true, and_self, Int.natCast_add, Int.natCast_one, implies_true, e1]
    ·simp only [reL, reX, reH, reB, reN, inb, and_self, implies_true]
   ·have : i = T.length := by omega
    subst this
    have h' := h
    simp only [Bool.and_eq_true, decide_eq_true_eq] at h'
    rw [List.take_length, List.take_of_length_le (show R.length ≤ T.length by omega)] at h'
    rw [Ck.chk, if_pos (show Ck.ok _ from ⟨⟨h1, h'.2.1, h2, h'.2.2⟩, h3, h'.1⟩)] at hK
    exact res hK (by simp [leR])
 ·refine loop_once ?_
  simp only [e_reg, e_seq, e_cond, e_exit, e_ret, o_nil, o_cons, gd_none, gd_some, gdK_ft, putK_e, runK_e, skipK_e, vK_e, evh_v, loopK_x, seqK_n, seqK_x, seqK_r, condK_t, condK_f, exitK_t, blockK_x, ends_r, endK1_e, endK2_e, evp, gt, st, putf, X.get, rdR, tupled, clV, clS, clo, undef, beq_self_eq_true, true_and]
  exact hn fun h => h3 h.2.1
 ·refine loop_once ?_
  simp only [e_reg, e_seq, e_cond, e_exit, e_ret, o_nil, o_cons, gd_none, gd_some, gdK_ft, putK_e, runK_e, skipK_e, vK_e, evh_v, loopK_x, seqK_n, seqK_x, seqK_r, condK_t, condK_f, exitK_t, blockK_x, ends_r, endK1_e, endK2_e, evp, gt, st, putf, X.get, rdR, tupled, clV, clS, clo, undef, beq_self_eq_true, true_and]
  exact hn fun h => h2 h.1.2.2.1
 ·refine loop_once ?_
  simp only [e_reg, e_seq, e_cond, e_exit, e_ret, o_nil, o_cons, gd_none, gd_some, gdK_ft, putK_e, runK_e, skipK_e, vK_e, evh_v, loopK_x, seqK_n, seqK_x, seqK_r, condK_t, condK_f, exitK_t, blockK_x, ends_r, endK1_e, endK2_e, evp, gt, st, putf, X.get, rdR, tupled, clV, clS, clo, undef, beq_self_eq_true, true_and]
  exact hn fun h => h1 h.1.1
end Go.Proofs.YtlegfejimphfbaaGreat
end
section
namespace Go.Proofs.YtlegfejimphfbaaGreat
open Go Go.Vg
set_option linter.unusedSimpArgs false
set_option linter.unusedVariables false
set_option maxRecDepth 10000
def s50 : SC :=
 (.seq (.reg [⟨(some 6), none, .v (.mov (.c (.int .i64 (0))))⟩])
 (.seq (.reg [⟨(some 7), none, .v (.mov (.c (.int .i64 (0))))⟩])
 (.seq (.block 0 (.loop
 (.seq (.seq (.reg [⟨(some 10), none, .v (.mov (.t 7))⟩,
 ⟨(some 11), none, .v (.bin .add (.t 10) (.c (.int .i64 (1))))⟩,
 ⟨(some 12), none, .v (.mov (.t 0))⟩,
 ⟨(some 13), none, .v (.len (.t 12))⟩,
 ⟨(some 14), none, .v (.bin .lss (.t 11) (.t 13))⟩,
 ⟨(some 15), none, .v (.mov (.t 14))⟩,
 ⟨(some 16), (some (15, true)), .v (.mov (.t 0))⟩,
 ⟨(some 17), (some (15, true)), .v (.mov (.t 7))⟩,
 ⟨(some 18), (some (15, true)), .v (.bin .add (.t 17) (.c (.int .i64 (1))))⟩,
 ⟨(some 19), (some (15, true)), .v (.ixa (.t 16) (.t 18) 1)⟩,
 ⟨(some 20), (some (15, true)), .v (.load (.t 19) none)⟩,
 ⟨(some 21), (some (15, true)), .v (.mov (.t 2))⟩,
 ⟨(some 22), (some (15, true)), .v (.bin .leq (.t 20) (.t 21))⟩,
 ⟨(some 23), none, .v (.pick (.t 15) (.t 22) (.c (.lit (.bool false))))⟩])
 (.cond (.t 23)
 .skip
 (.exit 0)))
 (.block 1 (.reg [⟨(some 24), none, .v (.mov (.t 7))⟩,
 ⟨(some 25), none, .v (.bin .add (.t 24) (.c (.int .i64 (1))))⟩,
 ⟨(some 7), none, .v (.mov (.t 25))⟩])))))
 (.seq (.reg [⟨(some 26), none, .v (.mov (.t 2))⟩,
 ⟨(some 27), none, .v (.mov (.t 0))⟩,
 ⟨(some 28), none, .v (.mov (.t 7))⟩,
 ⟨(some 29), none, .v (.ixa (.t 27) (.t 28) 1)⟩,
 ⟨(some 30), none, .v (.load (.t 29) none)⟩,
 ⟨(some 31), none, .v (.bin .sub (.t 26) (.t 30))⟩,
 ⟨(some 8), none, .v (.mov (.t 31))⟩])
 (.seq (.seq (.reg [⟨(some 32), none, .v (.mov (.t 8))⟩,
 ⟨(some 33), none, .v (.bin .eql (.t 32) (.c (.int .i64 (0))))⟩])
 (.cond (.t 33)
 (.seq (.reg [⟨(some 34), none, .v (.mov (.t 1))⟩,
 ⟨(some 35), none, .v (.mov (.t 7))⟩,
 ⟨(some 36), none, .v (.ixa (.t 34) (.t 35) 1)⟩,
 ⟨(some 37), none, .v (.load (.t 36) none)⟩,
 ⟨(some 6), none, .v (.mov (.t 37))⟩])
 .ret)
 .skip))
 (.seq (.drw [(0, ⟨(some 38), none, .v (.mov (.t 0))⟩, false),
 (1, ⟨(some 39), none, .v (.mov (.t 7))⟩, false),
 (2, ⟨(some 40), none, .v (.bin .add (.t 39) (.c (.int .i64 (1))))⟩, false),
 (3, ⟨(some 41), none, .v (.ixa (.t 38) (.t 40) 1)⟩, false),
 (4, ⟨(some 42), none, .v (.load (.t 41) none)⟩, false),
 (5, ⟨(some 43), none, .v (.mov (.t 0))⟩, false),
 (6, ⟨(some 44), none, .v (.mov (.t 7))⟩, false),
 (7, ⟨(some 45), none, .v (.ixa (.t 43) (.t 44) 1)⟩, false),
 (8, ⟨(some 46), none, .v (.load (.t 45) none)⟩, false)]
 none
 [⟨(some 47), none, .v (.bin .sub (.t 42) (.t 46))⟩,
 ⟨(some 9), none, .v (.mov (.t 47))⟩])
 (.seq (.drw [(0, ⟨(some 48), none, .v (.mov (.t 1))⟩, false),
 (1, ⟨(some 49), none, .v (.mov (.t 7))⟩, false),
 (2, ⟨(some 50), none, .v (.ixa (.t 48) (.t 49) 1)⟩, false),
 (3, ⟨(some 51), none, .v (.load (.t 50) none)⟩, false),
 (4, ⟨(some 52), none, .v (.mov (.t 9))⟩, false),
 (5, ⟨(some 53), none, .v (.mov (.t 8))⟩, false),
 (6, ⟨(some 54), none, .v (.bin .sub (.t 52) (.t 53))⟩, false),
 (7, ⟨(some 55), none, .v (.bin .mul (.t 51) (.t 54))⟩, false),
 (8, ⟨(some 56), none, .v (.mov (.t 1))⟩, false),
 (9, ⟨(some 57), none, .v (.mov (.t 7))⟩, false),
 (10, ⟨(some 58), none, .v (.bin .add (.t 57) (.c (.int .i64 (1))))⟩, false),
 (11, ⟨(some 59), none, .v (.ixa (.t 56) (.t 58) 1)⟩, false),
 (12, ⟨(some 60), none, .v (.load (.t 59) none)⟩, false),
 (13, ⟨(some 61), none, .v (.mov (.t 8))⟩, false),
 (14, ⟨(some 62), none, .v (.bin .mul (.t 60) (.t 61))⟩, false),
 (15, ⟨(some 63), none, .v (.bin .add (.t 55) (.t 62))⟩, false),
 (16, ⟨(some 64), none, .v (.mov (.t 9))⟩, false)]
 none
 [⟨(some 65), none, .call (.c (.fn 79 [])) [(.t 63), (.t 64)]⟩,
 ⟨(some 6), none, .v (.mov (.t 65))⟩])
 .ret)))))))
def r50 : List RV := [.t 6]
def n50 : Nat := 66
theorem k50 : (Tryz.f50.body.bind (cC Tryz.prog), cR Tryz.prog Tryz.f50.results.toList, Tryz.f50.ntmps) = (some s50, some r50, 66) := by kernel_rfl
theorem q50 : Known Tryz.prog 50 := ⟨_, Tryz.func50, by decide, by simp [Tryz.f50]⟩
def F50 : FC := fun args => match args with
 | [.ints .i64 T, .ints .i64 R, .int .i64 x] => some (Tb T ∧ Rb R ∧ T.length = R.length ∧ At T x, .int .i64 (itp T R x))
 | _ => none
def lst (T : List Int) (x : Int) : Nat := if T.getD (ps T x) 0 = x then ps T x else ps T x - 1
structure LsAt (T : List Int) (x : Int) : Prop where
 lt : lst T x < T.length
 le : T.getD (lst T x) 0 ≤ x
 nx : ∀ j, lst T x < j → j < T.length → x < T.getD j 0
theorem lsAt {T : List Int} {x : Int} (hT : Tb T) (hx : At T x) : LsAt T x := by
 have h := psAt hT hx
 have h0 := h.lt
 have h1 := h.ge
 by_cases he : T.getD (ps T x) 0 = x
 ·have el : lst T x = ps T x := if_pos he
  refine ⟨?_, ?_, fun j hj hj2 => ?_⟩
  ·rw [el]; exact h0
  ·rw [el]; omega
  ·rw [el] at hj; have := hT.rs _ j hj hj2; omega
 ·have el : lst T x = ps T x - 1 := if_neg he
  obtain ⟨h2, h3, h4⟩ := h.nx he
  refine ⟨?_, ?_, fun j hj hj2 => ?_⟩
  ·rw [el]; omega
  ·rw [el]; omega
  ·rw [el] at hj
   by_cases hp : j = ps T x
   ·rw [hp]; exact h4
   ·have := hT.rs (ps T x) j (by omega) hj2; omega
theorem p50 : PureOk Tryz.prog 50 (fcC F50) := by
 refine pure_of (T := [(79, .fc Fdwn)]) ⟨⟨p79, q79⟩, trivial⟩ Tryz.func50 k50 ?_
 intro args K hC
 unfold fcC F50 at hC
 split at hC <;> first | (exact hC.elim) | skip
 rename_i h
 split at h <;> first | (cases h; done) | skip
 cases h
 rename_i T R x
 obtain ⟨⟨hT, hR, hl, hx⟩, hK⟩ := hC
 have hL := lsAt hT hx
 have hlt := hL.lt
 have hlen := hT.len
 simp only [e_reg, e_seq, e_block, e_loop, o_nil, o_cons, gd_none, putK_e, runK_e, vK_e, evh_v, seqK_n, evp, st, putf, X.get, mkfr, rep, undef, Nat.reduceSub, true_and, s50, r50]
 refine loop_at2 (G := Nat) (fun i => [(7, .int .i64 i)]) (fun i => []) (fun i => i ≤ lst T x) (fun i => lst T x - i) 0 (Nat.zero_le _) ?_
 (intro fr1 hf1; simp only [forget, dstC, dstO, st] at hf1; subst hf1)
 refine ⟨?_, ?_⟩
 ·refine Lw_re 0 [] (Nat.zero_le _) (by simp [ln]) (by simp [ln]) rfl ?_ ?_
  ·simp only [reL, reX, inb, ln, sts, st, and_self, Int.natCast_zero]
  ·simp only [reH, reN]
 ·intro i hi
  have nat1 : ((i : Int) + 1).toNat = i + 1 := by omega
  have b0 := hT.b i
  have b1 := hT.b (i + 1)
  have bx : 0 ≤ x ∧ x ≤ 60 := by have := hx.1; have := hx.2; have := hT.b 0; have := hT.b (T.length - 1); omega
  by_cases hlt2 : i < lst T x
  ·have n0 : ((i : Int) + 1 < (T.length : Int)) = True := by simp; omega
   have n1 : (T.getD (i + 1) 0 ≤ x) = True := by
    refine eq_true ?_
    by_cases e : i + 1 = lst T x
    ·rw [e]; exact hL.le
    ·have := hT.rs (i + 1) (lst T x) (by omega) hlt
     have := hL.le; omega
   simp only [gdK_btt, condK_bt, decide_true, inr64, e_skip, e_reg, e_seq, e_cond, e_block, o_nil, o_cons, gd_none, gd_some, gdK_tt, putK_e, runK_e, vK_e, evh_v, loopK_n, seqK_n, blockK_n, evp, bin, gt, gq, st, putf, X.get, ld, lda, lens, ixs, true_and, and_true, sts, n0, nat1, n1]
   repeat' (first | omega | apply And.intro)
   refine Nx.mk (i + 1) (by omega) (by omega) (Lw_re 0 [] (Nat.zero_le _) (by simp [ln]) (by simp [ln]) rfl ?_ ?_)
   ·simp only [reL, reX, inb, and_self, Int.natCast_add, Int.natCast_one]
   ·simp only [reH, reN]
  ·have ei : i = lst T x := by omega
   have fin : ∀ P : Prop, (((i : Int) + 1 < (T.length : Int)) = True → (T.getD (i + 1) 0 ≤ x) = False → P) → (((i : Int) + 1 < (T.length : Int)) = False → P) → P := by
    intro P h1 h2
    by_cases hn : i + 1 < T.length
    ·exact h1 (by simp; omega) (eq_false (by have := hL.nx (i + 1) (by omega) hn; omega))
    ·exact h2 (by simp; omega)
   have r0 := hR i
   have r1 := hR (i + 1)
   by_cases he : T.getD (ps T x) 0 = x
   ·have el : lst T x = ps T x := if_pos he
    have n2 : (x - T.getD i 0 = 0) = True := eq_true (by rw [ei, el]; omega)
    have ev : itp T R x = R.getD i 0 := by rw [ei, el]; exact if_pos he
    refine fin _ (fun n0 n1 => ?_) (fun n0 => ?_)
    ·simp only [gdK_btt, condK_bt, condK_bf, decide_true, decide_false, inr64, e_reg, e_seq, e_cond, e_exit, e_ret, o_nil, o_cons, gd_none, gd_some, gdK_tt, putK_e, runK_e, vK_e, evh_v, loopK_x, seqK_n, seqK_x, seqK_r, exitK_t, blockK_x, ends_r, endK1_e, endK2_e, evp, bin, gt, gq, st, putf, X.get, rdR, tupled, clV, clS, clo, ld, lda, lens, ixs, beq_self_eq_true, true_and, and_true, sts, n0, nat1, n1, n2, Int.toNat_natCast]
     repeat' (first | omega | apply And.intro)
     exact res hK (by simp [leR, ev])
    ·simp only [gdK_btf, condK_bt, decide_true, decide_false, inr64, e_reg, e_seq, e_cond, e_exit, e_ret, o_nil, o_cons, gd_none, gd_some, gdK_ft, putK_e, runK_e, skipK_e, vK_e, evh_v, loopK_x, seqK_n, seqK_x, seqK_r, condK_f, exitK_t, blockK_x, ends_r, endK1_e, endK2_e, evp, bin, gt, gq, st, putf, X.get, rdR, tupled, clV, clS, clo, ld, lda, lens, ixs, undef, beq_self_eq_true, true_and, sts, n0, n2, Int.toNat_natCast]
     repeat' (first | omega | apply And.intro)
     exact res hK (by simp [leR, ev])
   ·have el : lst T x = ps T x - 1 := if_neg he
    obtain ⟨h2, h3, h4⟩ := (psAt hT hx).nx he
    have hp := (psAt hT hx).lt
    have ep : ps T x = i + 1 := by omega
    have n2 : (x - T.getD i 0 = 0) = False := eq_false (by rw [show i = ps T x - 1 by omega]; omega)
    have ev : itp T R x = (R.getD i 0 * (T.getD (i + 1) 0 - T.getD i 0 - (x - T.getD i 0)) + R.getD (i + 1) 0 * (x - T.getD i 0)) / (T.getD (i + 1) 0 - T.getD i 0) := by
     unfold itp
     rw [if_neg he, ep, Nat.add_sub_cancel]
    rw [show ps T x - 1 = i by omega] at h3
    rw [ep] at h4
    have m1 := mulB r0.1 r0.2 (show 0 ≤ T.getD (i + 1) 0 - T.getD i 0 - (x - T.getD i 0) by omega) (by omega)
    have m2 := mulB r1.1 r1.2 (show 0 ≤ x - T.getD i 0 by omega) (by omega)
    refine fin _ (fun n0 n1 => ?_) (fun n0 => ?_)
    ·simp only [gdK_btt, condK_bf, decide_true, decide_false, inr64, e_skip, e_reg, e_drw, e_seq, e_cond, e_exit, e_ret, o_nil, o_cons, gd_none, gd_some, gdK_tt, putK_e, runK_e, vK_e, conK_e, callK_e, evh_v, evh_call, dX_e, dG_t, d_nil, d_cons, tlK_n, loopK_x, seqK_n, seqK_x, exitK_t, blockK_x, ends_r, endK1_e, endK2_e, gam_e, gamK_f, pc_e, pcK_e, fcC_e, fcK_e, evp, bin, gt, gq, st, putf, X.get, gets, ap, rdR, tupled, clV, clL, clS, clo, ld, lda, lens, ixs, gb, lk, evq, gdl, beq_self_eq_true, true_and, and_true, sts, n0, nat1, n1, n2, Int.toNat_natCast, Fdwn]
     repeat' (first | omega | apply And.intro)
     exact res hK (by simp [leR, ev])
    ·exfalso
     simp at n0; omega
end Go.Proofs.YtlegfejimphfbaaGreat
end
section
namespace Go.Proofs.YtlegfejimphfbaaGreat
open Go Go.Vg
set_option linter.unusedSimpArgs false
set_option linter.unusedVariables false
set_option maxRecDepth 10000
def s55 : SC :=
 (.seq (.reg [⟨(some 2), none, .box 27 (.t 0)⟩,
 ⟨(some 4), none, .v (.mov (.c (.int .i64 (0))))⟩])
 (.seq (.seq (.reg [⟨(some 8), none, .v (.load (.t 2) (some 6))⟩,
 ⟨(some 9), none, .call (.c (.fn 17 [])) [(.t 8)]⟩,
 ⟨(some 5), none, .v (.mov (.t 9))⟩])
 (.seq (.reg [⟨(some 10), none, .v (.mov (.t 5))⟩,
 ⟨(some 11), none, .v (.bin .neq (.t 10) (.c (.int .i64 (0))))⟩])
 (.cond (.t 11)
 (.seq (.reg [⟨(some 12), none, .v (.mov (.t 5))⟩,
 ⟨(some 4), none, .v (.mov (.t 12))⟩])
 .ret)
 .skip)))
 (.seq (.reg [⟨(some 13), none, .v (.mov (.t 1))⟩,
 ⟨(some 14), none, .v (.len (.t 13))⟩,
 ⟨(some 15), none, .call (.c (.fn 38 [])) [(.t 14), (.c (.int .i64 (1))), (.c (.int .i64 (60)))]⟩,
 ⟨(some 6), none, .v (.mov (.t 15))⟩])
 (.seq (.seq (.reg [⟨(some 7), none, .v (.mov (.c (.int .i64 (0))))⟩])
 (.block 0 (.loop
 (.seq (.seq (.reg [⟨(some 16), none, .v (.mov (.t 6))⟩,
 ⟨(some 17), none, .v (.mov (.t 16))⟩,
 ⟨(some 18), (some (17, true)), .v (.mov (.t 7))⟩,
 ⟨(some 19), (some (17, true)), .v (.mov (.t 1))⟩,
 ⟨(some 20), (some (17, true)), .v (.len (.t 19))⟩,
 ⟨(some 21), (some (17, true)), .v (.bin .lss (.t 18) (.t 20))⟩,
 ⟨(some 22), none, .v (.pick (.t 17) (.t 21) (.c (.lit (.bool false))))⟩])
 (.cond (.t 22)
 .skip
 (.exit 0)))
 (.seq (.block 1 (.drw [(0, ⟨(some 25), none, .v (.mov (.t 1))⟩, false),
 (1, ⟨(some 26), none, .v (.mov (.t 7))⟩, false),
 (2, ⟨(some 27), none, .v (.ixa (.t 25) (.t 26) 2)⟩, false),
 (3, ⟨(some 28), none, .v (.load (.t 27) (some 2))⟩, false),
 (4, ⟨(some 29), none, .v (.off (.t 2) 0)⟩, false),
 (5, ⟨(some 30), none, .v (.load (.t 29) none)⟩, false),
 (6, ⟨(some 31), none, .v (.ixa (.t 30) (.c (.int .i64 (0))) 1)⟩, false),
 (7, ⟨(some 32), none, .v (.load (.t 31) none)⟩, false),
 (8, ⟨(some 33), none, .v (.off (.t 2) 0)⟩, false),
 (9, ⟨(some 34), none, .v (.load (.t 33) none)⟩, false),
 (10, ⟨(some 35), none, .v (.off (.t 2) 0)⟩, false),
 (11, ⟨(some 36), none, .v (.load (.t 35) none)⟩, false),
 (12, ⟨(some 37), none, .v (.len (.t 36))⟩, false),
 (13, ⟨(some 38), none, .v (.bin .sub (.t 37) (.c (.int .i64 (1))))⟩, false),
 (14, ⟨(some 39), none, .v (.ixa (.t 34) (.t 38) 1)⟩, false),
 (15, ⟨(some 40), none, .v (.load (.t 39) none)⟩, false)]
 none
 [⟨(some 41), none, .call (.c (.fn 40 [])) [(.t 28), (.t 32), (.t 40)]⟩,
 ⟨(some 6), none, .v (.mov (.t 41))⟩]))
 (.reg [⟨(some 23), none, .v (.mov (.t 7))⟩,
 ⟨(some 24), none, .v (.bin .add (.t 23) (.c (.int .i64 (1))))⟩,
 ⟨(some 7), none, .v (.mov (.t 24))⟩]))))))
 (.seq (.seq (.reg [⟨(some 42), none, .v (.mov (.t 6))⟩,
 ⟨(some 43), none, .v (.not (.t 42))⟩])
 (.cond (.t 43)
 (.seq (.reg [⟨(some 4), none, .v (.mov (.c (.int .i64 (71))))⟩])
 .ret)
 .skip))
 (.seq (.reg [⟨(some 4), none, .v (.mov (.c (.int .i64 (0))))⟩])
 .ret))))))
def r55 : List RV := [.t 4]
def n55 : Nat := 44
theorem k55 : (Tryz.f55.body.bind (cC Tryz.prog), cR Tryz.prog Tryz.f55.results.toList, Tryz.f55.ntmps) = (some s55, some r55, 44) := by kernel_rfl
theorem q55 : Known Tryz.prog 55 := ⟨_, Tryz.func55, by decide, by simp [Tryz.f55]⟩
def s24 : SC :=
 (.seq (.reg [⟨(some 4), none, .v (.mov (.c (.lit (.bool false))))⟩])
 (.seq (.seq (.reg [⟨(some 6), none, .v (.mov (.t 0))⟩,
 ⟨(some 7), none, .v (.len (.t 6))⟩,
 ⟨(some 8), none, .v (.mov (.t 1))⟩,
 ⟨(some 9), none, .v (.len (.t 8))⟩,
 ⟨(some 10), none, .v (.bin .neq (.t 7) (.t 9))⟩])
 (.cond (.t 10)
 (.seq (.reg [⟨(some 4), none, .v (.mov (.c (.lit (.bool false))))⟩])
 .ret)
 .skip))
 (.seq (.seq (.reg [⟨(some 5), none, .v (.mov (.c (.int .i64 (0))))⟩])
 (.block 0 (.loop
 (.seq (.seq (.reg [⟨(some 11), none, .v (.mov (.t 5))⟩,
 ⟨(some 12), none, .v (.mov (.t 0))⟩,
 ⟨(some 13), none, .v (.len (.t 12))⟩,
 ⟨(some 14), none, .v (.bin .lss (.t 11) (.t 13))⟩])
 (.cond (.t 14)
 .skip
 (.exit 0)))
 (.seq (.block 1 (.seq (.drw [(0, ⟨(some 17), none, .v (.mov (.t 0))⟩, false),
 (1, ⟨(some 18), none, .v (.mov (.t 5))⟩, false),
 (2, ⟨(some 19), none, .v (.ixa (.t 17) (.t 18) 1)⟩, false),
 (3, ⟨(some 20), none, .v (.load (.t 19) none)⟩, false),
 (4, ⟨(some 21), none, .v (.mov (.t 1))⟩, false),
 (5, ⟨(some 22), none, .v (.mov (.t 5))⟩, false),
 (6, ⟨(some 23), none, .v (.ixa (.t 21) (.t 22) 1)⟩, false),
 (7, ⟨(some 24), none, .v (.load (.t 23) none)⟩, false)]
 none
 [⟨(some 25), none, .v (.bin .neq (.t 20) (.t 24))⟩])
 (.cond (.t 25)
 (.seq (.reg [⟨(some 4), none, .v (.mov (.c (.lit (.bool false))))⟩])
 .ret)
 .skip)))
 (.reg [⟨(some 15), none, .v (.mov (.t 5))⟩,
 ⟨(some 16), none, .v (.bin .add (.t 15) (.c (.int .i64 (1))))⟩,
 ⟨(some 5), none, .v (.mov (.t 16))⟩]))))))
 (.seq (.reg [⟨(some 4), none, .v (.mov (.c (.lit (.bool true))))⟩])
 .ret))))
def r24 : List RV := [.t 4]
def n24 : Nat := 26
theorem k24 : (Tryz.f24.body.bind (cC Tryz.prog), cR Tryz.prog Tryz.f24.results.toList, Tryz.f24.ntmps) = (some s24, some r24, 26) := by kernel_rfl
theorem q24 : Known Tryz.prog 24 := ⟨_, Tryz.func24, by decide, by simp [Tryz.f24]⟩
theorem p55 : PureOk Tryz.prog 55 C53 := by
 refine pure_of (T := [(17, .pc C16), (38, .fc Fin), (40, .fc Fsp)]) ⟨⟨p17, q17⟩, ⟨p38, q38⟩, ⟨p40, q40⟩, trivial⟩ Tryz.func55 k55 ?_
 rintro args K ⟨c, D, rfl, hK⟩
 have hsv : c.sv = .agg [.ints .i64 c.T, .rd 2 c.R.length (rowsS c.R), .int .i64 c.a, .int .i64 c.b, .int .i64 c.e, .int .i64 c.g] := rfl
 have h70 : ((70 : Int) = 0) = False := by simp
 rw [hsv]
 simp only [e_reg, e_seq, o_nil, o_cons, gd_none, putK_e, runK_e, vK_e, boxK_e, conK_e, callK_e, evh_v, evh_box, evh_call, seqK_n, gam_e, gamK_p, pc_e, pcK_e, evp, bin, gt, st, putf, X.get, gets, ap, mkfr, rep, clV, clL, clS, clo, ld, lda, tk, dr, cs1, gb, pb, ln, lk, undef, Nat.reduceSub, beq_self_eq_true, true_and, s55, r55]
 refine ⟨c, rfl, ?_⟩
 by_cases hok : c.ok
 ·have h1 : c.chk = 0 := if_pos hok
  have hT := (c.eo hok (w := 101) (.inl rfl)).tb
  have hl := hT.len
  by_cases hn : 1 ≤ (D.length : Int) ∧ (D.length : Int) ≤ 60
  ·have n0 : (1 ≤ (D.length : Int) ∧ (D.length : Int) ≤ 60) = True := eq_true hn
   simp only [condK_bf, decide_true, e_skip, e_reg, e_seq, e_cond, e_block, e_loop, o_nil, o_cons, gd_none, putK_e, runK_e, vK_e, conK_e, callK_e, evh_v, evh_call, seqK_n, gam_e, gamK_f, pc_e, pcK_e, fcC_e, fcK_e, evp, gt, st, putf, X.get, gets, ap, clV, clL, clS, clo, lens, lk, Bool.not_true, Nat.reduceBEq, beq_self_eq_true, true_and, h1, n0, Fin]
   refine loop_at2 (G := Nat) (fun i => [(7, .int .i64 i), (6, .bool ((D.take i).all (spE (c.T.getD 0 0) (c.T.getD (c.T.length - 1) 0))))])
    (fun _ => [.box 27 [.ints .i64 c.T, .rd 2 c.R.length (rowsS c.R), .int .i64 c.a, .int .i64 c.b, .int .i64 c.e, .int .i64 c.g]]) (fun i => i ≤ D.length) (fun i => D.length - i) 0 (Nat.zero_le _) ?_
   (intro fr1 hf1; simp only [forget, dstC, dstO, dstD, dst1, st] at hf1; subst hf1)
   refine ⟨?_, ?_⟩
   ·refine Lw_re 1 [] (Nat.zero_le _) (by simp [ln]) (by simp [ln]) rfl ?_ ?_
    ·simp only [reL, reX, inb, inb.inbs, ln, sts, st, Bool.and_self, Nat.reduceLT, Nat.reduceAdd, decide_true, and_self, Int.natCast_zero, List.take_zero, List.all_nil, implies_true]
    ·simp only [reL, reX, reH, reB, reN, inb, and_self, implies_true]
   ·intro i hi1
    have nat1 : ((c.T.length : Int) - 1).toNat = c.T.length - 1 := by omega
    simp only [inr64, e_skip, e_reg, e_drw, e_seq, e_cond, e_block, e_exit, e_ret, o_nil, o_cons, gd_none, gd_some, gdK_tt, gdK_ft, gdK_bt, putK_e, runK_e, skipK_e, vK_e, conK_e, callK_e, evh_v, evh_call, dX_e, dG_t, d_nil, d_cons, tlK_n, loopK_n, loopK_x, seqK_n, seqK_x, seqK_r, condK_f, condK_b, exitK_t, blockK_x, blockK_n, ends_r, endK1_e, endK2_e, gam_e, gamK_f, pc_e, pcK_e, fcC_e, fcK_e, evp, bin, gt, gq, st, putf, X.get, gets, ap, rdR, tupled, clV, clL, clS, clo, ld, lda, lens, ixs, tk, dr, gb, lk, evq, gdl, undef, Bool.not_true, Bool.not_false, Nat.reduceAdd, Nat.reduceBEq, beq_self_eq_true, true_and, decide_eq_true_eq, decide_eq_false_iff_not, Bool.not_eq_eq_eq_not, sts, Int.toNat_natCast, rowsS, Fsp, nat1, Int.toNat_zero]
    have hsp : spE (c.T.getD 0 0) (c.T.getD (c.T.length - 1) 0) (D.getD i (0, 0)) = decide ((c.T.getD 0 0 ≤ lo D i ∧ lo D i ≤ hi D i) ∧ hi D i ≤ c.T.getD (c.T.length - 1) 0) := rfl
    have hko : (D.take i).all (spE (c.T.getD 0 0) (c.T.getD (c.T.length - 1) 0)) = false → ∃ r', K r' ∧ leR 4 (SV.int .i64 71) r' := fun h => by
     have hv : ¬ voy c D := fun hv => by
      have h9 := hv.2
      have : (D.take i).all (spE (c.T.getD 0 0) (c.T.getD (c.T.length - 1) 0)) = true := by
       rw [List.all_eq_true] at h9 ⊢
       exact fun x hx => h9 x (List.mem_of_mem_take hx)
      rw [this] at h; cases h
     exact res hK (by simp [leR, askE, hok, hv])
    refine ⟨fun h => ⟨fun h4 => ⟨⟨by omega, by omega⟩, ⟨by omega, by omega⟩, ⟨by omega, by omega⟩, ⟨by omega, by omega⟩, ⟨by omega, by omega⟩, ?_⟩, fun h4 => ⟨hko, fun _ => ?_⟩⟩, fun h => ⟨hko, fun h' => by rw [h] at h'; cases h'⟩⟩
    ·have ha : i < D.length := by omega
     have e := allS_snoc (l := c.T.getD 0 0) (h := c.T.getD (c.T.length - 1) 0) ha
     rw [h, hsp, Bool.true_and] at e
     rw [← e]
     refine Nx.mk (i + 1) (by show i + 1 ≤ D.length; omega) (by show D.length - (i + 1) < D.length - i; omega) (Lw_re 1 [] (Nat.zero_le _) (by simp [ln]) (by simp [ln]) rfl ?_ ?_)
     ·simp only [reL, reX, inb, inb.inbs, Bool.and_self, Nat.reduceLT, decide_true, and_self, Int.natCast_add, Int.natCast_one, implies_true]
     ·simp only [reL, reX, reH, reB, reN, inb, and_self, implies_true]
    ·have : i = D.length := by omega
     subst this
     rw [List.take_length] at h
     have hv : voy c D := ⟨hn, h⟩
     exact res hK (by simp [leR, askE, hok, hv])
  ·have n0 : (1 ≤ (D.length : Int) ∧ (D.length : Int) ≤ 60) = False := eq_false hn
   have hv : ¬ voy c D := fun h => hn h.1
   simp only [condK_bf, decide_true, decide_false, e_skip, e_reg, e_seq, e_cond, e_block, e_loop, o_nil, o_cons, gd_none, putK_e, runK_e, vK_e, conK_e, callK_e, evh_v, evh_call, seqK_n, gam_e, gamK_f, pc_e, pcK_e, fcC_e, fcK_e, evp, gt, st, putf, X.get, gets, ap, clV, clL, clS, clo, lens, lk, Bool.not_true, Nat.reduceBEq, beq_self_eq_true, true_and, h1, n0, Fin]
   refine loop_once ?_
   simp only [gdK_btf, condK_bt, e_reg, e_seq, e_cond, e_exit, e_ret, o_nil, o_cons, gd_none, gd_some, gdK_ft, putK_e, runK_e, skipK_e, vK_e, evh_v, loopK_x, seqK_n, seqK_x, seqK_r, condK_f, exitK_t, blockK_x, ends_r, endK1_e, endK2_e, evp, gt, st, putf, X.get, rdR, tupled, clV, clS, clo, undef, Bool.not_false, beq_self_eq_true, true_and]
   exact res hK (by simp [leR, askE, hok, hv])
 ·have h1 : c.chk = 70 := if_neg hok
  simp only [condK_bt, decide_false, e_reg, e_seq, e_cond, e_ret, o_nil, o_cons, gd_none, putK_e, runK_e, vK_e, evh_v, seqK_n, seqK_r, ends_r, endK1_e, endK2_e, evp, gt, st, putf, X.get, rdR, tupled, clV, clS, clo, Bool.not_false, true_and, h1, h70]
  exact res hK (by simp [leR, askE, hok])
def C24 : PC := fun args K => ∃ a b : List Int, args = [.ints .i64 a, .ints .i64 b] ∧ a.length ≤ 1000 ∧ K (.bool (decide (a = b)))
theorem p24 : PureOk Tryz.prog 24 C24 := by
 refine pure_of (T := []) trivial Tryz.func24 k24 ?_
 rintro args K ⟨a, b, rfl, hl, hK⟩
 by_cases hn : a.length = b.length
 ·have n0 : ((a.length : Int) = (b.length : Int)) = True := eq_true (by omega)
  simp only [condK_bf, decide_true, e_skip, e_reg, e_seq, e_cond, e_block, e_loop, o_nil, o_cons, gd_none, putK_e, runK_e, vK_e, evh_v, seqK_n, evp, bin, gt, st, putf, X.get, mkfr, rep, lens, undef, Bool.not_true, Nat.reduceSub, true_and, s24, r24, n0]
  refine loop_at2 (G := Nat) (fun i => [(5, .int .i64 i)]) (fun i => []) (fun i => i ≤ a.length ∧ ∀ j, j < i → a.getD j 0 = b.getD j 0) (fun i => a.length - i) 0 ⟨Nat.zero_le _, fun j h => by omega⟩ ?_
  (intro fr1 hf1; simp only [forget, dstC, dstO, dstD, dst1, st] at hf1; subst hf1)
  refine ⟨?_, ?_⟩
  ·refine Lw_re 0 [] (Nat.zero_le _) (by simp [ln]) (by simp [ln]) rfl ?_ ?_
   ·simp only [reL, reX, inb, ln, sts, st, and_self, Int.natCast_zero]
   ·simp only [reH, reN]
  ·rintro i ⟨hi, hp⟩
   simp only [inr64, e_skip, e_reg, e_drw, e_seq, e_cond, e_block, e_exit, e_ret, o_nil, o_cons, gd_none, putK_e, runK_e, vK_e, evh_v, dX_e, dG_t, d_nil, d_cons, tlK_n, loopK_n, loopK_x, loopK_r, seqK_n, seqK_x, seqK_r, condK_b, exitK_t, blockK_x, blockK_n, blockK_r, ends_r, endK1_e, endK2_e, evp, bin, gt, gq, st, putf, X.get, rdR, tupled, clV, clS, clo, ld, lda, lens, ixs, evq, gdl, Bool.not_true, Bool.not_false, beq_self_eq_true, true_and, decide_eq_true_eq, decide_eq_false_iff_not, Bool.not_eq_eq_eq_not, sts, Int.toNat_natCast]
   refine ⟨fun h => ⟨⟨by omega, by omega⟩, ⟨by omega, by omega⟩, fun h1 => ?_, fun h1 => ⟨⟨by omega, by omega⟩, ?_⟩⟩, fun h => ?_⟩
   ·have hab : a ≠ b := fun h => h1 (by rw [h])
    exact res hK (by simp [leR, hab])
   ·refine Nx.mk (i + 1) ⟨by omega, fun j hj => ?_⟩ (by show a.length - (i + 1) < a.length - i; omega) (Lw_re 0 [] (Nat.zero_le _) (by simp [ln]) (by simp [ln]) rfl ?_ ?_)
    ·by_cases hji : j = i
     ·subst hji; exact h1
     ·exact hp j (by omega)
    ·simp only [reL, reX, inb, and_self, Int.natCast_add, Int.natCast_one]
    ·simp only [reH, reN]
   ·have hab : a = b := by
     refine List.ext_getElem hn fun j h1 h2 => ?_
     have := hp j (by omega)
     simpa [List.getD, h1, h2] using this
    exact res hK (by simp [leR, hab])
 ·have n0 : ((a.length : Int) = (b.length : Int)) = False := eq_false (by omega)
  have hab : a ≠ b := fun h => hn (by rw [h])
  simp only [condK_bt, decide_false, e_reg, e_seq, e_cond, e_ret, o_nil, o_cons, gd_none, putK_e, runK_e, vK_e, evh_v, seqK_n, seqK_r, ends_r, endK1_e, endK2_e, evp, bin, gt, st, putf, X.get, mkfr, rep, rdR, tupled, clV, clS, clo, lens, undef, Bool.not_false, Nat.reduceSub, true_and, s24, r24, n0]
  exact res hK (by simp [leR, hab])
end Go.Proofs.YtlegfejimphfbaaGreat
end
section
namespace Go.Proofs.YtlegfejimphfbaaGreat
open Go Go.Vg
set_option linter.unusedSimpArgs false
set_option linter.unusedVariables false
set_option maxRecDepth 10000
def s63 : SC :=
 (.seq (.reg [⟨(some 3), none, .box 27 (.t 0)⟩,
 ⟨(some 5), none, .box 39 (.t 2)⟩,
 ⟨(some 6), none, .v (.mov (.c (.lit (.bool false))))⟩])
 (.seq (.reg [⟨(some 10), none, .v (.off (.t 5) 0)⟩,
 ⟨(some 11), none, .v (.load (.t 10) none)⟩,
 ⟨(some 12), none, .v (.len (.t 11))⟩,
 ⟨(some 13), none, .v (.off (.t 3) 1)⟩,
 ⟨(some 14), none, .v (.load (.t 13) none)⟩,
 ⟨(some 15), none, .v (.len (.t 14))⟩,
 ⟨(some 16), none, .v (.bin .eql (.t 12) (.t 15))⟩,
 ⟨(some 17), none, .v (.mov (.t 16))⟩,
 ⟨(some 18), (some (17, true)), .v (.off (.t 5) 3)⟩,
 ⟨(some 19), (some (17, true)), .v (.load (.t 18) none)⟩,
 ⟨(some 20), (some (17, true)), .v (.len (.t 19))⟩,
 ⟨(some 21), (some (17, true)), .v (.mov (.t 1))⟩,
 ⟨(some 22), (some (17, true)), .v (.len (.t 21))⟩,
 ⟨(some 23), (some (17, true)), .v (.bin .eql (.t 20) (.t 22))⟩,
 ⟨(some 24), none, .v (.pick (.t 17) (.t 23) (.c (.lit (.bool false))))⟩,
 ⟨(some 25), none, .v (.mov (.t 24))⟩,
 ⟨(some 26), (some (25, true)), .v (.off (.t 3) 2)⟩,
 ⟨(some 27), (some (25, true)), .v (.load (.t 26) (some 2))⟩,
 ⟨(some 28), (some (25, true)), .v (.off (.t 5) 1)⟩,
 ⟨(some 29), (some (25, true)), .v (.load (.t 28) none)⟩,
 ⟨(some 30), (some (25, true)), .call (.c (.fn 33 [])) [(.t 27), (.t 29)]⟩,
 ⟨(some 31), none, .v (.pick (.t 25) (.t 30) (.c (.lit (.bool false))))⟩,
 ⟨(some 32), none, .v (.mov (.t 31))⟩,
 ⟨(some 33), (some (32, true)), .v (.off (.t 3) 4)⟩,
 ⟨(some 34), (some (32, true)), .v (.load (.t 33) (some 2))⟩,
 ⟨(some 35), (some (32, true)), .v (.off (.t 5) 2)⟩,
 ⟨(some 36), (some (32, true)), .v (.load (.t 35) none)⟩,
 ⟨(some 37), (some (32, true)), .call (.c (.fn 33 [])) [(.t 34), (.t 36)]⟩,
 ⟨(some 38), none, .v (.pick (.t 32) (.t 37) (.c (.lit (.bool false))))⟩,
 ⟨(some 7), none, .v (.mov (.t 38))⟩])
 (.seq (.seq (.reg [⟨(some 8), none, .v (.mov (.c (.int .i64 (0))))⟩])
 (.block 0 (.loop
 (.seq (.seq (.reg [⟨(some 39), none, .v (.mov (.t 7))⟩,
 ⟨(some 40), none, .v (.mov (.t 39))⟩,
 ⟨(some 41), (some (40, true)), .v (.mov (.t 8))⟩,
 ⟨(some 42), (some (40, true)), .v (.off (.t 3) 1)⟩,
 ⟨(some 43), (some (40, true)), .v (.load (.t 42) none)⟩,
 ⟨(some 44), (some (40, true)), .v (.len (.t 43))⟩,
 ⟨(some 45), (some (40, true)), .v (.bin .lss (.t 41) (.t 44))⟩,
 ⟨(some 46), none, .v (.pick (.t 40) (.t 45) (.c (.lit (.bool false))))⟩])
 (.cond (.t 46)
 .skip
 (.exit 0)))
 (.seq (.block 1 (.drw [(0, ⟨(some 49), none, .v (.off (.t 3) 1)⟩, false),
 (1, ⟨(some 50), none, .v (.load (.t 49) none)⟩, false),
 (2, ⟨(some 51), none, .v (.mov (.t 8))⟩, false),
 (3, ⟨(some 52), none, .v (.ixa (.t 50) (.t 51) 2)⟩, false),
 (4, ⟨(some 53), none, .v (.load (.t 52) (some 2))⟩, false),
 (5, ⟨(some 54), none, .v (.off (.t 5) 0)⟩, false),
 (6, ⟨(some 55), none, .v (.load (.t 54) none)⟩, false),
 (7, ⟨(some 56), none, .v (.mov (.t 8))⟩, false),
 (8, ⟨(some 57), none, .v (.ixa (.t 55) (.t 56) 1)⟩, false),
 (9, ⟨(some 58), none, .v (.load (.t 57) none)⟩, false)]
 none
 [⟨(some 59), none, .call (.c (.fn 33 [])) [(.t 53), (.t 58)]⟩,
 ⟨(some 7), none, .v (.mov (.t 59))⟩]))
 (.reg [⟨(some 47), none, .v (.mov (.t 8))⟩,
 ⟨(some 48), none, .v (.bin .add (.t 47) (.c (.int .i64 (1))))⟩,
 ⟨(some 8), none, .v (.mov (.t 48))⟩]))))))
 (.seq (.seq (.reg [⟨(some 9), none, .v (.mov (.c (.int .i64 (0))))⟩])
 (.block 2 (.loop
 (.seq (.seq (.reg [⟨(some 60), none, .v (.mov (.t 7))⟩,
 ⟨(some 61), none, .v (.mov (.t 60))⟩,
 ⟨(some 62), (some (61, true)), .v (.mov (.t 9))⟩,
 ⟨(some 63), (some (61, true)), .v (.mov (.t 1))⟩,
 ⟨(some 64), (some (61, true)), .v (.len (.t 63))⟩,
 ⟨(some 65), (some (61, true)), .v (.bin .lss (.t 62) (.t 64))⟩,
 ⟨(some 66), none, .v (.pick (.t 61) (.t 65) (.c (.lit (.bool false))))⟩])
 (.cond (.t 66)
 .skip
 (.exit 2)))
 (.seq (.block 3 (.drw [(0, ⟨(some 69), none, .v (.mov (.t 1))⟩, false),
 (1, ⟨(some 70), none, .v (.mov (.t 9))⟩, false),
 (2, ⟨(some 71), none, .v (.ixa (.t 69) (.t 70) 2)⟩, false),
 (3, ⟨(some 72), none, .v (.load (.t 71) (some 2))⟩, false),
 (4, ⟨(some 73), none, .v (.off (.t 5) 3)⟩, false),
 (5, ⟨(some 74), none, .v (.load (.t 73) none)⟩, false),
 (6, ⟨(some 75), none, .v (.mov (.t 9))⟩, false),
 (7, ⟨(some 76), none, .v (.ixa (.t 74) (.t 75) 1)⟩, false),
 (8, ⟨(some 77), none, .v (.load (.t 76) none)⟩, false)]
 none
 [⟨(some 78), none, .call (.c (.fn 33 [])) [(.t 72), (.t 77)]⟩,
 ⟨(some 7), none, .v (.mov (.t 78))⟩]))
 (.reg [⟨(some 67), none, .v (.mov (.t 9))⟩,
 ⟨(some 68), none, .v (.bin .add (.t 67) (.c (.int .i64 (1))))⟩,
 ⟨(some 9), none, .v (.mov (.t 68))⟩]))))))
 (.seq (.reg [⟨(some 79), none, .v (.mov (.t 7))⟩,
 ⟨(some 6), none, .v (.mov (.t 79))⟩])
 .ret)))))
def r63 : List RV := [.t 6]
def n63 : Nat := 80
theorem k63 : (Tryz.f63.body.bind (cC Tryz.prog), cR Tryz.prog Tryz.f63.results.toList, Tryz.f63.ntmps) = (some s63, some r63, 80) := by kernel_rfl
theorem q63 : Known Tryz.prog 63 := ⟨_, Tryz.func63, by decide, by simp [Tryz.f63]⟩
def s23 : SC :=
 (.seq (.reg [⟨(some 3), none, .box 27 (.t 0)⟩,
 ⟨(some 5), none, .box 39 (.t 2)⟩,
 ⟨(some 6), none, .v (.mov (.c (.lit (.slice none 0 0))))⟩,
 ⟨(some 7), none, .v (.mov (.c (.int .i64 (0))))⟩])
 (.seq (.seq (.reg [⟨(some 12), none, .v (.load (.t 3) (some 6))⟩,
 ⟨(some 13), none, .v (.mov (.t 1))⟩,
 ⟨(some 14), none, .call (.c (.fn 55 [])) [(.t 12), (.t 13)]⟩,
 ⟨(some 8), none, .v (.mov (.t 14))⟩])
 (.seq (.reg [⟨(some 15), none, .v (.mov (.t 8))⟩,
 ⟨(some 16), none, .v (.bin .neq (.t 15) (.c (.int .i64 (0))))⟩])
 (.cond (.t 16)
 (.seq (.reg [⟨(some 17), none, .v (.mov (.t 8))⟩,
 ⟨(some 6), none, .v (.mov (.c (.lit (.slice none 0 0))))⟩,
 ⟨(some 7), none, .v (.mov (.t 17))⟩])
 .ret)
 .skip)))
 (.seq (.seq (.reg [⟨(some 18), none, .v (.load (.t 3) (some 6))⟩,
 ⟨(some 19), none, .v (.mov (.t 1))⟩,
 ⟨(some 20), none, .v (.load (.t 5) (some 4))⟩,
 ⟨(some 21), none, .call (.c (.fn 63 [])) [(.t 18), (.t 19), (.t 20)]⟩,
 ⟨(some 22), none, .v (.not (.t 21))⟩])
 (.cond (.t 22)
 (.seq (.reg [⟨(some 6), none, .v (.mov (.c (.lit (.slice none 0 0))))⟩,
 ⟨(some 7), none, .v (.mov (.c (.int .i64 (74))))⟩])
 .ret)
 .skip))
 (.seq (.reg [⟨(some 23), none, .v (.off (.t 5) 2)⟩,
 ⟨(some 24), none, .v (.load (.t 23) none)⟩,
 ⟨(some 9), none, .v (.mov (.t 24))⟩])
 (.seq (.reg [⟨(some 10), none, .v (.mov (.c (.lit (.slice none 0 0))))⟩])
 (.seq (.seq (.reg [⟨(some 11), none, .v (.mov (.c (.int .i64 (0))))⟩])
 (.block 0 (.loop
 (.seq (.seq (.reg [⟨(some 25), none, .v (.mov (.t 11))⟩,
 ⟨(some 26), none, .v (.mov (.t 1))⟩,
 ⟨(some 27), none, .v (.len (.t 26))⟩,
 ⟨(some 28), none, .v (.bin .lss (.t 25) (.t 27))⟩])
 (.cond (.t 28)
 .skip
 (.exit 0)))
 (.seq (.block 1 (.seq (.drw [(0, ⟨(some 31), none, .v (.mov (.t 9))⟩, false),
 (1, ⟨(some 32), none, .v (.off (.t 3) 0)⟩, false),
 (2, ⟨(some 33), none, .v (.load (.t 32) none)⟩, false),
 (3, ⟨(some 34), none, .v (.off (.t 5) 0)⟩, false),
 (4, ⟨(some 35), none, .v (.load (.t 34) none)⟩, false),
 (5, ⟨(some 36), none, .v (.off (.t 5) 3)⟩, false),
 (6, ⟨(some 37), none, .v (.load (.t 36) none)⟩, false),
 (7, ⟨(some 38), none, .v (.mov (.t 11))⟩, false),
 (8, ⟨(some 39), none, .v (.ixa (.t 37) (.t 38) 1)⟩, false),
 (9, ⟨(some 40), none, .v (.load (.t 39) none)⟩, false),
 (10, ⟨(some 41), none, .call (.c (.fn 50 [])) [(.t 33), (.t 35), (.t 40)]⟩, false),
 (11, ⟨(some 42), none, .v (.off (.t 5) 1)⟩, false),
 (12, ⟨(some 43), none, .v (.load (.t 42) none)⟩, false),
 (13, ⟨(some 44), none, .v (.mov (.t 11))⟩, false),
 (14, ⟨(some 45), none, .v (.bin .mul (.t 43) (.t 44))⟩, false),
 (15, ⟨(some 46), none, .v (.bin .add (.t 41) (.t 45))⟩, false)]
 none
 [⟨(some 47), none, .v (.bin .add (.t 31) (.t 46))⟩,
 ⟨(some 9), none, .v (.mov (.t 47))⟩])
 (.reg [⟨(some 48), none, .v (.mov (.t 10))⟩,
 ⟨(some 49), none, .v (.mov (.t 9))⟩,
 ⟨(some 50), none, .bsl 3 1 [(.int .i64 (0))] [(0, 1, (.t 49))]⟩,
 ⟨(some 51), none, .app 3 1 8 (.t 48) (.t 50)⟩,
 ⟨(some 10), none, .v (.mov (.t 51))⟩])))
 (.reg [⟨(some 29), none, .v (.mov (.t 11))⟩,
 ⟨(some 30), none, .v (.bin .add (.t 29) (.c (.int .i64 (1))))⟩,
 ⟨(some 11), none, .v (.mov (.t 30))⟩]))))))
 (.seq (.reg [⟨(some 52), none, .v (.mov (.t 10))⟩,
 ⟨(some 6), none, .v (.mov (.t 52))⟩,
 ⟨(some 7), none, .v (.mov (.c (.int .i64 (0))))⟩])
 .ret)))))))
def r23 : List RV := [.t 6, .t 7]
def n23 : Nat := 53
theorem k23 : (Tryz.f23.body.bind (cC Tryz.prog), cR Tryz.prog Tryz.f23.results.toList, Tryz.f23.ntmps) = (some s23, some r23, 53) := by kernel_rfl
theorem q23 : Known Tryz.prog 23 := ⟨_, Tryz.func23, by decide, by simp [Tryz.f23]⟩
def s4 : SC :=
 (.seq (.reg [⟨(some 3), none, .box 27 (.t 0)⟩,
 ⟨(some 5), none, .box 39 (.t 2)⟩,
 ⟨(some 6), none, .v (.mov (.c (.lit (.bool false))))⟩])
 (.seq (.reg [⟨(some 12), none, .v (.load (.t 3) (some 6))⟩,
 ⟨(some 13), none, .v (.mov (.t 1))⟩,
 ⟨(some 14), none, .v (.load (.t 5) (some 4))⟩,
 ⟨(some 15), none, .call (.c (.fn 22 [])) [(.t 12), (.t 13), (.t 14)]⟩,
 ⟨(some 11), none, .v (.mov (.t 15))⟩,
 ⟨(some 16), none, .v (.ext (.t 11) 0)⟩,
 ⟨(some 17), none, .v (.ext (.t 11) 1)⟩,
 ⟨(some 7), none, .v (.mov (.t 16))⟩,
 ⟨(some 8), none, .v (.mov (.t 17))⟩])
 (.seq (.reg [⟨(some 19), none, .v (.load (.t 3) (some 6))⟩,
 ⟨(some 20), none, .v (.mov (.t 1))⟩,
 ⟨(some 21), none, .v (.load (.t 5) (some 4))⟩,
 ⟨(some 22), none, .call (.c (.fn 23 [])) [(.t 19), (.t 20), (.t 21)]⟩,
 ⟨(some 18), none, .v (.mov (.t 22))⟩,
 ⟨(some 23), none, .v (.ext (.t 18) 0)⟩,
 ⟨(some 24), none, .v (.ext (.t 18) 1)⟩,
 ⟨(some 9), none, .v (.mov (.t 23))⟩,
 ⟨(some 10), none, .v (.mov (.t 24))⟩])
 (.seq (.reg [⟨(some 25), none, .v (.mov (.t 7))⟩,
 ⟨(some 26), none, .v (.mov (.t 9))⟩,
 ⟨(some 27), none, .call (.c (.fn 24 [])) [(.t 25), (.t 26)]⟩,
 ⟨(some 28), none, .v (.mov (.t 27))⟩,
 ⟨(some 29), (some (28, true)), .v (.mov (.t 8))⟩,
 ⟨(some 30), (some (28, true)), .v (.mov (.t 10))⟩,
 ⟨(some 31), (some (28, true)), .v (.bin .eql (.t 29) (.t 30))⟩,
 ⟨(some 32), none, .v (.pick (.t 28) (.t 31) (.c (.lit (.bool false))))⟩,
 ⟨(some 33), none, .v (.mov (.t 32))⟩,
 ⟨(some 34), (some (33, true)), .call (.c (.fn 21 [])) []⟩,
 ⟨(some 35), none, .v (.pick (.t 33) (.t 34) (.c (.lit (.bool false))))⟩,
 ⟨(some 6), none, .v (.mov (.t 35))⟩])
 .ret))))
def r4 : List RV := [.t 6]
def n4 : Nat := 36
theorem k4 : (Tryz.f4.body.bind (cC Tryz.prog), cR Tryz.prog Tryz.f4.results.toList, Tryz.f4.ntmps) = (some s4, some r4, 36) := by kernel_rfl
theorem q4 : Known Tryz.prog 4 := ⟨_, Tryz.func4, by decide, by simp [Tryz.f4]⟩
def inP (l : List Int) (L : List (Int × Int)) (i : Nat) : Bool := (List.range i).all fun j => decide (lo L j ≤ l.getD j 0 ∧ l.getD j 0 ≤ hi L j)
theorem inP_snoc {l : List Int} {L : List (Int × Int)} {i : Nat} : inP l L (i + 1) = (inP l L i && decide (lo L i ≤ l.getD i 0 ∧ l.getD i 0 ≤ hi L i)) := by
 simp [inP, List.range_succ]
theorem inP_ok {l : List Int} {L : List (Int × Int)} {i : Nat} (h : areI l L) (hi' : i ≤ L.length) : inP l L i = true := by
 simp only [inP, List.all_eq_true, List.mem_range, decide_eq_true_eq]
 exact fun j hj => h.2 j (by omega)
theorem inP_are {l : List Int} {L : List (Int × Int)} (hl : l.length = L.length) (h : inP l L L.length = true) : areI l L := by
 simp only [inP, List.all_eq_true, List.mem_range, decide_eq_true_eq] at h
 exact ⟨hl, h⟩
theorem p63 : PureOk Tryz.prog 63 C61 := by
 refine pure_of (T := [(33, .fc Fhol)]) ⟨⟨p33, q33⟩, trivial⟩ Tryz.func63 k63 ?_
 rintro args K ⟨c, D, t, rfl, hb, hK⟩
 have hsv : c.sv = .agg [.ints .i64 c.T, .rd 2 c.R.length (rowsS c.R), .int .i64 c.a, .int .i64 c.b, .int .i64 c.e, .int .i64 c.g] := rfl
 have htv : t.sv = .agg [.ints .i64 t.R, .int .i64 t.a, .int .i64 t.e, .ints .i64 t.T] := rfl
 have hn : ¬ truT c D t → ∃ r', K r' ∧ leR 4 (SV.lit (.bool false)) r' := fun h => res hK (by simp [leR, h])
 have hn' : ¬ truT c D t → ∃ r', K r' ∧ leR 4 (SV.bool false) r' := fun h => res hK (by simp [leR, h])
 rw [hsv, htv]
 simp only [e_reg, e_seq, e_block, e_loop, o_nil, o_cons, gd_none, gd_some, gdK_tt, gdK_ft, gdK_bt, putK_e, runK_e, skipK_e, vK_e, boxK_e, conK_e, callK_e, evh_v, evh_box, evh_call, seqK_n, gam_e, gamK_f, pc_e, pcK_e, fcC_e, fcK_e, evp, bin, gt, gq, st, putf, X.get, gets, ap, mkfr, rep, clV, clL, clS, clo, ld, lda, lens, tk, dr, cs1, gb, pb, ln, lk, undef, Nat.reduceSub, Nat.reduceAdd, beq_self_eq_true, true_and, decide_eq_true_eq, decide_eq_false_iff_not, s63, r63, Fhol]
 refine ⟨fun h1 => ⟨fun h2 => ⟨fun h3 => ?_, fun h3 => ?_⟩, fun h2 => ?_⟩, fun h1 => ?_⟩
 ·refine loop_at2 (G := Nat) (fun i => [(8, .int .i64 i), (7, .bool (decide (c.e ≤ t.e ∧ t.e ≤ c.g) && inP t.R c.R i))])
   (fun _ => [.box 27 [.ints .i64 c.T, .rd 2 c.R.length (rowsS c.R), .int .i64 c.a, .int .i64 c.b, .int .i64 c.e, .int .i64 c.g], .box 39 [.ints .i64 t.R, .int .i64 t.a, .int .i64 t.e, .ints .i64 t.T]]) (fun i => i ≤ c.R.length) (fun i => c.R.length - i) 0 (Nat.zero_le _) ?_
  (intro fr1 hf1; simp only [forget, dstC, dstO, dstD, dst1, st] at hf1; subst hf1)
  refine ⟨?_, ?_⟩
  ·refine Lw_re 2 [] (Nat.zero_le _) (by simp [ln]) (by simp [ln]) rfl ?_ ?_
   ·simp only [reL, reX, inb, inb.inbs, ln, sts, st, Bool.and_self, Bool.and_true, Nat.reduceLT, Nat.reduceAdd, decide_true, and_self, Int.natCast_zero, inP, List.range_zero, List.all_nil, Bool.and_true, implies_true]
   ·simp only [reL, reX, reH, reB, reN, inb, and_self, implies_true]
  ·intro i hi1
   simp only [inr64, e_skip, e_reg, e_drw, e_seq, e_cond, e_block, e_loop, e_exit, o_nil, o_cons, gd_none, gd_some, gdK_tt, gdK_ft, gdK_bt, putK_e, runK_e, skipK_e, vK_e, conK_e, callK_e, evh_v, evh_call, dX_e, dG_t, d_nil, d_cons, tlK_n, loopK_n, loopK_x, seqK_n, seqK_x, condK_f, condK_b, exitK_t, blockK_x, blockK_n, gam_e, gamK_f, pc_e, pcK_e, fcC_e, fcK_e, evp, bin, gt, gq, st, putf, X.get, gets, ap, clV, clL, clS, clo, ld, lda, lens, ixs, tk, dr, gb, lk, evq, gdl, undef, Nat.reduceAdd, beq_self_eq_true, true_and, decide_eq_true_eq, decide_eq_false_iff_not, sts, Int.toNat_natCast, rowsS, Fhol]
   refine ⟨fun h => ⟨fun h4 => ⟨⟨by omega, by omega⟩, ⟨by omega, by omega⟩, ⟨by omega, by omega⟩, ?_⟩, fun h4 => ?_⟩, fun h => ?_⟩
   ·have e : (decide (c.e ≤ t.e ∧ t.e ≤ c.g) && inP t.R c.R (i + 1)) = decide (lo c.R i ≤ t.R.getD i 0 ∧ t.R.getD i 0 ≤ hi c.R i) := by
     rw [inP_snoc, ← Bool.and_assoc, h, Bool.true_and]
    rw [← e]
    refine Nx.mk (i + 1) (by show i + 1 ≤ c.R.length; omega) (by show c.R.length - (i + 1) < c.R.length - i; omega) (Lw_re 2 [] (Nat.zero_le _) (by simp [ln]) (by simp [ln]) rfl ?_ ?_)
    ·simp only [reL, reX, inb, inb.inbs, Bool.and_self, Nat.reduceLT, decide_true, and_self, Int.natCast_add, Int.natCast_one, implies_true]
    ·simp only [reL, reX, reH, reB, reN, inb, and_self, implies_true]
   ·rw [h]
    have ei : i = c.R.length := by omega
    subst ei
    simp only [Bool.and_eq_true, decide_eq_true_eq] at h
    have hR := inP_are (by omega) h.2
    refine loop_at2 (G := Nat) (fun j => [(9, .int .i64 j), (7, .bool (inP t.T D j))])
     (fun _ => [.box 27 [.ints .i64 c.T, .rd 2 c.R.length (rowsS c.R), .int .i64 c.a, .int .i64 c.b, .int .i64 c.e, .int .i64 c.g], .box 39 [.ints .i64 t.R, .int .i64 t.a, .int .i64 t.e, .ints .i64 t.T]]) (fun j => j ≤ D.length) (fun j => D.length - j) 0 (Nat.zero_le _) ?_
    (intro fr1 hf1; simp only [forget, dstC, dstO, dstD, dst1, st] at hf1; subst hf1)
    refine ⟨?_, ?_⟩
    ·refine Lw_re 2 [] (Nat.zero_le _) (by simp [ln]) (by simp [ln]) rfl ?_ ?_
     ·simp only [reL, reX, inb, inb.inbs, ln, sts, st, Bool.and_self, Nat.reduceLT, Nat.reduceAdd, decide_true, and_self, Int.natCast_zero, inP, List.range_zero, List.all_nil, implies_true]
     ·simp only [reL, reX, reH, reB, reN, inb, and_self, implies_true]
    ·intro j hj
     simp only [inr64, e_skip, e_reg, e_drw, e_seq, e_cond, e_block, e_exit, e_ret, o_nil, o_cons, gd_none, gd_some, gdK_tt, gdK_ft, gdK_bt, putK_e, runK_e, skipK_e, vK_e, conK_e, callK_e, evh_v, evh_call, dX_e, dG_t, d_nil, d_cons, tlK_n, loopK_n, loopK_x, seqK_n, seqK_x, condK_f, condK_b, exitK_t, blockK_x, blockK_n, ends_r, endK1_e, endK2_e, gam_e, gamK_f, pc_e, pcK_e, fcC_e, fcK_e, evp, bin, gt, gq, st, putf, X.get, gets, ap, rdR, tupled, clV, clL, clS, clo, ld, lda, lens, ixs, tk, dr, gb, lk, evq, gdl, undef, Nat.reduceAdd, beq_self_eq_true, true_and, decide_eq_true_eq, decide_eq_false_iff_not, sts, Int.toNat_natCast, rowsS, Fhol]
     refine ⟨fun g => ⟨fun g4 => ⟨⟨by omega, by omega⟩, ⟨by omega, by omega⟩, ⟨by omega, by omega⟩, ?_⟩, fun g4 => ?_⟩, fun g => ?_⟩
     ·have e : inP t.T D (j + 1) = decide (lo D j ≤ t.T.getD j 0 ∧ t.T.getD j 0 ≤ hi D j) := by
       rw [inP_snoc, g, Bool.true_and]
      rw [← e]
      refine Nx.mk (j + 1) (by show j + 1 ≤ D.length; omega) (by show D.length - (j + 1) < D.length - j; omega) (Lw_re 2 [] (Nat.zero_le _) (by simp [ln]) (by simp [ln]) rfl ?_ ?_)
      ·simp only [reL, reX, inb, inb.inbs, Bool.and_self, Nat.reduceLT, decide_true, and_self, Int.natCast_add, Int.natCast_one, implies_true]
      ·simp only [reL, reX, reH, reB, reN, inb, and_self, implies_true]
     ·have ej : j = D.length := by omega
      subst ej
      have ht : truT c D t := ⟨hR, h3, h.1, inP_are (by omega) g⟩
      exact res hK (by simp [leR, g, ht])
     ·have ht : ¬ truT c D t := fun ht => by
       rw [inP_ok ht.2.2.2 hj] at g; cases g
      exact res hK (by simp [leR, g, ht])
   ·rw [h]
    refine loop_once ?_
    simp only [e_skip, e_reg, e_drw, e_seq, e_cond, e_block, e_exit, e_ret, o_nil, o_cons, gd_none, gd_some, gdK_tt, gdK_ft, gdK_bt, putK_e, runK_e, skipK_e, vK_e, evh_v, dX_e, dG_t, d_cons, loopK_x, seqK_n, seqK_x, condK_f, condK_b, exitK_t, blockK_x, ends_r, endK1_e, endK2_e, evp, bin, gt, st, putf, X.get, rdR, tupled, clV, clS, clo, ld, lda, lens, ixs, dr, evq, gdl, undef, beq_self_eq_true, true_and, decide_eq_true_eq, decide_eq_false_iff_not, Bool.false_eq_true, false_implies]
    have ht : ¬ truT c D t := fun ht => by
     rw [inP_ok ht.1 hi1, decide_eq_true ht.2.2.1] at h; cases h
    exact fun _ => hn' ht
 ·refine loop_once ?_
  simp only [e_reg, e_seq, e_cond, e_block, e_loop, e_exit, o_nil, o_cons, gd_none, gd_some, gdK_ft, putK_e, runK_e, skipK_e, vK_e, evh_v, loopK_x, seqK_n, seqK_x, condK_f, exitK_t, blockK_x, evp, gt, st, putf, X.get, undef, beq_self_eq_true, true_and]
  refine loop_once ?_
  simp only [e_reg, e_seq, e_cond, e_exit, e_ret, o_nil, o_cons, gd_none, gd_some, gdK_ft, putK_e, runK_e, skipK_e, vK_e, evh_v, loopK_x, seqK_n, seqK_x, condK_f, exitK_t, blockK_x, ends_r, endK1_e, endK2_e, evp, gt, st, putf, X.get, rdR, tupled, clV, clS, clo, undef, beq_self_eq_true, true_and]
  exact hn fun h => h3 h.2.1
 ·refine loop_once ?_
  simp only [e_reg, e_seq, e_cond, e_block, e_loop, e_exit, o_nil, o_cons, gd_none, gd_some, gdK_ft, putK_e, runK_e, skipK_e, vK_e, evh_v, loopK_x, seqK_n, seqK_x, condK_f, exitK_t, blockK_x, evp, gt, st, putf, X.get, undef, beq_self_eq_true, true_and]
  refine loop_once ?_
  simp only [e_reg, e_seq, e_cond, e_exit, e_ret, o_nil, o_cons, gd_none, gd_some, gdK_ft, putK_e, runK_e, skipK_e, vK_e, evh_v, loopK_x, seqK_n, seqK_x, condK_f, exitK_t, blockK_x, ends_r, endK1_e, endK2_e, evp, gt, st, putf, X.get, rdR, tupled, clV, clS, clo, undef, beq_self_eq_true, true_and]
  exact hn fun h => h2 (by have := h.2.2.2.1; omega)
 ·refine loop_once ?_
  simp only [e_reg, e_seq, e_cond, e_block, e_loop, e_exit, o_nil, o_cons, gd_none, gd_some, gdK_ft, putK_e, runK_e, skipK_e, vK_e, evh_v, loopK_x, seqK_n, seqK_x, condK_f, exitK_t, blockK_x, evp, gt, st, putf, X.get, undef, beq_self_eq_true, true_and]
  refine loop_once ?_
  simp only [e_reg, e_seq, e_cond, e_exit, e_ret, o_nil, o_cons, gd_none, gd_some, gdK_ft, putK_e, runK_e, skipK_e, vK_e, evh_v, loopK_x, seqK_n, seqK_x, condK_f, exitK_t, blockK_x, ends_r, endK1_e, endK2_e, evp, gt, st, putf, X.get, rdR, tupled, clV, clS, clo, undef, beq_self_eq_true, true_and]
  exact hn fun h => h1 (by have := h.1.1; omega)
theorem p23 : PureOk Tryz.prog 23 C22 := by
 refine pure_of (T := [(55, .pc C53), (63, .pc C61), (50, .fc F50)]) ⟨⟨p55, q55⟩, ⟨p63, q63⟩, ⟨p50, q50⟩, trivial⟩ Tryz.func23 k23 ?_
 rintro args K ⟨c, D, t, rfl, hK⟩
 have hsv : c.sv = .agg [.ints .i64 c.T, .rd 2 c.R.length (rowsS c.R), .int .i64 c.a, .int .i64 c.b, .int .i64 c.e, .int .i64 c.g] := rfl
 have htv : t.sv = .agg [.ints .i64 t.R, .int .i64 t.a, .int .i64 t.e, .ints .i64 t.T] := rfl
 have h70 : ((70 : Int) = 0) = False := by simp
 have h71 : ((71 : Int) = 0) = False := by simp
 rw [hsv, htv]
 simp only [e_reg, e_seq, o_nil, o_cons, gd_none, putK_e, runK_e, vK_e, boxK_e, conK_e, callK_e, evh_v, evh_box, evh_call, seqK_n, gam_e, gamK_p, pc_e, pcK_e, evp, bin, gt, st, putf, X.get, gets, ap, mkfr, rep, clV, clL, clS, clo, ld, lda, tk, dr, cs1, gb, pb, ln, lk, undef, Nat.reduceSub, Nat.reduceAdd, beq_self_eq_true, true_and, s23, r23]
 refine ⟨c, D, rfl, ?_⟩
 by_cases hok : c.ok
 ·by_cases hv : voy c D
  ·have h1 : askE c D = 0 := by simp [askE, hok, hv]
   simp only [condK_bf, decide_true, e_skip, e_reg, e_seq, e_cond, o_nil, o_cons, gd_none, putK_e, runK_e, vK_e, conK_e, callK_e, evh_v, evh_call, seqK_n, gam_e, gamK_p, pc_e, pcK_e, evp, gt, st, putf, X.get, gets, ap, clV, clL, clS, clo, ld, lda, tk, dr, gb, lk, Bool.not_true, Nat.reduceBEq, beq_self_eq_true, true_and, h1]
   have hE := (c.eo hok (w := 101) (.inl rfl))
   have hl := hE.tb.len
   have hl2 := hE.len
   have hvl := hv.1
   refine ⟨c, D, t, rfl, ⟨by omega, by omega⟩, ?_⟩
   by_cases ht : truT c D t
   ·have h2 : truT c D t = True := eq_true ht
    have hq := c.truEq hok hv ht
    have hn := hq.n
    have hlt := ht.2.2.2.1
    simp only [condK_bf, decide_true, e_skip, e_reg, e_seq, e_cond, e_block, e_loop, o_nil, o_cons, gd_none, putK_e, runK_e, vK_e, evh_v, seqK_n, evp, gt, gq, st, putf, X.get, ld, lda, gb, Bool.not_true, Nat.reduceAdd, true_and, h2]
    refine loop_at2 (G := Nat) (fun i => [(11, .int .i64 i), (9, .int .i64 (errS c.T t i)), (10, .own 2)]) (fun i => [.box 27 [.ints .i64 c.T, .rd 2 c.R.length (rowsS c.R), .int .i64 c.a, .int .i64 c.b, .int .i64 c.e, .int .i64 c.g], .box 39 [.ints .i64 t.R, .int .i64 t.a, .int .i64 t.e, .ints .i64 t.T], .oi .i64 3 (errL c.T t i)]) (fun i => i ≤ t.T.length) (fun i => t.T.length - i) 0 (Nat.zero_le _) ?_
    (intro fr1 hf1; simp only [forget, dstC, dstO, dstD, dst1, st] at hf1; subst hf1)
    refine ⟨?_, ?_⟩
    ·refine Lw_re 2 [none] (Nat.zero_le _) (by simp [ln]) (by simp [ln]) rfl ?_ ?_
     ·simp only [reL, reX, rn, List.getElem?_cons_zero, Nat.reduceSub, Nat.lt_irrefl, Nat.le_refl, reduceCtorEq, or_true, inb, inb.inbs, ln, sts, st, Bool.and_self, Nat.reduceLT, Nat.reduceAdd, decide_true, and_self, Int.natCast_zero, implies_true, errS]
     ·simp only [reL, reX, reH, reB, reN, newB, inb, and_self, implies_true, errL, List.range_zero, List.map_nil]
    ·intro i hi
     have hb := hq.errB i hi
     have hll := errL_len (T := c.T) (t := t) (n := i)
     by_cases hlt2 : i < t.T.length
     ·have n0 : ((i : Int) < (D.length : Int)) = True := by simp; omega
      have hb2 := hq.stepB hlt2
      have hb3 := itpB hq.tb hq.rb (hq.at' i hlt2)
      have hb4 := ageB hq.a.1 hq.a.2 (show (0 : Int) ≤ i by omega) (by omega)
      have hat := hq.at' i hlt2
      have he : errS c.T t (i + 1) = errS c.T t i + (itp c.T t.R (t.T.getD i 0) + t.a * i) := rfl
      have hs := errL_snoc (T := c.T) (t := t) (n := i)
      rw [he] at hs
      simp (maxSteps := 3000000) only [condK_bt, decide_true, inr64, ↓reduceIte, e_skip, e_reg, e_drw, e_seq, e_cond, e_block, o_nil, o_cons, gd_none, putK_e, runK_e, vK_e, bslK_e, appK2_oi, appK_e, evh_v, evh_bsl, evh_app, dX_e, dG_t, d_nil, d_cons, tlK_n, loopK_n, seqK_n, blockK_n, gamq_e, gamqK_f, evp, bin, gt, gq, st, putf, X.get, gets, getp, ap, clo, clo.clos, ld, lda, lens, ixs, sp, sp.spl, lay, ll, cs1, one, gb, sb, pb, ln, lk, evq, gdl, Bool.and_true, Nat.reduceAdd, Nat.reduceBEq, beq_self_eq_true, true_and, sts, n0, Int.toNat_natCast, F50, hll]
      have f1 := hq.tb
      have f2 := hq.rb
      have f3 := hq.len
      generalize hz : itp c.T t.R (t.T.getD i 0) + t.a * i = z at *
      refine ⟨⟨by omega, by omega⟩, ⟨f1, f2, f3, hat⟩, ⟨by omega, by omega⟩, ⟨by omega, by omega⟩, ⟨by omega, by omega⟩, ⟨by omega, by omega⟩, ⟨by omega, by omega⟩, ?_⟩
      refine Nx.mk (i + 1) (by omega) (by omega) (Lw_re 2 [some 4] (Nat.zero_le _) (by simp [ln]) (by simp [ln]) rfl ?_ ?_)
      ·simp only [reL, reX, rn, List.getElem?_cons_zero, Nat.reduceSub, Nat.lt_irrefl, Nat.le_refl, and_false, or_true, inb, inb.inbs, ln, Bool.and_self, Nat.reduceLT, Nat.reduceAdd, decide_true, and_self, Int.natCast_add, Int.natCast_one, implies_true, he]
      ·simp only [reL, reX, reH, reB, reM, reN, gb, Nat.reduceLeDiff, inb, ln, Nat.reduceLT, Nat.reduceAdd, and_self, implies_true, hs]
     ·have n0 : ((i : Int) < (D.length : Int)) = False := by simp; omega
      have ei : i = t.T.length := by omega
      subst ei
      simp only [condK_bf, decide_false, e_reg, e_seq, e_cond, e_exit, e_ret, o_nil, o_cons, gd_none, putK_e, runK_e, vK_e, evh_v, loopK_x, seqK_n, seqK_x, exitK_t, blockK_x, ends_r, endK1_e, endK2_e, evp, bin, gt, st, putf, X.get, rdR, tupled, clV, clL, clS, clo, lens, gb, sb, beq_self_eq_true, true_and, sts, n0]
      exact res hK (by simp [leR, leR.leRs, erE, erL, hok, hv, ht])
   ·have h2 : truT c D t = False := eq_false ht
    simp only [condK_bt, decide_false, e_reg, e_seq, e_cond, e_ret, o_nil, o_cons, gd_none, putK_e, runK_e, vK_e, evh_v, seqK_n, seqK_r, ends_r, endK1_e, endK2_e, evp, gt, st, putf, X.get, rdR, tupled, clV, clL, clS, clo, Bool.not_false, true_and, h2]
    exact res hK (by simp [leR, leR.leRs, erE, erL, hok, hv, ht])
  ·have h1 : askE c D = 71 := by simp [askE, hok, hv]
   simp only [condK_bt, decide_false, e_reg, e_seq, e_cond, e_ret, o_nil, o_cons, gd_none, putK_e, runK_e, vK_e, evh_v, seqK_n, seqK_r, ends_r, endK1_e, endK2_e, evp, gt, st, putf, X.get, rdR, tupled, clV, clL, clS, clo, Bool.not_false, true_and, h1, h71]
   exact res hK (by simp [leR, leR.leRs, erE, erL, hok, hv])
 ·have h1 : askE c D = 70 := by simp [askE, hok]
  simp only [condK_bt, decide_false, e_reg, e_seq, e_cond, e_ret, o_nil, o_cons, gd_none, putK_e, runK_e, vK_e, evh_v, seqK_n, seqK_r, ends_r, endK1_e, endK2_e, evp, gt, st, putf, X.get, rdR, tupled, clV, clL, clS, clo, Bool.not_false, true_and, h1, h70]
  exact res hK (by simp [leR, leR.leRs, erE, erL, hok])
def C4 : PC := fun args K => ∃ (c : Ck) (D : List (Int × Int)) (t : Tr), args = [c.sv, .rd 2 D.length (rowsS D), t.sv] ∧ K (.lit (.bool true))
theorem p4 (p21 : PureOk Tryz.prog 21 (fcC F21)) (q21 : Known Tryz.prog 21) : PureOk Tryz.prog 4 C4 := by
 refine pure_of (T := [(22, .pc C22), (23, .pc C22), (24, .pc C24), (21, .fc F21)]) ⟨⟨p22, q22⟩, ⟨p23, q23⟩, ⟨p24, q24⟩, ⟨p21, q21⟩, trivial⟩ Tryz.func4 k4 ?_
 rintro args K ⟨c, D, t, rfl, hK⟩
 have hsv : c.sv = .agg [.ints .i64 c.T, .rd 2 c.R.length (rowsS c.R), .int .i64 c.a, .int .i64 c.b, .int .i64 c.e, .int .i64 c.g] := rfl
 have htv : t.sv = .agg [.ints .i64 t.R, .int .i64 t.a, .int .i64 t.e, .ints .i64 t.T] := rfl
 have hlen : (erL c D t).length ≤ 1000 := by
  unfold erL
  split
  ·rename_i h
   rw [errL_len]
   have := (c.truEq h.1 h.2.1 h.2.2).n
   omega
  ·simp
 rw [hsv, htv]
 simp only [e_reg, e_seq, o_nil, o_cons, gd_none, putK_e, runK_e, vK_e, boxK_e, conK_e, callK_e, evh_v, evh_box, evh_call, seqK_n, gam_e, gamK_p, pc_e, pcK_e, evp, gt, st, putf, X.get, gets, ap, mkfr, rep, clV, clL, clS, clo, ld, lda, tk, dr, cs1, gb, pb, ln, lk, undef, Nat.reduceSub, Nat.reduceAdd, beq_self_eq_true, true_and, s4, r4]
 refine ⟨c, D, t, rfl, ?_⟩
 simp only [e_reg, e_seq, o_nil, o_cons, gd_none, putK_e, runK_e, vK_e, conK_e, callK_e, evh_v, evh_call, seqK_n, gam_e, gamK_p, pc_e, pcK_e, evp, gt, gq, st, putf, X.get, gets, ap, clV, clL, clS, clo, ld, lda, tk, dr, gb, lk, Nat.reduceBEq, beq_self_eq_true, true_and]
 refine ⟨c, D, t, rfl, ?_⟩
 simp only [e_reg, e_seq, o_nil, o_cons, gd_none, gd_some, putK_e, runK_e, vK_e, conK_e, callK_e, evh_v, evh_call, seqK_n, gam_e, gamK_p, pc_e, pcK_e, evp, gt, gq, st, putf, X.get, gets, ap, clV, clL, clS, clo, lk, Nat.reduceBEq, beq_self_eq_true, true_and]
 refine ⟨_, _, rfl, hlen, ?_⟩
 rw [decide_eq_true (rfl : erL c D t = erL c D t)]
 have n0 : (erE c D t = erE c D t) = True := eq_true rfl
 simp only [gdK_btt, decide_true, e_ret, o_nil, o_cons, gd_none, gd_some, gdK_tt, putK_e, runK_e, vK_e, conK_e, callK_e, evh_v, evh_call, seqK_n, ends_r, endK1_e, endK2_e, gam_e, gamK_f, pc_e, pcK_e, fcC_e, fcK_e, evp, bin, gt, st, putf, X.get, gets, ap, rdR, tupled, clV, clL, clS, clo, lk, Nat.reduceBEq, beq_self_eq_true, true_and, F21]
 exact res hK (by simp [leR])
end Go.Proofs.YtlegfejimphfbaaGreat
end
