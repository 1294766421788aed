import Derived.Test.YtlegfejimphfbaaGreatVgHC
import Derived.Test.YtlegfejimphfbaaGreatVgCY
section
namespace Go.Proofs.YtlegfejimphfbaaGreat
open Go Go.Vg
set_option linter.unusedSimpArgs false
set_option linter.unusedVariables false
set_option maxRecDepth 10000
def s39 : SC :=
 (.seq (.reg [⟨(some 4), none, .v (.mov (.c (.int .i64 (0))))⟩])
 (.seq (.reg [⟨(some 6), none, .v (.mov (.t 0))⟩,
  ⟨(some 7), none, .v (.mov (.t 1))⟩,
  ⟨(some 8), none, .v (.bin .rem (.t 6) (.t 7))⟩,
  ⟨(some 5), none, .v (.mov (.t 8))⟩])
 (.seq (.seq (.reg [⟨(some 9), none, .v (.mov (.t 5))⟩,
  ⟨(some 10), none, .v (.bin .lss (.t 9) (.c (.int .i64 (0))))⟩])
 (.cond (.t 10)
  (.reg [⟨(some 11), none, .v (.mov (.t 5))⟩,
   ⟨(some 12), none, .v (.mov (.t 1))⟩,
   ⟨(some 13), none, .v (.bin .add (.t 11) (.t 12))⟩,
   ⟨(some 5), none, .v (.mov (.t 13))⟩])
  .skip))
 (.seq (.reg [⟨(some 14), none, .v (.mov (.t 5))⟩,
  ⟨(some 4), none, .v (.mov (.t 14))⟩])
 .ret))))
def r39 : List RV := [.t 4]
theorem k39 : (Tryz.f39.body.bind (cC Tryz.prog), cR Tryz.prog Tryz.f39.results.toList, Tryz.f39.ntmps) = (some s39, some r39, 15) := by kernel_rfl
theorem q39 : Known Tryz.prog 39 := ⟨_, Tryz.func39, by decide, by simp [Tryz.f39]⟩
def s36 : SC :=
 (.seq (.reg [⟨(some 6), none, .v (.mov (.c (.int .i64 (0))))⟩])
 (.seq (.seq (.reg [⟨(some 8), none, .v (.mov (.t 0))⟩,
  ⟨(some 9), none, .v (.mov (.t 1))⟩,
  ⟨(some 10), none, .v (.bin .geq (.t 8) (.t 9))⟩])
 (.cond (.t 10)
  (.seq (.reg [⟨(some 11), none, .v (.mov (.t 0))⟩,
   ⟨(some 6), none, .v (.mov (.t 11))⟩])
  .ret)
  .skip))
 (.seq (.reg [⟨(some 12), none, .v (.mov (.t 1))⟩,
  ⟨(some 13), none, .v (.mov (.t 0))⟩,
  ⟨(some 14), none, .v (.bin .sub (.t 12) (.t 13))⟩,
  ⟨(some 15), none, .v (.bin .add (.t 14) (.c (.int .i64 (1))))⟩,
  ⟨(some 7), none, .v (.mov (.t 15))⟩])
 (.seq (.seq (.reg [⟨(some 16), none, .v (.mov (.t 7))⟩,
  ⟨(some 17), none, .v (.bin .lss (.t 16) (.c (.int .i64 (1))))⟩])
 (.cond (.t 17)
  (.seq (.reg [⟨(some 18), none, .v (.mov (.t 2))⟩,
   ⟨(some 19), none, .v (.mov (.t 0))⟩,
   ⟨(some 20), none, .v (.max2 (.t 18) (.t 19))⟩,
   ⟨(some 21), none, .v (.mov (.t 1))⟩,
   ⟨(some 22), none, .v (.min2 (.t 20) (.t 21))⟩,
   ⟨(some 6), none, .v (.mov (.t 22))⟩])
  .ret)
  .skip))
 (.seq (.reg [⟨(some 23), none, .v (.mov (.t 0))⟩,
  ⟨(some 24), none, .v (.mov (.t 2))⟩,
  ⟨(some 25), none, .v (.mov (.t 7))⟩,
  ⟨(some 26), none, .call (.c (.fn 39 [])) [(.t 24), (.t 25)]⟩,
  ⟨(some 27), none, .v (.bin .add (.t 23) (.t 26))⟩,
  ⟨(some 6), none, .v (.mov (.t 27))⟩])
 .ret)))))
def r36 : List RV := [.t 6]
theorem k36 : (Tryz.f36.body.bind (cC Tryz.prog), cR Tryz.prog Tryz.f36.results.toList, Tryz.f36.ntmps) = (some s36, some r36, 28) := by kernel_rfl
theorem q36 : Known Tryz.prog 36 := ⟨_, Tryz.func36, by decide, by simp [Tryz.f36]⟩
def s37 : SC :=
 (.seq (.reg [⟨(some 4), none, .v (.mov (.c (.int .i64 (0))))⟩])
 (.seq (.seq (.reg [⟨(some 5), none, .v (.mov (.t 0))⟩,
  ⟨(some 6), none, .v (.len (.t 5))⟩,
  ⟨(some 7), none, .v (.bin .eql (.t 6) (.c (.int .i64 (0))))⟩])
 (.cond (.t 7)
  (.seq (.reg [⟨(some 4), none, .v (.mov (.c (.int .i64 (0))))⟩])
  .ret)
  .skip))
 (.seq (.reg [⟨(some 8), none, .v (.mov (.t 0))⟩,
  ⟨(some 9), none, .v (.mov (.t 1))⟩,
  ⟨(some 10), none, .v (.mov (.t 0))⟩,
  ⟨(some 11), none, .v (.len (.t 10))⟩,
  ⟨(some 12), none, .call (.c (.fn 39 [])) [(.t 9), (.t 11)]⟩,
  ⟨(some 13), none, .v (.ixa (.t 8) (.t 12) 1)⟩,
  ⟨(some 14), none, .v (.load (.t 13) none)⟩,
  ⟨(some 4), none, .v (.mov (.t 14))⟩])
 .ret)))
def r37 : List RV := [.t 4]
theorem k37 : (Tryz.f37.body.bind (cC Tryz.prog), cR Tryz.prog Tryz.f37.results.toList, Tryz.f37.ntmps) = (some s37, some r37, 15) := by kernel_rfl
theorem q37 : Known Tryz.prog 37 := ⟨_, Tryz.func37, by decide, by simp [Tryz.f37]⟩
def s38 : SC :=
 (.seq (.reg [⟨(some 6), none, .v (.mov (.c (.lit (.bool false))))⟩])
 (.seq (.reg [⟨(some 7), none, .v (.mov (.t 0))⟩,
  ⟨(some 8), none, .v (.mov (.t 1))⟩,
  ⟨(some 9), none, .v (.bin .geq (.t 7) (.t 8))⟩,
  ⟨(some 10), none, .v (.mov (.t 9))⟩,
  ⟨(some 11), (some (10, true)), .v (.mov (.t 0))⟩,
  ⟨(some 12), (some (10, true)), .v (.mov (.t 2))⟩,
  ⟨(some 13), (some (10, true)), .v (.bin .leq (.t 11) (.t 12))⟩,
  ⟨(some 14), none, .v (.pick (.t 10) (.t 13) (.c (.lit (.bool false))))⟩,
  ⟨(some 6), none, .v (.mov (.t 14))⟩])
 .ret))
def r38 : List RV := [.t 6]
theorem k38 : (Tryz.f38.body.bind (cC Tryz.prog), cR Tryz.prog Tryz.f38.results.toList, Tryz.f38.ntmps) = (some s38, some r38, 15) := by kernel_rfl
theorem q38 : Known Tryz.prog 38 := ⟨_, Tryz.func38, by decide, by simp [Tryz.f38]⟩
def s33 : SC :=
 (.seq (.reg [⟨(some 2), none, .box 25 (.t 0)⟩,
  ⟨(some 4), none, .v (.mov (.c (.lit (.bool false))))⟩])
 (.seq (.reg [⟨(some 5), none, .v (.mov (.t 1))⟩,
  ⟨(some 6), none, .v (.off (.t 2) 0)⟩,
  ⟨(some 7), none, .v (.load (.t 6) none)⟩,
  ⟨(some 8), none, .v (.off (.t 2) 1)⟩,
  ⟨(some 9), none, .v (.load (.t 8) none)⟩,
  ⟨(some 10), none, .call (.c (.fn 38 [])) [(.t 5), (.t 7), (.t 9)]⟩,
  ⟨(some 4), none, .v (.mov (.t 10))⟩])
 .ret))
def r33 : List RV := [.t 4]
theorem k33 : (Tryz.f33.body.bind (cC Tryz.prog), cR Tryz.prog Tryz.f33.results.toList, Tryz.f33.ntmps) = (some s33, some r33, 11) := by kernel_rfl
theorem q33 : Known Tryz.prog 33 := ⟨_, Tryz.func33, by decide, by simp [Tryz.f33]⟩
def s31 : SC :=
 (.seq (.reg [⟨(some 1), none, .box 27 (.t 0)⟩,
  ⟨(some 2), none, .v (.mov (.c (.lit (.bool false))))⟩])
 (.seq (.reg [⟨(some 3), none, .v (.load (.t 1) (some 6))⟩,
  ⟨(some 4), none, .call (.c (.fn 16 [])) [(.t 3)]⟩,
  ⟨(some 5), none, .v (.bin .eql (.t 4) (.c (.int .i64 (0))))⟩,
  ⟨(some 6), none, .v (.mov (.t 5))⟩,
  ⟨(some 7), (some (6, true)), .v (.off (.t 1) 0)⟩,
  ⟨(some 8), (some (6, true)), .v (.load (.t 7) none)⟩,
  ⟨(some 9), (some (6, true)), .v (.len (.t 8))⟩,
  ⟨(some 10), (some (6, true)), .call (.c (.fn 38 [])) [(.t 9), (.c (.int .i64 (2))), (.c (.int .i64 (8)))]⟩,
  ⟨(some 11), none, .v (.pick (.t 6) (.t 10) (.c (.lit (.bool false))))⟩,
  ⟨(some 12), none, .v (.mov (.t 11))⟩,
  ⟨(some 13), (some (12, true)), .v (.off (.t 1) 1)⟩,
  ⟨(some 14), (some (12, true)), .v (.load (.t 13) none)⟩,
  ⟨(some 15), (some (12, true)), .v (.len (.t 14))⟩,
  ⟨(some 16), (some (12, true)), .v (.off (.t 1) 0)⟩,
  ⟨(some 17), (some (12, true)), .v (.load (.t 16) none)⟩,
  ⟨(some 18), (some (12, true)), .v (.len (.t 17))⟩,
  ⟨(some 19), (some (12, true)), .v (.bin .eql (.t 15) (.t 18))⟩,
  ⟨(some 20), none, .v (.pick (.t 12) (.t 19) (.c (.lit (.bool false))))⟩,
  ⟨(some 2), none, .v (.mov (.t 20))⟩])
 .ret))
def r31 : List RV := [.t 2]
theorem k31 : (Tryz.f31.body.bind (cC Tryz.prog), cR Tryz.prog Tryz.f31.results.toList, Tryz.f31.ntmps) = (some s31, some r31, 21) := by kernel_rfl
theorem q31 : Known Tryz.prog 31 := ⟨_, Tryz.func31, by decide, by simp [Tryz.f31]⟩
def s32 : SC :=
 (.seq (.reg [⟨(some 3), none, .box 27 (.t 0)⟩,
  ⟨(some 6), none, .new 39 [(.lit (.slice none 0 0)), (.int .i64 (0)), (.int .i64 (0)), (.lit (.slice none 0 0))]⟩])
 (.seq (.drw [(0, ⟨(some 10), none, .v (.off (.t 3) 2)⟩, false),
  (1, ⟨(some 11), none, .v (.off (.t 10) 0)⟩, false),
  (2, ⟨(some 12), none, .v (.load (.t 11) none)⟩, false),
  (3, ⟨(some 13), none, .v (.off (.t 3) 2)⟩, false),
  (4, ⟨(some 14), none, .v (.off (.t 13) 1)⟩, false),
  (5, ⟨(some 15), none, .v (.load (.t 14) none)⟩, false),
  (6, ⟨(some 16), none, .v (.mov (.t 2))⟩, false),
  (7, ⟨(some 17), none, .call (.c (.fn 37 [])) [(.t 16), (.c (.int .i64 (0)))]⟩, false),
  (8, ⟨(some 18), none, .call (.c (.fn 36 [])) [(.t 12), (.t 15), (.t 17)]⟩, false),
  (9, ⟨(some 19), none, .v (.off (.t 3) 4)⟩, false),
  (10, ⟨(some 20), none, .v (.off (.t 19) 0)⟩, false),
  (11, ⟨(some 21), none, .v (.load (.t 20) none)⟩, false),
  (12, ⟨(some 22), none, .v (.off (.t 3) 4)⟩, false),
  (13, ⟨(some 23), none, .v (.off (.t 22) 1)⟩, false),
  (14, ⟨(some 24), none, .v (.load (.t 23) none)⟩, false),
  (15, ⟨(some 25), none, .v (.mov (.t 2))⟩, false),
  (16, ⟨(some 26), none, .call (.c (.fn 37 [])) [(.t 25), (.c (.int .i64 (1)))]⟩, false),
  (17, ⟨(some 27), none, .call (.c (.fn 36 [])) [(.t 21), (.t 24), (.t 26)]⟩, false),
  (18, ⟨(some 28), none, .bld [(.lit (.slice none 0 0)), (.int .i64 (0)), (.int .i64 (0)), (.lit (.slice none 0 0))] [(1, 1, (.t 18)), (2, 1, (.t 27))]⟩, false)]
  (some ⟨(some 7), none, .new 39 [(.lit (.slice none 0 0)), (.int .i64 (0)), (.int .i64 (0)), (.lit (.slice none 0 0))]⟩)
  [⟨none, none, .store 4 (.t 7) (.t 28)⟩])
 (.seq (.seq (.reg [⟨(some 8), none, .v (.mov (.c (.int .i64 (0))))⟩])
 (.block 0 (.loop
  (.seq (.seq (.reg [⟨(some 29), none, .v (.mov (.t 8))⟩,
   ⟨(some 30), none, .v (.off (.t 3) 1)⟩,
   ⟨(some 31), none, .v (.load (.t 30) none)⟩,
   ⟨(some 32), none, .v (.len (.t 31))⟩,
   ⟨(some 33), none, .v (.bin .lss (.t 29) (.t 32))⟩])
  (.cond (.t 33)
   .skip
   (.exit 0)))
  (.seq (.block 1 (.drw [(0, ⟨(some 36), none, .v (.off (.t 7) 0)⟩, false),
   (1, ⟨(some 37), none, .v (.load (.t 36) none)⟩, false),
   (2, ⟨(some 38), none, .v (.off (.t 3) 1)⟩, false),
   (3, ⟨(some 39), none, .v (.load (.t 38) none)⟩, false),
   (4, ⟨(some 40), none, .v (.mov (.t 8))⟩, false),
   (5, ⟨(some 41), none, .v (.ixa (.t 39) (.t 40) 2)⟩, false),
   (6, ⟨(some 42), none, .v (.off (.t 41) 0)⟩, false),
   (7, ⟨(some 43), none, .v (.load (.t 42) none)⟩, false),
   (8, ⟨(some 44), none, .v (.off (.t 3) 1)⟩, false),
   (9, ⟨(some 45), none, .v (.load (.t 44) none)⟩, false),
   (10, ⟨(some 46), none, .v (.mov (.t 8))⟩, false),
   (11, ⟨(some 47), none, .v (.ixa (.t 45) (.t 46) 2)⟩, false),
   (12, ⟨(some 48), none, .v (.off (.t 47) 1)⟩, false),
   (13, ⟨(some 49), none, .v (.load (.t 48) none)⟩, false),
   (14, ⟨(some 50), none, .v (.mov (.t 2))⟩, false),
   (15, ⟨(some 51), none, .v (.mov (.t 8))⟩, false),
   (16, ⟨(some 52), none, .v (.bin .add (.t 51) (.c (.int .i64 (2))))⟩, false),
   (17, ⟨(some 53), none, .call (.c (.fn 37 [])) [(.t 50), (.t 52)]⟩, false),
   (18, ⟨(some 54), none, .call (.c (.fn 36 [])) [(.t 43), (.t 49), (.t 53)]⟩, false)]
   (some ⟨(some 55), none, .bsl 3 1 [(.int .i64 (0))] [(0, 1, (.t 54))]⟩)
   [⟨(some 56), none, .app 3 1 8 (.t 37) (.t 55)⟩,
   ⟨(some 57), none, .v (.off (.t 7) 0)⟩,
   ⟨none, none, .store 1 (.t 57) (.t 56)⟩]))
  (.reg [⟨(some 34), none, .v (.mov (.t 8))⟩,
   ⟨(some 35), none, .v (.bin .add (.t 34) (.c (.int .i64 (1))))⟩,
   ⟨(some 8), none, .v (.mov (.t 35))⟩]))))))
 (.seq (.seq (.reg [⟨(some 9), none, .v (.mov (.c (.int .i64 (0))))⟩])
 (.block 2 (.loop
  (.seq (.seq (.reg [⟨(some 58), none, .v (.mov (.t 9))⟩,
   ⟨(some 59), none, .v (.mov (.t 1))⟩,
   ⟨(some 60), none, .v (.len (.t 59))⟩,
   ⟨(some 61), none, .v (.bin .lss (.t 58) (.t 60))⟩])
  (.cond (.t 61)
   .skip
   (.exit 2)))
  (.seq (.block 3 (.drw [(0, ⟨(some 64), none, .v (.off (.t 7) 3)⟩, false),
   (1, ⟨(some 65), none, .v (.load (.t 64) none)⟩, false),
   (2, ⟨(some 66), none, .v (.mov (.t 1))⟩, false),
   (3, ⟨(some 67), none, .v (.mov (.t 9))⟩, false),
   (4, ⟨(some 68), none, .v (.ixa (.t 66) (.t 67) 2)⟩, false),
   (5, ⟨(some 69), none, .v (.off (.t 68) 0)⟩, false),
   (6, ⟨(some 70), none, .v (.load (.t 69) none)⟩, false),
   (7, ⟨(some 71), none, .v (.mov (.t 1))⟩, false),
   (8, ⟨(some 72), none, .v (.mov (.t 9))⟩, false),
   (9, ⟨(some 73), none, .v (.ixa (.t 71) (.t 72) 2)⟩, false),
   (10, ⟨(some 74), none, .v (.off (.t 73) 1)⟩, false),
   (11, ⟨(some 75), none, .v (.load (.t 74) none)⟩, false),
   (12, ⟨(some 76), none, .v (.mov (.t 2))⟩, false),
   (13, ⟨(some 77), none, .v (.mov (.t 9))⟩, false),
   (14, ⟨(some 78), none, .v (.bin .add (.t 77) (.c (.int .i64 (3))))⟩, false),
   (15, ⟨(some 79), none, .call (.c (.fn 37 [])) [(.t 76), (.t 78)]⟩, false),
   (16, ⟨(some 80), none, .call (.c (.fn 36 [])) [(.t 70), (.t 75), (.t 79)]⟩, false)]
   (some ⟨(some 81), none, .bsl 3 1 [(.int .i64 (0))] [(0, 1, (.t 80))]⟩)
   [⟨(some 82), none, .app 3 1 8 (.t 65) (.t 81)⟩,
   ⟨(some 83), none, .v (.off (.t 7) 3)⟩,
   ⟨none, none, .store 1 (.t 83) (.t 82)⟩]))
  (.reg [⟨(some 62), none, .v (.mov (.t 9))⟩,
   ⟨(some 63), none, .v (.bin .add (.t 62) (.c (.int .i64 (1))))⟩,
   ⟨(some 9), none, .v (.mov (.t 63))⟩]))))))
 (.seq (.reg [⟨(some 84), none, .v (.load (.t 7) (some 4))⟩,
  ⟨none, none, .store 4 (.t 6) (.t 84)⟩])
 .ret)))))
def r32 : List RV := [.c 6 (some 4)]
theorem k32 : (Tryz.f32.body.bind (cC Tryz.prog), cR Tryz.prog Tryz.f32.results.toList, Tryz.f32.ntmps) = (some s32, some r32, 85) := by kernel_rfl
theorem q32 : Known Tryz.prog 32 := ⟨_, Tryz.func32, by decide, by simp [Tryz.f32]⟩
theorem p38 : PureOk Tryz.prog 38 (fcC Fin) := by
 refine pure_of (T := []) trivial Tryz.func38 k38 ?_
 intro args K hC
 unfold fcC Fin at hC
 split at hC <;> first | (exact hC.elim) | skip
 rename_i h
 split at h <;> first | (cases h; done) | skip
 cases h
 simp only [e_reg, e_seq, e_ret, o_nil, o_cons, gd_none, gd_some, gdK_tt, gdK_ft, gdK_bt, putK_e, runK_e, skipK_e, vK_e, evh_v, seqK_n, ends_r, endK1_e, endK2_e, evp, bin, gt, st, putf, X.get, mkfr, rep, rdR, tupled, clV, clS, clo, undef, Nat.reduceSub, true_and, decide_eq_true_eq, decide_eq_false_iff_not, s38, r38]
 exact ⟨fun h => res hC.2 (by simp [leR, h]), fun h => res hC.2 (by simp [leR, h])⟩
def Fmod : FC := fun args => match args with
 | [.int .i64 a, .int .i64 b] => some (0 < b ∧ b ≤ 9223372036854775807, .int .i64 (a % b))
 | _ => none
theorem p39 : PureOk Tryz.prog 39 (fcC Fmod) := by
 refine pure_of (T := []) trivial Tryz.func39 k39 ?_
 intro args K hC
 unfold fcC Fmod at hC
 split at hC <;> first | (exact hC.elim) | skip
 rename_i h
 split at h <;> first | (cases h; done) | skip
 cases h
 rename_i a b
 obtain ⟨⟨hb, hb2⟩, hK⟩ := hC
 have e := Int.tmod_eq_emod (a := a) (b := b)
 have h1 := Int.emod_nonneg a (show b ≠ 0 by omega)
 have h2 := Int.emod_lt_of_pos a hb
 have h3 : (b.natAbs : Int) = b := by omega
 simp only [inr64, ne_eq, e_skip, e_reg, e_seq, e_cond, e_ret, o_nil, o_cons, gd_none, putK_e, runK_e, vK_e, evh_v, seqK_n, condK_b, ends_r, endK1_e, endK2_e, evp, bin, gt, st, putf, X.get, mkfr, rep, rdR, tupled, clV, clS, clo, undef, Nat.reduceSub, true_and, decide_eq_true_eq, decide_eq_false_iff_not, s39, r39]
 have e2 : a.tmod b = a % b ∨ a.tmod b = a % b - b := by
  by_cases c : 0 ≤ a ∨ b ∣ a
  ·rw [if_pos c] at e; exact .inl (by simpa using e)
  ·rw [if_neg c, h3] at e; exact .inr e
 exact ⟨by omega, fun h => ⟨by omega, res hK (by simp [leR]; omega)⟩, fun h => res hK (by simp [leR]; omega)⟩
def chz (low high n : Int) : Int := if high ≤ low then low else low + n % (high - low + 1)
theorem chz_bnd {a b n : Int} (h : a ≤ b) : a ≤ chz a b n ∧ chz a b n ≤ b := by
 unfold chz
 split
 ·omega
 ·have h1 := Int.emod_nonneg n (show b - a + 1 ≠ 0 by omega)
  have h2 := Int.emod_lt_of_pos n (show 0 < b - a + 1 by omega)
  omega
def Fch : FC := fun args => match args with
 | [.int .i64 a, .int .i64 b, .int .i64 n] => some ((-1000000000 ≤ a ∧ a ≤ 1000000000) ∧ (-1000000000 ≤ b ∧ b ≤ 1000000000), .int .i64 (chz a b n))
 | _ => none
theorem p36 : PureOk Tryz.prog 36 (fcC Fch) := by
 refine pure_of (T := [(39, .fc Fmod)]) ⟨⟨p39, q39⟩, trivial⟩ Tryz.func36 k36 ?_
 intro args K hC
 unfold fcC Fch at hC
 split at hC <;> first | (exact hC.elim) | skip
 rename_i h
 split at h <;> first | (cases h; done) | skip
 cases h
 rename_i a b n
 obtain ⟨⟨⟨h1, h2⟩, h3, h4⟩, hK⟩ := hC
 simp only [inr64, e_skip, e_reg, e_seq, e_cond, e_ret, o_nil, o_cons, gd_none, putK_e, runK_e, vK_e, conK_e, callK_e, evh_v, evh_call, seqK_n, seqK_r, condK_b, ends_r, endK1_e, endK2_e, gam_e, gamK_f, pc_e, pcK_e, fcC_e, fcK_e, evp, bin, gt, st, putf, X.get, gets, ap, mkfr, rep, rdR, tupled, clV, clL, clS, clo, lk, undef, Nat.reduceSub, beq_self_eq_true, true_and, decide_eq_true_eq, decide_eq_false_iff_not, s36, r36, Fmod]
 refine ⟨fun h => res hK (by simp [leR, chz]; omega), fun h => ⟨by omega, by omega, fun h5 => by omega, fun h5 => ?_⟩⟩
 have m1 := Int.emod_nonneg n (show b - a + 1 ≠ 0 by omega)
 have m2 := Int.emod_lt_of_pos n (show 0 < b - a + 1 by omega)
 exact ⟨⟨by omega, by omega⟩, by omega, res hK (by simp [leR, chz]; omega)⟩
def pk (l : List Int) (n : Int) : Int := if l.length = 0 then 0 else l.getD (n % (l.length : Int)).toNat 0
def Fpk : FC := fun args => match args with
 | [.ints .i64 l, .int .i64 n] => some ((l.length : Int) ≤ 9223372036854775807, .int .i64 (pk l n))
 | _ => none
theorem p37 : PureOk Tryz.prog 37 (fcC Fpk) := by
 refine pure_of (T := [(39, .fc Fmod)]) ⟨⟨p39, q39⟩, trivial⟩ Tryz.func37 k37 ?_
 intro args K hC
 unfold fcC Fpk at hC
 split at hC <;> first | (exact hC.elim) | skip
 rename_i h
 split at h <;> first | (cases h; done) | skip
 cases h
 rename_i l n
 obtain ⟨h1, hK⟩ := hC
 simp only [e_skip, e_reg, e_seq, e_cond, e_ret, o_nil, o_cons, gd_none, putK_e, runK_e, vK_e, conK_e, callK_e, evh_v, evh_call, seqK_n, seqK_r, condK_b, ends_r, endK1_e, endK2_e, gam_e, gamK_f, pc_e, pcK_e, fcC_e, fcK_e, evp, bin, gt, gq, st, putf, X.get, gets, ap, mkfr, rep, rdR, tupled, clV, clL, clS, clo, ld, lda, lens, ixs, lk, undef, Nat.reduceSub, beq_self_eq_true, true_and, decide_eq_true_eq, decide_eq_false_iff_not, s37, r37, Fmod]
 refine ⟨fun h => res hK (by simp [leR, pk]; intro h2; simp [h2] at h), fun h => ?_⟩
 have m1 := Int.emod_nonneg n (show (l.length : Int) ≠ 0 by omega)
 have m2 := Int.emod_lt_of_pos n (show 0 < (l.length : Int) by omega)
 have h' : l.length ≠ 0 := by omega
 rw [pk, if_neg h'] at hK
 exact ⟨⟨by omega, by omega⟩, ⟨m1, m2⟩, res hK (by simp [leR])⟩
def Fhol : FC := fun args => match args with
 | [.agg [.int .i64 a, .int .i64 b], .int .i64 n] => some (True, .bool (decide (a ≤ n ∧ n ≤ b)))
 | _ => none
theorem p33 : PureOk Tryz.prog 33 (fcC Fhol) := by
 refine pure_of (T := [(38, .fc Fin)]) ⟨⟨p38, q38⟩, trivial⟩ Tryz.func33 k33 ?_
 intro args K hC
 unfold fcC Fhol at hC
 split at hC <;> first | (exact hC.elim) | skip
 rename_i h
 split at h <;> first | (cases h; done) | skip
 cases h
 obtain ⟨-, hK⟩ := hC
 simp only [e_reg, e_seq, e_ret, o_nil, o_cons, gd_none, putK_e, runK_e, vK_e, boxK_e, conK_e, callK_e, evh_v, evh_box, evh_call, seqK_n, ends_r, endK1_e, endK2_e, gam_e, gamK_f, pc_e, pcK_e, fcC_e, fcK_e, evp, gt, gq, st, putf, X.get, gets, ap, mkfr, rep, rdR, tupled, clV, clL, clS, clo, ld, lda, cs1, gb, pb, ln, lk, undef, Nat.reduceSub, Nat.reduceAdd, beq_self_eq_true, true_and, s33, r33, Fin]
 exact res hK (by simp [leR])
def C31 : PC := fun args K => ∃ c : Ck, args = [c.sv] ∧ K (.bool (decide c.ok))
theorem p31 : PureOk Tryz.prog 31 C31 := by
 refine pure_of (T := [(16, .pc C16), (38, .fc Fin)]) ⟨⟨p16, q16⟩, ⟨p38, q38⟩, trivial⟩ Tryz.func31 k31 ?_
 rintro args K ⟨c, rfl, hK⟩
 have hsv : c.sv = .agg [.ints .i64 c.T, .rd 2 c.R.length (rowsS c.R), .int .i64 c.a, .int .i64 c.b, .int .i64 c.e, .int .i64 c.g] := rfl
 rw [hsv]
 simp only [e_reg, e_seq, o_nil, o_cons, gd_none, putK_e, runK_e, vK_e, boxK_e, conK_e, callK_e, evh_v, evh_box, evh_call, seqK_n, gam_e, gamK_p, pc_e, pcK_e, evp, bin, gt, st, putf, X.get, gets, ap, mkfr, rep, clV, clL, clS, clo, ld, lda, tk, dr, cs1, gb, pb, ln, lk, undef, Nat.reduceSub, beq_self_eq_true, true_and, s31, r31]
 refine ⟨c, rfl, ?_⟩
 by_cases hok : c.ok
 ·have h1 : c.chk = 0 := by simp [Ck.chk, hok]
  have h2 : (2 ≤ (c.T.length : Int) ∧ (c.T.length : Int) ≤ 8) = True := eq_true hok.1.1
  have h3 : ((c.R.length : Int) = c.T.length) = True := eq_true hok.1.2.2.1
  simp only [gdK_btt, decide_true, e_ret, o_nil, o_cons, gd_none, gd_some, gdK_tt, putK_e, runK_e, vK_e, conK_e, callK_e, evh_v, evh_call, seqK_n, ends_r, endK1_e, endK2_e, gam_e, gamK_f, pc_e, pcK_e, fcC_e, fcK_e, evp, bin, gt, gq, st, putf, X.get, gets, ap, rdR, tupled, clV, clL, clS, clo, ld, lda, lens, gb, lk, Nat.reduceAdd, Nat.reduceBEq, beq_self_eq_true, true_and, h1, Fin, h2, h3]
  exact res hK (by simp [leR, hok])
 ·have h1 : c.chk = 70 := by simp [Ck.chk, hok]
  have h70 : ((70 : Int) = 0) = False := by simp
  simp only [gdK_btf, decide_false, e_ret, o_nil, o_cons, gd_none, gd_some, gdK_ft, putK_e, runK_e, skipK_e, vK_e, evh_v, seqK_n, ends_r, endK1_e, endK2_e, evp, gt, st, putf, X.get, rdR, tupled, clV, clS, clo, undef, true_and, h1, h70]
  exact res hK (by simp [leR, hok])
def gL (L : List (Int × Int)) (bits : List Int) (o : Int) (n : Nat) : List Int := (List.range n).map fun i => chz (lo L i) (hi L i) (pk bits (i + o))
theorem gL_len {L : List (Int × Int)} {bits : List Int} {o : Int} {n : Nat} : (gL L bits o n).length = n := by simp [gL]
theorem gL_snoc {L : List (Int × Int)} {bits : List Int} {o : Int} {n : Nat} : gL L bits o (n + 1) = gL L bits o n ++ [chz (lo L n) (hi L n) (pk bits (n + o))] := by simp [gL, List.range_succ]
theorem gL_get {L : List (Int × Int)} {bits : List Int} {o : Int} {n i : Nat} (h : i < n) : (gL L bits o n).getD i 0 = chz (lo L i) (hi L i) (pk bits (i + o)) := by simp [gL, List.getD, h]
def chT (c : Ck) (D : List (Int × Int)) (bits : List Int) : Tr := ⟨gL c.R bits 2 c.R.length, chz c.a c.b (pk bits 0), chz c.e c.g (pk bits 1), gL D bits 3 D.length⟩
theorem chT_tru {c : Ck} {D : List (Int × Int)} {bits : List Int} (hok : c.ok) (hv : voy c D) : truT c D (chT c D bits) := by
 refine ⟨⟨gL_len, fun i hi' => ?_⟩, chz_bnd hok.2.1.1.2, chz_bnd hok.2.2.1.2, gL_len, fun i hi' => ?_⟩
 ·simp only [chT]; rw [gL_get hi']; exact chz_bnd (all_get hok.1.2.2.2 hi').1.2
 ·simp only [chT]; rw [gL_get hi']; exact chz_bnd (all_get hv.2 hi').1.2
def C32 : PC := fun args K => ∃ (c : Ck) (D : List (Int × Int)) (bits : List Int), args = [c.sv, .rd 2 D.length (rowsS D), .ints .i64 bits] ∧ c.ok ∧ voy c D ∧ (bits.length : Int) ≤ 9223372036854775807 ∧ K (chT c D bits).sv
theorem p32 : PureOk Tryz.prog 32 C32 := by
 refine pure_of (T := [(36, .fc Fch), (37, .fc Fpk)]) ⟨⟨p36, q36⟩, ⟨p37, q37⟩, trivial⟩ Tryz.func32 k32 ?_
 rintro args K ⟨c, D, bits, rfl, hok, hv, hbl, hK⟩
 have hsv : c.sv = .agg [.ints .i64 c.T, .rd 2 c.R.length (rowsS c.R), .int .i64 c.a, .int .i64 c.b, .int .i64 c.e, .int .i64 c.g] := rfl
 have hR := hok.1.1
 have hR2 := hok.1.2.2.1
 have hDl := hv.1
 have h1 := hok.2.1
 have h2 := hok.2.2
 have hT0 := (c.eo hok (w := 101) (.inl rfl)).tb.b 0
 have hT1 := (c.eo hok (w := 101) (.inl rfl)).tb.b (c.T.length - 1)
 rw [hsv]
 simp only [↓reduceIte, e_reg, and_self, e_drw, e_seq, e_block, e_loop, o_nil, o_cons, gd_none, putK_e, runK_e, vK_e, boxK_e, storeK3_e, storeK2_e, storeK_e, evh_v, evh_new, evh_box, evh_store, dX_e, dG_t, d_nil, d_cons, creK_e, tlK_s, evc_e, seqK_n, gamq_e, gamqK_f, evp, gt, gq, st, putf, X.get, gets, getp, ap, mkfr, rep, clo, clo.clos, ld, lda, sp, sp.spl, lay, ll, cs1, one, allOne, gb, sb, pb, ln, lk, evq, gdl, crv, Value.oneCell', undef, Bool.and_true, Nat.reduceSub, Nat.reduceAdd, Nat.reduceBEq, beq_self_eq_true, true_and, s32, r32, Fch, Fpk]
 refine ⟨hbl, ⟨by omega, by omega⟩, hbl, ⟨by omega, by omega⟩, ?_⟩
 refine loop_at2 (G := Nat) (fun i => [(8, .int .i64 i)]) (fun i => [.box 27 [.ints .i64 c.T, .rd 2 c.R.length (rowsS c.R), .int .i64 c.a, .int .i64 c.b, .int .i64 c.e, .int .i64 c.g], .box 39 [.lit (.slice none 0 0), .int .i64 0, .int .i64 0, .lit (.slice none 0 0)], .box 39 [.own 3, .int .i64 (chz c.a c.b (pk bits 0)), .int .i64 (chz c.e c.g (pk bits 1)), .lit (.slice none 0 0)], .oi .i64 3 (gL c.R bits 2 i)]) (fun i => i ≤ c.R.length) (fun i => c.R.length - i) 0 (Nat.zero_le _) ?_
 (intro fr1 hf1; simp only [forget, dstC, dstO, dstD, dst1, st] at hf1; subst hf1)
 refine ⟨?_, ?_⟩
 ·refine Lw_re 3 [none] (Nat.zero_le _) (by simp [ln]) (by simp [ln]) rfl ?_ ?_
  ·simp only [reL, reX, inb, inb.inbs, ln, sts, st, Bool.and_self, Nat.reduceLT, Nat.reduceAdd, decide_true, and_self, Int.natCast_zero, implies_true]
  ·simp only [reL, reX, reH, reB, reN, newB, rn, List.getElem?_cons_zero, Nat.reduceSub, Nat.lt_irrefl, Nat.le_refl, reduceCtorEq, or_true, inb, ln, Nat.reduceLT, Nat.reduceAdd, and_self, implies_true, gL, List.range_zero, List.map_nil]
 ·intro i hii
  by_cases hlt : i < c.R.length
  ·have n0 : ((i : Int) < (c.R.length : Int)) = True := by simp; omega
   have hs := gL_snoc (L := c.R) (bits := bits) (o := 2) (n := i)
   have hl := gL_len (L := c.R) (bits := bits) (o := 2) (n := i)
   have hb := all_get hok.1.2.2.2 hlt
   simp only [condK_bt, decide_true, inr64, ↓reduceIte, e_skip, e_reg, and_self, e_drw, e_seq, e_cond, e_block, o_nil, o_cons, gd_none, putK_e, runK_e, vK_e, storeK3_e, storeK2_e, storeK_e, appK2_oi, appK_e, evh_v, evh_store, evh_app, dX_e, dG_t, d_nil, d_cons, creK_e, tlK_s, evc_e, loopK_n, seqK_n, blockK_n, gamq_e, gamqK_f, evp, bin, gt, gq, st, putf, X.get, gets, getp, ap, clo, clo.clos, ld, lda, lens, ixs, sp, sp.spl, lay, ll, cs1, one, allOne, gb, sb, pb, ln, lk, evq, gdl, crv, Bool.and_true, Nat.reduceAdd, Nat.reduceBEq, beq_self_eq_true, true_and, and_true, sts, n0, Int.toNat_natCast, rowsS, Fch, Fpk, hl]
   repeat' (first | exact hbl | omega | decide | refine And.intro ?_ ?_)
   refine Nx.mk (i + 1) (by omega) (by omega) (Lw_re 3 [some 5] (Nat.zero_le _) (by simp [ln]) (by simp [ln]) rfl ?_ ?_)
   ·simp only [reL, reX, inb, inb.inbs, Bool.and_self, Nat.reduceLT, decide_true, and_self, Int.natCast_add, Int.natCast_one, implies_true]
   ·simp only [reL, reX, reH, reB, reM, reN, rn, gb, List.getElem?_cons_zero, Nat.reduceSub, Nat.reduceLeDiff, Nat.lt_irrefl, Nat.le_refl, and_false, or_true, inb, ln, Nat.reduceLT, Nat.reduceAdd, and_self, implies_true, hs]
  ·have n0 : ((i : Int) < (c.R.length : Int)) = False := by simp; omega
   have ei : i = c.R.length := by omega
   subst ei
   simp only [condK_bf, decide_false, e_reg, e_seq, e_cond, e_block, e_loop, e_exit, o_nil, o_cons, gd_none, putK_e, runK_e, vK_e, evh_v, loopK_x, seqK_n, seqK_x, exitK_t, blockK_x, evp, bin, gt, gq, st, putf, X.get, ld, lda, lens, gb, Nat.reduceAdd, beq_self_eq_true, true_and, sts, n0]
   refine loop_at2 (G := Nat) (fun i => [(9, .int .i64 i)]) (fun i => [.box 27 [.ints .i64 c.T, .rd 2 c.R.length (rowsS c.R), .int .i64 c.a, .int .i64 c.b, .int .i64 c.e, .int .i64 c.g], .box 39 [.lit (.slice none 0 0), .int .i64 0, .int .i64 0, .lit (.slice none 0 0)], .box 39 [.own 3, .int .i64 (chz c.a c.b (pk bits 0)), .int .i64 (chz c.e c.g (pk bits 1)), .own 4], .oi .i64 3 (gL c.R bits 2 c.R.length), .oi .i64 3 (gL D bits 3 i)]) (fun i => i ≤ D.length) (fun i => D.length - i) 0 (Nat.zero_le _) ?_
   (intro fr1 hf1; simp only [forget, dstC, dstO, dstD, dst1, st] at hf1; subst hf1)
   refine ⟨?_, ?_⟩
   ·refine Lw_re 4 [none] (Nat.zero_le _) (by simp [ln]) (by simp [ln]) rfl ?_ ?_
    ·simp only [reL, reX, inb, inb.inbs, ln, sts, st, Bool.and_self, Nat.reduceLT, Nat.reduceAdd, decide_true, and_self, Int.natCast_zero, implies_true]
    ·simp only [reL, reX, reH, reB, reN, newB, rn, List.getElem?_cons_zero, Nat.reduceSub, Nat.reduceLeDiff, Nat.lt_irrefl, Nat.le_refl, or_false, reduceCtorEq, or_true, inb, ln, Nat.reduceLT, Nat.reduceAdd, and_true, and_self, implies_true, gL, List.range_zero, List.map_nil]
   ·intro i hii2
    by_cases hlt2 : i < D.length
    ·have n1 : ((i : Int) < (D.length : Int)) = True := by simp; omega
     have hs := gL_snoc (L := D) (bits := bits) (o := 3) (n := i)
     have hl := gL_len (L := D) (bits := bits) (o := 3) (n := i)
     have hb := all_get hv.2 hlt2
     simp only [condK_bt, decide_true, inr64, ↓reduceIte, e_skip, e_reg, and_self, e_drw, e_seq, e_cond, e_block, o_nil, o_cons, gd_none, putK_e, runK_e, vK_e, storeK3_e, storeK2_e, storeK_e, appK2_oi, appK_e, evh_v, evh_store, evh_app, dX_e, dG_t, d_nil, d_cons, creK_e, tlK_s, evc_e, loopK_n, seqK_n, blockK_n, gamq_e, gamqK_f, evp, bin, gt, gq, st, putf, X.get, gets, getp, ap, clo, clo.clos, ld, lda, lens, ixs, sp, sp.spl, lay, ll, cs1, one, allOne, gb, sb, pb, ln, lk, evq, gdl, crv, Bool.and_true, Nat.reduceAdd, Nat.reduceBEq, beq_self_eq_true, true_and, and_true, sts, n1, Int.toNat_natCast, rowsS, Fch, Fpk, hl]
     repeat' (first | exact hbl | omega | decide | refine And.intro ?_ ?_)
     refine Nx.mk (i + 1) (by omega) (by omega) (Lw_re 4 [some 6] (Nat.zero_le _) (by simp [ln]) (by simp [ln]) rfl ?_ ?_)
     ·simp only [reL, reX, inb, inb.inbs, Bool.and_self, Nat.reduceLT, decide_true, and_self, Int.natCast_add, Int.natCast_one, implies_true]
     ·simp only [reL, reX, reH, reB, reM, reN, rn, gb, List.getElem?_cons_zero, Nat.reduceSub, Nat.reduceLeDiff, Nat.lt_irrefl, Nat.le_refl, false_and, or_false, and_false, or_true, inb, ln, Nat.reduceLT, Nat.reduceAdd, and_true, and_self, implies_true, hs]
    ·have n1 : ((i : Int) < (D.length : Int)) = False := by simp; omega
     have ei : i = D.length := by omega
     subst ei
     simp only [condK_bf, decide_false, e_reg, and_self, e_seq, e_cond, e_exit, e_ret, o_nil, o_cons, gd_none, putK_e, runK_e, vK_e, storeK3_e, storeK2_e, storeK_e, evh_v, evh_store, loopK_x, seqK_n, seqK_x, exitK_t, blockK_x, ends_r, endK1_e, endK2_e, evp, bin, gt, st, putf, X.get, rdR, tupled, clV, clL, clS, clo, ld, lda, lens, tk, dr, sp, sp.spl, ll, cs1, one, allOne, gb, sb, Bool.and_true, Nat.reduceAdd, beq_self_eq_true, true_and, sts, n1]
     exact res hK (by simp [leR, leR.leRs, Tr.sv, chT])
end Go.Proofs.YtlegfejimphfbaaGreat
end
section
namespace Go.Proofs.YtlegfejimphfbaaGreat
open Go Go.Vg
set_option linter.unusedSimpArgs false
set_option linter.unusedVariables false
set_option maxRecDepth 10000
def s7 : SC :=
 (.seq (.reg [⟨(some 3), none, .box 27 (.t 0)⟩,
  ⟨(some 6), none, .v (.mov (.c (.lit (.bool false))))⟩])
 (.seq (.reg [⟨(some 16), none, .v (.load (.t 3) (some 6))⟩,
  ⟨(some 17), none, .v (.mov (.t 1))⟩,
  ⟨(some 18), none, .call (.c (.fn 18 [])) [(.t 16), (.t 17)]⟩,
  ⟨(some 15), none, .v (.mov (.t 18))⟩,
  ⟨(some 19), none, .v (.ext (.t 15) 0)⟩,
  ⟨(some 20), none, .v (.ext (.t 15) 1)⟩,
  ⟨(some 7), none, .v (.mov (.t 19))⟩,
  ⟨(some 8), none, .v (.mov (.t 20))⟩])
 (.seq (.seq (.reg [⟨(some 21), none, .v (.mov (.t 8))⟩,
  ⟨(some 22), none, .v (.bin .neq (.t 21) (.c (.int .i64 (0))))⟩,
  ⟨(some 23), none, .v (.mov (.t 22))⟩,
  ⟨(some 24), (some (23, false)), .v (.load (.t 3) (some 6))⟩,
  ⟨(some 25), (some (23, false)), .call (.c (.fn 31 [])) [(.t 24)]⟩,
  ⟨(some 26), (some (23, false)), .v (.not (.t 25))⟩,
  ⟨(some 27), none, .v (.pick (.t 23) (.c (.lit (.bool true))) (.t 26))⟩,
  ⟨(some 28), none, .v (.mov (.t 27))⟩,
  ⟨(some 29), (some (28, false)), .v (.mov (.t 1))⟩,
  ⟨(some 30), (some (28, false)), .v (.len (.t 29))⟩,
  ⟨(some 31), (some (28, false)), .v (.bin .gtr (.t 30) (.c (.int .i64 (60))))⟩,
  ⟨(some 32), none, .v (.pick (.t 28) (.c (.lit (.bool true))) (.t 31))⟩])
 (.cond (.t 32)
  (.seq (.reg [⟨(some 33), none, .v (.mov (.t 8))⟩,
   ⟨(some 34), none, .v (.bin .neq (.t 33) (.c (.int .i64 (0))))⟩,
   ⟨(some 35), none, .v (.mov (.t 34))⟩,
   ⟨(some 36), (some (35, true)), .v (.mov (.t 7))⟩,
   ⟨(some 37), (some (35, true)), .v (.len (.t 36))⟩,
   ⟨(some 38), (some (35, true)), .v (.bin .eql (.t 37) (.c (.int .i64 (0))))⟩,
   ⟨(some 39), none, .v (.pick (.t 35) (.t 38) (.c (.lit (.bool false))))⟩,
   ⟨(some 40), none, .v (.mov (.t 39))⟩,
   ⟨(some 41), (some (40, true)), .call (.c (.fn 21 [])) []⟩,
   ⟨(some 42), none, .v (.pick (.t 40) (.t 41) (.c (.lit (.bool false))))⟩,
   ⟨(some 6), none, .v (.mov (.t 42))⟩])
  .ret)
  .skip))
 (.seq (.reg [⟨(some 43), none, .v (.load (.t 3) (some 6))⟩,
  ⟨(some 44), none, .v (.mov (.t 1))⟩,
  ⟨(some 45), none, .v (.mov (.t 2))⟩,
  ⟨(some 46), none, .call (.c (.fn 32 [])) [(.t 43), (.t 44), (.t 45)]⟩,
  ⟨(some 9), none, .new 39 [(.lit (.slice none 0 0)), (.int .i64 (0)), (.int .i64 (0)), (.lit (.slice none 0 0))]⟩,
  ⟨none, none, .store 4 (.t 9) (.t 46)⟩])
 (.seq (.reg [⟨(some 48), none, .v (.load (.t 3) (some 6))⟩,
  ⟨(some 49), none, .v (.mov (.t 1))⟩,
  ⟨(some 50), none, .v (.load (.t 9) (some 4))⟩,
  ⟨(some 51), none, .call (.c (.fn 22 [])) [(.t 48), (.t 49), (.t 50)]⟩,
  ⟨(some 47), none, .v (.mov (.t 51))⟩,
  ⟨(some 52), none, .v (.ext (.t 47) 0)⟩,
  ⟨(some 53), none, .v (.ext (.t 47) 1)⟩,
  ⟨(some 10), none, .v (.mov (.t 52))⟩,
  ⟨(some 8), none, .v (.mov (.t 53))⟩])
 (.seq (.seq (.reg [⟨(some 54), none, .v (.mov (.t 8))⟩,
  ⟨(some 55), none, .v (.bin .neq (.t 54) (.c (.int .i64 (0))))⟩,
  ⟨(some 56), none, .v (.mov (.t 55))⟩,
  ⟨(some 57), (some (56, false)), .v (.mov (.t 10))⟩,
  ⟨(some 58), (some (56, false)), .v (.len (.t 57))⟩,
  ⟨(some 59), (some (56, false)), .v (.mov (.t 1))⟩,
  ⟨(some 60), (some (56, false)), .v (.len (.t 59))⟩,
  ⟨(some 61), (some (56, false)), .v (.bin .neq (.t 58) (.t 60))⟩,
  ⟨(some 62), none, .v (.pick (.t 56) (.c (.lit (.bool true))) (.t 61))⟩,
  ⟨(some 63), none, .v (.mov (.t 62))⟩,
  ⟨(some 64), (some (63, false)), .v (.mov (.t 7))⟩,
  ⟨(some 65), (some (63, false)), .v (.len (.t 64))⟩,
  ⟨(some 66), (some (63, false)), .v (.mov (.t 1))⟩,
  ⟨(some 67), (some (63, false)), .v (.len (.t 66))⟩,
  ⟨(some 68), (some (63, false)), .v (.bin .neq (.t 65) (.t 67))⟩,
  ⟨(some 69), none, .v (.pick (.t 63) (.c (.lit (.bool true))) (.t 68))⟩])
 (.cond (.t 69)
  (.seq (.reg [⟨(some 6), none, .v (.mov (.c (.lit (.bool false))))⟩])
  .ret)
  .skip))
 (.seq (.reg [⟨(some 70), none, .v (.off (.t 9) 2)⟩,
  ⟨(some 71), none, .v (.load (.t 70) none)⟩,
  ⟨(some 11), none, .v (.mov (.t 71))⟩])
 (.seq (.seq (.reg [⟨(some 12), none, .v (.mov (.c (.int .i64 (0))))⟩])
 (.block 0 (.loop
  (.seq (.seq (.reg [⟨(some 72), none, .v (.mov (.t 12))⟩,
   ⟨(some 73), none, .v (.mov (.t 10))⟩,
   ⟨(some 74), none, .v (.len (.t 73))⟩,
   ⟨(some 75), none, .v (.bin .lss (.t 72) (.t 74))⟩])
  (.cond (.t 75)
   .skip
   (.exit 0)))
  (.seq (.block 1 (.seq (.tre (.op ⟨(some 79), none, .v (.load (.t 3) (some 6))⟩ (.op ⟨(some 80), none, .v (.off (.t 9) 3)⟩ (.op ⟨(some 81), none, .v (.load (.t 80) none)⟩ (.op ⟨(some 82), none, .v (.mov (.t 12))⟩ (.op ⟨(some 83), none, .v (.ixa (.t 81) (.t 82) 1)⟩ (.op ⟨(some 84), none, .v (.load (.t 83) none)⟩ (.op ⟨(some 85), none, .v (.mov (.t 12))⟩ (.op ⟨(some 86), none, .call (.c (.fn 14 [])) [(.t 79), (.t 84), (.t 85)]⟩ (.op ⟨(some 78), none, .v (.mov (.t 86))⟩ (.op ⟨(some 87), none, .v (.ext (.t 78) 0)⟩ (.op ⟨(some 88), none, .v (.ext (.t 78) 1)⟩ (.op ⟨(some 13), none, .new 25 [(.int .i64 (0)), (.int .i64 (0))]⟩ (.op ⟨none, none, .store 2 (.t 13) (.t 87)⟩ (.op ⟨(some 14), none, .v (.mov (.t 88))⟩ .leaf
  .stop)
  .stop)
  .stop)
  .stop)
  .stop)
  .stop)
  (.op ⟨(some 13), none, .new 25 [(.int .i64 (0)), (.int .i64 (0))]⟩ (.op ⟨(some 86), none, .call (.c (.fn 14 [])) [(.t 79), (.t 84), (.t 85)]⟩ (.op ⟨(some 78), none, .v (.mov (.t 86))⟩ (.op ⟨(some 87), none, .v (.ext (.t 78) 0)⟩ (.op ⟨(some 88), none, .v (.ext (.t 78) 1)⟩ (.op ⟨none, none, .store 2 (.t 13) (.t 87)⟩ (.op ⟨(some 14), none, .v (.mov (.t 88))⟩ .leaf
  .stop)
  .stop)
  .stop)
  .stop)
  .stop)
  .stop)
  .stop))
  .stop)
  .stop)
  .stop)
  .stop)
  .stop)
  .stop)
  .stop))
  (.seq (.seq (.drw [(0, ⟨(some 89), none, .v (.mov (.t 14))⟩, false),
   (1, ⟨(some 90), none, .v (.bin .neq (.t 89) (.c (.int .i64 (0))))⟩, false),
   (2, ⟨(some 91), none, .v (.mov (.t 90))⟩, true),
   (3, ⟨(some 92), (some (91, false)), .v (.mov (.t 7))⟩, false),
   (4, ⟨(some 93), (some (91, false)), .v (.mov (.t 12))⟩, false),
   (5, ⟨(some 94), (some (91, false)), .v (.ixa (.t 92) (.t 93) 2)⟩, false),
   (6, ⟨(some 95), (some (91, false)), .v (.load (.t 94) (some 2))⟩, false),
   (7, ⟨(some 96), (some (91, false)), .v (.mov (.t 10))⟩, false),
   (8, ⟨(some 97), (some (91, false)), .v (.mov (.t 12))⟩, false),
   (9, ⟨(some 98), (some (91, false)), .v (.ixa (.t 96) (.t 97) 1)⟩, false),
   (10, ⟨(some 99), (some (91, false)), .v (.load (.t 98) none)⟩, false),
   (11, ⟨(some 100), (some (91, false)), .call (.c (.fn 33 [])) [(.t 95), (.t 99)]⟩, false),
   (12, ⟨(some 101), (some (91, false)), .v (.not (.t 100))⟩, false),
   (13, ⟨(some 102), none, .v (.pick (.t 91) (.c (.lit (.bool true))) (.t 101))⟩, false),
   (14, ⟨(some 103), none, .v (.mov (.t 102))⟩, true),
   (15, ⟨(some 104), (some (103, false)), .v (.load (.t 13) (some 2))⟩, false),
   (16, ⟨(some 105), (some (103, false)), .v (.mov (.t 10))⟩, false),
   (17, ⟨(some 106), (some (103, false)), .v (.mov (.t 12))⟩, false),
   (18, ⟨(some 107), (some (103, false)), .v (.ixa (.t 105) (.t 106) 1)⟩, false),
   (19, ⟨(some 108), (some (103, false)), .v (.load (.t 107) none)⟩, false),
   (20, ⟨(some 109), (some (103, false)), .v (.mov (.t 11))⟩, false),
   (21, ⟨(some 110), (some (103, false)), .v (.bin .sub (.t 108) (.t 109))⟩, false)]
   none
   [⟨(some 111), (some (103, false)), .call (.c (.fn 33 [])) [(.t 104), (.t 110)]⟩,
   ⟨(some 112), (some (103, false)), .v (.not (.t 111))⟩,
   ⟨(some 113), none, .v (.pick (.t 103) (.c (.lit (.bool true))) (.t 112))⟩])
  (.cond (.t 113)
   (.seq (.reg [⟨(some 6), none, .v (.mov (.c (.lit (.bool false))))⟩])
   .ret)
   .skip))
  (.reg [⟨(some 114), none, .v (.mov (.t 10))⟩,
   ⟨(some 115), none, .v (.mov (.t 12))⟩,
   ⟨(some 116), none, .v (.ixa (.t 114) (.t 115) 1)⟩,
   ⟨(some 117), none, .v (.load (.t 116) none)⟩,
   ⟨(some 11), none, .v (.mov (.t 117))⟩]))))
  (.reg [⟨(some 76), none, .v (.mov (.t 12))⟩,
   ⟨(some 77), none, .v (.bin .add (.t 76) (.c (.int .i64 (1))))⟩,
   ⟨(some 12), none, .v (.mov (.t 77))⟩]))))))
 (.seq (.reg [⟨(some 118), none, .call (.c (.fn 21 [])) []⟩,
  ⟨(some 6), none, .v (.mov (.t 118))⟩])
 .ret)))))))))
def r7 : List RV := [.t 6]
theorem k7 : (Tryz.f7.body.bind (cC Tryz.prog), cR Tryz.prog Tryz.f7.results.toList, Tryz.f7.ntmps) = (some s7, some r7, 119) := by kernel_rfl
def F21 : FC := fun args => match args with
 | [] => some (True, .lit (.bool true))
 | _ => none
theorem mnF_le {h : Int → Int} {x : Int} : ∀ {n k : Nat}, k ≤ n → mnF h x n ≤ h (x + k) ∧ h (x + k) ≤ mxF h x n
 | 0, k, hk => by
  have : k = 0 := by omega
  subst this
  simp [mnF, mxF]
 | n + 1, k, hk => by
  simp only [mnF, mxF]
  by_cases hkn : k = n + 1
  ·subst hkn
   rw [show x + ((n + 1 : Nat) : Int) = x + 1 + n by omega]
   split <;> split <;> omega
  ·have := mnF_le (h := h) (x := x) (n := n) (k := k) (by omega)
   split <;> split <;> omega
theorem Ck.mid {c : Ck} {D : List (Int × Int)} {t : Tr} (hok : c.ok) (ht : truT c D t) {x d : Int} (hx : At c.T x) (hd : 0 ≤ d) :
  rte c.T c.R c.a c.b 101 x d ≤ itp c.T t.R x + t.a * d ∧ itp c.T t.R x + t.a * d ≤ rte c.T c.R c.a c.b 102 x d := by
 have hT := (c.eo hok (w := 101) (.inl rfl)).tb
 have hlen := hok.1.2.2.1
 obtain ⟨⟨t1, t2⟩, ⟨t3, t4⟩, _⟩ := ht
 have m1 := itp_mono (R := endsL 101 c.R) (R' := t.R) hT hx fun i hi' => by
  rw [ends_getD (by omega)]
  have := (t2 i (by omega)).1
  unfold lo at this
  simpa [sel] using this
 have m2 := itp_mono (R := t.R) (R' := endsL 102 c.R) hT hx fun i hi' => by
  rw [ends_getD (by omega)]
  have := (t2 i (by omega)).2
  unfold hi at this
  simpa [sel] using this
 have n1 := Int.mul_le_mul_of_nonneg_right t3 hd
 have n2 := Int.mul_le_mul_of_nonneg_right t4 hd
 unfold rte
 have s1 : sel 101 (c.a, c.b) = c.a := rfl
 have s2 : sel 102 (c.a, c.b) = c.b := rfl
 rw [s1, s2]
 omega
theorem gain_le {T : List Int} {R : List (Int × Int)} {a b d x y z : Int} (h1 : x ≤ z) (h2 : z ≤ y) : gain T R a b 101 d x y ≤ rte T R a b 101 z d ∧ rte T R a b 102 z d ≤ gain T R a b 102 d x y := by
 have hz : x + ((z - x).toNat : Int) = z := by omega
 have k1 := (mnF_le (h := fun z => itp T (endsL 101 R) z + sel 101 (a, b) * d) (x := x) (n := (y - x).toNat) (k := (z - x).toNat) (by omega)).1
 have k2 := (mnF_le (h := fun z => itp T (endsL 102 R) z + sel 102 (a, b) * d) (x := x) (n := (y - x).toNat) (k := (z - x).toNat) (by omega)).2
 rw [hz] at k1 k2
 exact ⟨k1, k2⟩
theorem Ck.in {c : Ck} {D : List (Int × Int)} {t : Tr} (hok : c.ok) (hv : voy c D) (ht : truT c D t) : ∀ k, k ≤ D.length → conS c.T c.R c.a c.b c.e c.g 101 D k ≤ errS c.T t k ∧ errS c.T t k ≤ conS c.T c.R c.a c.b c.e c.g 102 D k
 | 0, _ => by
  have := ht.2.2.1
  simp only [conS, errS, sel]
  simpa using this
 | k + 1, hk => by
  have ih := Ck.in hok hv ht k (by omega)
  have h1 := ht.2.2.2.2 k (by omega)
  obtain ⟨d1, d2, d3⟩ := c.dat hv k (by omega)
  have hx : At c.T (t.T.getD k 0) := ⟨by have := d2.1; omega, by have := d3.2; omega⟩
  have m := c.mid hok ht hx (show (0 : Int) ≤ k by omega)
  have g := gain_le (T := c.T) (R := c.R) (a := c.a) (b := c.b) (d := k) h1.1 h1.2
  simp only [conS, errS]
  omega
theorem cnP_get {c : Ck} {D : List (Int × Int)} {n i : Nat} (h : i < n) : lo (cnP c D n) i = conS c.T c.R c.a c.b c.e c.g 101 D (i + 1) ∧ hi (cnP c D n) i = conS c.T c.R c.a c.b c.e c.g 102 D (i + 1) := by
 unfold lo hi cnP; simp [List.getD, h]
theorem errL_get {T : List Int} {t : Tr} {n i : Nat} (h : i < n) : (errL T t n).getD i 0 = errS T t (i + 1) := by simp [errL, List.getD, h]
def C7 : PC := fun args K => ∃ (c : Ck) (D : List (Int × Int)) (bits : List Int), args = [c.sv, .rd 2 D.length (rowsS D), .ints .i64 bits] ∧ (bits.length : Int) ≤ 9223372036854775807 ∧ K (.lit (.bool true))
theorem p7 (p21 : PureOk Tryz.prog 21 (fcC F21)) (q21 : Known Tryz.prog 21) : PureOk Tryz.prog 7 C7 := by
 refine pure_of (T := [(18, .pc C18), (31, .pc C31), (32, .pc C32), (22, .pc C22), (14, .pc C14), (33, .fc Fhol), (21, .fc F21)]) ⟨⟨p18, q18⟩, ⟨p31, q31⟩, ⟨p32, q32⟩, ⟨p22, q22⟩, ⟨p14, q14⟩, ⟨p33, q33⟩, ⟨p21, q21⟩, trivial⟩ Tryz.func7 k7 ?_
 rintro args K ⟨c, D, bits, rfl, hbl, hK⟩
 have hsv : c.sv = .agg [.ints .i64 c.T, .rd 2 c.R.length (rowsS c.R), .int .i64 c.a, .int .i64 c.b, .int .i64 c.e, .int .i64 c.g] := rfl
 have h70 : ((70 : Int) = 0) = False := by simp
 have h71 : ((71 : Int) = 0) = False := by simp
 rw [hsv]
 simp only [e_reg, e_seq, o_nil, o_cons, gd_none, putK_e, runK_e, vK_e, boxK_e, conK_e, callK_e, evh_v, evh_box, evh_call, seqK_n, gam_e, gamK_p, pc_e, pcK_e, evp, gt, st, putf, X.get, gets, ap, mkfr, rep, clV, clL, clS, clo, ld, lda, tk, dr, cs1, gb, pb, ln, lk, undef, Nat.reduceSub, beq_self_eq_true, true_and, s7, r7]
 refine ⟨c, D, rfl, ?_⟩
 by_cases hcv : c.ok ∧ voy c D
 ·obtain ⟨hok, hv⟩ := hcv
  have h1 : askE c D = 0 := by simp [askE, hok, hv]
  have h2 : cnR c D = cnP c D D.length := if_pos ⟨hok, hv⟩
  have hvl := hv.1
  simp only [gdK_bff, decide_true, e_reg, e_seq, o_nil, o_cons, gd_none, gd_some, gdK_ff, putK_e, runK_e, vK_e, conK_e, callK_e, evh_v, evh_call, seqK_n, gam_e, gamK_p, pc_e, pcK_e, evp, bin, gt, gq, st, putf, X.get, gets, ap, clV, clL, clS, clo, ld, lda, tk, dr, gb, lk, Bool.not_true, Nat.reduceBEq, beq_self_eq_true, true_and, h1, h2]
  refine ⟨c, rfl, ?_⟩
  have h3 : decide c.ok = true := decide_eq_true hok
  have h4 : (60 < (D.length : Int)) = False := by simp; omega
  simp only [gdK_bff, condK_bf, decide_false, e_skip, e_reg, e_seq, e_cond, o_nil, o_cons, gd_none, gd_some, gdK_ff, putK_e, runK_e, vK_e, conK_e, callK_e, evh_v, evh_new, evh_store, evh_call, seqK_n, gam_e, gamK_p, pc_e, pcK_e, evp, bin, gt, st, putf, X.get, gets, ap, clV, clL, clS, clo, ld, lda, lens, tk, dr, cs1, one, gb, pb, ln, lk, Value.oneCell', Bool.not_true, Nat.reduceAdd, Nat.reduceBEq, beq_self_eq_true, true_and, h3, h4]
  refine ⟨c, D, bits, rfl, hok, hv, hbl, ?_⟩
  have ht := chT_tru (bits := bits) hok hv
  generalize chT c D bits = t at ht ⊢
  have htv : t.sv = .agg [.ints .i64 t.R, .int .i64 t.a, .int .i64 t.e, .ints .i64 t.T] := rfl
  rw [htv]
  have h5 : erE c D t = 0 := by unfold erE; rw [if_pos hok, if_pos hv, if_pos ht]
  have h6 : erL c D t = errL c.T t t.T.length := if_pos ⟨hok, hv, ht⟩
  have hl := ht.2.2.2.1
  have hEq := c.truEq hok hv ht
  simp only [e_reg, and_self, e_seq, o_nil, o_cons, gd_none, putK_e, runK_e, vK_e, storeK3_e, storeK2_e, storeK_e, conK_e, callK_e, evh_v, evh_call, seqK_n, gam_e, gamK_p, pc_e, pcK_e, evp, gt, st, putf, X.get, gets, ap, clV, clL, clS, clo, ld, lda, tk, dr, sp, sp.spl, ll, one, allOne, gb, sb, lk, Bool.and_true, Nat.reduceAdd, Nat.reduceBEq, beq_self_eq_true, true_and]
  refine ⟨c, D, t, rfl, ?_⟩
  rw [h5, h6, hl]
  simp only [gdK_bff, condK_bf, decide_true, e_skip, e_reg, e_seq, e_cond, e_block, e_loop, o_nil, o_cons, gd_none, gd_some, gdK_ff, putK_e, runK_e, vK_e, evh_v, seqK_n, evp, bin, gt, gq, st, putf, X.get, ld, lda, lens, gb, Bool.not_true, Nat.reduceAdd, true_and, errL_len, cnP_len]
  refine loop_at2 (G := Nat) (fun i => [(12, .int .i64 i), (11, .int .i64 (errS c.T t i))]) (fun i => [.box 27 [.ints .i64 c.T, .rd 2 c.R.length (rowsS c.R), .int .i64 c.a, .int .i64 c.b, .int .i64 c.e, .int .i64 c.g], .box 39 [.ints .i64 t.R, .int .i64 t.a, .int .i64 t.e, .ints .i64 t.T]]) (fun i => i ≤ D.length) (fun i => D.length - i) 0 (Nat.zero_le _) ?_
  (intro fr1 hf1; simp only [forget, dstC, dstT, dstO, dstD, dst1, st] at hf1; subst hf1)
  refine ⟨?_, ?_⟩
  ·refine Lw_re 2 [] (Nat.zero_le _) (by simp [ln]) (by simp [ln]) rfl ?_ ?_
   ·simp only [reL, reX, inb, inb.inbs, ln, sts, st, Bool.and_self, Nat.reduceLT, Nat.reduceAdd, decide_true, and_self, Int.natCast_zero, implies_true, errS]
   ·simp only [reL, reX, reH, reB, reN, inb, and_self, implies_true]
  ·intro i hii
   by_cases hlt : i < D.length
   ·have n0 : ((i : Int) < (D.length : Int)) = True := by simp; omega
    have hx := hEq.at' i (by omega)
    have hin := c.in hok hv ht (i + 1) (by omega)
    have hmid := c.mid hok ht hx (show (0 : Int) ≤ i by omega)
    have he : errS c.T t (i + 1) = errS c.T t i + (itp c.T t.R (t.T.getD i 0) + t.a * i) := rfl
    have hb1 := hEq.errB i (by omega)
    have hb2 := hEq.errB (i + 1) (by omega)
    have e1 : rtR c (t.T.getD i 0) i = (rte c.T c.R c.a c.b 101 (t.T.getD i 0) i, rte c.T c.R c.a c.b 102 (t.T.getD i 0) i) := if_pos ⟨hok, hx, by omega⟩
    have e2 : rtE c (t.T.getD i 0) i = 0 := by
     unfold rtE; rw [if_pos hok, if_pos ⟨hx, by omega⟩]
    obtain ⟨e3, e4⟩ := cnP_get (c := c) (D := D) hlt
    have e5 := errL_get (T := c.T) (t := t) hlt
    have n1 : (conS c.T c.R c.a c.b c.e c.g 101 D (i + 1) ≤ errS c.T t (i + 1) ∧ errS c.T t (i + 1) ≤ conS c.T c.R c.a c.b c.e c.g 102 D (i + 1)) = True := eq_true hin
    have n2 : (rte c.T c.R c.a c.b 101 (t.T.getD i 0) i ≤ errS c.T t (i + 1) - errS c.T t i ∧ errS c.T t (i + 1) - errS c.T t i ≤ rte c.T c.R c.a c.b 102 (t.T.getD i 0) i) = True := eq_true (by rw [he]; omega)
    simp only [condK_bt, decide_true, e_skip, e_reg, e_tre, t_stop, t_op, e_seq, e_cond, e_block, o_nil, o_cons, gd_none, putK_e, runK_e, vK_e, conK_e, callK_e, evh_v, evh_new, evh_call, seqK_n, gam_e, gamK_p, pc_e, pcK_e, evp, bin, gt, gq, st, putf, X.get, gets, ap, clV, clL, clS, clo, ld, lda, lens, ixs, tk, dr, gb, pb, ln, lk, Nat.reduceAdd, Nat.reduceBEq, beq_self_eq_true, true_and, and_true, sts, n0, Int.toNat_natCast, hl, errL_len]
    have rate : ∀ K' : SV → Prop, K' (.tup [.agg [.int .i64 (rte c.T c.R c.a c.b 101 (t.T.getD i 0) i), .int .i64 (rte c.T c.R c.a c.b 102 (t.T.getD i 0) i)], .int .i64 0]) → C14 [.agg [.ints .i64 c.T, .rd 2 c.R.length (rowsS c.R), .int .i64 c.a, .int .i64 c.b, .int .i64 c.e, .int .i64 c.g], .int .i64 (t.T.getD i 0), .int .i64 i] K' := fun K' hK' => ⟨c, t.T.getD i 0, i, rfl, by rw [e1, e2]; exact hK'⟩
    refine ⟨by omega, ?_⟩
    refine ⟨rate _ ?_, rate _ ?_⟩
    all_goals
     simp only [dX_bf, condK_bf, decide_true, inr64, e_skip, e_reg, t_leaf, t_stop, t_op, and_self, e_drw, e_seq, e_cond, o_nil, o_cons, gd_none, gd_some, gdK_ff, putK_e, runK_e, vK_e, storeK3_e, storeK2_e, storeK_e, conK_e, callK_e, evh_v, evh_new, evh_store, evh_call, dX_e, dG_t, d_nil, d_cons, tlK_n, loopK_n, seqK_n, blockK_n, gam_e, gamK_f, gamq_e, gamqK_f, pc_e, pcK_e, fcC_e, fcK_e, evp, bin, gt, gq, st, putf, X.get, gets, ap, clV, clL, clS, clo, clo.clos, ld, lda, ixs, tk, dr, sp, sp.spl, ll, cs1, one, allOne, gb, sb, pb, ln, lk, evq, gdl, Bool.and_true, Bool.not_true, Bool.not_false, Nat.reduceAdd, Nat.reduceBEq, beq_self_eq_true, true_and, and_true, Int.toNat_natCast, rowsS, e3, e4, e5, errL_len, Fhol, n1, n2]
     repeat' (first | omega | apply And.intro)
     refine Nx.mk (i + 1) (by omega) (by omega) (Lw_re 2 [] (Nat.zero_le _) (by simp [ln]) (by simp [ln]) rfl ?_ ?_)
     ·simp only [reL, reX, inb, inb.inbs, Bool.and_self, Nat.reduceLT, decide_true, and_self, Int.natCast_add, Int.natCast_one, implies_true]
     ·simp only [reL, reX, reH, reB, reN, inb, and_self, implies_true]
   ·have n0 : ((i : Int) < (D.length : Int)) = False := by simp; omega
    simp only [condK_bf, decide_false, e_reg, e_seq, e_cond, e_exit, e_ret, o_nil, o_cons, gd_none, putK_e, runK_e, vK_e, conK_e, callK_e, evh_v, evh_call, loopK_x, seqK_n, seqK_x, exitK_t, blockK_x, ends_r, endK1_e, endK2_e, gam_e, gamK_f, pc_e, pcK_e, fcC_e, fcK_e, evp, bin, gt, st, putf, X.get, gets, ap, rdR, tupled, clV, clL, clS, clo, lens, lk, Nat.reduceBEq, beq_self_eq_true, true_and, sts, n0, errL_len, F21]
    exact res hK (by simp [leR])
 ·have h1 : (askE c D = 0) = False := by
   simp only [eq_iff_iff, iff_false]
   unfold askE
   by_cases hok : c.ok
   ·have hv : ¬ voy c D := fun h => hcv ⟨hok, h⟩
    rw [if_pos hok, if_neg hv]; omega
   ·rw [if_neg hok]; omega
  have h2 : cnR c D = [] := if_neg hcv
  rw [h2]
  simp only [gdK_btt, gdK_bft, decide_true, decide_false, e_reg, e_seq, e_cond, e_ret, o_nil, o_cons, gd_none, gd_some, gdK_tt, gdK_tf, putK_e, runK_e, skipK_e, vK_e, conK_e, callK_e, evh_v, evh_call, seqK_n, seqK_r, condK_t, ends_r, endK1_e, endK2_e, gam_e, gamK_f, pc_e, pcK_e, fcC_e, fcK_e, evp, bin, gt, gq, st, putf, X.get, gets, ap, rdR, tupled, clV, clL, clS, clo, lens, lk, undef, Bool.not_false, Nat.reduceBEq, beq_self_eq_true, true_and, h1, List.length_nil, Int.natCast_zero, F21]
  exact res hK (by simp [leR])
end Go.Proofs.YtlegfejimphfbaaGreat
end
section
namespace Go.Vg
open Go Go.RowKit Go.ChangeShapes Go.WideShapes
theorem ints_len {P : Program} {w : World} {im : Nat → Prop} {t e : TypeId} {k : IntKind} {base : Nat} (ht : P.underlying t = some (.slice e)) {v : Value} {l : List Int}
  (hval : Value.okWide P w .any base t v) (hc : Cv w im (.ints k l) v) : (l.length : Int) ≤ 9223372036854775807 := by
 cases hc with
 | intsNil => simp
 | ints k xs b off cap hb hcell hcap =>
  simp only [Value.okWide, ht, Cell.okWide, Cell.ok] at hval
  obtain ⟨h1, h2, _⟩ := hval
  have : (IntKind.i64.max : Int) = 9223372036854775807 := rfl
  omega
end Go.Vg
end
