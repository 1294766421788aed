import Derived.Test.YtdcjlllnfklncaaVgTM6
namespace Go.Proofs.Ytdcjlllnfklncaa
open Go Go.Vg
set_option linter.unusedSimpArgs false
set_option linter.unusedVariables false
set_option maxRecDepth 10000
def s31 : SC :=
 (.seq (.reg [⟨(some 6), none, .v (.mov (.c (.lit (.bool false))))⟩])
 (.seq (.reg [⟨(some 7), none, .v (.mov (.t 1))⟩,
  ⟨(some 8), none, .v (.mov (.t 0))⟩,
  ⟨(some 9), none, .v (.bin .leq (.t 7) (.t 8))⟩,
  ⟨(some 10), none, .v (.mov (.t 9))⟩,
  ⟨(some 11), (some (10, true)), .v (.mov (.t 0))⟩,
  ⟨(some 12), (some (10, true)), .v (.mov (.t 2))⟩,
  ⟨(some 13), (some (10, true)), .v (.bin .leq (.t 11) (.t 12))⟩,
  ⟨(some 14), none, .v (.pick (.t 10) (.t 13) (.c (.lit (.bool false))))⟩,
  ⟨(some 6), none, .v (.mov (.t 14))⟩])
 .ret))
def r31 : List RV := [.t 6]
theorem k31 : (Try.f31.body.bind (cC Try.prog), cR Try.prog Try.f31.results.toList, Try.f31.ntmps) = (some s31, some r31, 15) := by kernel_rfl
theorem q31 : Known Try.prog 31 := ⟨_, Try.func31, by decide, by simp [Try.f31]⟩
def s32 : SC :=
 (.seq (.reg [⟨(some 3), none, .box 30 (.t 0)⟩,
  ⟨(some 6), none, .v (.mov (.c (.lit (.bool false))))⟩])
 (.seq (.reg [⟨(some 7), none, .v (.mov (.t 1))⟩,
  ⟨(some 8), none, .v (.off (.t 3) 0)⟩,
  ⟨(some 9), none, .v (.load (.t 8) none)⟩,
  ⟨(some 10), none, .v (.bin .leq (.t 7) (.t 9))⟩,
  ⟨(some 11), none, .v (.mov (.t 10))⟩,
  ⟨(some 12), (some (11, true)), .v (.off (.t 3) 0)⟩,
  ⟨(some 13), (some (11, true)), .v (.load (.t 12) none)⟩,
  ⟨(some 14), (some (11, true)), .v (.off (.t 3) 1)⟩,
  ⟨(some 15), (some (11, true)), .v (.load (.t 14) none)⟩,
  ⟨(some 16), (some (11, true)), .v (.bin .leq (.t 13) (.t 15))⟩,
  ⟨(some 17), none, .v (.pick (.t 11) (.t 16) (.c (.lit (.bool false))))⟩,
  ⟨(some 18), none, .v (.mov (.t 17))⟩,
  ⟨(some 19), (some (18, true)), .v (.off (.t 3) 1)⟩,
  ⟨(some 20), (some (18, true)), .v (.load (.t 19) none)⟩,
  ⟨(some 21), (some (18, true)), .v (.mov (.t 2))⟩,
  ⟨(some 22), (some (18, true)), .v (.bin .leq (.t 20) (.t 21))⟩,
  ⟨(some 23), none, .v (.pick (.t 18) (.t 22) (.c (.lit (.bool false))))⟩,
  ⟨(some 6), none, .v (.mov (.t 23))⟩])
 .ret))
def r32 : List RV := [.t 6]
theorem k32 : (Try.f32.body.bind (cC Try.prog), cR Try.prog Try.f32.results.toList, Try.f32.ntmps) = (some s32, some r32, 24) := by kernel_rfl
theorem q32 : Known Try.prog 32 := ⟨_, Try.func32, by decide, by simp [Try.f32]⟩
def s7 : SC :=
 (.seq (.reg [⟨(some 4), none, .v (.mov (.c (.int .i64 (0))))⟩])
 (.seq (.reg [⟨(some 6), none, .v (.mov (.t 0))⟩,
  ⟨(some 7), none, .v (.mov (.t 1))⟩,
  ⟨(some 8), none, .v (.bin .rem (.t 6) (.t 7))⟩,
  ⟨(some 5), none, .v (.mov (.t 8))⟩])
 (.seq (.seq (.reg [⟨(some 9), none, .v (.mov (.t 5))⟩,
  ⟨(some 10), none, .v (.bin .lss (.t 9) (.c (.int .i64 (0))))⟩])
 (.cond (.t 10)
  (.reg [⟨(some 11), none, .v (.mov (.t 5))⟩,
   ⟨(some 12), none, .v (.mov (.t 1))⟩,
   ⟨(some 13), none, .v (.bin .add (.t 11) (.t 12))⟩,
   ⟨(some 5), none, .v (.mov (.t 13))⟩])
  .skip))
 (.seq (.reg [⟨(some 14), none, .v (.mov (.t 5))⟩,
  ⟨(some 4), none, .v (.mov (.t 14))⟩])
 .ret))))
def r7 : List RV := [.t 4]
theorem k7 : (Try.f7.body.bind (cC Try.prog), cR Try.prog Try.f7.results.toList, Try.f7.ntmps) = (some s7, some r7, 15) := by kernel_rfl
theorem q7 : Known Try.prog 7 := ⟨_, Try.func7, by decide, by simp [Try.f7]⟩
def s36 : SC :=
 (.seq (.reg [⟨(some 4), none, .v (.mov (.c (.int .i64 (0))))⟩])
 (.seq (.reg [⟨(some 6), none, .v (.mov (.t 0))⟩,
  ⟨(some 7), none, .v (.mov (.t 1))⟩,
  ⟨(some 8), none, .v (.bin .quo (.t 6) (.t 7))⟩,
  ⟨(some 5), none, .v (.mov (.t 8))⟩])
 (.seq (.seq (.reg [⟨(some 9), none, .v (.mov (.t 0))⟩,
  ⟨(some 10), none, .v (.mov (.t 1))⟩,
  ⟨(some 11), none, .v (.bin .rem (.t 9) (.t 10))⟩,
  ⟨(some 12), none, .v (.bin .lss (.t 11) (.c (.int .i64 (0))))⟩])
 (.cond (.t 12)
  (.reg [⟨(some 13), none, .v (.mov (.t 5))⟩,
   ⟨(some 14), none, .v (.bin .sub (.t 13) (.c (.int .i64 (1))))⟩,
   ⟨(some 5), none, .v (.mov (.t 14))⟩])
  .skip))
 (.seq (.reg [⟨(some 15), none, .v (.mov (.t 5))⟩,
  ⟨(some 4), none, .v (.mov (.t 15))⟩])
 .ret))))
def r36 : List RV := [.t 4]
theorem k36 : (Try.f36.body.bind (cC Try.prog), cR Try.prog Try.f36.results.toList, Try.f36.ntmps) = (some s36, some r36, 16) := by kernel_rfl
theorem q36 : Known Try.prog 36 := ⟨_, Try.func36, by decide, by simp [Try.f36]⟩
def s35 : SC :=
 (.seq (.reg [⟨(some 4), none, .v (.mov (.c (.int .i64 (0))))⟩])
 (.seq (.reg [⟨(some 5), none, .v (.mov (.t 0))⟩,
  ⟨(some 6), none, .v (.neg (.t 5))⟩,
  ⟨(some 7), none, .v (.mov (.t 1))⟩,
  ⟨(some 8), none, .call (.c (.fn 36 [])) [(.t 6), (.t 7)]⟩,
  ⟨(some 9), none, .v (.neg (.t 8))⟩,
  ⟨(some 4), none, .v (.mov (.t 9))⟩])
 .ret))
def r35 : List RV := [.t 4]
theorem k35 : (Try.f35.body.bind (cC Try.prog), cR Try.prog Try.f35.results.toList, Try.f35.ntmps) = (some s35, some r35, 10) := by kernel_rfl
theorem q35 : Known Try.prog 35 := ⟨_, Try.func35, by decide, by simp [Try.f35]⟩
def s30 : SC :=
 (.seq (.reg [⟨(some 2), none, .v (.mov (.c (.lit (.bool false))))⟩])
 (.seq (.reg [⟨(some 3), none, .v (.mov (.t 0))⟩,
  ⟨(some 4), none, .call (.c (.fn 31 [])) [(.t 3), (.c (.int .i64 (0))), (.c (.int .i64 (1295999)))]⟩,
  ⟨(some 2), none, .v (.mov (.t 4))⟩])
 .ret))
def r30 : List RV := [.t 2]
theorem k30 : (Try.f30.body.bind (cC Try.prog), cR Try.prog Try.f30.results.toList, Try.f30.ntmps) = (some s30, some r30, 5) := by kernel_rfl
theorem q30 : Known Try.prog 30 := ⟨_, Try.func30, by decide, by simp [Try.f30]⟩
def s33 : SC :=
 (.seq (.reg [⟨(some 2), none, .v (.mov (.c (.int .i64 (0))))⟩])
 (.seq (.reg [⟨(some 3), none, .v (.mov (.t 0))⟩,
  ⟨(some 4), none, .v (.mov (.t 0))⟩,
  ⟨(some 5), none, .call (.c (.fn 36 [])) [(.t 4), (.c (.int .i64 (1296000)))]⟩,
  ⟨(some 6), none, .v (.bin .mul (.c (.int .i64 (1296000))) (.t 5))⟩,
  ⟨(some 7), none, .v (.bin .sub (.t 3) (.t 6))⟩,
  ⟨(some 2), none, .v (.mov (.t 7))⟩])
 .ret))
def r33 : List RV := [.t 2]
theorem k33 : (Try.f33.body.bind (cC Try.prog), cR Try.prog Try.f33.results.toList, Try.f33.ntmps) = (some s33, some r33, 8) := by kernel_rfl
theorem q33 : Known Try.prog 33 := ⟨_, Try.func33, by decide, by simp [Try.f33]⟩
def s37 : SC :=
 (.seq (.reg [⟨(some 0), none, .new 30 [(.int .i64 (0)), (.int .i64 (0))]⟩])
 (.seq (.reg [⟨(some 1), none, .bld [(.int .i64 (0)), (.int .i64 (0))] [(0, 1, (.c (.int .i64 (1)))), (1, 1, (.c (.int .i64 (0))))]⟩,
  ⟨none, none, .store 2 (.t 0) (.t 1)⟩])
 .ret))
def r37 : List RV := [.c 0 (some 2)]
theorem k37 : (Try.f37.body.bind (cC Try.prog), cR Try.prog Try.f37.results.toList, Try.f37.ntmps) = (some s37, some r37, 2) := by kernel_rfl
theorem q37 : Known Try.prog 37 := ⟨_, Try.func37, by decide, by simp [Try.f37]⟩
def s34 : SC :=
 (.seq (.reg [⟨(some 2), none, .box 30 (.t 0)⟩,
  ⟨(some 3), none, .box 30 (.t 1)⟩,
  ⟨(some 4), none, .new 30 [(.int .i64 (0)), (.int .i64 (0))]⟩])
 (.seq (.reg [⟨(some 6), none, .v (.off (.t 2) 0)⟩,
  ⟨(some 7), none, .v (.load (.t 6) none)⟩,
  ⟨(some 8), none, .v (.off (.t 3) 0)⟩,
  ⟨(some 9), none, .v (.load (.t 8) none)⟩,
  ⟨(some 10), none, .v (.max2 (.t 7) (.t 9))⟩,
  ⟨(some 11), none, .v (.off (.t 2) 1)⟩,
  ⟨(some 12), none, .v (.load (.t 11) none)⟩,
  ⟨(some 13), none, .v (.off (.t 3) 1)⟩,
  ⟨(some 14), none, .v (.load (.t 13) none)⟩,
  ⟨(some 15), none, .v (.min2 (.t 12) (.t 14))⟩,
  ⟨(some 16), none, .bld [(.int .i64 (0)), (.int .i64 (0))] [(0, 1, (.t 10)), (1, 1, (.t 15))]⟩,
  ⟨(some 5), none, .new 30 [(.int .i64 (0)), (.int .i64 (0))]⟩,
  ⟨none, none, .store 2 (.t 5) (.t 16)⟩])
 (.seq (.seq (.reg [⟨(some 17), none, .v (.off (.t 5) 0)⟩,
  ⟨(some 18), none, .v (.load (.t 17) none)⟩,
  ⟨(some 19), none, .v (.off (.t 5) 1)⟩,
  ⟨(some 20), none, .v (.load (.t 19) none)⟩,
  ⟨(some 21), none, .v (.bin .gtr (.t 18) (.t 20))⟩])
 (.cond (.t 21)
  (.seq (.reg [⟨(some 22), none, .call (.c (.fn 37 [])) []⟩,
   ⟨none, none, .store 2 (.t 4) (.t 22)⟩])
  .ret)
  .skip))
 (.seq (.reg [⟨(some 23), none, .v (.load (.t 5) (some 2))⟩,
  ⟨none, none, .store 2 (.t 4) (.t 23)⟩])
 .ret))))
def r34 : List RV := [.c 4 (some 2)]
theorem k34 : (Try.f34.body.bind (cC Try.prog), cR Try.prog Try.f34.results.toList, Try.f34.ntmps) = (some s34, some r34, 24) := by kernel_rfl
theorem q34 : Known Try.prog 34 := ⟨_, Try.func34, by decide, by simp [Try.f34]⟩
def s5 : SC :=
 (.seq (.reg [⟨(some 2), none, .v (.mov (.c (.int .i64 (0))))⟩])
 (.seq (.reg [⟨(some 3), none, .v (.mov (.t 0))⟩,
  ⟨(some 4), none, .v (.mov (.t 0))⟩,
  ⟨(some 5), none, .v (.neg (.t 4))⟩,
  ⟨(some 6), none, .v (.max2 (.t 3) (.t 5))⟩,
  ⟨(some 2), none, .v (.mov (.t 6))⟩])
 .ret))
def r5 : List RV := [.t 2]
theorem k5 : (Try.f5.body.bind (cC Try.prog), cR Try.prog Try.f5.results.toList, Try.f5.ntmps) = (some s5, some r5, 7) := by kernel_rfl
theorem q5 : Known Try.prog 5 := ⟨_, Try.func5, by decide, by simp [Try.f5]⟩
theorem mx_eq (a b : Int) : (if a < b then b else a) = max a b := by split <;> omega
theorem mn_eq (a b : Int) : (if b < a then b else a) = min a b := by split <;> omega
def Fin : FC := fun args => match args with
 | [.int .i64 x, .int .i64 lo, .int .i64 hi] => some (True, .bool (decide (lo ≤ x ∧ x ≤ hi)))
 | _ => none
theorem p31 : PureOk Try.prog 31 (fcC Fin) := by
 refine pure_of (T := []) trivial Try.func31 k31 ?_
 intro args K hC
 unfold fcC Fin at hC
 split at hC <;> first | (exact hC.elim) | skip
 rename_i h
 split at h <;> first | (cases h; done) | skip
 cases h
 simp only [e_reg, e_seq, e_ret, o_nil, o_cons, gd_none, gd_some, gdK_tt, gdK_ft, gdK_bt, putK_e, runK_e, skipK_e, vK_e, evh_v, seqK_n, ends_r, endK1_e, endK2_e, evp, bin, gt, st, putf, X.get, mkfr, rep, rdR, tupled, clV, clS, clo, undef, Nat.reduceSub, true_and, decide_eq_true_eq, decide_eq_false_iff_not, s31, r31]
 exact ⟨fun h => res hC.2 (by simp [leR, h]), fun h => res hC.2 (by simp [leR, h])⟩
def Fsp : FC := fun args => match args with
 | [.agg [.int .i64 a, .int .i64 b], .int .i64 lo, .int .i64 hi] => some (True, .bool (decide ((lo ≤ a ∧ a ≤ b) ∧ b ≤ hi)))
 | _ => none
theorem p32 : PureOk Try.prog 32 (fcC Fsp) := by
 refine pure_of (T := []) trivial Try.func32 k32 ?_
 intro args K hC
 unfold fcC Fsp at hC
 split at hC <;> first | (exact hC.elim) | skip
 rename_i h
 split at h <;> first | (cases h; done) | skip
 cases h
 obtain ⟨-, hK⟩ := hC
 simp only [e_reg, e_seq, e_ret, o_nil, o_cons, gd_none, gd_some, gdK_tt, gdK_ft, gdK_bt, putK_e, runK_e, skipK_e, vK_e, boxK_e, evh_v, evh_box, seqK_n, ends_r, endK1_e, endK2_e, evp, bin, gt, gq, st, putf, X.get, mkfr, rep, rdR, tupled, clV, clS, clo, ld, lda, cs1, gb, pb, ln, undef, Nat.reduceSub, Nat.reduceAdd, true_and, decide_eq_true_eq, decide_eq_false_iff_not, s32, r32]
 exact ⟨fun h1 => ⟨fun h2 => res hK (by simp [leR, h1, h2]), fun h2 => res hK (by simp [leR, h1, h2])⟩, fun h1 => res hK (by simp [leR, h1])⟩
def Fmod : FC := fun args => match args with
 | [.int .i64 a, .int .i64 b] => some (0 < b ∧ b ≤ 9223372036854775807, .int .i64 (a % b))
 | _ => none
theorem p7 : PureOk Try.prog 7 (fcC Fmod) := by
 refine pure_of (T := []) trivial Try.func7 k7 ?_
 intro args K hC
 unfold fcC Fmod at hC
 split at hC <;> first | (exact hC.elim) | skip
 rename_i h
 split at h <;> first | (cases h; done) | skip
 cases h
 rename_i a b
 obtain ⟨⟨hb, hb2⟩, hK⟩ := hC
 have e := Int.tmod_eq_emod (a := a) (b := b)
 have h1 := Int.emod_nonneg a (show b ≠ 0 by omega)
 have h2 := Int.emod_lt_of_pos a hb
 have h3 : (b.natAbs : Int) = b := by omega
 simp only [inr64, ne_eq, e_skip, e_reg, e_seq, e_cond, e_ret, o_nil, o_cons, gd_none, putK_e, runK_e, vK_e, evh_v, seqK_n, condK_b, ends_r, endK1_e, endK2_e, evp, bin, gt, st, putf, X.get, mkfr, rep, rdR, tupled, clV, clS, clo, undef, Nat.reduceSub, true_and, decide_eq_true_eq, decide_eq_false_iff_not, s7, r7]
 have e2 : a.tmod b = a % b ∨ a.tmod b = a % b - b := by
  by_cases c : 0 ≤ a ∨ b ∣ a
  ·rw [if_pos c] at e; exact .inl (by simpa using e)
  ·rw [if_neg c, h3] at e; exact .inr e
 exact ⟨by omega, fun h => ⟨by omega, res hK (by simp [leR]; omega)⟩, fun h => res hK (by simp [leR]; omega)⟩
def Fdwn : FC := fun args => match args with
 | [.int .i64 a, .int .i64 b] => some (0 < b ∧ b ≤ 4611686018427387904 ∧ -4611686018427387904 ≤ a ∧ a ≤ 4611686018427387904, .int .i64 (a / b))
 | _ => none
theorem dwnB {a b : Int} (hb : 0 < b) (hb2 : b ≤ 4611686018427387904) (ha : -4611686018427387904 ≤ a) (ha2 : a ≤ 4611686018427387904) : -4611686018427387904 ≤ a / b ∧ a / b ≤ 4611686018427387904 := by
 have e3 : -4611686018427387904 ≤ a / b := Int.le_ediv_of_mul_le hb (by omega)
 have e4 : a / b ≤ 4611686018427387904 := Int.ediv_le_of_le_mul hb (by omega)
 exact ⟨e3, e4⟩
theorem p36 : PureOk Try.prog 36 (fcC Fdwn) := by
 refine pure_of (T := []) trivial Try.func36 k36 ?_
 intro args K hC
 unfold fcC Fdwn at hC
 split at hC <;> first | (exact hC.elim) | skip
 rename_i h
 split at h <;> first | (cases h; done) | skip
 cases h
 rename_i a b
 obtain ⟨⟨hb, hb2, ha, ha2⟩, hK⟩ := hC
 have h1 := Int.emod_nonneg a (show b ≠ 0 by omega)
 have h2 := Int.emod_lt_of_pos a hb
 have h3 : (b.natAbs : Int) = b := by omega
 have h4 : b.sign = 1 := Int.sign_eq_one_of_pos hb
 obtain ⟨e3, e4⟩ := dwnB hb hb2 ha ha2
 have e := Int.tmod_eq_emod (a := a) (b := b)
 have f := Int.tdiv_eq_ediv (a := a) (b := b)
 have e2 : (a.tmod b = a % b ∧ a.tdiv b = a / b) ∨ (a.tmod b = a % b - b ∧ a.tdiv b = a / b + 1) := by
  by_cases c : 0 ≤ a ∨ b ∣ a
  ·rw [if_pos c] at e f; exact .inl ⟨by simpa using e, by simpa using f⟩
  ·rw [if_neg c] at e f; exact .inr ⟨by rw [h3] at e; exact e, by rw [h4] at f; exact f⟩
 simp only [inr64, ne_eq, e_skip, e_reg, e_seq, e_cond, e_ret, o_nil, o_cons, gd_none, putK_e, runK_e, vK_e, evh_v, seqK_n, condK_b, ends_r, endK1_e, endK2_e, evp, bin, gt, st, putf, X.get, mkfr, rep, rdR, tupled, clV, clS, clo, undef, Nat.reduceSub, true_and, decide_eq_true_eq, decide_eq_false_iff_not, s36, r36]
 refine ⟨?_, ?_⟩
 ·omega
 ·refine ⟨by omega, ⟨fun h => ⟨by omega, res hK (by simp [leR]; omega)⟩, fun h => res hK (by simp [leR]; omega)⟩⟩
def Fup : FC := fun args => match args with
 | [.int .i64 a, .int .i64 b] => some (0 < b ∧ b ≤ 4611686018427387904 ∧ -4611686018427387904 ≤ a ∧ a ≤ 4611686018427387904, .int .i64 (-(-a / b)))
 | _ => none
theorem p35 : PureOk Try.prog 35 (fcC Fup) := by
 refine pure_of (T := [(36, .fc Fdwn)]) ⟨⟨p36, q36⟩, trivial⟩ Try.func35 k35 ?_
 intro args K hC
 unfold fcC Fup at hC
 split at hC <;> first | (exact hC.elim) | skip
 rename_i h
 split at h <;> first | (cases h; done) | skip
 cases h
 rename_i a b
 obtain ⟨⟨hb, hb2, ha, ha2⟩, hK⟩ := hC
 obtain ⟨e3, e4⟩ := dwnB (a := -a) hb hb2 (by omega) (by omega)
 simp only [inr64, e_reg, e_seq, e_ret, o_nil, o_cons, gd_none, putK_e, runK_e, vK_e, conK_e, callK_e, evh_v, evh_call, seqK_n, ends_r, endK1_e, endK2_e, gam_e, gamK_f, pc_e, pcK_e, fcC_e, fcK_e, evp, gt, st, putf, X.get, gets, ap, mkfr, rep, rdR, tupled, clV, clL, clS, clo, lk, undef, Nat.reduceSub, beq_self_eq_true, true_and, s35, r35, Fdwn]
 exact ⟨by omega, ⟨hb, hb2, by omega, by omega⟩, by omega, res hK (by simp [leR])⟩
def Fdir : FC := fun args => match args with
 | [.int .i64 x] => some (True, .bool (decide (0 ≤ x ∧ x ≤ 1295999)))
 | _ => none
theorem p30 : PureOk Try.prog 30 (fcC Fdir) := by
 refine pure_of (T := [(31, .fc Fin)]) ⟨⟨p31, q31⟩, trivial⟩ Try.func30 k30 ?_
 intro args K hC
 unfold fcC Fdir at hC
 split at hC <;> first | (exact hC.elim) | skip
 rename_i h
 split at h <;> first | (cases h; done) | skip
 cases h
 simp only [e_reg, e_seq, e_ret, o_nil, o_cons, gd_none, putK_e, runK_e, vK_e, conK_e, callK_e, evh_v, evh_call, seqK_n, ends_r, endK1_e, endK2_e, gam_e, gamK_f, pc_e, pcK_e, fcC_e, fcK_e, evp, gt, st, putf, X.get, gets, ap, mkfr, rep, rdR, tupled, clV, clL, clS, clo, gb, lk, undef, Nat.reduceSub, beq_self_eq_true, true_and, s30, r30, Fin]
 exact res hC.2 (by simp [leR])
def Fcir : FC := fun args => match args with
 | [.int .i64 x] => some (-4611686018427387904 ≤ x ∧ x ≤ 4611686018427387904, .int .i64 (x % 1296000))
 | _ => none
theorem p33 : PureOk Try.prog 33 (fcC Fcir) := by
 refine pure_of (T := [(36, .fc Fdwn)]) ⟨⟨p36, q36⟩, trivial⟩ Try.func33 k33 ?_
 intro args K hC
 unfold fcC Fcir at hC
 split at hC <;> first | (exact hC.elim) | skip
 rename_i h
 split at h <;> first | (cases h; done) | skip
 cases h
 rename_i x
 obtain ⟨⟨h1, h2⟩, hK⟩ := hC
 simp only [inr64, e_reg, e_seq, e_ret, o_nil, o_cons, gd_none, putK_e, runK_e, vK_e, conK_e, callK_e, evh_v, evh_call, seqK_n, ends_r, endK1_e, endK2_e, gam_e, gamK_f, pc_e, pcK_e, fcC_e, fcK_e, evp, bin, gt, st, putf, X.get, gets, ap, mkfr, rep, rdR, tupled, clV, clL, clS, clo, lk, undef, Nat.reduceSub, beq_self_eq_true, true_and, s33, r33, Fdwn]
 refine ⟨by omega, by omega, by omega, res hK (by simp [leR]; omega)⟩
def Fno : FC := fun args => match args with
 | [] => some (True, .agg [.int .i64 1, .int .i64 0])
 | _ => none
theorem p37 : PureOk Try.prog 37 (fcC Fno) := by
 refine pure_of (T := []) trivial Try.func37 k37 ?_
 intro args K hC
 unfold fcC Fno at hC
 split at hC <;> first | (exact hC.elim) | skip
 rename_i h
 split at h <;> first | (cases h; done) | skip
 cases h
 simp only [↓reduceIte, e_reg, and_self, e_seq, e_ret, o_nil, o_cons, gd_none, putK_e, runK_e, bldK_e, storeK3_e, storeK2_e, storeK_e, evh_new, evh_bld, evh_store, seqK_n, ends_r, endK1_e, endK2_e, gt, st, putf, X.get, getp, mkfr, rep, rdR, tupled, clV, clL, clS, clo, ld, tk, dr, sp, sp.spl, lay, ll, cs1, one, allOne, gb, sb, pb, ln, undef, Bool.and_true, Nat.reduceAdd, beq_self_eq_true, true_and, s37, r37]
 exact res hC.2 (by simp [leR, leR.leRs])
def com (a1 a2 b1 b2 : Int) : Int × Int := if max a1 b1 ≤ min a2 b2 then (max a1 b1, min a2 b2) else (1, 0)
def Fcom : FC := fun args => match args with
 | [.agg [.int .i64 a1, .int .i64 a2], .agg [.int .i64 b1, .int .i64 b2]] => some (True, .agg [.int .i64 (com a1 a2 b1 b2).1, .int .i64 (com a1 a2 b1 b2).2])
 | _ => none
theorem p34 : PureOk Try.prog 34 (fcC Fcom) := by
 refine pure_of (T := [(37, .fc Fno)]) ⟨⟨p37, q37⟩, trivial⟩ Try.func34 k34 ?_
 intro args K hC
 unfold fcC Fcom at hC
 split at hC <;> first | (exact hC.elim) | skip
 rename_i h
 split at h <;> first | (cases h; done) | skip
 cases h
 obtain ⟨-, hK⟩ := hC
 simp only [↓reduceIte, e_skip, e_reg, and_self, e_seq, e_cond, e_ret, o_nil, o_cons, gd_none, putK_e, runK_e, vK_e, boxK_e, bldK_e, storeK3_e, storeK2_e, storeK_e, conK_e, callK_e, evh_v, evh_new, evh_box, evh_bld, evh_store, evh_call, seqK_n, seqK_r, condK_b, ends_r, endK1_e, endK2_e, gam_e, gamK_f, pc_e, pcK_e, fcC_e, fcK_e, evp, bin, gt, gq, st, putf, X.get, gets, getp, ap, mkfr, rep, rdR, tupled, clV, clL, clS, clo, ld, lda, tk, dr, sp, sp.spl, lay, ll, cs1, one, allOne, gb, sb, pb, ln, lk, Value.oneCell', undef, Bool.and_true, Nat.reduceSub, Nat.reduceAdd, beq_self_eq_true, true_and, decide_eq_true_eq, decide_eq_false_iff_not, s34, r34, Fno, mx_eq, mn_eq]
 unfold com at hK
 refine ⟨fun h => res hK ?_, fun h => res hK ?_⟩
 ·rw [if_neg (by omega)]; simp [leR, leR.leRs]
 ·rw [if_pos (by omega)]; simp [leR, leR.leRs]
def Fabs : FC := fun args => match args with
 | [.int .i64 n] => some (-4611686018427387904 ≤ n ∧ n ≤ 4611686018427387904, .int .i64 (max n (-n)))
 | _ => none
theorem p5 : PureOk Try.prog 5 (fcC Fabs) := by
 refine pure_of (T := []) trivial Try.func5 k5 ?_
 intro args K hC
 unfold fcC Fabs at hC
 split at hC <;> first | (exact hC.elim) | skip
 rename_i h
 split at h <;> first | (cases h; done) | skip
 cases h
 obtain ⟨h1, hK⟩ := hC
 simp only [inr64, e_reg, e_seq, e_ret, o_nil, o_cons, gd_none, putK_e, runK_e, vK_e, evh_v, seqK_n, ends_r, endK1_e, endK2_e, evp, gt, st, putf, X.get, mkfr, rep, rdR, tupled, clV, clS, clo, undef, Nat.reduceSub, true_and, s5, r5, mx_eq]
 exact ⟨by omega, res hK (by simp [leR])⟩
def Fto : FC := fun args => match args with
 | [.int .i64 a, .int .i64 b] => some (True, .agg [.int .i64 a, .int .i64 b])
 | _ => none
end Go.Proofs.Ytdcjlllnfklncaa
