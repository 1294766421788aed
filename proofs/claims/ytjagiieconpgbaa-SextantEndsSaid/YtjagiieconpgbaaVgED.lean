/- Sextants: truths that numbers choose: what a number chooses, and the truth's closure. -/
import Derived.Test.YtjagiieconpgbaaVgEB
import Derived.Test.YtjagiieconpgbaaVgV10
section
namespace Go.Proofs.Ytjagiieconpgbaa
open Go Go.Vg
set_option linter.unusedSimpArgs false
set_option linter.unusedVariables false
set_option maxRecDepth 10000
/- 32: octant/octantlaw05.sound -/
def s32 : SC :=
  (.seq (.reg [⟨(some 1), none, .box 26 (.t 0)⟩,
    ⟨(some 2), none, .v (.mov (.c (.lit (.bool false))))⟩])
  (.seq (.reg [⟨(some 3), none, .v (.load (.t 1) (some 6))⟩,
    ⟨(some 4), none, .call (.c (.fn 17 [])) [(.t 3)]⟩,
    ⟨(some 5), none, .v (.bin .eql (.t 4) (.c (.int .i64 (0))))⟩,
    ⟨(some 6), none, .v (.mov (.t 5))⟩,
    ⟨(some 7), (some (6, true)), .v (.off (.t 1) 0)⟩,
    ⟨(some 8), (some (6, true)), .v (.load (.t 7) none)⟩,
    ⟨(some 9), (some (6, true)), .call (.c (.fn 33 [])) [(.t 8), (.c (.int .i64 (1))), (.c (.int .i64 (72000)))]⟩,
    ⟨(some 10), none, .v (.pick (.t 6) (.t 9) (.c (.lit (.bool false))))⟩,
    ⟨(some 11), none, .v (.mov (.t 10))⟩,
    ⟨(some 12), (some (11, true)), .v (.off (.t 1) 1)⟩,
    ⟨(some 13), (some (11, true)), .v (.load (.t 12) none)⟩,
    ⟨(some 14), (some (11, true)), .v (.len (.t 13))⟩,
    ⟨(some 15), (some (11, true)), .call (.c (.fn 33 [])) [(.t 14), (.c (.int .i64 (2))), (.c (.int .i64 (12)))]⟩,
    ⟨(some 16), none, .v (.pick (.t 11) (.t 15) (.c (.lit (.bool false))))⟩,
    ⟨(some 17), none, .v (.mov (.t 16))⟩,
    ⟨(some 18), (some (17, true)), .v (.off (.t 1) 5)⟩,
    ⟨(some 19), (some (17, true)), .v (.load (.t 18) none)⟩,
    ⟨(some 20), (some (17, true)), .v (.len (.t 19))⟩,
    ⟨(some 21), (some (17, true)), .v (.bin .leq (.t 20) (.c (.int .i64 (6))))⟩,
    ⟨(some 22), none, .v (.pick (.t 17) (.t 21) (.c (.lit (.bool false))))⟩,
    ⟨(some 23), none, .v (.mov (.t 22))⟩,
    ⟨(some 24), (some (23, true)), .v (.off (.t 1) 2)⟩,
    ⟨(some 25), (some (23, true)), .v (.load (.t 24) (some 2))⟩,
    ⟨(some 26), (some (23, true)), .call (.c (.fn 41 [])) [(.t 25), (.c (.int .i64 (-1800))), (.c (.int .i64 (1800)))]⟩,
    ⟨(some 27), none, .v (.pick (.t 23) (.t 26) (.c (.lit (.bool false))))⟩,
    ⟨(some 2), none, .v (.mov (.t 27))⟩])
  .ret))
def r32 : List RV := [.t 2]
def n32 : Nat := 28
theorem k32 : (Try.f32.body.bind (cC Try.prog), cR Try.prog Try.f32.results.toList, Try.f32.ntmps) = (some s32, some r32, 28) := by kernel_rfl
theorem q32 : Known Try.prog 32 := ⟨_, Try.func32, by decide, by simp [Try.f32]⟩

/- 37: octant/octantref00.Chosen -/
def s37 : SC :=
  (.seq (.reg [⟨(some 6), none, .v (.mov (.c (.int .i64 (0))))⟩])
  (.seq (.seq (.reg [⟨(some 8), none, .v (.mov (.t 0))⟩,
    ⟨(some 9), none, .v (.mov (.t 1))⟩,
    ⟨(some 10), none, .v (.bin .geq (.t 8) (.t 9))⟩])
  (.cond (.t 10)
    (.seq (.reg [⟨(some 11), none, .v (.mov (.t 0))⟩,
      ⟨(some 6), none, .v (.mov (.t 11))⟩])
    .ret)
    .skip))
  (.seq (.reg [⟨(some 12), none, .v (.mov (.t 1))⟩,
    ⟨(some 13), none, .v (.mov (.t 0))⟩,
    ⟨(some 14), none, .v (.bin .sub (.t 12) (.t 13))⟩,
    ⟨(some 15), none, .v (.bin .add (.t 14) (.c (.int .i64 (1))))⟩,
    ⟨(some 7), none, .v (.mov (.t 15))⟩])
  (.seq (.seq (.reg [⟨(some 16), none, .v (.mov (.t 7))⟩,
    ⟨(some 17), none, .v (.bin .lss (.t 16) (.c (.int .i64 (1))))⟩])
  (.cond (.t 17)
    (.seq (.reg [⟨(some 18), none, .v (.mov (.t 2))⟩,
      ⟨(some 19), none, .v (.mov (.t 0))⟩,
      ⟨(some 20), none, .v (.max2 (.t 18) (.t 19))⟩,
      ⟨(some 21), none, .v (.mov (.t 1))⟩,
      ⟨(some 22), none, .v (.min2 (.t 20) (.t 21))⟩,
      ⟨(some 6), none, .v (.mov (.t 22))⟩])
    .ret)
    .skip))
  (.seq (.reg [⟨(some 23), none, .v (.mov (.t 0))⟩,
    ⟨(some 24), none, .v (.mov (.t 2))⟩,
    ⟨(some 25), none, .v (.mov (.t 7))⟩,
    ⟨(some 26), none, .call (.c (.fn 42 [])) [(.t 24), (.t 25)]⟩,
    ⟨(some 27), none, .v (.bin .add (.t 23) (.t 26))⟩,
    ⟨(some 6), none, .v (.mov (.t 27))⟩])
  .ret)))))
def r37 : List RV := [.t 6]
def n37 : Nat := 28
theorem k37 : (Try.f37.body.bind (cC Try.prog), cR Try.prog Try.f37.results.toList, Try.f37.ntmps) = (some s37, some r37, 28) := by kernel_rfl
theorem q37 : Known Try.prog 37 := ⟨_, Try.func37, by decide, by simp [Try.f37]⟩

/- 38: octant/octantref00.Pick -/
def s38 : SC :=
  (.seq (.reg [⟨(some 4), none, .v (.mov (.c (.int .i64 (0))))⟩])
  (.seq (.seq (.reg [⟨(some 5), none, .v (.mov (.t 0))⟩,
    ⟨(some 6), none, .v (.len (.t 5))⟩,
    ⟨(some 7), none, .v (.bin .eql (.t 6) (.c (.int .i64 (0))))⟩])
  (.cond (.t 7)
    (.seq (.reg [⟨(some 4), none, .v (.mov (.c (.int .i64 (0))))⟩])
    .ret)
    .skip))
  (.seq (.reg [⟨(some 8), none, .v (.mov (.t 0))⟩,
    ⟨(some 9), none, .v (.mov (.t 1))⟩,
    ⟨(some 10), none, .v (.mov (.t 0))⟩,
    ⟨(some 11), none, .v (.len (.t 10))⟩,
    ⟨(some 12), none, .call (.c (.fn 42 [])) [(.t 9), (.t 11)]⟩,
    ⟨(some 13), none, .v (.ixa (.t 8) (.t 12) 1)⟩,
    ⟨(some 14), none, .v (.load (.t 13) none)⟩,
    ⟨(some 4), none, .v (.mov (.t 14))⟩])
  .ret)))
def r38 : List RV := [.t 4]
def n38 : Nat := 15
theorem k38 : (Try.f38.body.bind (cC Try.prog), cR Try.prog Try.f38.results.toList, Try.f38.ntmps) = (some s38, some r38, 15) := by kernel_rfl
theorem q38 : Known Try.prog 38 := ⟨_, Try.func38, by decide, by simp [Try.f38]⟩

/- 40: octant/octantlaw05.to -/
def s40 : SC :=
  (.seq (.reg [⟨(some 4), none, .new 24 [(.int .i64 (0)), (.int .i64 (0))]⟩])
  (.seq (.reg [⟨(some 5), none, .v (.mov (.t 0))⟩,
    ⟨(some 6), none, .v (.mov (.t 1))⟩,
    ⟨(some 7), none, .bld [(.int .i64 (0)), (.int .i64 (0))] [(0, 1, (.t 5)), (1, 1, (.t 6))]⟩,
    ⟨none, none, .store 2 (.t 4) (.t 7)⟩])
  .ret))
def r40 : List RV := [.c 4 (some 2)]
def n40 : Nat := 8
theorem k40 : (Try.f40.body.bind (cC Try.prog), cR Try.prog Try.f40.results.toList, Try.f40.ntmps) = (some s40, some r40, 8) := by kernel_rfl
theorem q40 : Known Try.prog 40 := ⟨_, Try.func40, by decide, by simp [Try.f40]⟩

/- 35: octant/octantref00.Holds -/
def s35 : SC :=
  (.seq (.reg [⟨(some 2), none, .box 24 (.t 0)⟩,
    ⟨(some 4), none, .v (.mov (.c (.lit (.bool false))))⟩])
  (.seq (.reg [⟨(some 5), none, .v (.mov (.t 1))⟩,
    ⟨(some 6), none, .v (.off (.t 2) 0)⟩,
    ⟨(some 7), none, .v (.load (.t 6) none)⟩,
    ⟨(some 8), none, .v (.off (.t 2) 1)⟩,
    ⟨(some 9), none, .v (.load (.t 8) none)⟩,
    ⟨(some 10), none, .call (.c (.fn 33 [])) [(.t 5), (.t 7), (.t 9)]⟩,
    ⟨(some 4), none, .v (.mov (.t 10))⟩])
  .ret))
def r35 : List RV := [.t 4]
def n35 : Nat := 11
theorem k35 : (Try.f35.body.bind (cC Try.prog), cR Try.prog Try.f35.results.toList, Try.f35.ntmps) = (some s35, some r35, 11) := by kernel_rfl
theorem q35 : Known Try.prog 35 := ⟨_, Try.func35, by decide, by simp [Try.f35]⟩

/- 84: octant/octantlaw05.truth$1 -/
def s84 : SC :=
  (.seq (.reg [⟨(some 3), none, .box 24 (.t 0)⟩,
    ⟨(some 5), none, .new 24 [(.int .i64 (0)), (.int .i64 (0))]⟩])
  (.seq (.drw [(0, ⟨(some 7), none, .v (.off (.t 3) 0)⟩, false),
    (1, ⟨(some 8), none, .v (.load (.t 7) none)⟩, false),
    (2, ⟨(some 9), none, .v (.off (.t 3) 1)⟩, false),
    (3, ⟨(some 10), none, .v (.load (.t 9) none)⟩, false),
    (4, ⟨(some 11), none, .v (.load (.t 2) none)⟩, false),
    (5, ⟨(some 12), none, .v (.mov (.t 1))⟩, false),
    (6, ⟨(some 13), none, .call (.c (.fn 38 [])) [(.t 11), (.t 12)]⟩, false)]
    none
    [⟨(some 14), none, .call (.c (.fn 37 [])) [(.t 8), (.t 10), (.t 13)]⟩,
    ⟨(some 6), none, .v (.mov (.t 14))⟩])
  (.seq (.reg [⟨(some 15), none, .v (.mov (.t 6))⟩,
    ⟨(some 16), none, .v (.mov (.t 6))⟩,
    ⟨(some 17), none, .call (.c (.fn 40 [])) [(.t 15), (.t 16)]⟩,
    ⟨none, none, .store 2 (.t 5) (.t 17)⟩])
  .ret)))
def r84 : List RV := [.c 5 (some 2)]
def n84 : Nat := 18
theorem k84 : (Try.f84.body.bind (cC Try.prog), cR Try.prog Try.f84.results.toList, Try.f84.ntmps) = (some s84, some r84, 18) := by kernel_rfl
theorem q84 : Known Try.prog 84 := ⟨_, Try.func84, by decide, by simp [Try.f84]⟩


def chz (low high n : Int) : Int := if high ≤ low then low else low + n % (high - low + 1)
theorem chz_bnd {a b n : Int} (h : a ≤ b) : a ≤ chz a b n ∧ chz a b n ≤ b := by
  unfold chz
  split
  · omega
  · have h1 := Int.emod_nonneg n (show b - a + 1 ≠ 0 by omega)
    have h2 := Int.emod_lt_of_pos n (show 0 < b - a + 1 by omega)
    omega
def Fch : FC := fun args => match args with
  | [.int .i64 a, .int .i64 b, .int .i64 n] => some ((-1000000000 ≤ a ∧ a ≤ 1000000000) ∧ (-1000000000 ≤ b ∧ b ≤ 1000000000), .int .i64 (chz a b n))
  | _ => none
theorem p37 : PureOk Try.prog 37 (fcC Fch) := by
  refine pure_of (T := [(42, .fc Fmod)]) ⟨⟨p42, q42⟩, trivial⟩ Try.func37 k37 ?_
  intro args K hC
  unfold fcC Fch at hC
  split at hC <;> first | (exact hC.elim) | skip
  rename_i h
  split at h <;> first | (cases h; done) | skip
  cases h
  rename_i a b n
  obtain ⟨⟨⟨h1, h2⟩, h3, h4⟩, hK⟩ := hC
  simp only [inr64, e_skip, e_reg, e_seq, e_cond, e_ret, o_nil, o_cons, gd_none, putK_e, runK_e, vK_e, conK_e, callK_e, evh_v, evh_call, seqK_n, seqK_r, condK_b, ends_r, endK1_e, endK2_e, gam_e, gamK_f, pc_e, pcK_e, fcC_e, fcK_e, evp, bin, gt, st, putf, X.get, gets, ap, mkfr, rep, rdR, tupled, clV, clL, clS, clo, lk, undef, Nat.reduceSub, beq_self_eq_true, true_and, decide_eq_true_eq, decide_eq_false_iff_not, s37, r37, Fmod]
  refine ⟨fun h => res hK (by simp [leR, chz]; omega), fun h => ⟨by omega, by omega, fun h5 => by omega, fun h5 => ?_⟩⟩
  have m1 := Int.emod_nonneg n (show b - a + 1 ≠ 0 by omega)
  have m2 := Int.emod_lt_of_pos n (show 0 < b - a + 1 by omega)
  exact ⟨⟨by omega, by omega⟩, by omega, res hK (by simp [leR, chz]; omega)⟩
def pk (l : List Int) (n : Int) : Int := if l.length = 0 then 0 else l.getD (n % (l.length : Int)).toNat 0
def Fpk : FC := fun args => match args with
  | [.ints .i64 l, .int .i64 n] => some ((l.length : Int) ≤ 9223372036854775807, .int .i64 (pk l n))
  | _ => none
theorem p38 : PureOk Try.prog 38 (fcC Fpk) := by
  refine pure_of (T := [(42, .fc Fmod)]) ⟨⟨p42, q42⟩, trivial⟩ Try.func38 k38 ?_
  intro args K hC
  unfold fcC Fpk at hC
  split at hC <;> first | (exact hC.elim) | skip
  rename_i h
  split at h <;> first | (cases h; done) | skip
  cases h
  rename_i l n
  obtain ⟨h1, hK⟩ := hC
  simp only [e_skip, e_reg, e_seq, e_cond, e_ret, o_nil, o_cons, gd_none, putK_e, runK_e, vK_e, conK_e, callK_e, evh_v, evh_call, seqK_n, seqK_r, condK_b, ends_r, endK1_e, endK2_e, gam_e, gamK_f, pc_e, pcK_e, fcC_e, fcK_e, evp, bin, gt, gq, st, putf, X.get, gets, ap, mkfr, rep, rdR, tupled, clV, clL, clS, clo, ld, lda, lens, ixs, lk, undef, Nat.reduceSub, beq_self_eq_true, true_and, decide_eq_true_eq, decide_eq_false_iff_not, s38, r38, Fmod]
  refine ⟨fun h => res hK (by simp [leR, pk]; intro h2; simp [h2] at h), fun h => ?_⟩
  have m1 := Int.emod_nonneg n (show (l.length : Int) ≠ 0 by omega)
  have m2 := Int.emod_lt_of_pos n (show 0 < (l.length : Int) by omega)
  have h' : l.length ≠ 0 := by omega
  rw [pk, if_neg h'] at hK
  exact ⟨⟨by omega, by omega⟩, ⟨m1, m2⟩, res hK (by simp [leR])⟩
def Fto : FC := fun args => match args with
  | [.int .i64 a, .int .i64 b] => some (True, .agg [.int .i64 a, .int .i64 b])
  | _ => none
theorem p40 : PureOk Try.prog 40 (fcC Fto) := by
  refine pure_of (T := []) trivial Try.func40 k40 ?_
  intro args K hC
  unfold fcC Fto at hC
  split at hC <;> first | (exact hC.elim) | skip
  rename_i h
  split at h <;> first | (cases h; done) | skip
  cases h
  obtain ⟨-, hK⟩ := hC
  simp only [↓reduceIte, e_reg, and_self, e_seq, e_ret, o_nil, o_cons, gd_none, putK_e, runK_e, vK_e, bldK_e, storeK3_e, storeK2_e, storeK_e, evh_v, evh_new, evh_bld, evh_store, seqK_n, ends_r, endK1_e, endK2_e, evp, gt, st, putf, X.get, getp, mkfr, rep, rdR, tupled, clV, clL, clS, clo, ld, tk, dr, sp, sp.spl, lay, ll, cs1, one, allOne, gb, sb, pb, ln, undef, Bool.and_true, Nat.reduceSub, Nat.reduceAdd, beq_self_eq_true, true_and, s40, r40]
  exact res hK (by simp [leR, leR.leRs])
def Fhol : FC := fun args => match args with
  | [.agg [.int .i64 a, .int .i64 b], .int .i64 n] => some (True, .bool (decide (a ≤ n ∧ n ≤ b)))
  | _ => none
theorem p35 : PureOk Try.prog 35 (fcC Fhol) := by
  refine pure_of (T := [(33, .fc Fin)]) ⟨⟨p33, q33⟩, trivial⟩ Try.func35 k35 ?_
  intro args K hC
  unfold fcC Fhol at hC
  split at hC <;> first | (exact hC.elim) | skip
  rename_i h
  split at h <;> first | (cases h; done) | skip
  cases h
  obtain ⟨-, hK⟩ := hC
  simp only [e_reg, e_seq, e_ret, o_nil, o_cons, gd_none, putK_e, runK_e, vK_e, boxK_e, conK_e, callK_e, evh_v, evh_box, evh_call, seqK_n, ends_r, endK1_e, endK2_e, gam_e, gamK_f, pc_e, pcK_e, fcC_e, fcK_e, evp, gt, gq, st, putf, X.get, gets, ap, mkfr, rep, rdR, tupled, clV, clL, clS, clo, ld, lda, cs1, gb, pb, ln, lk, undef, Nat.reduceSub, Nat.reduceAdd, beq_self_eq_true, true_and, s35, r35, Fin]
  exact res hK (by simp [leR])
def C32 : PC := fun args K => ∃ v : Sx, args = [v.sv] ∧ K (.bool (decide v.ok))
theorem p32 : PureOk Try.prog 32 C32 := by
  refine pure_of (T := [(17, .fc F17), (33, .fc Fin), (41, .fc Fsp)]) ⟨⟨p17', q17⟩, ⟨p33, q33⟩, ⟨p41, q41⟩, trivial⟩ Try.func32 k32 ?_
  rintro args K ⟨v, rfl, hK⟩
  simp only [Sx.sv]
  simp only [e_reg, e_seq, e_ret, o_nil, o_cons, gd_none, gd_some, gdK_tt, gdK_ft, gdK_bt, putK_e, runK_e, skipK_e, vK_e, boxK_e, conK_e, callK_e, evh_v, evh_box, evh_call, seqK_n, ends_r, endK1_e, endK2_e, gam_e, gamK_f, pc_e, pcK_e, fcC_e, fcK_e, evp, bin, gt, gq, st, putf, X.get, gets, ap, mkfr, rep, rdR, tupled, clV, clL, clS, clo, ld, lda, lens, tk, dr, cs1, gb, pb, ln, lk, undef, Nat.reduceSub, Nat.reduceAdd, Nat.reduceBEq, beq_self_eq_true, true_and, decide_eq_true_eq, decide_eq_false_iff_not, s32, r32, F17, Fin, Fsp, Tof_rows, Sx.eta]
  refine ⟨⟨v.T, v.S, rfl, rfl, rfl, rfl⟩, ?_⟩
  by_cases ho : v.ok
  · have e : v.chk = 0 := by unfold Sx.chk; rw [if_pos ho]
    have hd : decide v.ok = true := decide_eq_true ho
    rw [hd] at hK
    obtain ⟨⟨o1, o2, o3, o4⟩, o5, o6, o7, o8⟩ := ho
    exact ⟨fun _ => ⟨fun _ => ⟨fun _ => ⟨fun _ => res hK (by simp [leR, o5]), fun h => absurd o7 h⟩, fun h => absurd o2 h⟩, fun h => absurd o1 h⟩, fun h => absurd e h⟩
  · have e : v.chk = 50 := by unfold Sx.chk; rw [if_neg ho]
    have hd : decide v.ok = false := decide_eq_false ho
    rw [hd] at hK
    exact ⟨fun h => by omega, fun _ => res hK (by simp [leR])⟩
def F84 : FC := fun args => match args with
  | [.agg [.int .i64 a, .int .i64 b], .int .i64 n, .rp [.ints .i64 l] 0] => some (((-1000000000 ≤ a ∧ a ≤ 1000000000) ∧ (-1000000000 ≤ b ∧ b ≤ 1000000000)) ∧ (l.length : Int) ≤ 9223372036854775807, .agg [.int .i64 (chz a b (pk l n)), .int .i64 (chz a b (pk l n))])
  | _ => none
theorem p84 : PureOk Try.prog 84 (fcC F84) := by
  refine pure_of (T := [(38, .fc Fpk), (37, .fc Fch), (40, .fc Fto)]) ⟨⟨p38, q38⟩, ⟨p37, q37⟩, ⟨p40, q40⟩, trivial⟩ Try.func84 k84 ?_
  intro args K hC
  unfold fcC F84 at hC
  split at hC <;> first | (exact hC.elim) | skip
  rename_i h
  split at h <;> first | (cases h; done) | skip
  cases h
  rename_i a b n l
  obtain ⟨⟨⟨⟨h1, h2⟩, h3, h4⟩, h5⟩, hK⟩ := hC
  simp only [e_reg, and_self, e_drw, e_seq, e_ret, o_nil, o_cons, gd_none, putK_e, runK_e, vK_e, boxK_e, storeK3_e, storeK2_e, storeK_e, conK_e, callK_e, evh_v, evh_new, evh_box, evh_store, evh_call, dX_e, dG_t, d_nil, d_cons, tlK_n, seqK_n, ends_r, endK1_e, endK2_e, gam_e, gamK_f, gamq_e, gamqK_f, pc_e, pcK_e, fcC_e, fcK_e, evp, gt, gq, st, putf, X.get, gets, ap, mkfr, rep, rdR, tupled, clV, clL, clS, clo, clo.clos, ld, lda, tk, dr, sp, sp.spl, ll, cs1, one, allOne, gb, sb, pb, ln, lk, evq, gdl, Value.oneCell', undef, Bool.and_true, Nat.reduceSub, Nat.reduceAdd, Nat.reduceBEq, beq_self_eq_true, true_and, s84, r84, Fpk, Fch, Fto]
  exact ⟨h5, ⟨⟨h1, h2⟩, h3, h4⟩, res hK (by simp [leR, leR.leRs])⟩
end Go.Proofs.Ytjagiieconpgbaa
end

section
namespace Go.Proofs.Ytjagiieconpgbaa
open Go Go.Vg
set_option linter.unusedSimpArgs false
set_option linter.unusedVariables false
set_option maxRecDepth 10000
/- 36: octant/octantlaw05.angle -/
def s36 : SC :=
  (.seq (.reg [⟨(some 3), none, .box 26 (.t 0)⟩,
    ⟨(some 4), none, .box 28 (.t 1)⟩,
    ⟨(some 6), none, .v (.mov (.c (.int .i64 (0))))⟩])
  (.seq (.drw [(0, ⟨(some 11), none, .v (.off (.t 4) 0)⟩, false),
    (1, ⟨(some 12), none, .v (.load (.t 11) none)⟩, false),
    (2, ⟨(some 13), none, .v (.off (.t 3) 0)⟩, false),
    (3, ⟨(some 14), none, .v (.load (.t 13) none)⟩, false),
    (4, ⟨(some 15), none, .v (.bin .quo (.t 12) (.t 14))⟩, false),
    (5, ⟨(some 16), none, .v (.off (.t 4) 0)⟩, false),
    (6, ⟨(some 17), none, .v (.load (.t 16) none)⟩, false),
    (7, ⟨(some 18), none, .v (.off (.t 3) 0)⟩, false),
    (8, ⟨(some 19), none, .v (.load (.t 18) none)⟩, false),
    (9, ⟨(some 20), none, .v (.bin .rem (.t 17) (.t 19))⟩, false),
    (10, ⟨(some 7), none, .v (.mov (.t 15))⟩, false)]
    none
    [⟨(some 8), none, .v (.mov (.t 20))⟩])
  (.seq (.reg [⟨(some 21), none, .v (.off (.t 4) 0)⟩,
    ⟨(some 22), none, .v (.load (.t 21) none)⟩,
    ⟨(some 23), none, .v (.off (.t 3) 2)⟩,
    ⟨(some 24), none, .v (.off (.t 23) 0)⟩,
    ⟨(some 25), none, .v (.load (.t 24) none)⟩,
    ⟨(some 26), none, .v (.bin .add (.t 22) (.t 25))⟩,
    ⟨(some 27), none, .v (.mov (.t 2))⟩,
    ⟨(some 28), none, .v (.bin .add (.t 26) (.t 27))⟩,
    ⟨(some 9), none, .v (.mov (.t 28))⟩])
  (.seq (.seq (.reg [⟨(some 29), none, .v (.mov (.t 8))⟩,
    ⟨(some 30), none, .v (.bin .eql (.t 29) (.c (.int .i64 (0))))⟩])
  (.cond (.t 30)
    (.reg [⟨(some 31), none, .v (.mov (.t 9))⟩,
      ⟨(some 32), none, .v (.off (.t 3) 1)⟩,
      ⟨(some 33), none, .v (.load (.t 32) none)⟩,
      ⟨(some 34), none, .v (.mov (.t 7))⟩,
      ⟨(some 35), none, .v (.ixa (.t 33) (.t 34) 2)⟩,
      ⟨(some 36), none, .v (.off (.t 35) 0)⟩,
      ⟨(some 37), none, .v (.load (.t 36) none)⟩,
      ⟨(some 38), none, .v (.bin .add (.t 31) (.t 37))⟩,
      ⟨(some 9), none, .v (.mov (.t 38))⟩])
    (.drw [(0, ⟨(some 39), none, .v (.mov (.t 9))⟩, false),
      (1, ⟨(some 40), none, .v (.off (.t 3) 1)⟩, false),
      (2, ⟨(some 41), none, .v (.load (.t 40) none)⟩, false),
      (3, ⟨(some 42), none, .v (.mov (.t 7))⟩, false),
      (4, ⟨(some 43), none, .v (.ixa (.t 41) (.t 42) 2)⟩, false),
      (5, ⟨(some 44), none, .v (.off (.t 43) 0)⟩, false),
      (6, ⟨(some 45), none, .v (.load (.t 44) none)⟩, false),
      (7, ⟨(some 46), none, .v (.off (.t 3) 0)⟩, false),
      (8, ⟨(some 47), none, .v (.load (.t 46) none)⟩, false),
      (9, ⟨(some 48), none, .v (.mov (.t 8))⟩, false),
      (10, ⟨(some 49), none, .v (.bin .sub (.t 47) (.t 48))⟩, false),
      (11, ⟨(some 50), none, .v (.bin .mul (.t 45) (.t 49))⟩, false),
      (12, ⟨(some 51), none, .v (.off (.t 3) 1)⟩, false),
      (13, ⟨(some 52), none, .v (.load (.t 51) none)⟩, false),
      (14, ⟨(some 53), none, .v (.mov (.t 7))⟩, false),
      (15, ⟨(some 54), none, .v (.bin .add (.t 53) (.c (.int .i64 (1))))⟩, false),
      (16, ⟨(some 55), none, .v (.ixa (.t 52) (.t 54) 2)⟩, false),
      (17, ⟨(some 56), none, .v (.off (.t 55) 0)⟩, false),
      (18, ⟨(some 57), none, .v (.load (.t 56) none)⟩, false),
      (19, ⟨(some 58), none, .v (.mov (.t 8))⟩, false),
      (20, ⟨(some 59), none, .v (.bin .mul (.t 57) (.t 58))⟩, false),
      (21, ⟨(some 60), none, .v (.bin .add (.t 50) (.t 59))⟩, false),
      (22, ⟨(some 61), none, .v (.off (.t 3) 0)⟩, false),
      (23, ⟨(some 62), none, .v (.load (.t 61) none)⟩, false),
      (24, ⟨(some 63), none, .call (.c (.fn 85 [])) [(.t 60), (.t 62)]⟩, false)]
      none
      [⟨(some 64), none, .v (.bin .add (.t 39) (.t 63))⟩,
      ⟨(some 9), none, .v (.mov (.t 64))⟩])))
  (.seq (.seq (.reg [⟨(some 10), none, .v (.mov (.c (.int .i64 (0))))⟩])
  (.block 0 (.loop
    (.seq (.seq (.reg [⟨(some 65), none, .v (.mov (.t 10))⟩,
      ⟨(some 66), none, .v (.off (.t 3) 5)⟩,
      ⟨(some 67), none, .v (.load (.t 66) none)⟩,
      ⟨(some 68), none, .v (.len (.t 67))⟩,
      ⟨(some 69), none, .v (.bin .lss (.t 65) (.t 68))⟩])
    (.cond (.t 69)
      .skip
      (.exit 0)))
    (.seq (.block 1 (.seq (.reg [⟨(some 72), none, .v (.off (.t 4) 1)⟩,
      ⟨(some 73), none, .v (.load (.t 72) none)⟩,
      ⟨(some 74), none, .v (.mov (.t 10))⟩,
      ⟨(some 75), none, .call (.c (.fn 86 [])) [(.t 73), (.t 74)]⟩])
    (.cond (.t 75)
      (.reg [⟨(some 76), none, .v (.mov (.t 9))⟩,
        ⟨(some 77), none, .v (.off (.t 3) 5)⟩,
        ⟨(some 78), none, .v (.load (.t 77) none)⟩,
        ⟨(some 79), none, .v (.mov (.t 10))⟩,
        ⟨(some 80), none, .v (.ixa (.t 78) (.t 79) 2)⟩,
        ⟨(some 81), none, .v (.off (.t 80) 0)⟩,
        ⟨(some 82), none, .v (.load (.t 81) none)⟩,
        ⟨(some 83), none, .v (.bin .add (.t 76) (.t 82))⟩,
        ⟨(some 9), none, .v (.mov (.t 83))⟩])
      .skip)))
    (.reg [⟨(some 70), none, .v (.mov (.t 10))⟩,
      ⟨(some 71), none, .v (.bin .add (.t 70) (.c (.int .i64 (1))))⟩,
      ⟨(some 10), none, .v (.mov (.t 71))⟩]))))))
  (.seq (.reg [⟨(some 84), none, .v (.mov (.t 9))⟩,
    ⟨(some 6), none, .v (.mov (.t 84))⟩])
  .ret))))))
def r36 : List RV := [.t 6]
def n36 : Nat := 85
theorem k36 : (Try.f36.body.bind (cC Try.prog), cR Try.prog Try.f36.results.toList, Try.f36.ntmps) = (some s36, some r36, 85) := by kernel_rfl
theorem q36 : Known Try.prog 36 := ⟨_, Try.func36, by decide, by simp [Try.f36]⟩


def ang (v : Sx) (x set wr : Int) : Int := (((x + v.a) + wr) + (corE v x).1) + ((shd v set v.S.length).1 + v.w)
theorem rdgK {v : Sx} (hok : v.ok) {x set : Int} (h : v.rdg x set) : (0 ≤ x / v.step ∧ x / v.step ≤ 12) ∧ (0 ≤ x % v.step ∧ x % v.step < v.step) ∧ x.tdiv v.step = x / v.step ∧ x.tmod v.step = x % v.step ∧ kk v x < v.T.length ∧ (x % v.step ≠ 0 → kk v x + 1 < v.T.length) := by
  have h1 := hok.1.1
  have h2 := hok.1.2.1
  obtain ⟨⟨hx0, hx1⟩, _⟩ := h
  have hd0 := Int.emod_nonneg x (show v.step ≠ 0 by omega)
  have hd1 := Int.emod_lt_of_pos x (show 0 < v.step by omega)
  have hq0 : 0 ≤ x / v.step := Int.ediv_nonneg hx0 (by omega)
  have hxe := Int.mul_ediv_add_emod x v.step
  have hq1 : x / v.step ≤ (v.T.length : Int) - 1 := Int.ediv_le_of_le_mul (by omega) (by rw [Int.mul_comm]; exact hx1)
  refine ⟨⟨hq0, by omega⟩, ⟨hd0, hd1⟩, Int.tdiv_eq_ediv_of_nonneg hx0, Int.tmod_eq_emod_of_nonneg hx0, by unfold kk; omega, fun hne => ?_⟩
  rcases Int.lt_or_eq_of_le hq1 with h | h
  · unfold kk; omega
  · exfalso
    rw [h] at hxe; omega
def C36 : PC := fun args K => ∃ (v : Sx) (x set wr : Int), args = [v.sv, .agg [.int .i64 x, .int .i64 set], .int .i64 wr] ∧ v.ok ∧ v.rdg x set ∧ (-1000 ≤ wr ∧ wr ≤ 1000) ∧ K (.int .i64 (ang v x set wr))
set_option maxHeartbeats 1000000 in
theorem p36 : PureOk Try.prog 36 C36 := by
  refine pure_of (T := [(85, .fc Fdwn), (86, .fc F86)]) ⟨⟨p85, q85⟩, ⟨p86, q86⟩, trivial⟩ Try.func36 k36 ?_
  rintro args K ⟨v, x, set, wr, rfl, hok, hr, hwr, hK⟩
  obtain ⟨⟨hk0, hk1⟩, ⟨hd0, hd1⟩, e1, e2, hkl, hkl1⟩ := rdgK hok hr
  have hbn := shd_bnd hok set
  have hsp := spS (by omega) hok.2.2.2.2
  have htp := spS (by omega) hok.1.2.2.1
  have h6 := hok.2.2.2.1
  have hw := hok.2.2.1
  have hab := hok.2.1
  have hx := hr.1
  have hset := hr.2.1
  have hst := hok.1.1
  have hce := corE_bnd hok x
  have hx5 := hok.1.2.2.2
  obtain ⟨step, T, a, b, w, S⟩ := v
  simp only at h6 hw hsp htp hab hx hst e1 e2 hd0 hd1 hk0 hk1 hkl hkl1 hx5
  have hkt : (x / step) = ((kk ⟨step, T, a, b, w, S⟩ x : Nat) : Int) := by unfold kk; simp only; omega
  simp only [Sx.sv]
  have hkn : (x / step).toNat = kk ⟨step, T, a, b, w, S⟩ x := rfl
  have hkn1 : (x / step + 1).toNat = kk ⟨step, T, a, b, w, S⟩ x + 1 := by omega
  have m1 := htp (kk ⟨step, T, a, b, w, S⟩ x)
  have m2 := htp (kk ⟨step, T, a, b, w, S⟩ x + 1)
  have m3 := mulB (y := step - x % step) m1.1 (by omega) (by omega) (by omega)
  have m4 := mulB (y := x % step) m2.1 (by omega) (by omega) (by omega)
  have hcb := hce.1
  simp only [corE, cor] at hcb hce
  simp only [inr64, ne_eq, e_reg, e_drw, e_seq, e_cond, e_block, e_loop, o_nil, o_cons, gd_none, putK_e, runK_e, vK_e, boxK_e, evh_v, evh_box, dX_e, dG_t, d_nil, d_cons, tlK_n, seqK_n, condK_b, gamq_e, gamqK_f, evp, bin, gt, gq, st, putf, X.get, gets, ap, mkfr, rep, clo, clo.clos, ld, lda, ixs, cs1, gb, pb, ln, lk, evq, gdl, undef, Bool.and_true, Nat.reduceSub, Nat.reduceAdd, beq_self_eq_true, true_and, decide_eq_true_eq, decide_eq_false_iff_not, s36, r36, e1, e2, Fdwn, rowsS, hkn, hkn1]
  refine ⟨⟨by omega, by omega, by omega⟩, by omega, by omega, by omega, fun hd => ⟨by omega, ?_⟩, fun hd => ?_⟩
  · rw [if_pos hd] at hcb
    have hc : lo T (kk ⟨step, T, a, b, w, S⟩ x) = (corE ⟨step, T, a, b, w, S⟩ x).1 := by simp only [corE, cor, if_pos hd]
    generalize lo T (kk ⟨step, T, a, b, w, S⟩ x) = c at hc hcb ⊢
    refine ⟨by omega, ?_⟩
    · skip
      refine loop_at2 (G := Nat) (fun i => [(10, .int .i64 i), (9, .int .i64 (((x + a) + wr + c) + ((shd ⟨step, T, a, b, w, S⟩ set i).1 + w)))])
          (fun i => [.box 26 [.int .i64 step, .rd 2 T.length (rowsS T), .int .i64 a, .int .i64 b, .int .i64 w, .rd 2 S.length (rowsS S)], .box 28 [.int .i64 x, .int .i64 set]]) (fun i => i ≤ S.length) (fun i => S.length - i) 0 (Nat.zero_le _) ?_
      (intro fr1 hf1; simp only [forget, dstC, dstO, st] at hf1; subst hf1)
      refine ⟨?_, ?_⟩
      · refine Lw_re 2 [] (Nat.zero_le _) (by simp [ln]) (by simp [ln]) rfl ?_ ?_
        · simp only [reL, reX, inb, inb.inbs, ln, sts, st, Bool.and_self, Nat.reduceLT, Nat.reduceAdd, decide_true, true_and, and_true, and_self, Int.natCast_zero, implies_true, shd]
          exact congrArg (SV.int .i64) (by omega)
        · simp only [reL, reX, reH, reB, reN, inb, and_self, implies_true]
      · intro i hi1
        have hbi := hbn i
        have hsi := hsp i
        simp only [inr64, e_skip, e_reg, e_seq, e_cond, e_block, e_exit, e_ret, o_nil, o_cons, gd_none, putK_e, runK_e, vK_e, conK_e, callK_e, evh_v, evh_call, loopK_n, loopK_x, seqK_n, seqK_x, condK_b, exitK_t, blockK_x, blockK_n, ends_r, endK1_e, endK2_e, gam_e, gamK_f, pc_e, pcK_e, fcC_e, fcK_e, evp, bin, gt, gq, st, putf, X.get, gets, ap, rdR, tupled, clV, clL, clS, clo, ld, lda, lens, ixs, gb, lk, Nat.reduceAdd, Nat.reduceBEq, beq_self_eq_true, true_and, decide_eq_true_eq, decide_eq_false_iff_not, sts, Int.toNat_natCast, rowsS, F86]
        refine ⟨fun h => ⟨⟨by omega, hset⟩, fun hb => ⟨by omega, by omega, by omega, ?_⟩, fun hb => ⟨by omega, ?_⟩⟩, fun h => ?_⟩
        · have e : shd ⟨step, T, a, b, w, S⟩ set (i + 1) = ((shd ⟨step, T, a, b, w, S⟩ set i).1 + lo S i, (shd ⟨step, T, a, b, w, S⟩ set i).2 + hi S i) := by rw [shd, if_pos hb]
          refine Nx.mk (i + 1) (by show i + 1 ≤ S.length; omega) (by show S.length - (i + 1) < S.length - i; omega) (Lw_re 2 [] (Nat.zero_le _) (by simp [ln]) (by simp [ln]) rfl ?_ ?_)
          · simp only [reL, reX, inb, inb.inbs, Bool.and_self, Nat.reduceLT, decide_true, true_and, and_true, and_self, e, Int.natCast_add, Int.natCast_one, implies_true]
            exact congrArg (SV.int .i64) (by omega)
          · simp only [reL, reX, reH, reB, reN, inb, and_self, implies_true]
        · have e : shd ⟨step, T, a, b, w, S⟩ set (i + 1) = shd ⟨step, T, a, b, w, S⟩ set i := by rw [shd, if_neg hb]
          refine Nx.mk (i + 1) (by show i + 1 ≤ S.length; omega) (by show S.length - (i + 1) < S.length - i; omega) (Lw_re 2 [] (Nat.zero_le _) (by simp [ln]) (by simp [ln]) rfl ?_ ?_)
          · simp only [reL, reX, inb, inb.inbs, Bool.and_self, Nat.reduceLT, decide_true, and_self, e, Int.natCast_add, Int.natCast_one, implies_true]
          · simp only [reL, reX, reH, reB, reN, inb, and_self, implies_true]
        · have : i = S.length := by omega
          subst this
          refine res hK ?_
          unfold ang
          rw [← hc]
          simp [leR]
  · rw [if_neg hd] at hcb
    have hk2 := hkl1 hd
    refine ⟨by omega, by omega, by omega, by omega, by omega, by omega, by omega, ⟨by omega, by omega, by omega, by omega⟩, ?_⟩
    have hc : (lo T (kk ⟨step, T, a, b, w, S⟩ x) * (step - x % step) + lo T (kk ⟨step, T, a, b, w, S⟩ x + 1) * (x % step)) / step = (corE ⟨step, T, a, b, w, S⟩ x).1 := by simp only [corE, cor, if_neg hd]
    generalize (lo T (kk ⟨step, T, a, b, w, S⟩ x) * (step - x % step) + lo T (kk ⟨step, T, a, b, w, S⟩ x + 1) * (x % step)) / step = c at hc hcb ⊢
    refine ⟨by omega, ?_⟩
    · skip
      refine loop_at2 (G := Nat) (fun i => [(10, .int .i64 i), (9, .int .i64 (((x + a) + wr + c) + ((shd ⟨step, T, a, b, w, S⟩ set i).1 + w)))])
          (fun i => [.box 26 [.int .i64 step, .rd 2 T.length (rowsS T), .int .i64 a, .int .i64 b, .int .i64 w, .rd 2 S.length (rowsS S)], .box 28 [.int .i64 x, .int .i64 set]]) (fun i => i ≤ S.length) (fun i => S.length - i) 0 (Nat.zero_le _) ?_
      (intro fr1 hf1; simp only [forget, dstC, dstO, st] at hf1; subst hf1)
      refine ⟨?_, ?_⟩
      · refine Lw_re 2 [] (Nat.zero_le _) (by simp [ln]) (by simp [ln]) rfl ?_ ?_
        · simp only [reL, reX, inb, inb.inbs, ln, sts, st, Bool.and_self, Nat.reduceLT, Nat.reduceAdd, decide_true, true_and, and_true, and_self, Int.natCast_zero, implies_true, shd]
          exact congrArg (SV.int .i64) (by omega)
        · simp only [reL, reX, reH, reB, reN, inb, and_self, implies_true]
      · intro i hi1
        have hbi := hbn i
        have hsi := hsp i
        simp only [inr64, e_skip, e_reg, e_seq, e_cond, e_block, e_exit, e_ret, o_nil, o_cons, gd_none, putK_e, runK_e, vK_e, conK_e, callK_e, evh_v, evh_call, loopK_n, loopK_x, seqK_n, seqK_x, condK_b, exitK_t, blockK_x, blockK_n, ends_r, endK1_e, endK2_e, gam_e, gamK_f, pc_e, pcK_e, fcC_e, fcK_e, evp, bin, gt, gq, st, putf, X.get, gets, ap, rdR, tupled, clV, clL, clS, clo, ld, lda, lens, ixs, gb, lk, Nat.reduceAdd, Nat.reduceBEq, beq_self_eq_true, true_and, decide_eq_true_eq, decide_eq_false_iff_not, sts, Int.toNat_natCast, rowsS, F86]
        refine ⟨fun h => ⟨⟨by omega, hset⟩, fun hb => ⟨by omega, by omega, by omega, ?_⟩, fun hb => ⟨by omega, ?_⟩⟩, fun h => ?_⟩
        · have e : shd ⟨step, T, a, b, w, S⟩ set (i + 1) = ((shd ⟨step, T, a, b, w, S⟩ set i).1 + lo S i, (shd ⟨step, T, a, b, w, S⟩ set i).2 + hi S i) := by rw [shd, if_pos hb]
          refine Nx.mk (i + 1) (by show i + 1 ≤ S.length; omega) (by show S.length - (i + 1) < S.length - i; omega) (Lw_re 2 [] (Nat.zero_le _) (by simp [ln]) (by simp [ln]) rfl ?_ ?_)
          · simp only [reL, reX, inb, inb.inbs, Bool.and_self, Nat.reduceLT, decide_true, true_and, and_true, and_self, e, Int.natCast_add, Int.natCast_one, implies_true]
            exact congrArg (SV.int .i64) (by omega)
          · simp only [reL, reX, reH, reB, reN, inb, and_self, implies_true]
        · have e : shd ⟨step, T, a, b, w, S⟩ set (i + 1) = shd ⟨step, T, a, b, w, S⟩ set i := by rw [shd, if_neg hb]
          refine Nx.mk (i + 1) (by show i + 1 ≤ S.length; omega) (by show S.length - (i + 1) < S.length - i; omega) (Lw_re 2 [] (Nat.zero_le _) (by simp [ln]) (by simp [ln]) rfl ?_ ?_)
          · simp only [reL, reX, inb, inb.inbs, Bool.and_self, Nat.reduceLT, decide_true, and_self, e, Int.natCast_add, Int.natCast_one, implies_true]
          · simp only [reL, reX, reH, reB, reN, inb, and_self, implies_true]
        · have : i = S.length := by omega
          subst this
          refine res hK ?_
          unfold ang
          rw [← hc]
          simp [leR]
def F36 : FC := fun args => match args with
  | [.agg [.int .i64 s, .rd 2 n f, .int .i64 a, .int .i64 b, .int .i64 w, .rd 2 m g], .agg [.int .i64 x, .int .i64 set], .int .i64 wr] =>
    some (∃ T S, n = T.length ∧ f = rowsS T ∧ m = S.length ∧ g = rowsS S ∧ Sx.ok ⟨s, T, a, b, w, S⟩ ∧ Sx.rdg ⟨s, T, a, b, w, S⟩ x set ∧ -1000 ≤ wr ∧ wr ≤ 1000,
      .int .i64 (ang ⟨s, Tof n f, a, b, w, Tof m g⟩ x set wr))
  | _ => none
theorem p36' : PureOk Try.prog 36 (fcC F36) := by
  refine pweak p36 fun args K hC => ?_
  unfold fcC F36 at hC
  split at hC <;> first | (exact hC.elim) | skip
  rename_i h
  split at h <;> first | (cases h; done) | skip
  cases h
  obtain ⟨⟨T, S, rfl, rfl, rfl, rfl, h1, h2, h3, h4⟩, hK⟩ := hC
  simp only [Tof_rows] at hK
  exact ⟨_, _, _, _, rfl, h1, h2, ⟨h3, h4⟩, hK⟩
end Go.Proofs.Ytjagiieconpgbaa
end
