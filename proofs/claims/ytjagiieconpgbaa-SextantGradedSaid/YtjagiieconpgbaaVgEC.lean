/- Sextants: truths that numbers choose: what a number chooses, and the truth's closure. -/
import Derived.Test.YtjagiieconpgbaaVgEB
import Derived.Test.YtjagiieconpgbaaVgV10
section
namespace Go.Proofs.Ytjagiieconpgbaa
open Go Go.Vg
set_option linter.unusedSimpArgs false
set_option linter.unusedVariables false
set_option maxRecDepth 10000
/- 32: octant/octantlaw05.sound -/
def s32 : SC :=
  (.seq (.reg [⟨(some 1), none, .box 26 (.t 0)⟩,
    ⟨(some 2), none, .v (.mov (.c (.lit (.bool false))))⟩])
  (.seq (.reg [⟨(some 3), none, .v (.load (.t 1) (some 6))⟩,
    ⟨(some 4), none, .call (.c (.fn 17 [])) [(.t 3)]⟩,
    ⟨(some 5), none, .v (.bin .eql (.t 4) (.c (.int .i64 (0))))⟩,
    ⟨(some 6), none, .v (.mov (.t 5))⟩,
    ⟨(some 7), (some (6, true)), .v (.off (.t 1) 0)⟩,
    ⟨(some 8), (some (6, true)), .v (.load (.t 7) none)⟩,
    ⟨(some 9), (some (6, true)), .call (.c (.fn 33 [])) [(.t 8), (.c (.int .i64 (1))), (.c (.int .i64 (72000)))]⟩,
    ⟨(some 10), none, .v (.pick (.t 6) (.t 9) (.c (.lit (.bool false))))⟩,
    ⟨(some 11), none, .v (.mov (.t 10))⟩,
    ⟨(some 12), (some (11, true)), .v (.off (.t 1) 1)⟩,
    ⟨(some 13), (some (11, true)), .v (.load (.t 12) none)⟩,
    ⟨(some 14), (some (11, true)), .v (.len (.t 13))⟩,
    ⟨(some 15), (some (11, true)), .call (.c (.fn 33 [])) [(.t 14), (.c (.int .i64 (2))), (.c (.int .i64 (12)))]⟩,
    ⟨(some 16), none, .v (.pick (.t 11) (.t 15) (.c (.lit (.bool false))))⟩,
    ⟨(some 17), none, .v (.mov (.t 16))⟩,
    ⟨(some 18), (some (17, true)), .v (.off (.t 1) 5)⟩,
    ⟨(some 19), (some (17, true)), .v (.load (.t 18) none)⟩,
    ⟨(some 20), (some (17, true)), .v (.len (.t 19))⟩,
    ⟨(some 21), (some (17, true)), .v (.bin .leq (.t 20) (.c (.int .i64 (6))))⟩,
    ⟨(some 22), none, .v (.pick (.t 17) (.t 21) (.c (.lit (.bool false))))⟩,
    ⟨(some 23), none, .v (.mov (.t 22))⟩,
    ⟨(some 24), (some (23, true)), .v (.off (.t 1) 2)⟩,
    ⟨(some 25), (some (23, true)), .v (.load (.t 24) (some 2))⟩,
    ⟨(some 26), (some (23, true)), .call (.c (.fn 41 [])) [(.t 25), (.c (.int .i64 (-1800))), (.c (.int .i64 (1800)))]⟩,
    ⟨(some 27), none, .v (.pick (.t 23) (.t 26) (.c (.lit (.bool false))))⟩,
    ⟨(some 2), none, .v (.mov (.t 27))⟩])
  .ret))
def r32 : List RV := [.t 2]
def n32 : Nat := 28
theorem k32 : (Try.f32.body.bind (cC Try.prog), cR Try.prog Try.f32.results.toList, Try.f32.ntmps) = (some s32, some r32, 28) := by kernel_rfl
theorem q32 : Known Try.prog 32 := ⟨_, Try.func32, by decide, by simp [Try.f32]⟩

/- 37: octant/octantref00.Chosen -/
def s37 : SC :=
  (.seq (.reg [⟨(some 6), none, .v (.mov (.c (.int .i64 (0))))⟩])
  (.seq (.seq (.reg [⟨(some 8), none, .v (.mov (.t 0))⟩,
    ⟨(some 9), none, .v (.mov (.t 1))⟩,
    ⟨(some 10), none, .v (.bin .geq (.t 8) (.t 9))⟩])
  (.cond (.t 10)
    (.seq (.reg [⟨(some 11), none, .v (.mov (.t 0))⟩,
      ⟨(some 6), none, .v (.mov (.t 11))⟩])
    .ret)
    .skip))
  (.seq (.reg [⟨(some 12), none, .v (.mov (.t 1))⟩,
    ⟨(some 13), none, .v (.mov (.t 0))⟩,
    ⟨(some 14), none, .v (.bin .sub (.t 12) (.t 13))⟩,
    ⟨(some 15), none, .v (.bin .add (.t 14) (.c (.int .i64 (1))))⟩,
    ⟨(some 7), none, .v (.mov (.t 15))⟩])
  (.seq (.seq (.reg [⟨(some 16), none, .v (.mov (.t 7))⟩,
    ⟨(some 17), none, .v (.bin .lss (.t 16) (.c (.int .i64 (1))))⟩])
  (.cond (.t 17)
    (.seq (.reg [⟨(some 18), none, .v (.mov (.t 2))⟩,
      ⟨(some 19), none, .v (.mov (.t 0))⟩,
      ⟨(some 20), none, .v (.max2 (.t 18) (.t 19))⟩,
      ⟨(some 21), none, .v (.mov (.t 1))⟩,
      ⟨(some 22), none, .v (.min2 (.t 20) (.t 21))⟩,
      ⟨(some 6), none, .v (.mov (.t 22))⟩])
    .ret)
    .skip))
  (.seq (.reg [⟨(some 23), none, .v (.mov (.t 0))⟩,
    ⟨(some 24), none, .v (.mov (.t 2))⟩,
    ⟨(some 25), none, .v (.mov (.t 7))⟩,
    ⟨(some 26), none, .call (.c (.fn 42 [])) [(.t 24), (.t 25)]⟩,
    ⟨(some 27), none, .v (.bin .add (.t 23) (.t 26))⟩,
    ⟨(some 6), none, .v (.mov (.t 27))⟩])
  .ret)))))
def r37 : List RV := [.t 6]
def n37 : Nat := 28
theorem k37 : (Try.f37.body.bind (cC Try.prog), cR Try.prog Try.f37.results.toList, Try.f37.ntmps) = (some s37, some r37, 28) := by kernel_rfl
theorem q37 : Known Try.prog 37 := ⟨_, Try.func37, by decide, by simp [Try.f37]⟩

/- 38: octant/octantref00.Pick -/
def s38 : SC :=
  (.seq (.reg [⟨(some 4), none, .v (.mov (.c (.int .i64 (0))))⟩])
  (.seq (.seq (.reg [⟨(some 5), none, .v (.mov (.t 0))⟩,
    ⟨(some 6), none, .v (.len (.t 5))⟩,
    ⟨(some 7), none, .v (.bin .eql (.t 6) (.c (.int .i64 (0))))⟩])
  (.cond (.t 7)
    (.seq (.reg [⟨(some 4), none, .v (.mov (.c (.int .i64 (0))))⟩])
    .ret)
    .skip))
  (.seq (.reg [⟨(some 8), none, .v (.mov (.t 0))⟩,
    ⟨(some 9), none, .v (.mov (.t 1))⟩,
    ⟨(some 10), none, .v (.mov (.t 0))⟩,
    ⟨(some 11), none, .v (.len (.t 10))⟩,
    ⟨(some 12), none, .call (.c (.fn 42 [])) [(.t 9), (.t 11)]⟩,
    ⟨(some 13), none, .v (.ixa (.t 8) (.t 12) 1)⟩,
    ⟨(some 14), none, .v (.load (.t 13) none)⟩,
    ⟨(some 4), none, .v (.mov (.t 14))⟩])
  .ret)))
def r38 : List RV := [.t 4]
def n38 : Nat := 15
theorem k38 : (Try.f38.body.bind (cC Try.prog), cR Try.prog Try.f38.results.toList, Try.f38.ntmps) = (some s38, some r38, 15) := by kernel_rfl
theorem q38 : Known Try.prog 38 := ⟨_, Try.func38, by decide, by simp [Try.f38]⟩

/- 40: octant/octantlaw05.to -/
def s40 : SC :=
  (.seq (.reg [⟨(some 4), none, .new 24 [(.int .i64 (0)), (.int .i64 (0))]⟩])
  (.seq (.reg [⟨(some 5), none, .v (.mov (.t 0))⟩,
    ⟨(some 6), none, .v (.mov (.t 1))⟩,
    ⟨(some 7), none, .bld [(.int .i64 (0)), (.int .i64 (0))] [(0, 1, (.t 5)), (1, 1, (.t 6))]⟩,
    ⟨none, none, .store 2 (.t 4) (.t 7)⟩])
  .ret))
def r40 : List RV := [.c 4 (some 2)]
def n40 : Nat := 8
theorem k40 : (Try.f40.body.bind (cC Try.prog), cR Try.prog Try.f40.results.toList, Try.f40.ntmps) = (some s40, some r40, 8) := by kernel_rfl
theorem q40 : Known Try.prog 40 := ⟨_, Try.func40, by decide, by simp [Try.f40]⟩

/- 35: octant/octantref00.Holds -/
def s35 : SC :=
  (.seq (.reg [⟨(some 2), none, .box 24 (.t 0)⟩,
    ⟨(some 4), none, .v (.mov (.c (.lit (.bool false))))⟩])
  (.seq (.reg [⟨(some 5), none, .v (.mov (.t 1))⟩,
    ⟨(some 6), none, .v (.off (.t 2) 0)⟩,
    ⟨(some 7), none, .v (.load (.t 6) none)⟩,
    ⟨(some 8), none, .v (.off (.t 2) 1)⟩,
    ⟨(some 9), none, .v (.load (.t 8) none)⟩,
    ⟨(some 10), none, .call (.c (.fn 33 [])) [(.t 5), (.t 7), (.t 9)]⟩,
    ⟨(some 4), none, .v (.mov (.t 10))⟩])
  .ret))
def r35 : List RV := [.t 4]
def n35 : Nat := 11
theorem k35 : (Try.f35.body.bind (cC Try.prog), cR Try.prog Try.f35.results.toList, Try.f35.ntmps) = (some s35, some r35, 11) := by kernel_rfl
theorem q35 : Known Try.prog 35 := ⟨_, Try.func35, by decide, by simp [Try.f35]⟩

/- 84: octant/octantlaw05.truth$1 -/
def s84 : SC :=
  (.seq (.reg [⟨(some 3), none, .box 24 (.t 0)⟩,
    ⟨(some 5), none, .new 24 [(.int .i64 (0)), (.int .i64 (0))]⟩])
  (.seq (.drw [(0, ⟨(some 7), none, .v (.off (.t 3) 0)⟩, false),
    (1, ⟨(some 8), none, .v (.load (.t 7) none)⟩, false),
    (2, ⟨(some 9), none, .v (.off (.t 3) 1)⟩, false),
    (3, ⟨(some 10), none, .v (.load (.t 9) none)⟩, false),
    (4, ⟨(some 11), none, .v (.load (.t 2) none)⟩, false),
    (5, ⟨(some 12), none, .v (.mov (.t 1))⟩, false),
    (6, ⟨(some 13), none, .call (.c (.fn 38 [])) [(.t 11), (.t 12)]⟩, false)]
    none
    [⟨(some 14), none, .call (.c (.fn 37 [])) [(.t 8), (.t 10), (.t 13)]⟩,
    ⟨(some 6), none, .v (.mov (.t 14))⟩])
  (.seq (.reg [⟨(some 15), none, .v (.mov (.t 6))⟩,
    ⟨(some 16), none, .v (.mov (.t 6))⟩,
    ⟨(some 17), none, .call (.c (.fn 40 [])) [(.t 15), (.t 16)]⟩,
    ⟨none, none, .store 2 (.t 5) (.t 17)⟩])
  .ret)))
def r84 : List RV := [.c 5 (some 2)]
def n84 : Nat := 18
theorem k84 : (Try.f84.body.bind (cC Try.prog), cR Try.prog Try.f84.results.toList, Try.f84.ntmps) = (some s84, some r84, 18) := by kernel_rfl
theorem q84 : Known Try.prog 84 := ⟨_, Try.func84, by decide, by simp [Try.f84]⟩


def chz (low high n : Int) : Int := if high ≤ low then low else low + n % (high - low + 1)
theorem chz_bnd {a b n : Int} (h : a ≤ b) : a ≤ chz a b n ∧ chz a b n ≤ b := by
  unfold chz
  split
  · omega
  · have h1 := Int.emod_nonneg n (show b - a + 1 ≠ 0 by omega)
    have h2 := Int.emod_lt_of_pos n (show 0 < b - a + 1 by omega)
    omega
def Fch : FC := fun args => match args with
  | [.int .i64 a, .int .i64 b, .int .i64 n] => some ((-1000000000 ≤ a ∧ a ≤ 1000000000) ∧ (-1000000000 ≤ b ∧ b ≤ 1000000000), .int .i64 (chz a b n))
  | _ => none
theorem p37 : PureOk Try.prog 37 (fcC Fch) := by
  refine pure_of (T := [(42, .fc Fmod)]) ⟨⟨p42, q42⟩, trivial⟩ Try.func37 k37 ?_
  intro args K hC
  unfold fcC Fch at hC
  split at hC <;> first | (exact hC.elim) | skip
  rename_i h
  split at h <;> first | (cases h; done) | skip
  cases h
  rename_i a b n
  obtain ⟨⟨⟨h1, h2⟩, h3, h4⟩, hK⟩ := hC
  simp only [inr64, e_skip, e_reg, e_seq, e_cond, e_ret, o_nil, o_cons, gd_none, putK_e, runK_e, vK_e, conK_e, callK_e, evh_v, evh_call, seqK_n, seqK_r, condK_b, ends_r, endK1_e, endK2_e, gam_e, gamK_f, pc_e, pcK_e, fcC_e, fcK_e, evp, bin, gt, st, putf, X.get, gets, ap, mkfr, rep, rdR, tupled, clV, clL, clS, clo, lk, undef, Nat.reduceSub, beq_self_eq_true, true_and, decide_eq_true_eq, decide_eq_false_iff_not, s37, r37, Fmod]
  refine ⟨fun h => res hK (by simp [leR, chz]; omega), fun h => ⟨by omega, by omega, fun h5 => by omega, fun h5 => ?_⟩⟩
  have m1 := Int.emod_nonneg n (show b - a + 1 ≠ 0 by omega)
  have m2 := Int.emod_lt_of_pos n (show 0 < b - a + 1 by omega)
  exact ⟨⟨by omega, by omega⟩, by omega, res hK (by simp [leR, chz]; omega)⟩
def pk (l : List Int) (n : Int) : Int := if l.length = 0 then 0 else l.getD (n % (l.length : Int)).toNat 0
def Fpk : FC := fun args => match args with
  | [.ints .i64 l, .int .i64 n] => some ((l.length : Int) ≤ 9223372036854775807, .int .i64 (pk l n))
  | _ => none
theorem p38 : PureOk Try.prog 38 (fcC Fpk) := by
  refine pure_of (T := [(42, .fc Fmod)]) ⟨⟨p42, q42⟩, trivial⟩ Try.func38 k38 ?_
  intro args K hC
  unfold fcC Fpk at hC
  split at hC <;> first | (exact hC.elim) | skip
  rename_i h
  split at h <;> first | (cases h; done) | skip
  cases h
  rename_i l n
  obtain ⟨h1, hK⟩ := hC
  simp only [e_skip, e_reg, e_seq, e_cond, e_ret, o_nil, o_cons, gd_none, putK_e, runK_e, vK_e, conK_e, callK_e, evh_v, evh_call, seqK_n, seqK_r, condK_b, ends_r, endK1_e, endK2_e, gam_e, gamK_f, pc_e, pcK_e, fcC_e, fcK_e, evp, bin, gt, gq, st, putf, X.get, gets, ap, mkfr, rep, rdR, tupled, clV, clL, clS, clo, ld, lda, lens, ixs, lk, undef, Nat.reduceSub, beq_self_eq_true, true_and, decide_eq_true_eq, decide_eq_false_iff_not, s38, r38, Fmod]
  refine ⟨fun h => res hK (by simp [leR, pk]; intro h2; simp [h2] at h), fun h => ?_⟩
  have m1 := Int.emod_nonneg n (show (l.length : Int) ≠ 0 by omega)
  have m2 := Int.emod_lt_of_pos n (show 0 < (l.length : Int) by omega)
  have h' : l.length ≠ 0 := by omega
  rw [pk, if_neg h'] at hK
  exact ⟨⟨by omega, by omega⟩, ⟨m1, m2⟩, res hK (by simp [leR])⟩
def Fto : FC := fun args => match args with
  | [.int .i64 a, .int .i64 b] => some (True, .agg [.int .i64 a, .int .i64 b])
  | _ => none
theorem p40 : PureOk Try.prog 40 (fcC Fto) := by
  refine pure_of (T := []) trivial Try.func40 k40 ?_
  intro args K hC
  unfold fcC Fto at hC
  split at hC <;> first | (exact hC.elim) | skip
  rename_i h
  split at h <;> first | (cases h; done) | skip
  cases h
  obtain ⟨-, hK⟩ := hC
  simp only [↓reduceIte, e_reg, and_self, e_seq, e_ret, o_nil, o_cons, gd_none, putK_e, runK_e, vK_e, bldK_e, storeK3_e, storeK2_e, storeK_e, evh_v, evh_new, evh_bld, evh_store, seqK_n, ends_r, endK1_e, endK2_e, evp, gt, st, putf, X.get, getp, mkfr, rep, rdR, tupled, clV, clL, clS, clo, ld, tk, dr, sp, sp.spl, lay, ll, cs1, one, allOne, gb, sb, pb, ln, undef, Bool.and_true, Nat.reduceSub, Nat.reduceAdd, beq_self_eq_true, true_and, s40, r40]
  exact res hK (by simp [leR, leR.leRs])
def Fhol : FC := fun args => match args with
  | [.agg [.int .i64 a, .int .i64 b], .int .i64 n] => some (True, .bool (decide (a ≤ n ∧ n ≤ b)))
  | _ => none
theorem p35 : PureOk Try.prog 35 (fcC Fhol) := by
  refine pure_of (T := [(33, .fc Fin)]) ⟨⟨p33, q33⟩, trivial⟩ Try.func35 k35 ?_
  intro args K hC
  unfold fcC Fhol at hC
  split at hC <;> first | (exact hC.elim) | skip
  rename_i h
  split at h <;> first | (cases h; done) | skip
  cases h
  obtain ⟨-, hK⟩ := hC
  simp only [e_reg, e_seq, e_ret, o_nil, o_cons, gd_none, putK_e, runK_e, vK_e, boxK_e, conK_e, callK_e, evh_v, evh_box, evh_call, seqK_n, ends_r, endK1_e, endK2_e, gam_e, gamK_f, pc_e, pcK_e, fcC_e, fcK_e, evp, gt, gq, st, putf, X.get, gets, ap, mkfr, rep, rdR, tupled, clV, clL, clS, clo, ld, lda, cs1, gb, pb, ln, lk, undef, Nat.reduceSub, Nat.reduceAdd, beq_self_eq_true, true_and, s35, r35, Fin]
  exact res hK (by simp [leR])
def C32 : PC := fun args K => ∃ v : Sx, args = [v.sv] ∧ K (.bool (decide v.ok))
theorem p32 : PureOk Try.prog 32 C32 := by
  refine pure_of (T := [(17, .fc F17), (33, .fc Fin), (41, .fc Fsp)]) ⟨⟨p17', q17⟩, ⟨p33, q33⟩, ⟨p41, q41⟩, trivial⟩ Try.func32 k32 ?_
  rintro args K ⟨v, rfl, hK⟩
  simp only [Sx.sv]
  simp only [e_reg, e_seq, e_ret, o_nil, o_cons, gd_none, gd_some, gdK_tt, gdK_ft, gdK_bt, putK_e, runK_e, skipK_e, vK_e, boxK_e, conK_e, callK_e, evh_v, evh_box, evh_call, seqK_n, ends_r, endK1_e, endK2_e, gam_e, gamK_f, pc_e, pcK_e, fcC_e, fcK_e, evp, bin, gt, gq, st, putf, X.get, gets, ap, mkfr, rep, rdR, tupled, clV, clL, clS, clo, ld, lda, lens, tk, dr, cs1, gb, pb, ln, lk, undef, Nat.reduceSub, Nat.reduceAdd, Nat.reduceBEq, beq_self_eq_true, true_and, decide_eq_true_eq, decide_eq_false_iff_not, s32, r32, F17, Fin, Fsp, Tof_rows, Sx.eta]
  refine ⟨⟨v.T, v.S, rfl, rfl, rfl, rfl⟩, ?_⟩
  by_cases ho : v.ok
  · have e : v.chk = 0 := by unfold Sx.chk; rw [if_pos ho]
    have hd : decide v.ok = true := decide_eq_true ho
    rw [hd] at hK
    obtain ⟨⟨o1, o2, o3, o4⟩, o5, o6, o7, o8⟩ := ho
    exact ⟨fun _ => ⟨fun _ => ⟨fun _ => ⟨fun _ => res hK (by simp [leR, o5]), fun h => absurd o7 h⟩, fun h => absurd o2 h⟩, fun h => absurd o1 h⟩, fun h => absurd e h⟩
  · have e : v.chk = 50 := by unfold Sx.chk; rw [if_neg ho]
    have hd : decide v.ok = false := decide_eq_false ho
    rw [hd] at hK
    exact ⟨fun h => by omega, fun _ => res hK (by simp [leR])⟩
def F84 : FC := fun args => match args with
  | [.agg [.int .i64 a, .int .i64 b], .int .i64 n, .rp [.ints .i64 l] 0] => some (((-1000000000 ≤ a ∧ a ≤ 1000000000) ∧ (-1000000000 ≤ b ∧ b ≤ 1000000000)) ∧ (l.length : Int) ≤ 9223372036854775807, .agg [.int .i64 (chz a b (pk l n)), .int .i64 (chz a b (pk l n))])
  | _ => none
theorem p84 : PureOk Try.prog 84 (fcC F84) := by
  refine pure_of (T := [(38, .fc Fpk), (37, .fc Fch), (40, .fc Fto)]) ⟨⟨p38, q38⟩, ⟨p37, q37⟩, ⟨p40, q40⟩, trivial⟩ Try.func84 k84 ?_
  intro args K hC
  unfold fcC F84 at hC
  split at hC <;> first | (exact hC.elim) | skip
  rename_i h
  split at h <;> first | (cases h; done) | skip
  cases h
  rename_i a b n l
  obtain ⟨⟨⟨⟨h1, h2⟩, h3, h4⟩, h5⟩, hK⟩ := hC
  simp only [e_reg, and_self, e_drw, e_seq, e_ret, o_nil, o_cons, gd_none, putK_e, runK_e, vK_e, boxK_e, storeK3_e, storeK2_e, storeK_e, conK_e, callK_e, evh_v, evh_new, evh_box, evh_store, evh_call, dX_e, dG_t, d_nil, d_cons, tlK_n, seqK_n, ends_r, endK1_e, endK2_e, gam_e, gamK_f, gamq_e, gamqK_f, pc_e, pcK_e, fcC_e, fcK_e, evp, gt, gq, st, putf, X.get, gets, ap, mkfr, rep, rdR, tupled, clV, clL, clS, clo, clo.clos, ld, lda, tk, dr, sp, sp.spl, ll, cs1, one, allOne, gb, sb, pb, ln, lk, evq, gdl, Value.oneCell', undef, Bool.and_true, Nat.reduceSub, Nat.reduceAdd, Nat.reduceBEq, beq_self_eq_true, true_and, s84, r84, Fpk, Fch, Fto]
  exact ⟨h5, ⟨⟨h1, h2⟩, h3, h4⟩, res hK (by simp [leR, leR.leRs])⟩
end Go.Proofs.Ytjagiieconpgbaa
end

section
namespace Go.Proofs.Ytjagiieconpgbaa
open Go Go.Vg
set_option linter.unusedSimpArgs false
set_option linter.unusedVariables false
set_option maxRecDepth 10000
/- 34: octant/octantlaw05.truth -/
def s34 : SC :=
  (.seq (.reg [⟨(some 2), none, .box 26 (.t 0)⟩,
    ⟨(some 3), none, .box 45 (.t 1)⟩,
    ⟨(some 4), none, .new 26 [(.int .i64 (0)), (.lit (.slice none 0 0)), (.int .i64 (0)), (.int .i64 (0)), (.int .i64 (0)), (.lit (.slice none 0 0))]⟩])
  (.seq (.reg [⟨(some 9), none, .v (.off (.t 2) 0)⟩,
    ⟨(some 10), none, .v (.load (.t 9) none)⟩,
    ⟨(some 11), none, .v (.off (.t 2) 4)⟩,
    ⟨(some 12), none, .v (.load (.t 11) none)⟩,
    ⟨(some 13), none, .bld [(.int .i64 (0)), (.lit (.slice none 0 0)), (.int .i64 (0)), (.int .i64 (0)), (.int .i64 (0)), (.lit (.slice none 0 0))] [(0, 1, (.t 10)), (4, 1, (.t 12))]⟩,
    ⟨(some 5), none, .new 26 [(.int .i64 (0)), (.lit (.slice none 0 0)), (.int .i64 (0)), (.int .i64 (0)), (.int .i64 (0)), (.lit (.slice none 0 0))]⟩,
    ⟨none, none, .store 6 (.t 5) (.t 13)⟩])
  (.seq (.reg [⟨(some 14), none, .v (.mkfn 84 [(.t 3)])⟩,
    ⟨(some 6), none, .v (.mov (.t 14))⟩])
  (.seq (.seq (.reg [⟨(some 7), none, .v (.mov (.c (.int .i64 (0))))⟩])
  (.block 0 (.loop
    (.seq (.seq (.reg [⟨(some 15), none, .v (.mov (.t 7))⟩,
      ⟨(some 16), none, .v (.off (.t 2) 1)⟩,
      ⟨(some 17), none, .v (.load (.t 16) none)⟩,
      ⟨(some 18), none, .v (.len (.t 17))⟩,
      ⟨(some 19), none, .v (.bin .lss (.t 15) (.t 18))⟩])
    (.cond (.t 19)
      .skip
      (.exit 0)))
    (.seq (.block 1 (.drw [(0, ⟨(some 22), none, .v (.off (.t 5) 1)⟩, false),
      (1, ⟨(some 23), none, .v (.load (.t 22) none)⟩, false),
      (2, ⟨(some 24), none, .v (.mov (.t 6))⟩, false),
      (3, ⟨(some 25), none, .v (.off (.t 2) 1)⟩, false),
      (4, ⟨(some 26), none, .v (.load (.t 25) none)⟩, false),
      (5, ⟨(some 27), none, .v (.mov (.t 7))⟩, false),
      (6, ⟨(some 28), none, .v (.ixa (.t 26) (.t 27) 2)⟩, false),
      (7, ⟨(some 29), none, .v (.load (.t 28) (some 2))⟩, false),
      (8, ⟨(some 30), none, .v (.mov (.t 7))⟩, false),
      (9, ⟨(some 31), none, .call (.t 24) [(.t 29), (.t 30)]⟩, false)]
      (some ⟨(some 32), none, .bsl 24 1 [(.int .i64 (0)), (.int .i64 (0))] [(0, 2, (.t 31))]⟩)
      [⟨(some 33), none, .app 24 2 16 (.t 23) (.t 32)⟩,
      ⟨(some 34), none, .v (.off (.t 5) 1)⟩,
      ⟨none, none, .store 1 (.t 34) (.t 33)⟩]))
    (.reg [⟨(some 20), none, .v (.mov (.t 7))⟩,
      ⟨(some 21), none, .v (.bin .add (.t 20) (.c (.int .i64 (1))))⟩,
      ⟨(some 7), none, .v (.mov (.t 21))⟩]))))))
  (.seq (.seq (.reg [⟨(some 8), none, .v (.mov (.c (.int .i64 (0))))⟩])
  (.block 2 (.loop
    (.seq (.seq (.reg [⟨(some 35), none, .v (.mov (.t 8))⟩,
      ⟨(some 36), none, .v (.off (.t 2) 5)⟩,
      ⟨(some 37), none, .v (.load (.t 36) none)⟩,
      ⟨(some 38), none, .v (.len (.t 37))⟩,
      ⟨(some 39), none, .v (.bin .lss (.t 35) (.t 38))⟩])
    (.cond (.t 39)
      .skip
      (.exit 2)))
    (.seq (.block 3 (.drw [(0, ⟨(some 42), none, .v (.off (.t 5) 5)⟩, false),
      (1, ⟨(some 43), none, .v (.load (.t 42) none)⟩, false),
      (2, ⟨(some 44), none, .v (.mov (.t 6))⟩, false),
      (3, ⟨(some 45), none, .v (.off (.t 2) 5)⟩, false),
      (4, ⟨(some 46), none, .v (.load (.t 45) none)⟩, false),
      (5, ⟨(some 47), none, .v (.mov (.t 8))⟩, false),
      (6, ⟨(some 48), none, .v (.ixa (.t 46) (.t 47) 2)⟩, false),
      (7, ⟨(some 49), none, .v (.load (.t 48) (some 2))⟩, false),
      (8, ⟨(some 50), none, .v (.mov (.t 8))⟩, false),
      (9, ⟨(some 51), none, .v (.bin .mul (.c (.int .i64 (2))) (.t 50))⟩, false),
      (10, ⟨(some 52), none, .v (.bin .add (.t 51) (.c (.int .i64 (1))))⟩, false),
      (11, ⟨(some 53), none, .call (.t 44) [(.t 49), (.t 52)]⟩, false)]
      (some ⟨(some 54), none, .bsl 24 1 [(.int .i64 (0)), (.int .i64 (0))] [(0, 2, (.t 53))]⟩)
      [⟨(some 55), none, .app 24 2 16 (.t 43) (.t 54)⟩,
      ⟨(some 56), none, .v (.off (.t 5) 5)⟩,
      ⟨none, none, .store 1 (.t 56) (.t 55)⟩]))
    (.reg [⟨(some 40), none, .v (.mov (.t 8))⟩,
      ⟨(some 41), none, .v (.bin .add (.t 40) (.c (.int .i64 (1))))⟩,
      ⟨(some 8), none, .v (.mov (.t 41))⟩]))))))
  (.seq (.reg [⟨(some 57), none, .v (.mov (.t 6))⟩,
    ⟨(some 58), none, .v (.off (.t 2) 2)⟩,
    ⟨(some 59), none, .v (.load (.t 58) (some 2))⟩,
    ⟨(some 60), none, .call (.t 57) [(.t 59), (.c (.int .i64 (7)))]⟩,
    ⟨(some 61), none, .v (.off (.t 5) 2)⟩,
    ⟨none, none, .store 2 (.t 61) (.t 60)⟩])
  (.seq (.reg [⟨(some 62), none, .v (.load (.t 5) (some 6))⟩,
    ⟨none, none, .store 6 (.t 4) (.t 62)⟩])
  .ret)))))))
def r34 : List RV := [.c 4 (some 6)]
def n34 : Nat := 63
theorem k34 : (Try.f34.body.bind (cC Try.prog), cR Try.prog Try.f34.results.toList, Try.f34.ntmps) = (some s34, some r34, 63) := by kernel_rfl
theorem q34 : Known Try.prog 34 := ⟨_, Try.func34, by decide, by simp [Try.f34]⟩


/-- What numbers choose of the spans of a row: the number's place by k. -/
def cz (L : List (Int × Int)) (l : List Int) (k : Nat → Int) (i : Nat) : Int := chz (lo L i) (hi L i) (pk l (k i))
def czL (L : List (Int × Int)) (l : List Int) (k : Nat → Int) : List (Int × Int) := (List.range L.length).map fun i => (cz L l k i, cz L l k i)
def kT (i : Nat) : Int := i
def kS (i : Nat) : Int := 2 * i + 1
def tru (v : Sx) (l : List Int) : Sx := ⟨v.step, czL v.T l kT, chz v.a v.b (pk l 7), chz v.a v.b (pk l 7), v.w, czL v.S l kS⟩
theorem czL_len {L l k} : (czL L l k).length = L.length := by simp [czL]
theorem czL_lo {L l k} {i : Nat} (h : i < L.length) : lo (czL L l k) i = cz L l k i ∧ hi (czL L l k) i = cz L l k i := by
  unfold lo hi czL
  simp [List.getD, h]
def rowC (c : Nat → Int) (i : Nat) : List SV := [.int .i64 (c i), .int .i64 (c i)]
theorem rowC_snoc {c : Nat → Int} {i : Nat} {x : List SV} (h : ∀ j, j = i → x = rowC c j) (j : Nat) (hj : j < i + 1) : (if j < i then rowC c j else x) = rowC c j := by
  split
  · rfl
  · exact h j (by omega)
def C34 : PC := fun args K => ∃ (v : Sx) (l : List Int), args = [v.sv, .ints .i64 l] ∧ v.ok ∧ (l.length : Int) ≤ 9223372036854775807 ∧ K (tru v l).sv
theorem p34 : PureOk Try.prog 34 C34 := by
  refine pure_of (T := [(84, .fc F84)]) ⟨⟨p84, q84⟩, trivial⟩ Try.func34 k34 ?_
  rintro args K ⟨v, l, rfl, hok, hl, hK⟩
  obtain ⟨step, T, a, b, w, S⟩ := v
  simp only [Sx.sv]
  simp only [↓reduceIte, e_reg, and_self, e_seq, e_block, e_loop, o_nil, o_cons, gd_none, putK_e, runK_e, vK_e, boxK_e, bldK_e, storeK3_e, storeK2_e, storeK_e, evh_v, evh_new, evh_box, evh_bld, evh_store, seqK_n, evp, gt, gq, st, putf, X.get, gets, getp, mkfr, rep, ld, lda, sp, sp.spl, lay, ll, cs1, one, allOne, gb, sb, pb, ln, Value.oneCell', undef, Bool.and_true, Nat.reduceSub, Nat.reduceAdd, beq_self_eq_true, true_and, s34, r34]
  refine loop_cl 8 6 (x := .fn 84 [.rp [.ints .i64 l] 0]) (by rfl) ?_
  simp only [st, sb]
  refine loop_at2 (G := Nat) (fun i => [(7, .int .i64 i)])
      (fun i => [.box 26 [.int .i64 step, .rd 2 T.length (rowsS T), .int .i64 a, .int .i64 b, .int .i64 w, .rd 2 S.length (rowsS S)], .fbox 45 [.ints .i64 l],
        .box 26 [.int .i64 0, .lit (.slice none 0 0), .int .i64 0, .int .i64 0, .int .i64 0, .lit (.slice none 0 0)],
        .box 26 [.int .i64 step, .own 4, .int .i64 0, .int .i64 0, .int .i64 w, .lit (.slice none 0 0)], .orw 24 2 i (rowC (cz T l kT))]) (fun i => i ≤ T.length) (fun i => T.length - i) 0 (Nat.zero_le _) ?_
  (intro fr1 hf1; simp only [forget, dstC, dstO, dstD, dst1, st] at hf1; subst hf1)
  refine ⟨?_, ?_⟩
  · refine Lw_re 4 [none] (Nat.zero_le _) (by simp [ln]) (by simp [ln]) rfl ?_ ?_
    · simp only [reL, reX, inb, inb.inbs, ln, sts, st, Bool.and_self, Nat.reduceLT, Nat.reduceAdd, decide_true, and_self, Int.natCast_zero]
    · simp only [reL, reX, reH, reB, reN, newB, rn, List.getElem?_cons_zero, Nat.reduceSub, Nat.lt_irrefl, Nat.le_refl, reduceCtorEq, or_true, inb, ln, Nat.reduceLT, Nat.reduceAdd, and_self, implies_true]
  · intro i hi1
    have hT := spS (by omega) hok.1.2.2.1 i
    simp only at hT
    simp only [inr64, ↓reduceIte, e_skip, e_reg, and_self, e_drw, e_seq, e_cond, e_block, e_loop, e_exit, o_nil, o_cons, gd_none, putK_e, runK_e, vK_e, storeK3_e, storeK2_e, storeK_e, appK2_or, appK_e, evh_v, evh_store, evh_app, dX_e, dG_t, d_nil, d_cons, creK_e, tlK_s, evc_e, loopK_n, loopK_x, seqK_n, seqK_x, condK_b, exitK_t, blockK_x, blockK_n, gamq_e, gamqK_f, evp, bin, gt, gq, st, putf, X.get, gets, getp, ap, clo, clo.clos, ld, lda, lens, ixs, tk, dr, sp, sp.spl, lay, ll, cs1, one, allOne, gb, sb, pb, ln, lk, evq, gdl, crv, Bool.and_true, Nat.reduceAdd, beq_self_eq_true, true_and, decide_eq_true_eq, decide_eq_false_iff_not, sts, Int.toNat_natCast, rowsS, F84]
    refine ⟨fun h => ⟨by omega, ⟨by omega, hl⟩, ?_⟩, fun h => ?_⟩
    · have h12 := hok.1.2.1
      simp only at h12
      refine ⟨by omega, by omega, ?_⟩
      refine Nx.mk (i + 1) (by show i + 1 ≤ T.length; omega) (by show T.length - (i + 1) < T.length - i; omega) (Lw_re 4 [some 6] (Nat.zero_le _) (by simp [ln]) (by simp [ln]) rfl ?_ ?_)
      · simp only [reL, reX, inb, inb.inbs, Bool.and_self, Nat.reduceLT, decide_true, and_self, Int.natCast_add, Int.natCast_one]
      · simp only [reL, reX, reH, reB, reM, reN, rn, gb, List.getElem?_cons_zero, Nat.reduceSub, Nat.reduceLeDiff, Nat.lt_irrefl, Nat.le_refl, and_false, or_true, inb, ln, Nat.reduceLT, Nat.reduceAdd, true_and, and_true, and_self, implies_true]
        exact rowC_snoc fun j hj => by subst hj; rfl
    · have hiT : i = T.length := by omega
      subst hiT
      clear h hi1
      refine loop_at2 (G := Nat) (fun i => [(8, .int .i64 i)])
          (fun i => [.box 26 [.int .i64 step, .rd 2 T.length (rowsS T), .int .i64 a, .int .i64 b, .int .i64 w, .rd 2 S.length (rowsS S)], .fbox 45 [.ints .i64 l],
            .box 26 [.int .i64 0, .lit (.slice none 0 0), .int .i64 0, .int .i64 0, .int .i64 0, .lit (.slice none 0 0)],
            .box 26 [.int .i64 step, .own 4, .int .i64 0, .int .i64 0, .int .i64 w, .own 5], .orw 24 2 T.length (rowC (cz T l kT)), .orw 24 2 i (rowC (cz S l kS))]) (fun i => i ≤ S.length) (fun i => S.length - i) 0 (Nat.zero_le _) ?_
      (intro fr1 hf1; simp only [forget, dstC, dstO, dstD, dst1, st] at hf1; subst hf1)
      refine ⟨?_, ?_⟩
      · refine Lw_re 5 [none] (Nat.zero_le _) (by simp [ln]) (by simp [ln]) rfl ?_ ?_
        · simp only [reL, reX, inb, inb.inbs, ln, sts, st, Bool.and_self, Nat.reduceLT, Nat.reduceAdd, decide_true, and_self, Int.natCast_zero, implies_true]
        · simp only [reL, reX, reH, reB, reN, newB, rn, List.getElem?_cons_zero, Nat.reduceSub, Nat.reduceLeDiff, Nat.lt_irrefl, Nat.le_refl, or_false, reduceCtorEq, or_true, inb, ln, Nat.reduceLT, Nat.reduceAdd, and_true, and_self, implies_true]
      · intro i hi1
        have hS := spS (by omega) hok.2.2.2.2 i
        simp only at hS
        simp only [inr64, ↓reduceIte, e_skip, e_reg, and_self, e_drw, e_seq, e_cond, e_block, e_exit, e_ret, o_nil, o_cons, gd_none, putK_e, runK_e, vK_e, storeK3_e, storeK2_e, storeK_e, appK2_or, appK_e, conK_e, callK_e, evh_v, evh_store, evh_app, evh_call, dX_e, dG_t, d_nil, d_cons, creK_e, tlK_s, evc_e, loopK_n, loopK_x, seqK_n, seqK_x, condK_b, exitK_t, blockK_x, blockK_n, ends_r, endK1_e, endK2_e, gam_e, gamK_f, gamq_e, gamqK_f, pc_e, pcK_e, fcC_e, fcK_e, evp, bin, gt, gq, st, putf, X.get, gets, getp, ap, rdR, tupled, clV, clL, clS, clo, clo.clos, ld, lda, lens, ixs, tk, dr, sp, sp.spl, lay, ll, cs1, one, allOne, gb, sb, pb, ln, lk, evq, gdl, crv, Value.oneCell', Bool.and_true, Nat.reduceAdd, beq_self_eq_true, true_and, decide_eq_true_eq, decide_eq_false_iff_not, sts, Int.toNat_natCast, rowsS, F84]
        have h12 := hok.2.2.2.1
        have hab := hok.2.1
        simp only at h12 hab
        refine ⟨fun h => ⟨by omega, by omega, by omega, ⟨by omega, hl⟩, by omega, by omega, ?_⟩, fun h => ⟨⟨by omega, hl⟩, res hK ?_⟩⟩
        · refine Nx.mk (i + 1) (by show i + 1 ≤ S.length; omega) (by show S.length - (i + 1) < S.length - i; omega) (Lw_re 5 [some 7] (Nat.zero_le _) (by simp [ln]) (by simp [ln]) rfl ?_ ?_)
          · simp only [reL, reX, inb, inb.inbs, Bool.and_self, Nat.reduceLT, decide_true, and_self, Int.natCast_add, Int.natCast_one, implies_true]
          · simp only [reL, reX, reH, reB, reM, reN, rn, gb, List.getElem?_cons_zero, Nat.reduceSub, Nat.reduceLeDiff, Nat.lt_irrefl, Nat.le_refl, false_and, or_false, and_false, or_true, inb, ln, Nat.reduceLT, Nat.reduceAdd, true_and, and_true, and_self, implies_true]
            exact rowC_snoc fun j hj => by subst hj; rfl
        · have : i = S.length := by omega
          subst this
          simp only [leR, leR.leRs, Sx.sv, tru, czL_len, true_and, and_true]
          exact ⟨fun i hi' => by unfold rowsS rowC; rw [(czL_lo hi').1, (czL_lo hi').2], fun i hi' => by unfold rowsS rowC; rw [(czL_lo hi').1, (czL_lo hi').2]⟩
end Go.Proofs.Ytjagiieconpgbaa
end

section
namespace Go.Proofs.Ytjagiieconpgbaa
open Go Go.Vg
set_option linter.unusedSimpArgs false
set_option linter.unusedVariables false
set_option maxRecDepth 10000
/- 36: octant/octantlaw05.angle -/
def s36 : SC :=
  (.seq (.reg [⟨(some 3), none, .box 26 (.t 0)⟩,
    ⟨(some 4), none, .box 28 (.t 1)⟩,
    ⟨(some 6), none, .v (.mov (.c (.int .i64 (0))))⟩])
  (.seq (.drw [(0, ⟨(some 11), none, .v (.off (.t 4) 0)⟩, false),
    (1, ⟨(some 12), none, .v (.load (.t 11) none)⟩, false),
    (2, ⟨(some 13), none, .v (.off (.t 3) 0)⟩, false),
    (3, ⟨(some 14), none, .v (.load (.t 13) none)⟩, false),
    (4, ⟨(some 15), none, .v (.bin .quo (.t 12) (.t 14))⟩, false),
    (5, ⟨(some 16), none, .v (.off (.t 4) 0)⟩, false),
    (6, ⟨(some 17), none, .v (.load (.t 16) none)⟩, false),
    (7, ⟨(some 18), none, .v (.off (.t 3) 0)⟩, false),
    (8, ⟨(some 19), none, .v (.load (.t 18) none)⟩, false),
    (9, ⟨(some 20), none, .v (.bin .rem (.t 17) (.t 19))⟩, false),
    (10, ⟨(some 7), none, .v (.mov (.t 15))⟩, false)]
    none
    [⟨(some 8), none, .v (.mov (.t 20))⟩])
  (.seq (.reg [⟨(some 21), none, .v (.off (.t 4) 0)⟩,
    ⟨(some 22), none, .v (.load (.t 21) none)⟩,
    ⟨(some 23), none, .v (.off (.t 3) 2)⟩,
    ⟨(some 24), none, .v (.off (.t 23) 0)⟩,
    ⟨(some 25), none, .v (.load (.t 24) none)⟩,
    ⟨(some 26), none, .v (.bin .add (.t 22) (.t 25))⟩,
    ⟨(some 27), none, .v (.mov (.t 2))⟩,
    ⟨(some 28), none, .v (.bin .add (.t 26) (.t 27))⟩,
    ⟨(some 9), none, .v (.mov (.t 28))⟩])
  (.seq (.seq (.reg [⟨(some 29), none, .v (.mov (.t 8))⟩,
    ⟨(some 30), none, .v (.bin .eql (.t 29) (.c (.int .i64 (0))))⟩])
  (.cond (.t 30)
    (.reg [⟨(some 31), none, .v (.mov (.t 9))⟩,
      ⟨(some 32), none, .v (.off (.t 3) 1)⟩,
      ⟨(some 33), none, .v (.load (.t 32) none)⟩,
      ⟨(some 34), none, .v (.mov (.t 7))⟩,
      ⟨(some 35), none, .v (.ixa (.t 33) (.t 34) 2)⟩,
      ⟨(some 36), none, .v (.off (.t 35) 0)⟩,
      ⟨(some 37), none, .v (.load (.t 36) none)⟩,
      ⟨(some 38), none, .v (.bin .add (.t 31) (.t 37))⟩,
      ⟨(some 9), none, .v (.mov (.t 38))⟩])
    (.drw [(0, ⟨(some 39), none, .v (.mov (.t 9))⟩, false),
      (1, ⟨(some 40), none, .v (.off (.t 3) 1)⟩, false),
      (2, ⟨(some 41), none, .v (.load (.t 40) none)⟩, false),
      (3, ⟨(some 42), none, .v (.mov (.t 7))⟩, false),
      (4, ⟨(some 43), none, .v (.ixa (.t 41) (.t 42) 2)⟩, false),
      (5, ⟨(some 44), none, .v (.off (.t 43) 0)⟩, false),
      (6, ⟨(some 45), none, .v (.load (.t 44) none)⟩, false),
      (7, ⟨(some 46), none, .v (.off (.t 3) 0)⟩, false),
      (8, ⟨(some 47), none, .v (.load (.t 46) none)⟩, false),
      (9, ⟨(some 48), none, .v (.mov (.t 8))⟩, false),
      (10, ⟨(some 49), none, .v (.bin .sub (.t 47) (.t 48))⟩, false),
      (11, ⟨(some 50), none, .v (.bin .mul (.t 45) (.t 49))⟩, false),
      (12, ⟨(some 51), none, .v (.off (.t 3) 1)⟩, false),
      (13, ⟨(some 52), none, .v (.load (.t 51) none)⟩, false),
      (14, ⟨(some 53), none, .v (.mov (.t 7))⟩, false),
      (15, ⟨(some 54), none, .v (.bin .add (.t 53) (.c (.int .i64 (1))))⟩, false),
      (16, ⟨(some 55), none, .v (.ixa (.t 52) (.t 54) 2)⟩, false),
      (17, ⟨(some 56), none, .v (.off (.t 55) 0)⟩, false),
      (18, ⟨(some 57), none, .v (.load (.t 56) none)⟩, false),
      (19, ⟨(some 58), none, .v (.mov (.t 8))⟩, false),
      (20, ⟨(some 59), none, .v (.bin .mul (.t 57) (.t 58))⟩, false),
      (21, ⟨(some 60), none, .v (.bin .add (.t 50) (.t 59))⟩, false),
      (22, ⟨(some 61), none, .v (.off (.t 3) 0)⟩, false),
      (23, ⟨(some 62), none, .v (.load (.t 61) none)⟩, false),
      (24, ⟨(some 63), none, .call (.c (.fn 85 [])) [(.t 60), (.t 62)]⟩, false)]
      none
      [⟨(some 64), none, .v (.bin .add (.t 39) (.t 63))⟩,
      ⟨(some 9), none, .v (.mov (.t 64))⟩])))
  (.seq (.seq (.reg [⟨(some 10), none, .v (.mov (.c (.int .i64 (0))))⟩])
  (.block 0 (.loop
    (.seq (.seq (.reg [⟨(some 65), none, .v (.mov (.t 10))⟩,
      ⟨(some 66), none, .v (.off (.t 3) 5)⟩,
      ⟨(some 67), none, .v (.load (.t 66) none)⟩,
      ⟨(some 68), none, .v (.len (.t 67))⟩,
      ⟨(some 69), none, .v (.bin .lss (.t 65) (.t 68))⟩])
    (.cond (.t 69)
      .skip
      (.exit 0)))
    (.seq (.block 1 (.seq (.reg [⟨(some 72), none, .v (.off (.t 4) 1)⟩,
      ⟨(some 73), none, .v (.load (.t 72) none)⟩,
      ⟨(some 74), none, .v (.mov (.t 10))⟩,
      ⟨(some 75), none, .call (.c (.fn 86 [])) [(.t 73), (.t 74)]⟩])
    (.cond (.t 75)
      (.reg [⟨(some 76), none, .v (.mov (.t 9))⟩,
        ⟨(some 77), none, .v (.off (.t 3) 5)⟩,
        ⟨(some 78), none, .v (.load (.t 77) none)⟩,
        ⟨(some 79), none, .v (.mov (.t 10))⟩,
        ⟨(some 80), none, .v (.ixa (.t 78) (.t 79) 2)⟩,
        ⟨(some 81), none, .v (.off (.t 80) 0)⟩,
        ⟨(some 82), none, .v (.load (.t 81) none)⟩,
        ⟨(some 83), none, .v (.bin .add (.t 76) (.t 82))⟩,
        ⟨(some 9), none, .v (.mov (.t 83))⟩])
      .skip)))
    (.reg [⟨(some 70), none, .v (.mov (.t 10))⟩,
      ⟨(some 71), none, .v (.bin .add (.t 70) (.c (.int .i64 (1))))⟩,
      ⟨(some 10), none, .v (.mov (.t 71))⟩]))))))
  (.seq (.reg [⟨(some 84), none, .v (.mov (.t 9))⟩,
    ⟨(some 6), none, .v (.mov (.t 84))⟩])
  .ret))))))
def r36 : List RV := [.t 6]
def n36 : Nat := 85
theorem k36 : (Try.f36.body.bind (cC Try.prog), cR Try.prog Try.f36.results.toList, Try.f36.ntmps) = (some s36, some r36, 85) := by kernel_rfl
theorem q36 : Known Try.prog 36 := ⟨_, Try.func36, by decide, by simp [Try.f36]⟩


def ang (v : Sx) (x set wr : Int) : Int := (((x + v.a) + wr) + (corE v x).1) + ((shd v set v.S.length).1 + v.w)
theorem rdgK {v : Sx} (hok : v.ok) {x set : Int} (h : v.rdg x set) : (0 ≤ x / v.step ∧ x / v.step ≤ 12) ∧ (0 ≤ x % v.step ∧ x % v.step < v.step) ∧ x.tdiv v.step = x / v.step ∧ x.tmod v.step = x % v.step ∧ kk v x < v.T.length ∧ (x % v.step ≠ 0 → kk v x + 1 < v.T.length) := by
  have h1 := hok.1.1
  have h2 := hok.1.2.1
  obtain ⟨⟨hx0, hx1⟩, _⟩ := h
  have hd0 := Int.emod_nonneg x (show v.step ≠ 0 by omega)
  have hd1 := Int.emod_lt_of_pos x (show 0 < v.step by omega)
  have hq0 : 0 ≤ x / v.step := Int.ediv_nonneg hx0 (by omega)
  have hxe := Int.mul_ediv_add_emod x v.step
  have hq1 : x / v.step ≤ (v.T.length : Int) - 1 := Int.ediv_le_of_le_mul (by omega) (by rw [Int.mul_comm]; exact hx1)
  refine ⟨⟨hq0, by omega⟩, ⟨hd0, hd1⟩, Int.tdiv_eq_ediv_of_nonneg hx0, Int.tmod_eq_emod_of_nonneg hx0, by unfold kk; omega, fun hne => ?_⟩
  rcases Int.lt_or_eq_of_le hq1 with h | h
  · unfold kk; omega
  · exfalso
    rw [h] at hxe; omega
def C36 : PC := fun args K => ∃ (v : Sx) (x set wr : Int), args = [v.sv, .agg [.int .i64 x, .int .i64 set], .int .i64 wr] ∧ v.ok ∧ v.rdg x set ∧ (-1000 ≤ wr ∧ wr ≤ 1000) ∧ K (.int .i64 (ang v x set wr))
set_option maxHeartbeats 1000000 in
theorem p36 : PureOk Try.prog 36 C36 := by
  refine pure_of (T := [(85, .fc Fdwn), (86, .fc F86)]) ⟨⟨p85, q85⟩, ⟨p86, q86⟩, trivial⟩ Try.func36 k36 ?_
  rintro args K ⟨v, x, set, wr, rfl, hok, hr, hwr, hK⟩
  obtain ⟨⟨hk0, hk1⟩, ⟨hd0, hd1⟩, e1, e2, hkl, hkl1⟩ := rdgK hok hr
  have hbn := shd_bnd hok set
  have hsp := spS (by omega) hok.2.2.2.2
  have htp := spS (by omega) hok.1.2.2.1
  have h6 := hok.2.2.2.1
  have hw := hok.2.2.1
  have hab := hok.2.1
  have hx := hr.1
  have hset := hr.2.1
  have hst := hok.1.1
  have hce := corE_bnd hok x
  have hx5 := hok.1.2.2.2
  obtain ⟨step, T, a, b, w, S⟩ := v
  simp only at h6 hw hsp htp hab hx hst e1 e2 hd0 hd1 hk0 hk1 hkl hkl1 hx5
  have hkt : (x / step) = ((kk ⟨step, T, a, b, w, S⟩ x : Nat) : Int) := by unfold kk; simp only; omega
  simp only [Sx.sv]
  have hkn : (x / step).toNat = kk ⟨step, T, a, b, w, S⟩ x := rfl
  have hkn1 : (x / step + 1).toNat = kk ⟨step, T, a, b, w, S⟩ x + 1 := by omega
  have m1 := htp (kk ⟨step, T, a, b, w, S⟩ x)
  have m2 := htp (kk ⟨step, T, a, b, w, S⟩ x + 1)
  have m3 := mulB (y := step - x % step) m1.1 (by omega) (by omega) (by omega)
  have m4 := mulB (y := x % step) m2.1 (by omega) (by omega) (by omega)
  have hcb := hce.1
  simp only [corE, cor] at hcb hce
  simp only [inr64, ne_eq, e_reg, e_drw, e_seq, e_cond, e_block, e_loop, o_nil, o_cons, gd_none, putK_e, runK_e, vK_e, boxK_e, evh_v, evh_box, dX_e, dG_t, d_nil, d_cons, tlK_n, seqK_n, condK_b, gamq_e, gamqK_f, evp, bin, gt, gq, st, putf, X.get, gets, ap, mkfr, rep, clo, clo.clos, ld, lda, ixs, cs1, gb, pb, ln, lk, evq, gdl, undef, Bool.and_true, Nat.reduceSub, Nat.reduceAdd, beq_self_eq_true, true_and, decide_eq_true_eq, decide_eq_false_iff_not, s36, r36, e1, e2, Fdwn, rowsS, hkn, hkn1]
  refine ⟨⟨by omega, by omega, by omega⟩, by omega, by omega, by omega, fun hd => ⟨by omega, ?_⟩, fun hd => ?_⟩
  · rw [if_pos hd] at hcb
    have hc : lo T (kk ⟨step, T, a, b, w, S⟩ x) = (corE ⟨step, T, a, b, w, S⟩ x).1 := by simp only [corE, cor, if_pos hd]
    generalize lo T (kk ⟨step, T, a, b, w, S⟩ x) = c at hc hcb ⊢
    refine ⟨by omega, ?_⟩
    · skip
      refine loop_at2 (G := Nat) (fun i => [(10, .int .i64 i), (9, .int .i64 (((x + a) + wr + c) + ((shd ⟨step, T, a, b, w, S⟩ set i).1 + w)))])
          (fun i => [.box 26 [.int .i64 step, .rd 2 T.length (rowsS T), .int .i64 a, .int .i64 b, .int .i64 w, .rd 2 S.length (rowsS S)], .box 28 [.int .i64 x, .int .i64 set]]) (fun i => i ≤ S.length) (fun i => S.length - i) 0 (Nat.zero_le _) ?_
      (intro fr1 hf1; simp only [forget, dstC, dstO, st] at hf1; subst hf1)
      refine ⟨?_, ?_⟩
      · refine Lw_re 2 [] (Nat.zero_le _) (by simp [ln]) (by simp [ln]) rfl ?_ ?_
        · simp only [reL, reX, inb, inb.inbs, ln, sts, st, Bool.and_self, Nat.reduceLT, Nat.reduceAdd, decide_true, true_and, and_true, and_self, Int.natCast_zero, implies_true, shd]
          exact congrArg (SV.int .i64) (by omega)
        · simp only [reL, reX, reH, reB, reN, inb, and_self, implies_true]
      · intro i hi1
        have hbi := hbn i
        have hsi := hsp i
        simp only [inr64, e_skip, e_reg, e_seq, e_cond, e_block, e_exit, e_ret, o_nil, o_cons, gd_none, putK_e, runK_e, vK_e, conK_e, callK_e, evh_v, evh_call, loopK_n, loopK_x, seqK_n, seqK_x, condK_b, exitK_t, blockK_x, blockK_n, ends_r, endK1_e, endK2_e, gam_e, gamK_f, pc_e, pcK_e, fcC_e, fcK_e, evp, bin, gt, gq, st, putf, X.get, gets, ap, rdR, tupled, clV, clL, clS, clo, ld, lda, lens, ixs, gb, lk, Nat.reduceAdd, Nat.reduceBEq, beq_self_eq_true, true_and, decide_eq_true_eq, decide_eq_false_iff_not, sts, Int.toNat_natCast, rowsS, F86]
        refine ⟨fun h => ⟨⟨by omega, hset⟩, fun hb => ⟨by omega, by omega, by omega, ?_⟩, fun hb => ⟨by omega, ?_⟩⟩, fun h => ?_⟩
        · have e : shd ⟨step, T, a, b, w, S⟩ set (i + 1) = ((shd ⟨step, T, a, b, w, S⟩ set i).1 + lo S i, (shd ⟨step, T, a, b, w, S⟩ set i).2 + hi S i) := by rw [shd, if_pos hb]
          refine Nx.mk (i + 1) (by show i + 1 ≤ S.length; omega) (by show S.length - (i + 1) < S.length - i; omega) (Lw_re 2 [] (Nat.zero_le _) (by simp [ln]) (by simp [ln]) rfl ?_ ?_)
          · simp only [reL, reX, inb, inb.inbs, Bool.and_self, Nat.reduceLT, decide_true, true_and, and_true, and_self, e, Int.natCast_add, Int.natCast_one, implies_true]
            exact congrArg (SV.int .i64) (by omega)
          · simp only [reL, reX, reH, reB, reN, inb, and_self, implies_true]
        · have e : shd ⟨step, T, a, b, w, S⟩ set (i + 1) = shd ⟨step, T, a, b, w, S⟩ set i := by rw [shd, if_neg hb]
          refine Nx.mk (i + 1) (by show i + 1 ≤ S.length; omega) (by show S.length - (i + 1) < S.length - i; omega) (Lw_re 2 [] (Nat.zero_le _) (by simp [ln]) (by simp [ln]) rfl ?_ ?_)
          · simp only [reL, reX, inb, inb.inbs, Bool.and_self, Nat.reduceLT, decide_true, and_self, e, Int.natCast_add, Int.natCast_one, implies_true]
          · simp only [reL, reX, reH, reB, reN, inb, and_self, implies_true]
        · have : i = S.length := by omega
          subst this
          refine res hK ?_
          unfold ang
          rw [← hc]
          simp [leR]
  · rw [if_neg hd] at hcb
    have hk2 := hkl1 hd
    refine ⟨by omega, by omega, by omega, by omega, by omega, by omega, by omega, ⟨by omega, by omega, by omega, by omega⟩, ?_⟩
    have hc : (lo T (kk ⟨step, T, a, b, w, S⟩ x) * (step - x % step) + lo T (kk ⟨step, T, a, b, w, S⟩ x + 1) * (x % step)) / step = (corE ⟨step, T, a, b, w, S⟩ x).1 := by simp only [corE, cor, if_neg hd]
    generalize (lo T (kk ⟨step, T, a, b, w, S⟩ x) * (step - x % step) + lo T (kk ⟨step, T, a, b, w, S⟩ x + 1) * (x % step)) / step = c at hc hcb ⊢
    refine ⟨by omega, ?_⟩
    · skip
      refine loop_at2 (G := Nat) (fun i => [(10, .int .i64 i), (9, .int .i64 (((x + a) + wr + c) + ((shd ⟨step, T, a, b, w, S⟩ set i).1 + w)))])
          (fun i => [.box 26 [.int .i64 step, .rd 2 T.length (rowsS T), .int .i64 a, .int .i64 b, .int .i64 w, .rd 2 S.length (rowsS S)], .box 28 [.int .i64 x, .int .i64 set]]) (fun i => i ≤ S.length) (fun i => S.length - i) 0 (Nat.zero_le _) ?_
      (intro fr1 hf1; simp only [forget, dstC, dstO, st] at hf1; subst hf1)
      refine ⟨?_, ?_⟩
      · refine Lw_re 2 [] (Nat.zero_le _) (by simp [ln]) (by simp [ln]) rfl ?_ ?_
        · simp only [reL, reX, inb, inb.inbs, ln, sts, st, Bool.and_self, Nat.reduceLT, Nat.reduceAdd, decide_true, true_and, and_true, and_self, Int.natCast_zero, implies_true, shd]
          exact congrArg (SV.int .i64) (by omega)
        · simp only [reL, reX, reH, reB, reN, inb, and_self, implies_true]
      · intro i hi1
        have hbi := hbn i
        have hsi := hsp i
        simp only [inr64, e_skip, e_reg, e_seq, e_cond, e_block, e_exit, e_ret, o_nil, o_cons, gd_none, putK_e, runK_e, vK_e, conK_e, callK_e, evh_v, evh_call, loopK_n, loopK_x, seqK_n, seqK_x, condK_b, exitK_t, blockK_x, blockK_n, ends_r, endK1_e, endK2_e, gam_e, gamK_f, pc_e, pcK_e, fcC_e, fcK_e, evp, bin, gt, gq, st, putf, X.get, gets, ap, rdR, tupled, clV, clL, clS, clo, ld, lda, lens, ixs, gb, lk, Nat.reduceAdd, Nat.reduceBEq, beq_self_eq_true, true_and, decide_eq_true_eq, decide_eq_false_iff_not, sts, Int.toNat_natCast, rowsS, F86]
        refine ⟨fun h => ⟨⟨by omega, hset⟩, fun hb => ⟨by omega, by omega, by omega, ?_⟩, fun hb => ⟨by omega, ?_⟩⟩, fun h => ?_⟩
        · have e : shd ⟨step, T, a, b, w, S⟩ set (i + 1) = ((shd ⟨step, T, a, b, w, S⟩ set i).1 + lo S i, (shd ⟨step, T, a, b, w, S⟩ set i).2 + hi S i) := by rw [shd, if_pos hb]
          refine Nx.mk (i + 1) (by show i + 1 ≤ S.length; omega) (by show S.length - (i + 1) < S.length - i; omega) (Lw_re 2 [] (Nat.zero_le _) (by simp [ln]) (by simp [ln]) rfl ?_ ?_)
          · simp only [reL, reX, inb, inb.inbs, Bool.and_self, Nat.reduceLT, decide_true, true_and, and_true, and_self, e, Int.natCast_add, Int.natCast_one, implies_true]
            exact congrArg (SV.int .i64) (by omega)
          · simp only [reL, reX, reH, reB, reN, inb, and_self, implies_true]
        · have e : shd ⟨step, T, a, b, w, S⟩ set (i + 1) = shd ⟨step, T, a, b, w, S⟩ set i := by rw [shd, if_neg hb]
          refine Nx.mk (i + 1) (by show i + 1 ≤ S.length; omega) (by show S.length - (i + 1) < S.length - i; omega) (Lw_re 2 [] (Nat.zero_le _) (by simp [ln]) (by simp [ln]) rfl ?_ ?_)
          · simp only [reL, reX, inb, inb.inbs, Bool.and_self, Nat.reduceLT, decide_true, and_self, e, Int.natCast_add, Int.natCast_one, implies_true]
          · simp only [reL, reX, reH, reB, reN, inb, and_self, implies_true]
        · have : i = S.length := by omega
          subst this
          refine res hK ?_
          unfold ang
          rw [← hc]
          simp [leR]
def F36 : FC := fun args => match args with
  | [.agg [.int .i64 s, .rd 2 n f, .int .i64 a, .int .i64 b, .int .i64 w, .rd 2 m g], .agg [.int .i64 x, .int .i64 set], .int .i64 wr] =>
    some (∃ T S, n = T.length ∧ f = rowsS T ∧ m = S.length ∧ g = rowsS S ∧ Sx.ok ⟨s, T, a, b, w, S⟩ ∧ Sx.rdg ⟨s, T, a, b, w, S⟩ x set ∧ -1000 ≤ wr ∧ wr ≤ 1000,
      .int .i64 (ang ⟨s, Tof n f, a, b, w, Tof m g⟩ x set wr))
  | _ => none
theorem p36' : PureOk Try.prog 36 (fcC F36) := by
  refine pweak p36 fun args K hC => ?_
  unfold fcC F36 at hC
  split at hC <;> first | (exact hC.elim) | skip
  rename_i h
  split at h <;> first | (cases h; done) | skip
  cases h
  obtain ⟨⟨T, S, rfl, rfl, rfl, rfl, h1, h2, h3, h4⟩, hK⟩ := hC
  simp only [Tof_rows] at hK
  exact ⟨_, _, _, _, rfl, h1, h2, ⟨h3, h4⟩, hK⟩
end Go.Proofs.Ytjagiieconpgbaa
end

section
namespace Go.Proofs.Ytjagiieconpgbaa
open Go Go.Vg
set_option linter.unusedSimpArgs false
set_option linter.unusedVariables false
set_option maxRecDepth 10000
/- 7: octant/octantlaw05.SextantHolds -/
def s7 : SC :=
  (.seq (.reg [⟨(some 3), none, .box 26 (.t 0)⟩,
    ⟨(some 4), none, .box 28 (.t 1)⟩,
    ⟨(some 6), none, .v (.mov (.c (.lit (.bool false))))⟩])
  (.seq (.reg [⟨(some 11), none, .v (.load (.t 3) (some 6))⟩,
    ⟨(some 12), none, .v (.load (.t 4) (some 2))⟩,
    ⟨(some 13), none, .call (.c (.fn 15 [])) [(.t 11), (.t 12)]⟩,
    ⟨(some 10), none, .v (.mov (.t 13))⟩,
    ⟨(some 14), none, .v (.ext (.t 10) 0)⟩,
    ⟨(some 15), none, .v (.ext (.t 10) 1)⟩,
    ⟨(some 7), none, .new 24 [(.int .i64 (0)), (.int .i64 (0))]⟩,
    ⟨none, none, .store 2 (.t 7) (.t 14)⟩,
    ⟨(some 8), none, .v (.mov (.t 15))⟩])
  (.seq (.seq (.reg [⟨(some 16), none, .v (.mov (.t 8))⟩,
    ⟨(some 17), none, .v (.bin .neq (.t 16) (.c (.int .i64 (0))))⟩,
    ⟨(some 18), none, .v (.mov (.t 17))⟩,
    ⟨(some 19), (some (18, false)), .v (.load (.t 3) (some 6))⟩,
    ⟨(some 20), (some (18, false)), .call (.c (.fn 32 [])) [(.t 19)]⟩,
    ⟨(some 21), (some (18, false)), .v (.not (.t 20))⟩,
    ⟨(some 22), none, .v (.pick (.t 18) (.c (.lit (.bool true))) (.t 21))⟩,
    ⟨(some 23), none, .v (.mov (.t 22))⟩,
    ⟨(some 24), (some (23, false)), .v (.off (.t 4) 0)⟩,
    ⟨(some 25), (some (23, false)), .v (.load (.t 24) none)⟩,
    ⟨(some 26), (some (23, false)), .v (.off (.t 3) 0)⟩,
    ⟨(some 27), (some (23, false)), .v (.load (.t 26) none)⟩,
    ⟨(some 28), (some (23, false)), .v (.off (.t 3) 1)⟩,
    ⟨(some 29), (some (23, false)), .v (.load (.t 28) none)⟩,
    ⟨(some 30), (some (23, false)), .v (.len (.t 29))⟩,
    ⟨(some 31), (some (23, false)), .v (.bin .sub (.t 30) (.c (.int .i64 (1))))⟩,
    ⟨(some 32), (some (23, false)), .v (.bin .mul (.t 27) (.t 31))⟩,
    ⟨(some 33), (some (23, false)), .call (.c (.fn 33 [])) [(.t 25), (.c (.int .i64 (0))), (.t 32)]⟩,
    ⟨(some 34), (some (23, false)), .v (.not (.t 33))⟩,
    ⟨(some 35), none, .v (.pick (.t 23) (.c (.lit (.bool true))) (.t 34))⟩])
  (.cond (.t 35)
    (.seq (.reg [⟨(some 36), none, .v (.mov (.t 8))⟩,
      ⟨(some 37), none, .v (.bin .neq (.t 36) (.c (.int .i64 (0))))⟩,
      ⟨(some 38), none, .v (.mov (.t 37))⟩,
      ⟨(some 39), (some (38, true)), .v (.load (.t 7) (some 2))⟩,
      ⟨(some 40), (some (38, true)), .bld [(.int .i64 (0)), (.int .i64 (0))] []⟩,
      ⟨(some 41), (some (38, true)), .v (.eqs [(some .i64), (some .i64)] false (.t 39) (.t 40))⟩,
      ⟨(some 42), none, .v (.pick (.t 38) (.t 41) (.c (.lit (.bool false))))⟩,
      ⟨(some 43), none, .v (.mov (.t 42))⟩,
      ⟨(some 44), (some (43, true)), .call (.c (.fn 21 [])) []⟩,
      ⟨(some 45), none, .v (.pick (.t 43) (.t 44) (.c (.lit (.bool false))))⟩,
      ⟨(some 6), none, .v (.mov (.t 45))⟩])
    .ret)
    .skip))
  (.seq (.reg [⟨(some 46), none, .v (.load (.t 3) (some 6))⟩,
    ⟨(some 47), none, .v (.mov (.t 2))⟩,
    ⟨(some 48), none, .call (.c (.fn 34 [])) [(.t 46), (.t 47)]⟩,
    ⟨(some 9), none, .new 26 [(.int .i64 (0)), (.lit (.slice none 0 0)), (.int .i64 (0)), (.int .i64 (0)), (.int .i64 (0)), (.lit (.slice none 0 0))]⟩,
    ⟨none, none, .store 6 (.t 9) (.t 48)⟩])
  (.seq (.drw [(0, ⟨(some 49), none, .v (.load (.t 7) (some 2))⟩, false),
    (1, ⟨(some 50), none, .v (.load (.t 9) (some 6))⟩, false),
    (2, ⟨(some 51), none, .v (.load (.t 4) (some 2))⟩, false),
    (3, ⟨(some 52), none, .v (.off (.t 3) 4)⟩, false),
    (4, ⟨(some 53), none, .v (.load (.t 52) none)⟩, false),
    (5, ⟨(some 54), none, .v (.neg (.t 53))⟩, false),
    (6, ⟨(some 55), none, .v (.off (.t 3) 4)⟩, false),
    (7, ⟨(some 56), none, .v (.load (.t 55) none)⟩, false),
    (8, ⟨(some 57), none, .v (.mov (.t 2))⟩, false),
    (9, ⟨(some 58), none, .call (.c (.fn 38 [])) [(.t 57), (.c (.int .i64 (5)))]⟩, false),
    (10, ⟨(some 59), none, .call (.c (.fn 37 [])) [(.t 54), (.t 56), (.t 58)]⟩, false),
    (11, ⟨(some 60), none, .call (.c (.fn 36 [])) [(.t 50), (.t 51), (.t 59)]⟩, false)]
    none
    [⟨(some 61), none, .call (.c (.fn 35 [])) [(.t 49), (.t 60)]⟩,
    ⟨(some 62), none, .v (.mov (.t 61))⟩,
    ⟨(some 63), (some (62, true)), .call (.c (.fn 21 [])) []⟩,
    ⟨(some 64), none, .v (.pick (.t 62) (.t 63) (.c (.lit (.bool false))))⟩,
    ⟨(some 6), none, .v (.mov (.t 64))⟩])
  .ret)))))
def r7 : List RV := [.t 6]
def n7 : Nat := 65
theorem k7 : (Try.f7.body.bind (cC Try.prog), cR Try.prog Try.f7.results.toList, Try.f7.ntmps) = (some s7, some r7, 65) := by kernel_rfl
theorem q7 : Known Try.prog 7 := ⟨_, Try.func7, by decide, by simp [Try.f7]⟩


theorem cor_mono {s x y x' y' d : Int} (hs : 0 < s) (h0 : 0 ≤ d) (h1 : d < s) (hx : x ≤ x') (hy : d ≠ 0 → y ≤ y') : cor s x y d ≤ cor s x' y' d := by
  unfold cor
  by_cases hd : d = 0
  · rw [if_pos hd, if_pos hd]; exact hx
  · rw [if_neg hd, if_neg hd]
    have a1 := Int.mul_le_mul_of_nonneg_right hx (show 0 ≤ s - d by omega)
    have a2 := Int.mul_le_mul_of_nonneg_right (hy hd) h0
    exact Int.ediv_le_ediv hs (by omega)
theorem cz_bnd {L : List (Int × Int)} {m : Int} (hm : 0 ≤ m) (h : L.all (spE m) = true) (l : List Int) (k : Nat → Int) (i : Nat) : lo L i ≤ cz L l k i ∧ cz L l k i ≤ hi L i := chz_bnd (spS hm h i).2.1
theorem czL_all {L : List (Int × Int)} {m : Int} (hm : 0 ≤ m) (h : L.all (spE m) = true) (l : List Int) (k : Nat → Int) : (czL L l k).all (spE m) = true := by
  rw [List.all_eq_true]
  intro p hp
  unfold czL at hp
  rw [List.mem_map] at hp
  obtain ⟨i, _, rfl⟩ := hp
  have h1 := spS hm h i
  have h2 := cz_bnd hm h l k i
  unfold spE
  rw [decide_eq_true_eq]
  simp only
  omega
theorem tru_ok {v : Sx} (hok : v.ok) (l : List Int) : (tru v l).ok := by
  have hc := chz_bnd (n := pk l 7) hok.2.1.1.2
  have hab := hok.2.1
  have h1 := czL_all (by omega) hok.1.2.2.1 l kT
  have h2 := czL_all (by omega) hok.2.2.2.2 l kS
  refine ⟨⟨hok.1.1, by rw [show (tru v l).T.length = v.T.length from czL_len]; exact hok.1.2.1, h1, by rw [show (tru v l).T.length = v.T.length from czL_len]; exact hok.1.2.2.2⟩, ⟨⟨?_, Int.le_refl _⟩, ?_⟩, hok.2.2.1, by rw [show (tru v l).S.length = v.S.length from czL_len]; exact hok.2.2.2.1, h2⟩
  · show -1800 ≤ chz v.a v.b (pk l 7); omega
  · show chz v.a v.b (pk l 7) ≤ 1800; omega
theorem tru_rdg {v : Sx} {x set : Int} (h : v.rdg x set) (l : List Int) : (tru v l).rdg x set := by
  unfold Sx.rdg at h ⊢
  rw [show (tru v l).T.length = v.T.length from czL_len, show (tru v l).S.length = v.S.length from czL_len]
  exact h
theorem tru_cor {v : Sx} (hok : v.ok) {x set : Int} (hr : v.rdg x set) (l : List Int) : (corE v x).1 ≤ (corE (tru v l) x).1 ∧ (corE (tru v l) x).1 ≤ (corE v x).2 := by
  obtain ⟨_, ⟨hd0, hd1⟩, _, _, hk, hk1⟩ := rdgK hok hr
  have hs := hok.1.1
  have e0 : kk (tru v l) x = kk v x := rfl
  unfold corE
  simp only [e0]
  have f1 : lo (tru v l).T (kk v x) = cz v.T l kT (kk v x) := (czL_lo hk).1
  have b1 := cz_bnd (by omega) hok.1.2.2.1 l kT (kk v x)
  have f2 : x % v.step ≠ 0 → lo (tru v l).T (kk v x + 1) = cz v.T l kT (kk v x + 1) := fun h => (czL_lo (hk1 h)).1
  have b2 := cz_bnd (by omega) hok.1.2.2.1 l kT (kk v x + 1)
  refine ⟨cor_mono (by show 0 < v.step; omega) hd0 hd1 (by rw [f1]; exact b1.1) fun h => by rw [f2 h]; exact b2.1, cor_mono (by show 0 < v.step; omega) hd0 hd1 (by rw [f1]; exact b1.2) fun h => by rw [f2 h]; exact b2.2⟩
theorem tru_shd {v : Sx} (hok : v.ok) (set : Int) (l : List Int) : ∀ i, i ≤ v.S.length → (shd v set i).1 ≤ (shd (tru v l) set i).1 ∧ (shd (tru v l) set i).1 + 2 * v.w ≤ (shd v set i).2
  | 0, _ => by
    simp only [shd]
    show -v.w ≤ -v.w ∧ -v.w + 2 * v.w ≤ v.w
    omega
  | i + 1, hi' => by
    have h := tru_shd hok set l i (by omega)
    have f1 : lo (tru v l).S i = cz v.S l kS i := (czL_lo (by omega)).1
    have b1 := cz_bnd (by omega) hok.2.2.2.2 l kS i
    simp only [shd]
    by_cases hb : set / ((2 ^ i : Nat) : Int) % 2 = 1
    · simp only [if_pos hb, f1]; omega
    · simp only [if_neg hb]; exact h
theorem holdsM {v : Sx} (hok : v.ok) {x set wr : Int} (hr : v.rdg x set) (l : List Int) (hw : -v.w ≤ wr ∧ wr ≤ v.w) : (rdS v x set).1 ≤ ang (tru v l) x set wr ∧ ang (tru v l) x set wr ≤ (rdS v x set).2 := by
  have h1 := tru_cor hok hr l
  have h2 := tru_shd hok set l v.S.length (Nat.le_refl _)
  have h3 := chz_bnd (n := pk l 7) hok.2.1.1.2
  have e1 : (tru v l).S.length = v.S.length := czL_len
  have e2 : (tru v l).a = chz v.a v.b (pk l 7) := rfl
  have e3 : (tru v l).w = v.w := rfl
  unfold ang rdS
  rw [e1, e2, e3]
  simp only
  omega
theorem rdE_eq {v : Sx} {x set : Int} : rdE v x set = 0 ↔ v.ok ∧ v.rdg x set := by
  unfold rdE
  by_cases h1 : v.ok
  · by_cases h2 : v.rdg x set
    · simp [h1, h2]
    · simp [h1, h2]
  · simp [h1]
theorem okF {v : Sx} (hok : v.ok) : (1 ≤ v.step ∧ v.step ≤ 72000) ∧ (2 ≤ (v.T.length : Int) ∧ (v.T.length : Int) ≤ 12) ∧ v.step * ((v.T.length : Int) - 1) ≤ 504000 ∧ (0 ≤ v.w ∧ v.w ≤ 60) ∧ ∀ x set : Int, v.rdg x set → rdV v x set = rdS v x set :=
  ⟨hok.1.1, hok.1.2.1, hok.1.2.2.2, hok.2.2.1, fun x set h => by unfold rdV; rw [if_pos ⟨hok, h⟩]⟩
def C7 : PC := fun args K => ∃ (v : Sx) (x set : Int) (l : List Int), args = [v.sv, .agg [.int .i64 x, .int .i64 set], .ints .i64 l] ∧ (l.length : Int) ≤ 9223372036854775807 ∧ K (.lit (.bool true))
attribute [local irreducible] Sx.ok Sx.sv rdV rdE tru ang
set_option maxHeartbeats 1000000 in
theorem p7 (p21 : PureOk Try.prog 21 (fcC F21)) (q21 : Known Try.prog 21) : PureOk Try.prog 7 C7 := by
  refine pure_of (T := [(15, .pc C15), (32, .pc C32), (33, .fc Fin), (21, .fc F21), (34, .pc C34), (38, .fc Fpk), (37, .fc Fch), (36, .fc F36), (35, .fc Fhol)])
    ⟨⟨p15, q15⟩, ⟨p32, q32⟩, ⟨p33, q33⟩, ⟨p21, q21⟩, ⟨p34, q34⟩, ⟨p38, q38⟩, ⟨p37, q37⟩, ⟨p36', q36⟩, ⟨p35, q35⟩, trivial⟩ Try.func7 k7 ?_
  rintro args K ⟨v, x, set, l, rfl, hl, hK⟩
  have fin : ∃ r', K r' ∧ leR 4 (.lit (.bool true)) r' := res hK (by simp [leR])
  rw [Sx.sv_eq]
  simp only [e_reg, e_seq, o_nil, o_cons, gd_none, putK_e, runK_e, vK_e, boxK_e, conK_e, callK_e, evh_v, evh_box, evh_call, seqK_n, gam_e, gamK_p, pc_e, pcK_e, evp, gt, st, putf, X.get, gets, ap, mkfr, rep, clV, clL, clS, clo, ld, lda, tk, dr, cs1, gb, pb, ln, lk, undef, Nat.reduceSub, Nat.reduceAdd, beq_self_eq_true, true_and, s7, r7]
  refine ⟨v, x, set, by rw [Sx.sv_eq], ?_⟩
  by_cases hg : v.ok ∧ v.rdg x set
  · have he : rdE v x set = 0 := rdE_eq.2 hg
    obtain ⟨hok, hr⟩ := hg
    rw [he]
    simp only [gdK_bff, decide_true, e_reg, and_self, e_seq, o_nil, o_cons, gd_none, gd_some, gdK_ff, putK_e, runK_e, vK_e, storeK3_e, storeK2_e, storeK_e, conK_e, callK_e, evh_v, evh_new, evh_store, evh_call, seqK_n, gam_e, gamK_p, pc_e, pcK_e, evp, bin, gt, gq, st, putf, X.get, gets, ap, clV, clL, clS, clo, ld, lda, tk, dr, sp, sp.spl, ll, cs1, one, allOne, gb, sb, pb, ln, lk, Bool.and_true, Bool.not_true, Nat.reduceAdd, Nat.reduceBEq, beq_self_eq_true, true_and]
    refine ⟨v, by rw [Sx.sv_eq], ?_⟩
    rw [decide_eq_true hok]
    obtain ⟨hst, hs12, hs5, hw60, hb⟩ := okF hok
    have hst2 : 0 ≤ v.step * ((v.T.length : Int) - 1) := Int.mul_nonneg (by omega) (by omega)
    have hr1 : (0 ≤ x ∧ x ≤ v.step * ((v.T.length : Int) - 1)) = True := by simp [hr.1]
    simp only [gdK_bff, condK_bf, decide_true, inr64, e_skip, e_reg, e_seq, e_cond, o_nil, o_cons, gd_none, gd_some, gdK_ff, putK_e, runK_e, vK_e, conK_e, callK_e, evh_v, evh_new, evh_store, evh_call, seqK_n, gam_e, gamK_f, gamK_p, pc_e, pcK_e, fcC_e, fcK_e, evp, bin, gt, gq, st, putf, X.get, gets, ap, clV, clL, clS, clo, ld, lda, lens, tk, dr, cs1, one, gb, pb, ln, lk, Value.oneCell', Bool.not_true, Nat.reduceAdd, Nat.reduceBEq, beq_self_eq_true, true_and, Fin, hr1]
    refine ⟨by omega, by omega, ?_⟩
    refine ⟨v, l, by rw [Sx.sv_eq], hok, hl, ?_⟩
    have tok := tru_ok hok l
    have trd := tru_rdg hr l
    have hm := fun wr => holdsM (wr := wr) hok hr l
    have hvw : (tru v l).w = v.w := by unfold tru; rfl
    have htr := rdV_bnd v x set
    rw [hb x set hr] at htr ⊢
    rw [Sx.sv_eq]
    have tl : ∃ T' S' : List (Int × Int), T' = (tru v l).T ∧ S' = (tru v l).S := ⟨_, _, rfl, rfl⟩
    have hch := chz_bnd (a := -v.w) (b := v.w) (n := pk l 5) (by omega)
    have hmT : ((rdS v x set).1 ≤ ang (tru v l) x set (chz (-v.w) v.w (pk l 5)) ∧ ang (tru v l) x set (chz (-v.w) v.w (pk l 5)) ≤ (rdS v x set).2) = True := by simp only [eq_iff_iff, iff_true]; exact hm _ hch
    simp only [inr64, and_self, e_drw, e_seq, o_nil, o_cons, gd_none, gd_some, putK_e, runK_e, vK_e, storeK3_e, storeK2_e, storeK_e, conK_e, callK_e, evh_v, evh_call, dX_e, dG_t, d_nil, d_cons, tlK_n, seqK_n, gam_e, gamK_f, gamq_e, gamqK_f, pc_e, pcK_e, fcC_e, evp, gt, gq, st, putf, X.get, gets, ap, clV, clL, clS, clo, clo.clos, ld, lda, tk, dr, sp, sp.spl, ll, one, allOne, gb, sb, lk, evq, gdl, Bool.and_true, Nat.reduceAdd, Nat.reduceBEq, beq_self_eq_true, true_and, Fpk, Fch, F36, Tof_rows, Sx.eta]
    refine ⟨by omega, hl, by omega, ⟨_, _, rfl, rfl, rfl, rfl, tok, trd, by omega, by omega⟩, ?_⟩
    simp only [gdK_btt, decide_true, e_ret, o_nil, o_cons, gd_none, putK_e, runK_e, vK_e, conK_e, callK_e, evh_v, evh_call, seqK_n, ends_r, endK1_e, endK2_e, gam_e, gamK_f, pc_e, pcK_e, fcC_e, fcK_e, evp, gt, st, putf, X.get, gets, ap, rdR, tupled, clV, clL, clS, clo, lk, Nat.reduceBEq, beq_self_eq_true, true_and, Fhol, F21, hmT]
    exact fin
  · have he : rdE v x set ≠ 0 := fun h => hg (rdE_eq.1 h)
    have hv : rdV v x set = (0, 0) := by unfold rdV; rw [if_neg hg]
    rw [hv]
    simp only [gdK_btt, gdK_bft, decide_true, decide_false, e_reg, and_self, e_seq, e_cond, e_ret, o_nil, o_cons, gd_none, gd_some, gdK_tt, gdK_tf, putK_e, runK_e, skipK_e, vK_e, bldK_e, storeK3_e, storeK2_e, storeK_e, conK_e, callK_e, evh_v, evh_new, evh_bld, evh_store, evh_call, seqK_n, seqK_r, condK_t, ends_r, endK1_e, endK2_e, gam_e, gamK_f, pc_e, pcK_e, fcC_e, fcK_e, evp, fit, InQ, bin, gt, gq, st, putf, X.get, gets, getp, ap, rdR, tupled, clV, clL, clS, clo, ld, lda, tk, dr, sp, sp.spl, lay, ll, cs1, one, allOne, gb, sb, pb, ln, lk, undef, Bool.and_true, Bool.not_true, Bool.not_false, cond_false, Nat.reduceAdd, Nat.reduceBEq, beq_self_eq_true, true_and, and_true, F21, he]
    exact ⟨by omega, fin⟩
end Go.Proofs.Ytjagiieconpgbaa
end
