/- What is needed of EZc, SN. -/
import Derived.Test.YtjagiieconpgbaaVgES
import Derived.Test.YtjagiieconpgbaaVgV12
section
section
namespace Go.Proofs.Ytjagiieconpgbaa
open Go Go.Vg
set_option linter.unusedSimpArgs false
set_option linter.unusedVariables false
set_option maxRecDepth 10000
def s68 : SC :=
  (.seq (.reg [⟨(some 0), none, .new 24 [(.int .i64 (0)), (.int .i64 (0))]⟩])
  (.seq (.reg [⟨(some 1), none, .bld [(.int .i64 (0)), (.int .i64 (0))] [(0, 1, (.c (.int .i64 (1)))), (1, 1, (.c (.int .i64 (0))))]⟩,
    ⟨none, none, .store 2 (.t 0) (.t 1)⟩])
  .ret))
def r68 : List RV := [.c 0 (some 2)]
theorem k68 : (Try.f68.body.bind (cC Try.prog), cR Try.prog Try.f68.results.toList, Try.f68.ntmps) = (some s68, some r68, 2) := by kernel_rfl
theorem q68 : Known Try.prog 68 := ⟨_, Try.func68, by decide, by simp [Try.f68]⟩
def s98 : SC :=
  (.seq (.reg [⟨(some 2), none, .box 137 (.t 0)⟩,
    ⟨(some 4), none, .v (.mov (.c (.int .i64 (0))))⟩])
  (.seq (.reg [⟨(some 5), none, .v (.off (.t 2) 0)⟩,
    ⟨(some 6), none, .v (.off (.t 5) 0)⟩,
    ⟨(some 7), none, .v (.load (.t 6) none)⟩,
    ⟨(some 8), none, .v (.mov (.t 1))⟩,
    ⟨(some 9), none, .v (.bin .add (.t 7) (.t 8))⟩,
    ⟨(some 4), none, .v (.mov (.t 9))⟩])
  .ret))
def r98 : List RV := [.t 4]
theorem k98 : (Try.f98.body.bind (cC Try.prog), cR Try.prog Try.f98.results.toList, Try.f98.ntmps) = (some s98, some r98, 10) := by kernel_rfl
theorem q98 : Known Try.prog 98 := ⟨_, Try.func98, by decide, by simp [Try.f98]⟩
def s99 : SC :=
  (.seq (.reg [⟨(some 2), none, .box 137 (.t 0)⟩,
    ⟨(some 4), none, .v (.mov (.c (.int .i64 (0))))⟩])
  (.seq (.reg [⟨(some 5), none, .v (.off (.t 2) 0)⟩,
    ⟨(some 6), none, .v (.off (.t 5) 1)⟩,
    ⟨(some 7), none, .v (.load (.t 6) none)⟩,
    ⟨(some 8), none, .v (.mov (.t 1))⟩,
    ⟨(some 9), none, .v (.bin .sub (.t 7) (.t 8))⟩,
    ⟨(some 4), none, .v (.mov (.t 9))⟩])
  .ret))
def r99 : List RV := [.t 4]
theorem k99 : (Try.f99.body.bind (cC Try.prog), cR Try.prog Try.f99.results.toList, Try.f99.ntmps) = (some s99, some r99, 10) := by kernel_rfl
theorem q99 : Known Try.prog 99 := ⟨_, Try.func99, by decide, by simp [Try.f99]⟩
def s101 : SC :=
  (.seq (.reg [⟨(some 2), none, .box 24 (.t 0)⟩,
    ⟨(some 3), none, .box 24 (.t 1)⟩,
    ⟨(some 4), none, .new 24 [(.int .i64 (0)), (.int .i64 (0))]⟩])
  (.seq (.reg [⟨(some 6), none, .v (.off (.t 2) 0)⟩,
    ⟨(some 7), none, .v (.load (.t 6) none)⟩,
    ⟨(some 8), none, .v (.off (.t 3) 0)⟩,
    ⟨(some 9), none, .v (.load (.t 8) none)⟩,
    ⟨(some 10), none, .v (.max2 (.t 7) (.t 9))⟩,
    ⟨(some 11), none, .v (.off (.t 2) 1)⟩,
    ⟨(some 12), none, .v (.load (.t 11) none)⟩,
    ⟨(some 13), none, .v (.off (.t 3) 1)⟩,
    ⟨(some 14), none, .v (.load (.t 13) none)⟩,
    ⟨(some 15), none, .v (.min2 (.t 12) (.t 14))⟩,
    ⟨(some 16), none, .bld [(.int .i64 (0)), (.int .i64 (0))] [(0, 1, (.t 10)), (1, 1, (.t 15))]⟩,
    ⟨(some 5), none, .new 24 [(.int .i64 (0)), (.int .i64 (0))]⟩,
    ⟨none, none, .store 2 (.t 5) (.t 16)⟩])
  (.seq (.seq (.reg [⟨(some 17), none, .v (.off (.t 5) 0)⟩,
    ⟨(some 18), none, .v (.load (.t 17) none)⟩,
    ⟨(some 19), none, .v (.off (.t 5) 1)⟩,
    ⟨(some 20), none, .v (.load (.t 19) none)⟩,
    ⟨(some 21), none, .v (.bin .gtr (.t 18) (.t 20))⟩])
  (.cond (.t 21)
    (.seq (.reg [⟨(some 22), none, .call (.c (.fn 68 [])) []⟩,
      ⟨none, none, .store 2 (.t 4) (.t 22)⟩])
    .ret)
    .skip))
  (.seq (.reg [⟨(some 23), none, .v (.load (.t 5) (some 2))⟩,
    ⟨none, none, .store 2 (.t 4) (.t 23)⟩])
  .ret))))
def r101 : List RV := [.c 4 (some 2)]
theorem k101 : (Try.f101.body.bind (cC Try.prog), cR Try.prog Try.f101.results.toList, Try.f101.ntmps) = (some s101, some r101, 24) := by kernel_rfl
theorem q101 : Known Try.prog 101 := ⟨_, Try.func101, by decide, by simp [Try.f101]⟩
def s103 : SC :=
  (.seq (.reg [⟨(some 2), none, .box 24 (.t 0)⟩,
    ⟨(some 3), none, .box 24 (.t 1)⟩,
    ⟨(some 4), none, .new 24 [(.int .i64 (0)), (.int .i64 (0))]⟩])
  (.seq (.seq (.drw [(0, ⟨(some 5), none, .v (.load (.t 2) (some 2))⟩, false),
    (1, ⟨(some 6), none, .call (.c (.fn 68 [])) []⟩, false)]
    none
    [⟨(some 7), none, .v (.eqs [(some .i64), (some .i64)] false (.t 5) (.t 6))⟩])
  (.cond (.t 7)
    (.seq (.reg [⟨(some 8), none, .v (.load (.t 3) (some 2))⟩,
      ⟨none, none, .store 2 (.t 4) (.t 8)⟩])
    .ret)
    .skip))
  (.seq (.reg [⟨(some 9), none, .v (.off (.t 2) 0)⟩,
    ⟨(some 10), none, .v (.load (.t 9) none)⟩,
    ⟨(some 11), none, .v (.off (.t 3) 0)⟩,
    ⟨(some 12), none, .v (.load (.t 11) none)⟩,
    ⟨(some 13), none, .v (.min2 (.t 10) (.t 12))⟩,
    ⟨(some 14), none, .v (.off (.t 2) 1)⟩,
    ⟨(some 15), none, .v (.load (.t 14) none)⟩,
    ⟨(some 16), none, .v (.off (.t 3) 1)⟩,
    ⟨(some 17), none, .v (.load (.t 16) none)⟩,
    ⟨(some 18), none, .v (.max2 (.t 15) (.t 17))⟩,
    ⟨(some 19), none, .bld [(.int .i64 (0)), (.int .i64 (0))] [(0, 1, (.t 13)), (1, 1, (.t 18))]⟩,
    ⟨none, none, .store 2 (.t 4) (.t 19)⟩])
  .ret)))
def r103 : List RV := [.c 4 (some 2)]
theorem k103 : (Try.f103.body.bind (cC Try.prog), cR Try.prog Try.f103.results.toList, Try.f103.ntmps) = (some s103, some r103, 20) := by kernel_rfl
theorem q103 : Known Try.prog 103 := ⟨_, Try.func103, by decide, by simp [Try.f103]⟩
def s100 : SC :=
  (.seq (.reg [⟨(some 1), none, .box 89 (.t 0)⟩,
    ⟨(some 2), none, .v (.mov (.c (.lit .nilFunc)))⟩])
  (.seq (.reg [⟨(some 3), none, .v (.mkfn 115 [(.t 1)])⟩,
    ⟨(some 2), none, .v (.mov (.t 3))⟩])
  .ret))
def r100 : List RV := [.t 2]
theorem k100 : (Try.f100.body.bind (cC Try.prog), cR Try.prog Try.f100.results.toList, Try.f100.ntmps) = (some s100, some r100, 4) := by kernel_rfl
theorem q100 : Known Try.prog 100 := ⟨_, Try.func100, by decide, by simp [Try.f100]⟩
def s66 : SC :=
  (.seq (.reg [⟨(some 2), none, .v (.mov (.c (.lit (.bool false))))⟩])
  (.seq (.seq (.reg [⟨(some 5), none, .v (.mov (.t 0))⟩,
    ⟨(some 6), none, .v (.len (.t 5))⟩,
    ⟨(some 7), none, .call (.c (.fn 78 [])) [(.t 6), (.c (.int .i64 (1))), (.c (.int .i64 (6)))]⟩,
    ⟨(some 8), none, .v (.not (.t 7))⟩])
  (.cond (.t 8)
    (.seq (.reg [⟨(some 2), none, .v (.mov (.c (.lit (.bool false))))⟩])
    .ret)
    .skip))
  (.seq (.seq (.reg [⟨(some 9), none, .v (.mov (.t 0))⟩,
    ⟨(some 10), none, .v (.len (.t 9))⟩,
    ⟨(some 11), none, .v (.mov (.c (.int .i64 (0))))⟩])
  (.block 0 (.loop
    (.seq (.reg [⟨(some 12), none, .v (.bin .lss (.t 11) (.t 10))⟩])
    (.seq (.cond (.t 12)
      .skip
      (.exit 0))
    (.seq (.block 1 (.seq (.reg [⟨(some 13), none, .v (.ixa (.t 9) (.t 11) 2)⟩,
      ⟨(some 14), none, .v (.load (.t 13) (some 2))⟩,
      ⟨(some 4), none, .new 67 [(.int .i64 (0)), (.int .i64 (0))]⟩,
      ⟨none, none, .store 2 (.t 4) (.t 14)⟩])
    (.seq (.reg [⟨(some 15), none, .v (.off (.t 4) 0)⟩,
      ⟨(some 16), none, .v (.load (.t 15) none)⟩,
      ⟨(some 17), none, .call (.c (.fn 78 [])) [(.t 16), (.c (.int .i64 (0))), (.c (.int .i64 (6000)))]⟩,
      ⟨(some 18), none, .v (.not (.t 17))⟩,
      ⟨(some 19), none, .v (.mov (.t 18))⟩,
      ⟨(some 20), (some (19, false)), .v (.off (.t 4) 1)⟩,
      ⟨(some 21), (some (19, false)), .v (.load (.t 20) none)⟩,
      ⟨(some 22), (some (19, false)), .call (.c (.fn 78 [])) [(.t 21), (.c (.int .i64 (0))), (.c (.int .i64 (6000)))]⟩,
      ⟨(some 23), (some (19, false)), .v (.not (.t 22))⟩,
      ⟨(some 24), none, .v (.pick (.t 19) (.c (.lit (.bool true))) (.t 23))⟩])
    (.cond (.t 24)
      (.seq (.reg [⟨(some 2), none, .v (.mov (.c (.lit (.bool false))))⟩])
      .ret)
      .skip))))
    (.reg [⟨(some 25), none, .v (.bin .add (.t 11) (.c (.int .i64 (1))))⟩,
      ⟨(some 11), none, .v (.mov (.t 25))⟩])))))))
  (.seq (.reg [⟨(some 2), none, .v (.mov (.c (.lit (.bool true))))⟩])
  .ret))))
def r66 : List RV := [.t 2]
theorem k66 : (Try.f66.body.bind (cC Try.prog), cR Try.prog Try.f66.results.toList, Try.f66.ntmps) = (some s66, some r66, 26) := by kernel_rfl
theorem q66 : Known Try.prog 66 := ⟨_, Try.func66, by decide, by simp [Try.f66]⟩
def F68 : FC := fun args => match args with
  | [] => some (True, .agg [.int .i64 1, .int .i64 0])
  | _ => none
theorem p68 : PureOk Try.prog 68 (fcC F68) := by
  refine pure_of (T := []) trivial Try.func68 k68 ?_
  intro args K hC
  unfold fcC F68 at hC
  split at hC <;> first | (exact hC.elim) | skip
  rename_i h
  split at h <;> first | (cases h; done) | skip
  cases h
  obtain ⟨-, hK⟩ := hC
  simp only [↓reduceIte, e_reg, and_self, e_seq, e_ret, o_nil, o_cons, gd_none, putK_e, runK_e, bldK_e, storeK3_e, storeK2_e, storeK_e, evh_new, evh_bld, evh_store, seqK_n, ends_r, endK1_e, endK2_e, gt, st, putf, X.get, getp, mkfr, rep, rdR, tupled, clV, clL, clS, clo, ld, tk, dr, sp, sp.spl, lay, ll, cs1, one, allOne, gb, sb, pb, ln, undef, Bool.and_true, Nat.reduceAdd, beq_self_eq_true, true_and, s68, r68]
  exact res hK (by simp [leR, leR.leRs])
def F98 : FC := fun args => match args with
  | [.agg [.int .i64 a, .int .i64 b], .int .i64 i] => some ((-1000000 ≤ a ∧ a ≤ 1000000) ∧ -1000000 ≤ i ∧ i ≤ 1000000, .int .i64 (a + i))
  | _ => none
theorem p98 : PureOk Try.prog 98 (fcC F98) := by
  refine pure_of (T := []) trivial Try.func98 k98 ?_
  intro args K hC
  unfold fcC F98 at hC
  split at hC <;> first | (exact hC.elim) | skip
  rename_i h
  split at h <;> first | (cases h; done) | skip
  cases h
  obtain ⟨⟨q1, q2⟩, hK⟩ := hC
  simp only [inr64, e_reg, e_seq, e_ret, o_nil, o_cons, gd_none, putK_e, runK_e, vK_e, boxK_e, evh_v, evh_box, seqK_n, ends_r, endK1_e, endK2_e, evp, bin, gt, gq, st, putf, X.get, mkfr, rep, rdR, tupled, clV, clS, clo, ld, lda, cs1, gb, pb, ln, undef, Nat.reduceSub, Nat.reduceAdd, true_and, s98, r98]
  exact ⟨by omega, res hK (by simp [leR])⟩
def F99 : FC := fun args => match args with
  | [.agg [.int .i64 a, .int .i64 b], .int .i64 i] => some ((-1000000 ≤ b ∧ b ≤ 1000000) ∧ -1000000 ≤ i ∧ i ≤ 1000000, .int .i64 (b - i))
  | _ => none
theorem p99 : PureOk Try.prog 99 (fcC F99) := by
  refine pure_of (T := []) trivial Try.func99 k99 ?_
  intro args K hC
  unfold fcC F99 at hC
  split at hC <;> first | (exact hC.elim) | skip
  rename_i h
  split at h <;> first | (cases h; done) | skip
  cases h
  obtain ⟨⟨q1, q2⟩, hK⟩ := hC
  simp only [inr64, e_reg, e_seq, e_ret, o_nil, o_cons, gd_none, putK_e, runK_e, vK_e, boxK_e, evh_v, evh_box, seqK_n, ends_r, endK1_e, endK2_e, evp, bin, gt, gq, st, putf, X.get, mkfr, rep, rdR, tupled, clV, clS, clo, ld, lda, cs1, gb, pb, ln, undef, Nat.reduceSub, Nat.reduceAdd, true_and, s99, r99]
  exact ⟨by omega, res hK (by simp [leR])⟩
def cmn (p q : Int × Int) : Int × Int := if max p.1 q.1 ≤ min p.2 q.2 then (max p.1 q.1, min p.2 q.2) else (1, 0)
def F101 : FC := fun args => match args with
  | [.agg [.int .i64 a, .int .i64 b], .agg [.int .i64 c, .int .i64 d]] => some (True, .agg [.int .i64 (cmn (a, b) (c, d)).1, .int .i64 (cmn (a, b) (c, d)).2])
  | _ => none
theorem p101 : PureOk Try.prog 101 (fcC F101) := by
  refine pure_of (T := [(68, .fc F68)]) ⟨⟨p68, q68⟩, trivial⟩ Try.func101 k101 ?_
  intro args K hC
  unfold fcC F101 at hC
  split at hC <;> first | (exact hC.elim) | skip
  rename_i h
  split at h <;> first | (cases h; done) | skip
  cases h
  obtain ⟨-, hK⟩ := hC
  rename_i a b c d
  unfold cmn at hK
  simp only at hK
  simp only [↓reduceIte, e_skip, e_reg, and_self, e_seq, e_cond, e_ret, o_nil, o_cons, gd_none, putK_e, runK_e, vK_e, boxK_e, bldK_e, storeK3_e, storeK2_e, storeK_e, conK_e, callK_e, evh_v, evh_new, evh_box, evh_bld, evh_store, evh_call, seqK_n, seqK_r, condK_b, ends_r, endK1_e, endK2_e, gam_e, gamK_f, pc_e, pcK_e, fcC_e, fcK_e, evp, bin, gt, gq, st, putf, X.get, gets, getp, ap, mkfr, rep, rdR, tupled, clV, clL, clS, clo, ld, lda, tk, dr, sp, sp.spl, lay, ll, cs1, one, allOne, gb, sb, pb, ln, lk, Value.oneCell', undef, Bool.and_true, Nat.reduceSub, Nat.reduceAdd, beq_self_eq_true, true_and, decide_eq_true_eq, decide_eq_false_iff_not, s101, r101, F68]
  by_cases h : max a c ≤ min b d
  · rw [if_pos h] at hK
    refine ⟨fun h1 => ?_, fun h1 => res hK ?_⟩
    · exfalso
      revert h1; split <;> split <;> omega
    · simp only [leR, leR.leRs, and_true, true_and]
      exact ⟨by split <;> omega, by split <;> omega⟩
  · rw [if_neg h] at hK
    refine ⟨fun h1 => res hK (by simp [leR, leR.leRs]), fun h1 => ?_⟩
    exfalso
    revert h1; split <;> split <;> omega
def arn (p q : Int × Int) : Int × Int := if p = (1, 0) then q else (min p.1 q.1, max p.2 q.2)
def F103 : FC := fun args => match args with
  | [.agg [.int .i64 a, .int .i64 b], .agg [.int .i64 c, .int .i64 d]] => some ((-1000000000 ≤ a ∧ a ≤ 1000000000) ∧ (-1000000000 ≤ b ∧ b ≤ 1000000000), .agg [.int .i64 (arn (a, b) (c, d)).1, .int .i64 (arn (a, b) (c, d)).2])
  | _ => none
theorem p103 : PureOk Try.prog 103 (fcC F103) := by
  refine pure_of (T := [(68, .fc F68)]) ⟨⟨p68, q68⟩, trivial⟩ Try.func103 k103 ?_
  intro args K hC
  unfold fcC F103 at hC
  split at hC <;> first | (exact hC.elim) | skip
  rename_i h
  split at h <;> first | (cases h; done) | skip
  cases h
  rename_i a b c d
  obtain ⟨⟨⟨q1, q2⟩, q3, q4⟩, hK⟩ := hC
  unfold arn at hK
  simp only [↓reduceIte, List.cons.injEq, e_skip, e_reg, and_self, e_drw, e_seq, e_cond, e_ret, o_nil, o_cons, gd_none, putK_e, runK_e, vK_e, boxK_e, bldK_e, storeK3_e, storeK2_e, storeK_e, evh_v, evh_new, evh_box, evh_bld, evh_store, dX_e, dG_t, d_nil, d_cons, tlK_n, seqK_n, seqK_r, condK_b, ends_r, endK1_e, endK2_e, gamq_e, gamqK_f, evp, fit, InQ, gt, gq, st, putf, X.get, gets, getp, ap, mkfr, rep, rdR, tupled, clV, clL, clS, clo, clo.clos, ld, lda, tk, dr, sp, sp.spl, lay, ll, cs1, one, allOne, gb, sb, pb, ln, lk, evq, gdl, undef, Bool.and_true, cond_false, Nat.reduceSub, Nat.reduceAdd, beq_self_eq_true, true_and, and_true, decide_eq_true_eq, decide_eq_false_iff_not, s103, r103, F68]
  refine ⟨by omega, fun h => ?_, fun h => ?_⟩
  · rw [if_pos (by rw [h.1, h.2])] at hK
    exact res hK (by simp [leR, leR.leRs])
  · rw [if_neg (fun e => h (by cases e; exact ⟨rfl, rfl⟩))] at hK
    refine res hK ?_
    simp only [leR, leR.leRs, and_true, true_and]
    exact ⟨by split <;> omega, by split <;> omega⟩
def F100 : FC := fun args => match args with
  | [.agg [.int .i64 s, .rd 2 n f, .int .i64 a, .int .i64 b, .int .i64 w, .rd 2 m g]] => some (True, .fn 115 [.rp [.int .i64 s, .rd 2 n f, .int .i64 a, .int .i64 b, .int .i64 w, .rd 2 m g] 0])
  | _ => none
theorem p100 : PureOk Try.prog 100 (fcC F100) := by
  refine pure_of (T := []) trivial Try.func100 k100 ?_
  intro args K hC
  unfold fcC F100 at hC
  split at hC <;> first | (exact hC.elim) | skip
  rename_i h
  split at h <;> first | (cases h; done) | skip
  cases h
  obtain ⟨-, hK⟩ := hC
  simp only [e_reg, e_seq, e_ret, o_nil, o_cons, gd_none, putK_e, runK_e, vK_e, boxK_e, evh_v, evh_box, seqK_n, ends_r, endK1_e, endK2_e, evp, gt, st, putf, X.get, gets, mkfr, rep, rdR, tupled, clV, clL, clS, clo, cs1, gb, sb, pb, ln, undef, Nat.reduceSub, true_and, s100, r100]
  exact res hK (by simp [leR, leR.leRs])
def F89 : FC := fun args => match args with
  | [.rd 2 n f] => some (n = 2 ∧ (f 0 = [.int .i64 (rlo f 0), .int .i64 (rhi f 0)] ∧ f 1 = [.int .i64 (rlo f 1), .int .i64 (rhi f 1)]) ∧ ((-1000000000 ≤ rlo f 0 ∧ rlo f 0 ≤ 1000000000) ∧ (-1000000000 ≤ rhi f 0 ∧ rhi f 0 ≤ 1000000000)) ∧ ((-1000000000 ≤ rlo f 1 ∧ rlo f 1 ≤ 1000000000) ∧ (-1000000000 ≤ rhi f 1 ∧ rhi f 1 ≤ 1000000000)),
      .agg [.int .i64 (rlo f 0 + rlo f 1), .int .i64 (rhi f 0 + rhi f 1)])
  | _ => none
theorem p89' : PureOk Try.prog 89 (fcC F89) := by
  refine pweak p89 fun args K hC => ?_
  unfold fcC F89 at hC
  split at hC <;> first | (exact hC.elim) | skip
  rename_i h
  split at h <;> first | (cases h; done) | skip
  cases h
  rename_i n f
  obtain ⟨⟨rfl, ⟨h0, h1⟩, b0, b1⟩, hK⟩ := hC
  refine ⟨[(rlo f 0, rhi f 0), (rlo f 1, rhi f 1)], f, rfl, fun i hi' => ?_, fun i => ?_, by simp, ?_⟩
  · have : i = 0 ∨ i = 1 := by simp at hi'; omega
    rcases this with rfl | rfl
    · rw [h0]; rfl
    · rw [h1]; rfl
  · rcases (show i = 0 ∨ i = 1 ∨ 2 ≤ i by omega) with rfl | rfl | h2
    · exact b0
    · exact b1
    · have : ([(rlo f 0, rhi f 0), (rlo f 1, rhi f 1)] : List (Int × Int)).getD i (0, 0) = (0, 0) := by simp [List.getD, h2]
      unfold lo hi; rw [this]; simp
  · simpa [sumT, lo, hi, List.getD] using hK
def sunE (p : Int × Int) : Bool := decide ((0 ≤ p.1 ∧ p.1 ≤ 6000) ∧ (0 ≤ p.2 ∧ p.2 ≤ 6000))
def okL (L : List (Int × Int)) : Prop := (1 ≤ (L.length : Int) ∧ (L.length : Int) ≤ 6) ∧ L.all sunE = true
instance (L : List (Int × Int)) : Decidable (okL L) := by unfold okL; infer_instance
def C66 : PC := fun args K => ∃ (L : List (Int × Int)), args = [.rd 2 L.length (rowsS L)] ∧ K (.bool (decide (okL L)))
theorem allX_snoc {q : Int × Int → Bool} {L : List (Int × Int)} {i : Nat} (h : i < L.length) : (L.take (i + 1)).all q = ((L.take i).all q && q (L.getD i (0, 0))) := by
  rw [List.take_add_one, List.getElem?_eq_getElem h, List.all_append]; simp [List.getD, h]
theorem p66 : PureOk Try.prog 66 C66 := by
  refine pure_of (T := [(78, .fc Fin)]) ⟨⟨p78, q78⟩, trivial⟩ Try.func66 k66 ?_
  rintro args K ⟨L, rfl, hK⟩
  simp only [e_skip, e_reg, e_seq, e_cond, e_block, e_loop, e_ret, o_nil, o_cons, gd_none, putK_e, runK_e, vK_e, conK_e, callK_e, evh_v, evh_call, seqK_n, seqK_r, condK_b, ends_r, endK1_e, endK2_e, gam_e, gamK_f, pc_e, pcK_e, fcC_e, fcK_e, evp, gt, st, putf, X.get, gets, ap, mkfr, rep, rdR, tupled, clV, clL, clS, clo, lens, lk, undef, Bool.not_true, Bool.not_false, Nat.reduceSub, beq_self_eq_true, true_and, decide_eq_true_eq, decide_eq_false_iff_not, Bool.not_eq_eq_eq_not, s66, r66, Fin]
  refine ⟨fun h => ?_, fun h => ?_⟩
  · have hd : decide (okL L) = false := decide_eq_false (fun ho => h ho.1)
    rw [hd] at hK
    exact res hK (by simp [leR])
  refine loop_at2 (G := Nat) (fun i => [(11, .int .i64 i)]) (fun i => []) (fun i => i ≤ L.length ∧ (L.take i).all sunE = true) (fun i => L.length - i) 0 ⟨Nat.zero_le _, by simp⟩ ?_
  (intro fr1 hf1; simp only [forget, dstC, dstO, st] at hf1; subst hf1)
  refine ⟨?_, ?_⟩
  · refine Lw_re 0 [] (Nat.zero_le _) (by simp [ln]) (by simp [ln]) rfl ?_ ?_
    · simp only [reL, reX, inb, ln, sts, st, and_self, Int.natCast_zero, implies_true]
    · simp only [reH, reN]
  · rintro i ⟨hi1, hp⟩
    have hsp : sunE (L.getD i (0, 0)) = decide ((0 ≤ lo L i ∧ lo L i ≤ 6000) ∧ (0 ≤ hi L i ∧ hi L i ≤ 6000)) := rfl
    have bad : i < L.length → ¬ ((0 ≤ lo L i ∧ lo L i ≤ 6000) ∧ (0 ≤ hi L i ∧ hi L i ≤ 6000)) → ∃ r', K r' ∧ leR 4 (.lit (.bool false)) r' := fun ha hb => by
      have hd : decide (okL L) = false := decide_eq_false (fun ho => by
        have h2 := ho.2
        rw [List.all_eq_true] at h2
        have := h2 _ (getD_memS ha)
        rw [hsp, decide_eq_true_eq] at this
        exact hb this)
      rw [hd] at hK
      exact res hK (by simp [leR])
    simp only [inr64, e_skip, e_reg, and_self, e_seq, e_cond, e_block, e_exit, e_ret, o_nil, o_cons, gd_none, gd_some, gdK_tf, gdK_ff, gdK_bf, putK_e, runK_e, skipK_e, vK_e, storeK3_e, storeK2_e, storeK_e, conK_e, callK_e, evh_v, evh_new, evh_store, evh_call, loopK_n, loopK_x, loopK_r, seqK_n, seqK_x, seqK_r, condK_t, condK_b, exitK_t, blockK_x, blockK_n, blockK_r, ends_r, endK1_e, endK2_e, gam_e, gamK_f, pc_e, pcK_e, fcC_e, fcK_e, evp, bin, gt, gq, st, putf, X.get, gets, ap, rdR, tupled, clV, clL, clS, clo, ld, lda, ixs, tk, dr, sp, sp.spl, ll, cs1, one, allOne, gb, sb, pb, ln, lk, undef, Bool.and_true, Bool.not_true, Bool.not_false, Nat.reduceAdd, beq_self_eq_true, true_and, decide_eq_true_eq, decide_eq_false_iff_not, Bool.not_eq_eq_eq_not, sts, Int.toNat_natCast, rowsS, Fin]
    refine ⟨fun h1 => ⟨⟨by omega, by omega⟩, fun h2 => ⟨fun h3 => bad (by omega) fun hh => h3 hh.2, fun h3 => ⟨by omega, ?_⟩⟩, fun h2 => bad (by omega) fun hh => h2 hh.1⟩, fun h1 => ?_⟩
    · have ha : i < L.length := by omega
      refine Nx.mk (i + 1) ⟨by omega, ?_⟩ (by show L.length - (i + 1) < L.length - i; omega) (Lw_re 0 [] (Nat.zero_le _) (by simp [ln]) (by simp [ln]) rfl ?_ ?_)
      · rw [allX_snoc ha, hp, hsp, decide_eq_true ⟨h2, h3⟩]; rfl
      · simp only [reL, reX, inb, and_self, Int.natCast_add, Int.natCast_one, implies_true]
      · simp only [reH, reN]
    · have : i = L.length := by omega
      subst this
      rw [List.take_length] at hp
      have hd : decide (okL L) = true := decide_eq_true ⟨h, hp⟩
      rw [hd] at hK
      exact res hK (by simp [leR])
end Go.Proofs.Ytjagiieconpgbaa
end
section
namespace Go.Proofs.Ytjagiieconpgbaa
open Go Go.Vg
set_option linter.unusedVariables false
set_option maxRecDepth 10000
def s115 : SC :=
  (.seq (.reg [⟨(some 4), none, .v (.off (.t 1) 0)⟩,
    ⟨(some 5), none, .v (.off (.t 4) 2)⟩,
    ⟨(some 6), none, .v (.off (.t 5) 0)⟩,
    ⟨(some 7), none, .v (.load (.t 6) none)⟩,
    ⟨(some 3), none, .v (.mov (.t 7))⟩])
  (.block 0 (.loop
    (.seq (.seq (.reg [⟨(some 8), none, .v (.mov (.t 3))⟩,
      ⟨(some 9), none, .v (.off (.t 1) 0)⟩,
      ⟨(some 10), none, .v (.off (.t 9) 2)⟩,
      ⟨(some 11), none, .v (.off (.t 10) 1)⟩,
      ⟨(some 12), none, .v (.load (.t 11) none)⟩,
      ⟨(some 13), none, .v (.bin .leq (.t 8) (.t 12))⟩])
    (.cond (.t 13)
      .skip
      (.exit 0)))
    (.seq (.block 1 (.seq (.reg [⟨(some 16), none, .v (.mov (.t 0))⟩,
      ⟨(some 17), none, .v (.mov (.t 3))⟩,
      ⟨(some 18), none, .call (.t 16) [(.t 17)]⟩,
      ⟨(some 19), none, .v (.not (.t 18))⟩])
    (.cond (.t 19)
      .ret
      .skip)))
    (.reg [⟨(some 14), none, .v (.mov (.t 3))⟩,
      ⟨(some 15), none, .v (.bin .add (.t 14) (.c (.int .i64 (1))))⟩,
      ⟨(some 3), none, .v (.mov (.t 15))⟩]))))))
def r115 : List RV := []
theorem k115 : (Try.f115.body.bind (cC Try.prog), cR Try.prog Try.f115.results.toList, Try.f115.ntmps) = (some s115, some r115, 20) := by kernel_rfl
def tn (o : Opr) (a : DT) : DT := .op o a .stop
def s67a0 : SC :=
  (.reg [⟨(some 9), none, .v (.mov (.t 20))⟩])
def o67b_0 : Opr := ⟨(some 32), none, .v (.load (.t 10) (some 2))⟩
def o67b_1 : Opr := ⟨(some 37), none, .call (.t 33) [(.t 35), (.t 36)]⟩
def o67b_2 : Opr := ⟨(some 38), none, .call (.c (.fn 90 [])) [(.t 37)]⟩
def o67b_3 : Opr := ⟨(some 41), none, .v (.load (.t 40) none)⟩
def o67b_4 : Opr := ⟨(some 42), none, .call (.c (.fn 102 [])) [(.t 41)]⟩
def o67b_5 : Opr := ⟨(some 43), none, .bsl 24 2 [(.int .i64 (0)), (.int .i64 (0)), (.int .i64 (0)), (.int .i64 (0))] [(0, 2, (.t 38)), (2, 2, (.t 42))]⟩
def o67b_6 : Opr := ⟨(some 44), none, .call (.c (.fn 89 [])) [(.t 43)]⟩
def o67b_7 : Opr := ⟨(some 45), none, .call (.c (.fn 101 [])) [(.t 32), (.t 44)]⟩
def o67b_8 : Opr := ⟨none, none, .store 2 (.t 10) (.t 45)⟩
def s67b0 : SC :=
  (.block 1 (.seq (.reg [⟨(some 21), none, .v (.load (.t 4) (some 2))⟩,
    ⟨(some 10), none, .new 24 [(.int .i64 (0)), (.int .i64 (0))]⟩,
    ⟨none, none, .store 2 (.t 10) (.t 21)⟩])
  (.seq (.seq (.reg [⟨(some 22), none, .v (.load (.t 5) none)⟩,
    ⟨(some 23), none, .v (.len (.t 22))⟩,
    ⟨(some 24), none, .v (.mov (.c (.int .i64 (0))))⟩])
  (.block 2 (.loop
    (.seq (.reg [⟨(some 25), none, .v (.bin .lss (.t 24) (.t 23))⟩])
    (.seq (.cond (.t 25)
      .skip
      (.exit 2))
    (.seq (.block 3 (.seq (.reg [⟨(some 26), none, .v (.ixa (.t 22) (.t 24) 2)⟩,
      ⟨(some 27), none, .v (.load (.t 26) (some 2))⟩,
      ⟨(some 12), none, .new 67 [(.int .i64 (0)), (.int .i64 (0))]⟩,
      ⟨none, none, .store 2 (.t 12) (.t 27)⟩])
    (.seq (.seq (.reg [⟨(some 28), none, .v (.load (.t 8) (some 2))⟩,
      ⟨(some 29), none, .v (.mov (.c (.int .i64 (0))))⟩])
    (.block 4 (.loop
      (.seq (.reg [⟨(some 30), none, .v (.bin .lss (.t 29) (.c (.int .i64 (2))))⟩])
      (.seq (.cond (.t 30)
        .skip
        (.exit 4))
      (.seq (.block 5 (.seq (.reg [⟨(some 31), none, .v (.ixv (.t 28) (.t 29) 2 1 none)⟩,
        ⟨(some 14), none, .v (.mov (.t 31))⟩])
      (.tre (tn ⟨(some 33), none, .v (.mov (.t 14))⟩ (tn ⟨(some 34), none, .v (.load (.t 12) (some 2))⟩ (tn ⟨(some 35), none, .bld [(.int .i64 (0)), (.int .i64
  (0))] [(0, 2, (.t 34))]⟩ (tn ⟨(some 36), none, .v (.mov (.t 9))⟩ (tn ⟨(some 39), none, .v (.off (.t 3) 0)⟩ (tn ⟨(some 40), none, .v (.off (.t 39) 4)⟩ (.op
  o67b_0 (.op o67b_1 (.op o67b_2 (tn o67b_3 (tn o67b_4 (tn o67b_5 (tn o67b_6 (tn o67b_7 (tn o67b_8 .leaf)))))) (tn o67b_3 (tn o67b_2 (tn o67b_4 (tn o67b_5
  (tn o67b_6 (tn o67b_7 (tn o67b_8 .leaf)))))))) (tn o67b_3 (tn o67b_1 (tn o67b_2 (tn o67b_4 (tn o67b_5 (tn o67b_6 (tn o67b_7 (tn o67b_8 .leaf))))))))) (.op
  o67b_1 (.op o67b_0 (.op o67b_2 (tn o67b_3 (tn o67b_4 (tn o67b_5 (tn o67b_6 (tn o67b_7 (tn o67b_8 .leaf)))))) (tn o67b_3 (tn o67b_2 (tn o67b_4 (tn o67b_5
  (tn o67b_6 (tn o67b_7 (tn o67b_8 .leaf)))))))) (.op o67b_2 (.op o67b_0 (tn o67b_3 (tn o67b_4 (tn o67b_5 (tn o67b_6 (tn o67b_7 (tn o67b_8 .leaf)))))) (tn
  o67b_3 (.op o67b_0 (tn o67b_4 (tn o67b_5 (tn o67b_6 (tn o67b_7 (tn o67b_8 .leaf))))) (tn o67b_4 (.op o67b_0 (tn o67b_5 (tn o67b_6 (tn o67b_7 (tn o67b_8
  .leaf)))) (tn o67b_5 (.op o67b_0 (tn o67b_6 (tn o67b_7 (tn o67b_8 .leaf))) (tn o67b_6 (tn o67b_0 (tn o67b_7 (tn o67b_8 .leaf))))))))))) (tn o67b_3 (.op
  o67b_0 (tn o67b_2 (tn o67b_4 (tn o67b_5 (tn o67b_6 (tn o67b_7 (tn o67b_8 .leaf)))))) (tn o67b_2 (.op o67b_0 (tn o67b_4 (tn o67b_5 (tn o67b_6 (tn o67b_7
  (tn o67b_8 .leaf))))) (tn o67b_4 (.op o67b_0 (tn o67b_5 (tn o67b_6 (tn o67b_7 (tn o67b_8 .leaf)))) (tn o67b_5 (.op o67b_0 (tn o67b_6 (tn o67b_7 (tn o67b_8
  .leaf))) (tn o67b_6 (tn o67b_0 (tn o67b_7 (tn o67b_8 .leaf)))))))))))))) (tn o67b_3 (.op o67b_0 (tn o67b_1 (tn o67b_2 (tn o67b_4 (tn o67b_5 (tn o67b_6
  (tn o67b_7 (tn o67b_8 .leaf))))))) (tn o67b_1 (.op o67b_0 (tn o67b_2 (tn o67b_4 (tn o67b_5 (tn o67b_6 (tn o67b_7 (tn o67b_8 .leaf)))))) (tn o67b_2 (.op
  o67b_0 (tn o67b_4 (tn o67b_5 (tn o67b_6 (tn o67b_7 (tn o67b_8 .leaf))))) (tn o67b_4 (.op o67b_0 (tn o67b_5 (tn o67b_6 (tn o67b_7 (tn o67b_8 .leaf)))) (tn
  o67b_5 (.op o67b_0 (tn o67b_6 (tn o67b_7 (tn o67b_8 .leaf))) (tn o67b_6 (tn o67b_0 (tn o67b_7 (tn o67b_8 .leaf)))))))))))))))))))))))))
      (.reg [⟨(some 46), none, .v (.bin .add (.t 29) (.c (.int .i64 (1))))⟩,
        ⟨(some 29), none, .v (.mov (.t 46))⟩])))))))
    (.seq (.drw [(0, ⟨(some 47), none, .v (.load (.t 10) (some 2))⟩, false),
      (1, ⟨(some 48), none, .call (.c (.fn 68 [])) []⟩, false)]
      none
      [⟨(some 49), none, .v (.eqs [(some .i64), (some .i64)] false (.t 47) (.t 48))⟩])
    (.cond (.t 49)
      (.exit 1)
      .skip)))))
    (.reg [⟨(some 50), none, .v (.bin .add (.t 24) (.c (.int .i64 (1))))⟩,
      ⟨(some 24), none, .v (.mov (.t 50))⟩])))))))
  (.drw [(0, ⟨(some 51), none, .v (.load (.t 6) (some 2))⟩, false),
    (1, ⟨(some 52), none, .v (.mov (.t 9))⟩, false),
    (2, ⟨(some 53), none, .call (.c (.fn 90 [])) [(.t 52)]⟩, false),
    (3, ⟨(some 54), none, .call (.c (.fn 103 [])) [(.t 51), (.t 53)]⟩, false),
    (4, ⟨(some 55), none, .v (.load (.t 7) (some 2))⟩, false),
    (5, ⟨(some 56), none, .v (.load (.t 10) (some 2))⟩, false)]
    none
    [⟨(some 57), none, .call (.c (.fn 103 [])) [(.t 55), (.t 56)]⟩,
    ⟨none, none, .store 2 (.t 6) (.t 54)⟩,
    ⟨none, none, .store 2 (.t 7) (.t 57)⟩]))))
def o67m_0 : Opr := ⟨(some 59), none, .v (.load (.t 7) (some 2))⟩
def o67m_1 : Opr := ⟨none, none, .store 2 (.t 6) (.t 58)⟩
def o67m_2 : Opr := ⟨none, none, .store 2 (.t 7) (.t 59)⟩
noncomputable def s67 : SC :=
  (.seq (.reg [⟨(some 3), none, .box 89 (.t 0)⟩,
    ⟨(some 4), none, .box 24 (.t 1)⟩,
    ⟨(some 5), none, .box 37 (.t 2)⟩,
    ⟨(some 6), none, .new 24 [(.int .i64 (0)), (.int .i64 (0))]⟩,
    ⟨(some 7), none, .new 24 [(.int .i64 (0)), (.int .i64 (0))]⟩])
  (.scp (.seq (.reg [⟨(some 15), none, .call (.c (.fn 68 [])) []⟩,
    ⟨(some 16), none, .call (.c (.fn 68 [])) []⟩,
    ⟨none, none, .store 2 (.t 6) (.t 15)⟩,
    ⟨none, none, .store 2 (.t 7) (.t 16)⟩])
  (.seq (.reg [⟨(some 17), none, .bld [(.lit .nilFunc), (.lit .nilFunc)] [(0, 1, (.c (.fn 98 []))), (1, 1, (.c (.fn 99 [])))]⟩,
    ⟨(some 8), none, .new 138 [(.lit .nilFunc), (.lit .nilFunc)]⟩,
    ⟨none, none, .store 2 (.t 8) (.t 17)⟩])
  (.seq .skip
  (.seq (.seq (.reg [⟨(some 18), none, .v (.load (.t 3) (some 6))⟩,
    ⟨(some 19), none, .call (.c (.fn 100 [])) [(.t 18)]⟩])
  (.block 0 (.sem (rg Try.f67 0))))
  (.seq (.tre (.op ⟨(some 58), none, .v (.load (.t 6) (some 2))⟩ (.op o67m_0 (tn o67m_1 (tn o67m_2 .leaf)) (tn o67m_1 (tn o67m_0 (tn o67m_2 .leaf)))) (tn o67m_0
  (tn ⟨(some 58), none, .v (.load (.t 6) (some 2))⟩ (tn o67m_1 (tn o67m_2 .leaf))))))
  .ret)))))))
def r67 : List RV := [.c 6 (some 2), .c 7 (some 2)]
theorem k67a0 : cC Try.prog (rgA (rg Try.f67 0)) = some s67a0 := by kernel_rfl
theorem k67b0 : cC Try.prog (rgB (rg Try.f67 0)) = some s67b0 := by kernel_rfl
theorem k67 : (Try.f67.body.bind (cC Try.prog), cR Try.prog Try.f67.results.toList, Try.f67.ntmps) = (some s67, some r67, 60) := by kernel_rfl
theorem q67 : Known Try.prog 67 := ⟨_, Try.func67, by decide, by simp [Try.f67]⟩
theorem c67r : rIs (rg Try.f67 0) = true := by kernel_rfl
theorem c67q : (rgQ (rg Try.f67 0)).toList = [20] := by kernel_rfl
theorem c67o : cX (rgO (rg Try.f67 0)) = some (.t 19) := by kernel_rfl
def nowS (w : Int) (D : Int × Int) (L : List (Int × Int)) (i : Int) : Nat → Int × Int
  | 0 => D
  | k + 1 => cmn (cmn (nowS w D L i k) (lo L k + i + -w, lo L k + i + w)) (hi L k - i + -w, hi L k - i + w)
def accS (a w : Int) (D : Int × Int) (L : List (Int × Int)) : Nat → (Int × Int) × (Int × Int)
  | 0 => ((1, 0), (1, 0))
  | n + 1 => if nowS w D L (a + n) L.length = (1, 0) then accS a w D L n else (arn (accS a w D L n).1 (a + n, a + n), arn (accS a w D L n).2 (nowS w D L (a + n) L.length))
theorem cmn_no {q : Int × Int} : cmn (1, 0) q = (1, 0) := by
  unfold cmn; simp only; split
  · omega
  · rfl
theorem nowS_no {w : Int} {D : Int × Int} {L : List (Int × Int)} {i : Int} : ∀ {k m : Nat}, nowS w D L i k = (1, 0) → nowS w D L i (k + m) = (1, 0)
  | k, 0, h => h
  | k, m + 1, h => by
    have := nowS_no (m := m) h
    rw [← Nat.add_assoc]
    simp only [nowS, this, cmn_no]
theorem cmn_bnd {p q : Int × Int} {M : Int} (hM : 1 ≤ M) (h : (-M ≤ p.1 ∧ p.1 ≤ M) ∧ (-M ≤ p.2 ∧ p.2 ≤ M)) (h' : (-M ≤ q.1 ∧ q.1 ≤ M) ∧ (-M ≤ q.2 ∧ q.2 ≤ M)) : (-M ≤ (cmn p q).1 ∧ (cmn p q).1 ≤ M) ∧ (-M ≤ (cmn p q).2 ∧ (cmn p q).2 ≤ M) := by
  unfold cmn; split <;> simp only <;> omega
def nowR (w : Int) (D : Int × Int) (L : List (Int × Int)) (i : Int) (k : Nat) : Nat → Int × Int
  | 0 => nowS w D L i k
  | 1 => cmn (nowS w D L i k) (lo L k + i + -w, lo L k + i + w)
  | _ => nowS w D L i (k + 1)
theorem sunB {L : List (Int × Int)} (h : okL L) {k : Nat} (hk : k < L.length) : (0 ≤ lo L k ∧ lo L k ≤ 6000) ∧ (0 ≤ hi L k ∧ hi L k ≤ 6000) := by
  have h2 := h.2
  rw [List.all_eq_true] at h2
  have := h2 _ (getD_memS hk)
  unfold sunE at this
  rw [decide_eq_true_eq] at this
  exact this
theorem nowS_bnd {w : Int} {D : Int × Int} {L : List (Int × Int)} {i : Int} (hL : okL L) (hD : (1 ≤ D.1 ∧ D.1 ≤ D.2) ∧ D.2 ≤ 4000) (hi' : -1800 ≤ i ∧ i ≤ 1800) (hw : 0 ≤ w ∧ w ≤ 60) : ∀ k, k ≤ L.length → (-10000 ≤ (nowS w D L i k).1 ∧ (nowS w D L i k).1 ≤ 10000) ∧ (-10000 ≤ (nowS w D L i k).2 ∧ (nowS w D L i k).2 ≤ 10000)
  | 0, _ => by simp only [nowS]; omega
  | k + 1, hk => by
    have h := nowS_bnd (L := L) (w := w) (i := i) hL hD hi' hw k (by omega)
    have hs := sunB hL (show k < L.length by omega)
    simp only [nowS]
    exact cmn_bnd (by omega) (cmn_bnd (by omega) h (by simp only; omega)) (by simp only; omega)
theorem arn_bnd {p q : Int × Int} {M : Int} (h : (-M ≤ p.1 ∧ p.1 ≤ M) ∧ (-M ≤ p.2 ∧ p.2 ≤ M)) (h' : (-M ≤ q.1 ∧ q.1 ≤ M) ∧ (-M ≤ q.2 ∧ q.2 ≤ M)) : (-M ≤ (arn p q).1 ∧ (arn p q).1 ≤ M) ∧ (-M ≤ (arn p q).2 ∧ (arn p q).2 ≤ M) := by
  unfold arn; split <;> first | (simp only; omega) | omega
theorem accS_bnd {a w : Int} {D : Int × Int} {L : List (Int × Int)} (hL : okL L) (hD : (1 ≤ D.1 ∧ D.1 ≤ D.2) ∧ D.2 ≤ 4000) (ha : -1800 ≤ a) (hw : 0 ≤ w ∧ w ≤ 60) : ∀ {n : Nat}, a + n ≤ 1801 →
    ((-10000 ≤ (accS a w D L n).1.1 ∧ (accS a w D L n).1.1 ≤ 10000) ∧ (-10000 ≤ (accS a w D L n).1.2 ∧ (accS a w D L n).1.2 ≤ 10000)) ∧ ((-10000 ≤ (accS a w D L n).2.1 ∧ (accS a w D L n).2.1 ≤ 10000) ∧ (-10000 ≤ (accS a w D L n).2.2 ∧ (accS a w D L n).2.2 ≤ 10000))
  | 0, _ => by simp only [accS]; omega
  | n + 1, h => by
    have h1 := accS_bnd (L := L) (w := w) (D := D) hL hD ha hw (n := n) (by omega)
    have h2 := nowS_bnd (L := L) (w := w) (D := D) (i := a + n) hL hD (by omega) hw L.length (Nat.le_refl _)
    simp only [accS]
    split
    · exact h1
    · exact ⟨arn_bnd h1.1 (by simp only; omega), arn_bnd h1.2 h2⟩
theorem row4_0 {x y z u : SV} : rowOf 2 [x, y, z, u] 0 = [x, y] := rfl
theorem row4_1 {x y z u : SV} : rowOf 2 [x, y, z, u] 1 = [z, u] := rfl
theorem rlo4 {a b c d : Int} : rlo (rowOf 2 [.int .i64 a, .int .i64 b, .int .i64 c, .int .i64 d]) 0 = a ∧ rlo (rowOf 2 [.int .i64 a, .int .i64 b, .int .i64 c, .int .i64 d]) 1 = c := ⟨rfl, rfl⟩
theorem rhi4 {a b c d : Int} : rhi (rowOf 2 [.int .i64 a, .int .i64 b, .int .i64 c, .int .i64 d]) 0 = b ∧ rhi (rowOf 2 [.int .i64 a, .int .i64 b, .int .i64 c, .int .i64 d]) 1 = d := ⟨rfl, rfl⟩
def C67 : PC := fun args K => ∃ (v : Sx) (D : Int × Int) (L : List (Int × Int)), args = [v.sv, .agg [.int .i64 D.1, .int .i64 D.2], .rd 2 L.length (rowsS L)] ∧ v.ok ∧ ((1 ≤ D.1 ∧ D.1 ≤ D.2) ∧ D.2 ≤ 4000) ∧ okL L ∧
  K (.tup [.agg [.int .i64 (accS v.a v.w D L (v.b - v.a + 1).toNat).1.1, .int .i64 (accS v.a v.w D L (v.b - v.a + 1).toNat).1.2], .agg [.int .i64 (accS v.a v.w D L (v.b - v.a + 1).toNat).2.1, .int .i64 (accS v.a v.w D L (v.b - v.a + 1).toNat).2.2]])
set_option maxHeartbeats 2000000 in
theorem p67 : PureOk Try.prog 67 C67 := by
  have hT : TabOk Try.prog [(68, .fc F68), (100, .fc F100), (98, .fc F98), (99, .fc F99), (90, .fc F90), (102, .fc F102), (89, .fc F89), (101, .fc F101), (103, .fc F103)] :=
    ⟨⟨p68, q68⟩, ⟨p100, q100⟩, ⟨p98, q98⟩, ⟨p99, q99⟩, ⟨p90, q90⟩, ⟨p102, q102⟩, ⟨p89', q89⟩, ⟨p101, q101⟩, ⟨p103, q103⟩, trivial⟩
  refine pure_of hT Try.func67 k67 ?_
  rintro args K ⟨v, D, L, rfl, hok, hD, hL, hK⟩
  have hab := hok.2.1
  have hw := hok.2.2.1
  obtain ⟨step, T, a, b, w, S⟩ := v
  simp only at hab hw hK
  simp only [Sx.sv]
  simp only [↓reduceIte, e_skip, e_reg, and_self, e_seq, e_block, e_scp, o_nil, o_cons, gd_none, putK_e, runK_e, vK_e, boxK_e, bldK_e, storeK3_e, storeK2_e, storeK_e, conK_e, callK_e, evh_v, evh_new, evh_box, evh_bld, evh_store, evh_call, seqK_n, gam_e, gamK_f, pc_e, pcK_e, fcC_e, fcK_e, evp, gt, st, putf, X.get, gets, getp, ap, mkfr, rep, clV, clL, clS, clo, ld, lda, tk, dr, sp, sp.spl, lay, ll, cs1, one, allOne, gb, sb, pb, ln, lk, Value.oneCell', undef, Bool.and_true, Nat.reduceSub, Nat.reduceAdd, Nat.reduceBEq, beq_self_eq_true, true_and, s67, r67, F68, F100, e_sem]
  obtain ⟨F0, hF0⟩ : ∃ F0 : List SV, (mkfr [.agg [.int .i64 step, .rd 2 T.length (rowsS T), .int .i64 a, .int .i64 b, .int .i64 w, .rd 2 S.length (rowsS S)], .agg [.int .i64 D.1, .int .i64 D.2], .rd 2 L.length (rowsS L), .ptr 0 0, .ptr 1 0, .ptr 2 0, .ptr 3 0, .ptr 4 0, .ptr 5 0, .lit undef, .lit undef, .lit undef, .lit undef, .lit undef, .lit undef, .agg [.int .i64 1, .int .i64 0], .agg [.int .i64 1, .int .i64 0], .agg [.fn 98 [], .fn 99 []], .agg [.int .i64 step, .rd 2 T.length (rowsS T), .int .i64 a, .int .i64 b, .int .i64 w, .rd 2 S.length (rowsS S)], .fn 115 [.rp [.int .i64 step, .rd 2 T.length (rowsS T), .int .i64 a, .int .i64 b, .int .i64 w, .rd 2 S.length (rowsS S)] 0]] 60) = F0 := ⟨_, rfl⟩
  have rF : ∀ n, 8 ≤ n → reL n n [] F0 F0 = True := fun n hn => by
    rw [← hF0]
    have h0 : 0 < n := by omega
    have h1 : 1 < n := by omega
    have h2 : 2 < n := by omega
    have h3 : 3 < n := by omega
    have h4 : 4 < n := by omega
    have h5 : 5 < n := by omega
    simp only [reL, reX, Nat.reduceSub, inb, inb.inbs, Bool.and_self, decide_true, and_self, implies_true, mkfr, rep, Nat.reduceSub, h0, h1, h2, h3, h4, h5, undef]
  have rF8 := rF 8 (by omega)
  have rF9 := rF 9 (by omega)
  have rF10 := rF 10 (by omega)
  clear rF
  refine sem_ofF hT c67r c67q (F0 := F0) (by rw [← hF0]; rfl) c67o rfl Try.func115 (by decide) k115 rfl ?_
  simp only [e_reg, e_seq, e_block, e_loop, o_nil, o_cons, gd_none, putK_e, runK_e, vK_e, evh_v, seqK_n, evp, gt, gq, st, putf, X.get, mkfr, rep, ld, lda, pb, ln, undef, Nat.reduceSub, Nat.reduceAdd, true_and, s115]
  refine loop_at2 (G := Nat) (fun n => [(3, .int .i64 (a + n))]) (fun n => [.box 89 [.int .i64 step, .rd 2 T.length (rowsS T), .int .i64 a, .int .i64 b, .int .i64 w, .rd 2 S.length (rowsS S)], .box 24 [.int .i64 D.1, .int .i64 D.2], .box 37 [.rd 2 L.length (rowsS L)], .box 24 [.int .i64 (accS a w D L n).1.1, .int .i64 (accS a w D L n).1.2], .box 24 [.int .i64 (accS a w D L n).2.1, .int .i64 (accS a w D L n).2.2], .box 138 [.fn 98 [], .fn 99 []], .ob .df, .ob (.wl .ready none F0 [20] (rgA (rg Try.f67 0)) (rgB (rg Try.f67 0)) 6)]) (fun n => a + n ≤ b + 1) (fun n => (b + 1 - a - n).toNat) 0 (by omega) ?_
  (intro fr1 hf1; simp only [forget, dstC, dstO, st] at hf1; subst hf1)
  refine ⟨?_, ?_⟩
  · refine Lw_re 8 [] (by omega) (by simp [ln]) (by simp [ln]) rfl ?_ ?_
    · simp only [reL, reX, inb, ln, sts, st, Nat.reduceLT, Nat.reduceAdd, decide_true, and_self, Int.natCast_zero, Int.add_zero]
    · simp only [reL, reX, reH, reB, reN, inb, inb.inbs, ln, Nat.reduceLT, Nat.reduceAdd, and_self, implies_true, rF8, accS]
  · intro n hn
    by_cases hb : a + n ≤ b
    · have hbT : (a + (n : Int) ≤ b) = True := by simp [hb]
      simp only [condK_bt, decide_true, e_skip, e_reg, e_seq, e_cond, e_block, o_nil, o_cons, gd_none, putK_e, runK_e, vK_e, evh_v, evh_call, seqK_n, evp, bin, gt, gq, st, putf, X.get, gets, ld, lda, Nat.reduceAdd, true_and, sts, hbT, callK_y]
      refine yld_ofF hT hF0 k67a0 k67b0 rfl rfl (by rfl) rfl ?_
      simp only [e_reg, o_nil, o_cons, gd_none, putK_e, runK_e, vK_e, evh_v, evp, gt, st, putf, X.get, mkfr, rep, gb, ln, undef, Nat.reduceSub, Nat.reduceAdd, true_and, s67a0, setL, mkfr, rep]
      refine ⟨fun _ _ _ _ _ _ h => by cases h; rfl, ?_⟩
      simp only [e_reg, and_self, e_seq, e_block, e_loop, o_nil, o_cons, gd_none, putK_e, runK_e, vK_e, storeK3_e, storeK2_e, storeK_e, evh_v, evh_new, evh_store, seqK_n, evp, gt, gq, st, putf, X.get, ld, lda, lens, tk, dr, sp, sp.spl, ll, cs1, one, allOne, gb, sb, pb, ln, Bool.and_true, Nat.reduceAdd, true_and, yK1, s67b0]
      refine loop_at2 (G := Nat) (fun k => [(24, .int .i64 k)]) (fun k => [.box 89 [.int .i64 step, .rd 2 T.length (rowsS T), .int .i64 a, .int .i64 b, .int .i64 w, .rd 2 S.length (rowsS S)], .box 24 [.int .i64 D.1, .int .i64 D.2], .box 37 [.rd 2 L.length (rowsS L)], .box 24 [.int .i64 (accS a w D L n).1.1, .int .i64 (accS a w D L n).1.2], .box 24 [.int .i64 (accS a w D L n).2.1, .int .i64 (accS a w D L n).2.2], .box 138 [.fn 98 [], .fn 99 []], .ob .df, .ob (.wl .busy none F0 [20] (rgA (rg Try.f67 0)) (rgB (rg Try.f67 0)) 6), .box 24 [.int .i64 (nowS w D L (a + n) k).1, .int .i64 (nowS w D L (a + n) k).2]]) (fun k => k ≤ L.length ∧ nowS w D L (a + n) k ≠ (1, 0)) (fun k => L.length - k) 0 ⟨Nat.zero_le _, by simp only [nowS]; intro e; rw [e] at hD; omega⟩ ?_
      (intro fr1 hf1; simp only [forget, dstC, dstT, dstO, dstD, dst1, st, tn, o67b_0, o67b_1, o67b_2, o67b_3, o67b_4, o67b_5, o67b_6, o67b_7, o67b_8] at hf1; subst hf1)
      refine ⟨?_, ?_⟩
      · refine Lw_re 9 [] (by simp []) (by simp [ln]) (by simp [ln]) rfl ?_ ?_
        · simp only [reL, reX, inb, inb.inbs, ln, sts, st, Bool.and_self, Nat.reduceLT, Nat.reduceAdd, decide_true, and_self, Int.natCast_zero, implies_true]
        · simp only [reL, reX, reH, reB, reN, inb, inb.inbs, ln, Nat.reduceLT, Nat.reduceAdd, and_self, implies_true, rF9, nowS]
      · rintro k ⟨hk1, hk2⟩
        by_cases hk : k < L.length
        · have hkT : ((k : Int) < L.length) = True := by simp [hk]
          have hLk := sunB hL hk
          have hLn := hL.1
          simp only [condK_bt, decide_true, ne_eq, e_skip, e_reg, and_self, e_seq, e_cond, e_block, e_loop, o_nil, o_cons, gd_none, putK_e, runK_e, vK_e, storeK3_e, storeK2_e, storeK_e, evh_v, evh_new, evh_store, seqK_n, evp, bin, gt, st, putf, X.get, ld, lda, ixs, tk, dr, sp, sp.spl, ll, cs1, one, allOne, gb, sb, pb, ln, Bool.and_true, Nat.reduceAdd, true_and, and_true, sts, Int.toNat_natCast, rowsS, hkT]
          refine ⟨by omega, ?_⟩
          refine loop_at2 (G := Nat) (fun r => [(29, .int .i64 r)]) (fun r => [.box 89 [.int .i64 step, .rd 2 T.length (rowsS T), .int .i64 a, .int .i64 b, .int .i64 w, .rd 2 S.length (rowsS S)], .box 24 [.int .i64 D.1, .int .i64 D.2], .box 37 [.rd 2 L.length (rowsS L)], .box 24 [.int .i64 (accS a w D L n).1.1, .int .i64 (accS a w D L n).1.2], .box 24 [.int .i64 (accS a w D L n).2.1, .int .i64 (accS a w D L n).2.2], .box 138 [.fn 98 [], .fn 99 []], .ob .df, .ob (.wl .busy none F0 [20] (rgA (rg Try.f67 0)) (rgB (rg Try.f67 0)) 6), .box 24 [.int .i64 (nowR w D L (a + n) k r).1, .int .i64 (nowR w D L (a + n) k r).2], .box 67 [.int .i64 (lo L k), .int .i64 (hi L k)]]) (fun r => r ≤ 2) (fun r => 2 - r) 0 (by omega) ?_
          (intro fr1 hf1; simp only [forget, dstC, dstT, dstO, dst1, st, tn, o67b_0, o67b_1, o67b_2, o67b_3, o67b_4, o67b_5, o67b_6, o67b_7, o67b_8] at hf1; subst hf1)
          refine ⟨?_, ?_⟩
          · refine Lw_re 10 [] (by simp []) (by simp [ln]) (by simp [ln]) rfl ?_ ?_
            · simp only [reL, reX, inb, inb.inbs, ln, sts, st, Bool.and_self, Nat.reduceLT, Nat.reduceAdd, decide_true, and_self, Int.natCast_zero, implies_true]
            · simp only [reL, reX, reH, reB, reN, inb, inb.inbs, ln, Nat.reduceLT, Nat.reduceAdd, and_self, implies_true, rF10, nowR]
          · intro r hr
            rcases (show r = 0 ∨ r = 1 ∨ r = 2 by omega) with rfl | rfl | rfl
            · have z2 : ((0 : Int) < 2) = True := by simp
              simp (maxSteps := 3000000) only [condK_bt, decide_true, inr64, e_skip, e_reg, e_tre, t_leaf, t_stop, t_op, and_self, e_seq, e_cond, e_block, o_nil, o_cons, gd_none, putK_e, runK_e, vK_e, bslK_e, bldK_e, storeK3_e, storeK2_e, storeK_e, conK_e, callK_e, evh_v, evh_bsl, evh_bld, evh_store, evh_call, loopK_n, seqK_n, blockK_n, gam_e, gamK_f, pc_e, pcK_e, fcC_e, fcK_e, evp, bin, gt, gq, st, putf, X.get, gets, getp, ap, clV, clL, clS, clo, ld, lda, tk, dr, sp, sp.spl, lay, ll, cs1, one, allOne, gb, sb, pb, ln, lk, Value.oneCell', Bool.and_true, Nat.reduceSub, Nat.reduceAdd, Nat.reduceMul, Nat.reduceDiv, Nat.reduceBEq, beq_self_eq_true, true_and, and_true, sts, Int.natCast_zero, Int.reduceToNat, z2, tn, o67b_0, o67b_1, o67b_2, o67b_3, o67b_4, o67b_5, o67b_6, o67b_7, o67b_8, F98, F90, F102, F89, F101, toInts, row4_0, row4_1, rlo4, rhi4, nowR]
              refine ⟨by omega, by omega, by omega, by omega, by omega, ?_⟩
              refine Nx.mk 1 (by omega) (by omega) (Lw_re 10 [] (by simp []) (by simp [ln]) (by simp [ln]) rfl ?_ ?_)
              · simp only [reL, reX, inb, inb.inbs, Bool.and_self, Nat.reduceLT, decide_true, and_self, Int.natCast_one, Int.zero_add, implies_true]
              · simp only [reL, reX, reH, reB, reN, inb, inb.inbs, ln, Nat.reduceLT, Nat.reduceAdd, and_self, implies_true, rF10]
            · have z2 : ((1 : Int) < 2) = True := by simp
              simp (maxSteps := 3000000) only [condK_bt, decide_true, inr64, e_skip, e_reg, e_tre, t_leaf, t_stop, t_op, and_self, e_seq, e_cond, e_block, o_nil, o_cons, gd_none, putK_e, runK_e, vK_e, bslK_e, bldK_e, storeK3_e, storeK2_e, storeK_e, conK_e, callK_e, evh_v, evh_bsl, evh_bld, evh_store, evh_call, loopK_n, seqK_n, blockK_n, gam_e, gamK_f, pc_e, pcK_e, fcC_e, fcK_e, evp, bin, gt, gq, st, putf, X.get, gets, getp, ap, clV, clL, clS, clo, ld, lda, tk, dr, sp, sp.spl, lay, ll, cs1, one, allOne, gb, sb, pb, ln, lk, Value.oneCell', Bool.and_true, Nat.reduceSub, Nat.reduceAdd, Nat.reduceMul, Nat.reduceDiv, Nat.reduceBEq, beq_self_eq_true, true_and, and_true, sts, Int.natCast_one, Int.reduceToNat, z2, tn, o67b_0, o67b_1, o67b_2, o67b_3, o67b_4, o67b_5, o67b_6, o67b_7, o67b_8, F99, F90, F102, F89, F101, toInts, row4_0, row4_1, rlo4, rhi4, nowR]
              refine ⟨by omega, by omega, by omega, by omega, by omega, ?_⟩
              refine Nx.mk 2 (by omega) (by omega) (Lw_re 10 [] (by simp []) (by simp [ln]) (by simp [ln]) rfl ?_ ?_)
              · simp only [reL, reX, inb, inb.inbs, Bool.and_self, Nat.reduceLT, decide_true, true_and, and_true, and_self, Int.reduceAdd, implies_true]
                rfl
              · simp only [reL, reX, reH, reB, reN, inb, inb.inbs, ln, Nat.reduceLT, Nat.reduceAdd, and_self, implies_true, rF10, nowS]
            · have z2 : (((2 : Nat) : Int) < 2) = False := by simp
              have hnb := nowS_bnd (w := w) (i := a + n) hL hD (by omega) hw (k + 1) (by omega)
              by_cases he : nowS w D L (a + n) (k + 1) = (1, 0)
              · have he1 : ((nowS w D L (a + n) (k + 1)).1 = 1 ∧ (nowS w D L (a + n) (k + 1)).2 = 0) = True := by rw [he]; simp
                have hend : nowS w D L (a + n) L.length = (1, 0) := by
                  have := nowS_no (m := L.length - (k + 1)) he
                  rwa [show k + 1 + (L.length - (k + 1)) = L.length by omega] at this
                have hacc : accS a w D L (n + 1) = accS a w D L n := by simp only [accS, if_pos hend]
                simp only [condK_bt, condK_bf, decide_true, decide_false, inr64, List.cons.injEq, e_skip, e_reg, e_drw, e_seq, e_cond, e_exit, o_nil, o_cons, gd_none, putK_e, runK_e, vK_e, evh_v, dX_e, dG_t, d_nil, d_cons, tlK_n, loopK_n, loopK_x, seqK_n, seqK_x, condK_f, exitK_t, exitK_f, blockK_x, blockK_n, gamq_e, gamqK_f, evp, fit, InQ, bin, gt, st, putf, X.get, gets, ap, clo.clos, ld, lda, tk, dr, gb, sb, lk, evq, gdl, Bool.not_true, cond_false, Nat.reduceSub, Nat.reduceBEq, beq_self_eq_true, true_and, and_true, sts, z2, nowR, F68, he1, yK2]
                refine ⟨by omega, by omega, ?_⟩
                refine Nx.mk (n + 1) (by omega) (by omega) (Lw_re 8 [] (by omega) (by simp [ln]) (by simp [ln]) rfl ?_ ?_)
                · simp only [reL, reX, inb, Nat.reduceLT, decide_true, and_self, Int.natCast_add, Int.natCast_one, Int.add_assoc]
                · simp only [reL, reX, reH, reB, reN, inb, inb.inbs, ln, Nat.reduceLT, Nat.reduceAdd, and_self, implies_true, rF8, hacc]
              · have he1 : ((nowS w D L (a + n) (k + 1)).1 = 1 ∧ (nowS w D L (a + n) (k + 1)).2 = 0) = False := by
                  simp only [eq_iff_iff, iff_false]
                  intro hh; exact he (Prod.ext hh.1 hh.2)
                simp only [condK_bf, decide_false, inr64, List.cons.injEq, e_skip, e_reg, e_drw, e_seq, e_cond, e_exit, o_nil, o_cons, gd_none, putK_e, runK_e, vK_e, evh_v, dX_e, dG_t, d_nil, d_cons, tlK_n, loopK_n, loopK_x, seqK_n, seqK_x, exitK_t, blockK_x, blockK_n, gamq_e, gamqK_f, evp, fit, InQ, bin, gt, st, putf, X.get, gets, ap, clo.clos, ld, lda, tk, dr, gb, lk, evq, gdl, Bool.not_false, cond_false, Nat.reduceSub, beq_self_eq_true, true_and, and_true, sts, z2, nowR, F68, he1]
                refine ⟨by omega, by omega, ?_⟩
                refine Nx.mk (k + 1) ⟨by omega, he⟩ (by omega) (Lw_re 9 [] (by simp []) (by simp [ln]) (by simp [ln]) rfl ?_ ?_)
                · simp only [reL, reX, inb, inb.inbs, Bool.and_self, Nat.reduceLT, decide_true, and_self, Int.natCast_add, Int.natCast_one, implies_true]
                · simp only [reL, reX, reH, reB, reN, inb, inb.inbs, ln, Nat.reduceLT, Nat.reduceAdd, and_self, implies_true, rF9]
        · have hkF : ((k : Int) < L.length) = False := by simp; omega
          have hkl : k = L.length := by omega
          subst hkl
          have hacc : accS a w D L (n + 1) = (arn (accS a w D L n).1 (a + n, a + n), arn (accS a w D L n).2 (nowS w D L (a + n) L.length)) := by simp only [accS, if_neg hk2]
          have hb1 := accS_bnd (a := a) (w := w) (D := D) hL hD (by omega) hw (n := n) (by omega)
          simp only [condK_bf, decide_false, inr64, ne_eq, e_skip, e_reg, and_self, e_drw, e_seq, e_cond, e_exit, o_nil, o_cons, gd_none, putK_e, runK_e, vK_e, storeK3_e, storeK2_e, storeK_e, conK_e, callK_e, evh_v, evh_store, evh_call, dX_e, dG_t, d_nil, d_cons, tlK_n, loopK_n, loopK_x, seqK_n, seqK_x, condK_f, exitK_t, blockK_x, blockK_n, gam_e, gamK_f, gamq_e, gamqK_f, pc_e, pcK_e, fcC_e, fcK_e, evp, bin, gt, st, putf, X.get, gets, ap, clV, clL, clS, clo, clo.clos, ld, lda, tk, dr, sp, sp.spl, ll, cs1, one, allOne, gb, sb, lk, evq, gdl, Value.oneCell', Bool.and_true, Nat.reduceAdd, Nat.reduceBEq, beq_self_eq_true, true_and, sts, hkF, F90, F103, yK2]
          refine ⟨by omega, by omega, by omega, ?_⟩
          refine Nx.mk (n + 1) (by omega) (by omega) (Lw_re 8 [] (by omega) (by simp [ln]) (by simp [ln]) rfl ?_ ?_)
          · simp only [reL, reX, inb, Nat.reduceLT, decide_true, and_self, Int.natCast_add, Int.natCast_one, Int.add_assoc]
          · simp only [reL, reX, reH, reB, reN, inb, inb.inbs, ln, Nat.reduceLT, Nat.reduceAdd, and_self, implies_true, rF8, hacc]
    · have hbF : (a + (n : Int) ≤ b) = False := by simp; omega
      simp only [condK_bf, decide_false, ne_eq, not_false_eq_true, reduceCtorEq, e_reg, e_tre, t_leaf, t_stop, t_op, and_self, e_seq, e_cond, e_exit, e_ret, scpK_r, o_nil, o_cons, gd_none, putK_e, runK_e, vK_e, storeK3_e, storeK2_e, storeK_e, evh_v, evh_store, loopK_x, seqK_n, seqK_x, exitK_t, blockK_x, blockK_n, ends_r, endK1_e, endK2_e, evp, bin, gt, gq, st, putf, X.get, rdR, tupled, clV, clL, clS, clo, ld, lda, tk, dr, sp, sp.spl, ll, cs1, one, allOne, gb, sb, Bool.and_true, Nat.reduceAdd, beq_self_eq_true, true_and, and_true, sts, hbF, rK, tn, o67m_0, o67m_1, o67m_2, ne_eq, true_or]
      have hnn : (b - a + 1).toNat = n := by omega
      rw [hnn] at hK
      exact res hK (by simp [leR, leR.leRs])
end Go.Proofs.Ytjagiieconpgbaa
end
section
namespace Go.Proofs.Ytjagiieconpgbaa
open Go Go.Vg
set_option linter.unusedVariables false
set_option maxRecDepth 10000
def s22 : SC :=
  (.seq (.reg [⟨(some 3), none, .box 26 (.t 0)⟩,
    ⟨(some 4), none, .box 24 (.t 1)⟩,
    ⟨(some 6), none, .new 24 [(.int .i64 (0)), (.int .i64 (0))]⟩,
    ⟨(some 7), none, .new 24 [(.int .i64 (0)), (.int .i64 (0))]⟩,
    ⟨(some 8), none, .v (.mov (.c (.int .i64 (0))))⟩])
  (.seq (.seq (.reg [⟨(some 10), none, .v (.load (.t 3) (some 6))⟩,
    ⟨(some 11), none, .call (.c (.fn 17 [])) [(.t 10)]⟩,
    ⟨(some 9), none, .v (.mov (.t 11))⟩])
  (.seq (.reg [⟨(some 12), none, .v (.mov (.t 9))⟩,
    ⟨(some 13), none, .v (.bin .neq (.t 12) (.c (.int .i64 (0))))⟩])
  (.cond (.t 13)
    (.seq (.reg [⟨(some 14), none, .bld [(.int .i64 (0)), (.int .i64 (0))] []⟩,
      ⟨(some 15), none, .bld [(.int .i64 (0)), (.int .i64 (0))] []⟩,
      ⟨(some 16), none, .v (.mov (.t 9))⟩,
      ⟨none, none, .store 2 (.t 6) (.t 14)⟩,
      ⟨none, none, .store 2 (.t 7) (.t 15)⟩,
      ⟨(some 8), none, .v (.mov (.t 16))⟩])
    .ret)
    .skip)))
  (.seq (.seq (.reg [⟨(some 17), none, .v (.load (.t 4) (some 2))⟩,
    ⟨(some 18), none, .call (.c (.fn 65 [])) [(.t 17), (.c (.int .i64 (1))), (.c (.int .i64 (4000)))]⟩,
    ⟨(some 19), none, .v (.not (.t 18))⟩,
    ⟨(some 20), none, .v (.mov (.t 19))⟩,
    ⟨(some 21), (some (20, false)), .v (.mov (.t 2))⟩,
    ⟨(some 22), (some (20, false)), .call (.c (.fn 66 [])) [(.t 21)]⟩,
    ⟨(some 23), (some (20, false)), .v (.not (.t 22))⟩,
    ⟨(some 24), none, .v (.pick (.t 20) (.c (.lit (.bool true))) (.t 23))⟩])
  (.cond (.t 24)
    (.seq (.reg [⟨(some 25), none, .bld [(.int .i64 (0)), (.int .i64 (0))] []⟩,
      ⟨(some 26), none, .bld [(.int .i64 (0)), (.int .i64 (0))] []⟩,
      ⟨none, none, .store 2 (.t 6) (.t 25)⟩,
      ⟨none, none, .store 2 (.t 7) (.t 26)⟩,
      ⟨(some 8), none, .v (.mov (.c (.int .i64 (52))))⟩])
    .ret)
    .skip))
  (.seq (.reg [⟨(some 28), none, .v (.load (.t 3) (some 6))⟩,
    ⟨(some 29), none, .bld [(.int .i64 (0)), (.lit (.slice none 0 0)), (.int .i64 (0)), (.int .i64 (0)), (.int .i64 (0)), (.lit (.slice none 0 0))] [(0, 6, (.t 28))]⟩,
    ⟨(some 30), none, .v (.load (.t 4) (some 2))⟩,
    ⟨(some 31), none, .v (.mov (.t 2))⟩,
    ⟨(some 32), none, .call (.c (.fn 67 [])) [(.t 29), (.t 30), (.t 31)]⟩,
    ⟨(some 27), none, .v (.mov (.t 32))⟩,
    ⟨(some 33), none, .v (.ext (.t 27) 0)⟩,
    ⟨(some 34), none, .v (.ext (.t 27) 1)⟩,
    ⟨none, none, .store 2 (.t 6) (.t 33)⟩,
    ⟨none, none, .store 2 (.t 7) (.t 34)⟩])
  (.seq (.seq (.drw [(0, ⟨(some 35), none, .v (.load (.t 6) (some 2))⟩, false),
    (1, ⟨(some 36), none, .call (.c (.fn 68 [])) []⟩, false)]
    none
    [⟨(some 37), none, .v (.eqs [(some .i64), (some .i64)] false (.t 35) (.t 36))⟩])
  (.cond (.t 37)
    (.seq (.reg [⟨(some 38), none, .bld [(.int .i64 (0)), (.int .i64 (0))] []⟩,
      ⟨(some 39), none, .bld [(.int .i64 (0)), (.int .i64 (0))] []⟩,
      ⟨none, none, .store 2 (.t 6) (.t 38)⟩,
      ⟨none, none, .store 2 (.t 7) (.t 39)⟩,
      ⟨(some 8), none, .v (.mov (.c (.int .i64 (54))))⟩])
    .ret)
    .skip))
  (.seq (.tre (.op ⟨(some 40), none, .v (.load (.t 6) (some 2))⟩ (.op ⟨(some 41), none, .v (.load (.t 7) (some 2))⟩ (.op ⟨none, none, .store 2 (.t 6) (.t 40)⟩ (.op ⟨none, none, .store 2 (.t 7) (.t 41)⟩ (.op ⟨(some 8), none, .v (.mov (.c (.int .i64 (0))))⟩ .leaf
    .stop)
    .stop)
    .stop)
    (.op ⟨none, none, .store 2 (.t 6) (.t 40)⟩ (.op ⟨(some 41), none, .v (.load (.t 7) (some 2))⟩ (.op ⟨none, none, .store 2 (.t 7) (.t 41)⟩ (.op ⟨(some 8), none, .v (.mov (.c (.int .i64 (0))))⟩ .leaf
    .stop)
    .stop)
    .stop)
    .stop))
    (.op ⟨(some 41), none, .v (.load (.t 7) (some 2))⟩ (.op ⟨(some 40), none, .v (.load (.t 6) (some 2))⟩ (.op ⟨none, none, .store 2 (.t 6) (.t 40)⟩ (.op ⟨none, none, .store 2 (.t 7) (.t 41)⟩ (.op ⟨(some 8), none, .v (.mov (.c (.int .i64 (0))))⟩ .leaf
    .stop)
    .stop)
    .stop)
    .stop)
    .stop)))
  .ret))))))
def r22 : List RV := [.c 6 (some 2), .c 7 (some 2), .t 8]
theorem k22 : (Try.f22.body.bind (cC Try.prog), cR Try.prog Try.f22.results.toList, Try.f22.ntmps) = (some s22, some r22, 42) := by kernel_rfl
theorem q22 : Known Try.prog 22 := ⟨_, Try.func22, by decide, by simp [Try.f22]⟩
def sunQ (D : Int × Int) (L : List (Int × Int)) : Prop := ((1 ≤ D.1 ∧ D.1 ≤ D.2) ∧ D.2 ≤ 4000) ∧ okL L
instance (D : Int × Int) (L : List (Int × Int)) : Decidable (sunQ D L) := by unfold sunQ; infer_instance
def sunR (v : Sx) (D : Int × Int) (L : List (Int × Int)) : (Int × Int) × (Int × Int) × Int :=
  if v.ok then if sunQ D L then if (accS v.a v.w D L (v.b - v.a + 1).toNat).1 = (1, 0) then ((0, 0), (0, 0), 54)
    else ((accS v.a v.w D L (v.b - v.a + 1).toNat).1, (accS v.a v.w D L (v.b - v.a + 1).toNat).2, 0) else ((0, 0), (0, 0), 52) else ((0, 0), (0, 0), 50)
def sun3 (r : (Int × Int) × (Int × Int) × Int) : SV := .tup [.agg [.int .i64 r.1.1, .int .i64 r.1.2], .agg [.int .i64 r.2.1.1, .int .i64 r.2.1.2], .int .i64 r.2.2]
def C22 : PC := fun args K => ∃ (v : Sx) (D : Int × Int) (L : List (Int × Int)), args = [v.sv, .agg [.int .i64 D.1, .int .i64 D.2], .rd 2 L.length (rowsS L)] ∧ K (sun3 (sunR v D L))
theorem p22 : PureOk Try.prog 22 C22 := by
  refine pure_of (T := [(17, .pc C17), (65, .fc Fsp), (66, .pc C66), (67, .pc C67), (68, .fc F68)]) ⟨⟨p17, q17⟩, ⟨p65, q65⟩, ⟨p66, q66⟩, ⟨p67, q67⟩, ⟨p68, q68⟩, trivial⟩ Try.func22 k22 ?_
  rintro args K ⟨v, D, L, rfl, hK⟩
  have hsv : v.sv = .agg [.int .i64 v.step, .rd 2 v.T.length (rowsS v.T), .int .i64 v.a, .int .i64 v.b, .int .i64 v.w, .rd 2 v.S.length (rowsS v.S)] := rfl
  rw [hsv]
  simp only [e_reg, e_seq, o_nil, o_cons, gd_none, putK_e, runK_e, vK_e, boxK_e, conK_e, callK_e, evh_v, evh_new, evh_box, evh_call, seqK_n, gam_e, gamK_p, pc_e, pcK_e, evp, bin, gt, st, putf, X.get, gets, ap, mkfr, rep, clV, clL, clS, clo, ld, lda, tk, dr, cs1, gb, pb, ln, lk, undef, Nat.reduceSub, Nat.reduceAdd, beq_self_eq_true, true_and, s22, r22]
  refine ⟨v, rfl, ?_⟩
  by_cases hok : v.ok
  · have h1 : (v.chk = 0) = True := by simp [Sx.chk, hok]
    simp only [condK_bf, decide_true, e_skip, e_reg, e_seq, e_cond, o_nil, o_cons, gd_none, putK_e, runK_e, vK_e, conK_e, callK_e, evh_v, evh_call, seqK_n, gam_e, gamK_f, pc_e, pcK_e, fcC_e, evp, gt, st, putf, X.get, gets, ap, clV, clL, clS, clo, ld, lda, tk, dr, gb, lk, Bool.not_true, Nat.reduceBEq, beq_self_eq_true, true_and, h1]
    by_cases hD : (1 ≤ D.1 ∧ D.1 ≤ D.2) ∧ D.2 ≤ 4000
    · have h2 : ((1 ≤ D.1 ∧ D.1 ≤ D.2) ∧ D.2 ≤ 4000) = True := by simp only [hD, and_self]
      simp only [gdK_bff, decide_true, o_cons, gd_none, gd_some, gdK_ff, putK_e, runK_e, vK_e, conK_e, callK_e, evh_v, evh_call, gam_e, gamK_p, pc_e, pcK_e, fcK_e, evp, gt, st, putf, X.get, gets, ap, clV, clL, clS, clo, lk, Bool.not_true, Nat.reduceBEq, beq_self_eq_true, true_and, h2, Fsp]
      refine ⟨L, rfl, ?_⟩
      by_cases hL : okL L
      · have h3 : okL L = True := by simp only [hL]
        simp only [condK_bf, decide_true, e_skip, e_reg, e_seq, e_cond, o_nil, o_cons, gd_none, putK_e, runK_e, vK_e, bldK_e, conK_e, callK_e, evh_v, evh_bld, evh_call, seqK_n, gam_e, gamK_p, pc_e, pcK_e, evp, gt, st, putf, X.get, gets, getp, ap, clV, clL, clS, clo, ld, lda, tk, dr, sp, sp.spl, lay, ll, cs1, gb, lk, Bool.not_true, Nat.reduceAdd, Nat.reduceBEq, beq_self_eq_true, true_and, h3]
        refine ⟨v, D, L, rfl, hok, hD, hL, ?_⟩
        have hb := accS_bnd (a := v.a) (w := v.w) (D := D) hL hD hok.2.1.1.1 hok.2.2.1 (n := (v.b - v.a + 1).toNat) (by have := hok.2.1; omega)
        by_cases hf : (accS v.a v.w D L (v.b - v.a + 1).toNat).1 = (1, 0)
        · have h4 : ((accS v.a v.w D L (v.b - v.a + 1).toNat).1.1 = 1 ∧ (accS v.a v.w D L (v.b - v.a + 1).toNat).1.2 = 0) = True := by rw [hf]; simp
          simp only [condK_bt, decide_true, List.cons.injEq, e_reg, and_self, e_drw, e_seq, e_cond, e_ret, o_nil, o_cons, gd_none, putK_e, runK_e, vK_e, bldK_e, storeK3_e, storeK2_e, storeK_e, evh_v, evh_bld, evh_store, dX_e, dG_t, d_nil, d_cons, tlK_n, seqK_n, seqK_r, ends_r, endK1_e, endK2_e, gamq_e, gamqK_f, evp, fit, InQ, gt, gq, st, putf, X.get, gets, getp, ap, rdR, tupled, clV, clL, clS, clo, clo.clos, ld, lda, tk, dr, sp, sp.spl, lay, ll, cs1, one, allOne, gb, sb, lk, evq, gdl, Bool.and_true, Bool.not_true, cond_false, Nat.reduceAdd, Nat.reduceBEq, beq_self_eq_true, true_and, and_true, h4, F68]
          have e : sunR v D L = ((0, 0), (0, 0), 54) := by unfold sunR; rw [if_pos hok, if_pos ⟨hD, hL⟩, if_pos hf]
          rw [e] at hK
          repeat' (first | (exact ⟨_, hK, by simp [leR, leR.leRs, sun3]⟩) | omega | apply And.intro)
        · have h4 : ((accS v.a v.w D L (v.b - v.a + 1).toNat).1.1 = 1 ∧ (accS v.a v.w D L (v.b - v.a + 1).toNat).1.2 = 0) = False := by
            simp only [eq_iff_iff, iff_false]
            intro hh; exact hf (Prod.ext hh.1 hh.2)
          simp only [condK_bf, decide_false, List.cons.injEq, e_skip, e_tre, t_leaf, t_stop, t_op, and_self, e_drw, e_seq, e_cond, e_ret, o_nil, o_cons, gd_none, putK_e, runK_e, vK_e, storeK3_e, storeK2_e, storeK_e, evh_v, evh_store, dX_e, dG_t, d_nil, d_cons, tlK_n, seqK_n, ends_r, endK1_e, endK2_e, gamq_e, gamqK_f, evp, fit, InQ, gt, gq, st, putf, X.get, gets, ap, rdR, tupled, clV, clL, clS, clo, clo.clos, ld, lda, tk, dr, sp, sp.spl, ll, cs1, one, allOne, gb, sb, lk, evq, gdl, Bool.and_true, Bool.not_false, cond_false, Nat.reduceAdd, Nat.reduceBEq, beq_self_eq_true, true_and, and_true, h4, F68]
          have e : sunR v D L = ((accS v.a v.w D L (v.b - v.a + 1).toNat).1, (accS v.a v.w D L (v.b - v.a + 1).toNat).2, 0) := by unfold sunR; rw [if_pos hok, if_pos ⟨hD, hL⟩, if_neg hf]
          rw [e] at hK
          repeat' (first | (exact ⟨_, hK, by simp [leR, leR.leRs, sun3]⟩) | omega | apply And.intro)
      · have h3 : okL L = False := by simp only [hL]
        simp only [condK_bt, decide_false, e_reg, and_self, e_seq, e_cond, e_ret, o_nil, o_cons, gd_none, putK_e, runK_e, vK_e, bldK_e, storeK3_e, storeK2_e, storeK_e, evh_v, evh_bld, evh_store, seqK_n, seqK_r, ends_r, endK1_e, endK2_e, evp, gt, st, putf, X.get, getp, rdR, tupled, clV, clL, clS, clo, ld, tk, dr, sp, sp.spl, lay, ll, cs1, one, allOne, gb, sb, Bool.and_true, Bool.not_false, Nat.reduceAdd, true_and, h3]
        have e : sunR v D L = ((0, 0), (0, 0), 52) := by unfold sunR; rw [if_pos hok, if_neg (fun h => hL h.2)]
        rw [e] at hK
        exact res hK (by simp [leR, leR.leRs, sun3])
    · have h2 : ((1 ≤ D.1 ∧ D.1 ≤ D.2) ∧ D.2 ≤ 4000) = False := by simp only [hD]
      simp only [gdK_bft, decide_false, e_reg, and_self, e_seq, e_cond, e_ret, o_nil, o_cons, gd_none, gd_some, gdK_tf, putK_e, runK_e, skipK_e, vK_e, bldK_e, storeK3_e, storeK2_e, storeK_e, evh_v, evh_bld, evh_store, seqK_n, seqK_r, condK_t, ends_r, endK1_e, endK2_e, fcK_e, evp, gt, st, putf, X.get, getp, rdR, tupled, clV, clL, clS, clo, ld, tk, dr, sp, sp.spl, lay, ll, cs1, one, allOne, gb, sb, undef, Bool.and_true, Bool.not_false, Nat.reduceAdd, true_and, h2, Fsp]
      have e : sunR v D L = ((0, 0), (0, 0), 52) := by unfold sunR; rw [if_pos hok, if_neg (fun h => hD h.1)]
      rw [e] at hK
      exact res hK (by simp [leR, leR.leRs, sun3])
  · have h1 : (v.chk = 0) = False := by simp [Sx.chk, hok]
    simp only [condK_bt, decide_false, e_reg, and_self, e_seq, e_cond, e_ret, o_nil, o_cons, gd_none, putK_e, runK_e, vK_e, bldK_e, storeK3_e, storeK2_e, storeK_e, evh_v, evh_bld, evh_store, seqK_n, seqK_r, ends_r, endK1_e, endK2_e, evp, gt, st, putf, X.get, getp, rdR, tupled, clV, clL, clS, clo, ld, tk, dr, sp, sp.spl, lay, ll, cs1, one, allOne, gb, sb, Bool.and_true, Bool.not_false, Nat.reduceAdd, true_and, h1]
    have e : sunR v D L = ((0, 0), (0, 0), 50) := by unfold sunR; rw [if_neg hok]
    rw [e] at hK
    exact res hK (by simp [leR, leR.leRs, sun3, Sx.chk, hok])
end Go.Proofs.Ytjagiieconpgbaa
end
section
namespace Go.Proofs.Ytjagiieconpgbaa
open Go Go.Vg
set_option linter.unusedVariables false
set_option maxRecDepth 10000
end Go.Proofs.Ytjagiieconpgbaa
end
section
namespace Go.Proofs.Ytjagiieconpgbaa
open Go Go.Vg
set_option linter.unusedVariables false
set_option maxRecDepth 10000
def Fe (w : Int) (L : List (Int × Int)) (i d : Int) : Nat → Prop
  | 0 => True
  | k + 1 => Fe w L i d k ∧ (lo L k + i + -w ≤ d ∧ d ≤ lo L k + i + w) ∧ (hi L k - i + -w ≤ d ∧ d ≤ hi L k - i + w)
theorem cmn_mem {p q : Int × Int} {d : Int} : ((cmn p q).1 ≤ d ∧ d ≤ (cmn p q).2) ↔ (p.1 ≤ d ∧ d ≤ p.2) ∧ (q.1 ≤ d ∧ d ≤ q.2) := by
  unfold cmn
  split
  · simp only; omega
  · simp only; omega
theorem cmn_nrm {p q : Int × Int} : cmn p q = (1, 0) ∨ (cmn p q).1 ≤ (cmn p q).2 := by
  unfold cmn
  split
  · rename_i h; exact .inr h
  · exact .inl rfl
theorem nowS_mem {w : Int} {D : Int × Int} {L : List (Int × Int)} {i d : Int} : ∀ k, ((nowS w D L i k).1 ≤ d ∧ d ≤ (nowS w D L i k).2) ↔ (D.1 ≤ d ∧ d ≤ D.2) ∧ Fe w L i d k
  | 0 => by simp only [nowS, Fe, and_true]
  | k + 1 => by
    simp only [nowS, Fe]
    rw [cmn_mem, cmn_mem, nowS_mem k]
    simp only [and_assoc]
theorem nowS_nrm {w : Int} {D : Int × Int} {L : List (Int × Int)} {i : Int} (hD : D.1 ≤ D.2) : ∀ k, nowS w D L i k = (1, 0) ∨ (nowS w D L i k).1 ≤ (nowS w D L i k).2
  | 0 => .inr hD
  | k + 1 => cmn_nrm
def Hull (P : Int → Prop) (p : Int × Int) : Prop := P p.1 ∧ P p.2 ∧ ∀ x, P x → p.1 ≤ x ∧ x ≤ p.2
theorem hull_le {P : Int → Prop} {p : Int × Int} (h : Hull P p) : p.1 ≤ p.2 := (h.2.2 _ h.2.1).1
theorem hull_no {P : Int → Prop} {p : Int × Int} (h : Hull P p) : p ≠ (1, 0) := fun e => by
  have := hull_le h; rw [e] at this; simp only at this; omega
theorem hull_of {P Q : Int → Prop} {p : Int × Int} (h : Hull P p) (e : ∀ x, Q x ↔ P x) : Hull Q p :=
  ⟨(e _).2 h.1, (e _).2 h.2.1, fun x hx => h.2.2 x ((e x).1 hx)⟩
theorem hull_arn {P Q R : Int → Prop} {p q : Int × Int} (h : Hull P p) (h' : Hull Q q) (e : ∀ x, R x ↔ P x ∨ Q x) : Hull R (arn p q) := by
  unfold arn
  rw [if_neg (hull_no h)]
  refine ⟨?_, ?_, fun x hx => ?_⟩
  · simp only
    rcases Int.le_total p.1 q.1 with g | g
    · rw [Int.min_eq_left g]; exact (e _).2 (.inl h.1)
    · rw [Int.min_eq_right g]; exact (e _).2 (.inr h'.1)
  · simp only
    rcases Int.le_total p.2 q.2 with g | g
    · rw [Int.max_eq_right g]; exact (e _).2 (.inr h'.2.1)
    · rw [Int.max_eq_left g]; exact (e _).2 (.inl h.2.1)
  · simp only
    rcases (e x).1 hx with g | g
    · have := h.2.2 x g; omega
    · have := h'.2.2 x g; omega
theorem hull_int {P : Int → Prop} {s : Int × Int} (h : s.1 ≤ s.2) (e : ∀ x, (s.1 ≤ x ∧ x ≤ s.2) ↔ P x) : Hull P s :=
  ⟨(e _).1 ⟨Int.le_refl _, h⟩, (e _).1 ⟨h, Int.le_refl _⟩, fun x hx => (e x).2 hx⟩
theorem accS_spec {a w : Int} {D : Int × Int} {L : List (Int × Int)} (hD : D.1 ≤ D.2) : ∀ n : Nat,
    (accS a w D L n = ((1, 0), (1, 0)) ∧ ∀ i, a ≤ i → i < a + n → ∀ d, (D.1 ≤ d ∧ d ≤ D.2) → ¬ Fe w L i d L.length) ∨
    (Hull (fun i => (a ≤ i ∧ i < a + n) ∧ ∃ d, (D.1 ≤ d ∧ d ≤ D.2) ∧ Fe w L i d L.length) (accS a w D L n).1 ∧ Hull (fun d => (D.1 ≤ d ∧ d ≤ D.2) ∧ ∃ i, (a ≤ i ∧ i < a + n) ∧ Fe w L i d L.length) (accS a w D L n).2)
  | 0 => .inl ⟨rfl, fun i h1 h2 => by simp only [Int.natCast_zero, Int.add_zero] at h2; omega⟩
  | n + 1 => by
    have hm := fun d => nowS_mem (w := w) (D := D) (L := L) (i := a + n) (d := d) L.length
    have hn : ((n + 1 : Nat) : Int) = n + 1 := Int.natCast_succ n
    rcases accS_spec (a := a) (w := w) (L := L) hD n with ⟨h1, h2⟩ | ⟨h1, h2⟩
    · by_cases he : nowS w D L (a + n) L.length = (1, 0)
      · refine .inl ⟨by rw [accS, if_pos he]; exact h1, fun i g1 g2 d hd hf => ?_⟩
        by_cases gi : i = a + n
        · subst gi
          have := (hm d).2 ⟨hd, hf⟩
          rw [he] at this
          simp only at this
          omega
        · exact h2 i g1 (by omega) d hd hf
      · have hle := (nowS_nrm (w := w) (L := L) (i := a + n) hD L.length).resolve_left he
        have e : accS a w D L (n + 1) = ((a + n, a + n), nowS w D L (a + n) L.length) := by rw [accS, if_neg he, h1]; simp [arn]
        rw [e]
        refine .inr ⟨⟨?_, ?_, ?_⟩, hull_int hle fun d => ?_⟩
        · exact ⟨⟨by simp only; omega, by simp only; omega⟩, _, (hm _).1 ⟨Int.le_refl _, hle⟩⟩
        · exact ⟨⟨by simp only; omega, by simp only; omega⟩, _, (hm _).1 ⟨Int.le_refl _, hle⟩⟩
        · rintro i ⟨⟨g1, g2⟩, d, hd, hf⟩
          by_cases gi : i = a + n
          · simp only; omega
          · exact absurd hf (h2 i g1 (by omega) d hd)
        · rw [hm d]
          constructor
          · rintro ⟨hd, hf⟩; exact ⟨hd, _, ⟨by omega, by omega⟩, hf⟩
          · rintro ⟨hd, i, ⟨g1, g2⟩, hf⟩
            by_cases gi : i = a + n
            · subst gi; exact ⟨hd, hf⟩
            · exact absurd hf (h2 i g1 (by omega) d hd)
    · right
      by_cases he : nowS w D L (a + n) L.length = (1, 0)
      · have hno : ∀ d, (D.1 ≤ d ∧ d ≤ D.2) → ¬ Fe w L (a + n) d L.length := fun d hd hf => by
          have := (hm d).2 ⟨hd, hf⟩
          rw [he] at this
          simp only at this
          omega
        have e : accS a w D L (n + 1) = accS a w D L n := by rw [accS, if_pos he]
        rw [e]
        refine ⟨hull_of h1 fun i => ?_, hull_of h2 fun d => ?_⟩
        · constructor
          · rintro ⟨⟨g1, g2⟩, d, hd, hf⟩
            by_cases gi : i = a + n
            · subst gi; exact absurd hf (hno d hd)
            · exact ⟨⟨g1, by omega⟩, d, hd, hf⟩
          · rintro ⟨⟨g1, g2⟩, d, hd, hf⟩; exact ⟨⟨g1, by omega⟩, d, hd, hf⟩
        · constructor
          · rintro ⟨hd, i, ⟨g1, g2⟩, hf⟩
            by_cases gi : i = a + n
            · subst gi; exact absurd hf (hno d hd)
            · exact ⟨hd, i, ⟨g1, by omega⟩, hf⟩
          · rintro ⟨hd, i, ⟨g1, g2⟩, hf⟩; exact ⟨hd, i, ⟨g1, by omega⟩, hf⟩
      · have hle := (nowS_nrm (w := w) (L := L) (i := a + n) hD L.length).resolve_left he
        have e : accS a w D L (n + 1) = (arn (accS a w D L n).1 (a + n, a + n), arn (accS a w D L n).2 (nowS w D L (a + n) L.length)) := by rw [accS, if_neg he]
        rw [e]
        refine ⟨hull_arn (Q := fun i => i = a + n) h1 ⟨rfl, rfl, fun x hx => by subst hx; exact ⟨Int.le_refl _, Int.le_refl _⟩⟩ fun i => ?_, hull_arn (Q := fun d => (D.1 ≤ d ∧ d ≤ D.2) ∧ Fe w L (a + n) d L.length) h2 (hull_int hle hm) fun d => ?_⟩
        · constructor
          · rintro ⟨⟨g1, g2⟩, hx⟩
            by_cases gi : i = a + n
            · exact .inr gi
            · exact .inl ⟨⟨g1, by omega⟩, hx⟩
          · rintro (⟨⟨g1, g2⟩, hx⟩ | rfl)
            · exact ⟨⟨g1, by omega⟩, hx⟩
            · exact ⟨⟨by omega, by omega⟩, _, (hm _).1 ⟨Int.le_refl _, hle⟩⟩
        · constructor
          · rintro ⟨hd, i, ⟨g1, g2⟩, hf⟩
            by_cases gi : i = a + n
            · subst gi; exact .inr ⟨hd, hf⟩
            · exact .inl ⟨hd, i, ⟨g1, by omega⟩, hf⟩
          · rintro (⟨hd, i, ⟨g1, g2⟩, hf⟩ | ⟨hd, hf⟩)
            · exact ⟨hd, i, ⟨g1, by omega⟩, hf⟩
            · exact ⟨hd, _, ⟨by omega, by omega⟩, hf⟩
end Go.Proofs.Ytjagiieconpgbaa
end
section
namespace Go.Proofs.Ytjagiieconpgbaa
open Go Go.Vg
set_option linter.unusedVariables false
set_option maxRecDepth 10000
def r4 : List RV := [.t 6]
theorem q4 : Known Try.prog 4 := ⟨_, Try.func4, by decide, by simp [Try.f4]⟩
end Go.Proofs.Ytjagiieconpgbaa
end
end

section
namespace Go.Vg
open Go
def npt : Nat → SV → Bool
  | _, .int _ _ => true
  | _, .bool _ => true
  | n + 1, .agg l => npts n l
  | n + 1, .tup l => npts n l
  | _, _ => false
where npts (n : Nat) : List SV → Bool
  | [] => true
  | x :: t => npt n x && npts n t
theorem npt_ok {w : World} {im : Nat → Prop} {E : Env} : ∀ (n : Nat) {x : SV} {v : Value}, npt n x = true → Cv w im x v → Rv E x v := by
  intro n
  induction n with
  | zero =>
    intro x v h hx
    cases x <;> first | (simp [npt] at h; done) | skip
    · cases hx; exact .int _ _
    · cases hx; exact .bool _
  | succ n ih =>
    have hs : ∀ {xs : List SV} {vs : List Value}, npt.npts n xs = true → Cvs w im xs vs → Rvs E xs vs := by
      intro xs
      induction xs with
      | nil => intro vs _ hx; cases hx; exact .nil
      | cons x xs ihs =>
        intro vs h hx
        simp only [npt.npts, Bool.and_eq_true] at h
        cases hx with
        | cons _ v _ vs hx hr => exact .cons _ _ _ _ (ih h.1 hx) (ihs h.2 hr)
    intro x v h hx
    cases x <;> first | (simp [npt] at h; done) | skip
    · cases hx; exact .int _ _
    · cases hx; exact .bool _
    · cases hx with
      | agg _ _ hx => exact .agg _ _ (hs h hx)
    · cases hx with
      | tup _ _ hx => exact .tup _ _ (hs h hx)
def ldK (C : PC) (r : Option (List SV × List Blk)) (hp : List Blk) (K : SV → List Blk → Prop) : Prop :=
  match r with
  | some (args, _) => C args fun r => npt 8 r = true ∧ K r hp
  | none => False
def lend (C : PC) : Con := fun args hp K => ldK C (clL (clV 8) hp args) hp K
theorem lend_e {C : PC} {args hp K} : lend C args hp K = ldK C (clL (clV 8) hp args) hp K := rfl
theorem ldK_e {C : PC} {args hp' hp K} : ldK C (some (args, hp')) hp K = C args (fun r => npt 8 r = true ∧ K r hp) := rfl
theorem lend_ok {P : Program} {f : FuncId} {C : PC} (h : PureOk P f C) : ConOk P f (lend C) := by
  intro E hp args vs K hr ha hc
  unfold lend ldK at hc
  split at hc
  · rename_i args' hp' hcl
    obtain ⟨E1, c1, r1, v1⟩ := clL_ok (fun h hx e => clV_ok 8 h hx e) hr ha hcl
    have hb1 : ∀ b, E1.im b → b < E.w.heap.size := fun b hb => by rw [← c1.w]; exact r1.imlt hb
    rw [c1.w] at v1
    refine (h E.w E1.im args' vs _ hb1 v1 hc).mono ?_
    rintro e w' ⟨r, v, im', rfl, ⟨hn, hk⟩, hv, i1, i2, i3, hl⟩
    have hle : E.Le { E with w := w' } :=
      ⟨Nat.le_refl _, fun _ h => h, fun _ _ => rfl, fun _ _ => rfl, fun _ _ h => h, fun _ h => h, fun b hb => hl.heap b (hr.imlt hb), rfl, rfl, rfl, rfl, rfl, rfl, fun _ _ h => h⟩
    exact ⟨r, v, { E with w := w' }, hp, rfl, rfl, hle, ⟨⟨fun b hb hm => (hl.heap b (Nat.lt_of_lt_of_le hb hr.g.sz)).trans (hr.g.fr b hb hm), fun a => (hl.fz a).trans (hr.g.fz a), Nat.le_trans hr.g.sz hl.sz, hl.os.trans hr.g.os, hl.tape.trans hr.g.tape, hl.output.trans hr.g.output, fun b hb => Nat.lt_of_lt_of_le (hr.imlt hb) hl.sz, hr.g.im0⟩,
      ⟨hr.b.n, hr.b.rs, fun l b hb => (hr.b.blk l b hb).keep hle (hr.has hb) fun g hg => hl.heap g ((hr.b.blk l b hb).lt hg), hr.b.live, hr.b.imx, hr.b.base, hr.b.dj⟩⟩, npt_ok 8 hn hv, hk⟩
  · exact hc.elim
end Go.Vg
namespace Go.Proofs.Ytjagiieconpgbaa
open Go Go.Vg
set_option linter.unusedVariables false
set_option maxRecDepth 10000
def s32 : SC :=
  (.seq (.reg [⟨(some 1), none, .box 26 (.t 0)⟩,
    ⟨(some 2), none, .v (.mov (.c (.lit (.bool false))))⟩])
  (.seq (.reg [⟨(some 3), none, .v (.load (.t 1) (some 6))⟩,
    ⟨(some 4), none, .call (.c (.fn 17 [])) [(.t 3)]⟩,
    ⟨(some 5), none, .v (.bin .eql (.t 4) (.c (.int .i64 (0))))⟩,
    ⟨(some 6), none, .v (.mov (.t 5))⟩,
    ⟨(some 7), (some (6, true)), .v (.off (.t 1) 0)⟩,
    ⟨(some 8), (some (6, true)), .v (.load (.t 7) none)⟩,
    ⟨(some 9), (some (6, true)), .call (.c (.fn 33 [])) [(.t 8), (.c (.int .i64 (1))), (.c (.int .i64 (72000)))]⟩,
    ⟨(some 10), none, .v (.pick (.t 6) (.t 9) (.c (.lit (.bool false))))⟩,
    ⟨(some 11), none, .v (.mov (.t 10))⟩,
    ⟨(some 12), (some (11, true)), .v (.off (.t 1) 1)⟩,
    ⟨(some 13), (some (11, true)), .v (.load (.t 12) none)⟩,
    ⟨(some 14), (some (11, true)), .v (.len (.t 13))⟩,
    ⟨(some 15), (some (11, true)), .call (.c (.fn 33 [])) [(.t 14), (.c (.int .i64 (2))), (.c (.int .i64 (12)))]⟩,
    ⟨(some 16), none, .v (.pick (.t 11) (.t 15) (.c (.lit (.bool false))))⟩,
    ⟨(some 17), none, .v (.mov (.t 16))⟩,
    ⟨(some 18), (some (17, true)), .v (.off (.t 1) 5)⟩,
    ⟨(some 19), (some (17, true)), .v (.load (.t 18) none)⟩,
    ⟨(some 20), (some (17, true)), .v (.len (.t 19))⟩,
    ⟨(some 21), (some (17, true)), .v (.bin .leq (.t 20) (.c (.int .i64 (6))))⟩,
    ⟨(some 22), none, .v (.pick (.t 17) (.t 21) (.c (.lit (.bool false))))⟩,
    ⟨(some 23), none, .v (.mov (.t 22))⟩,
    ⟨(some 24), (some (23, true)), .v (.off (.t 1) 2)⟩,
    ⟨(some 25), (some (23, true)), .v (.load (.t 24) (some 2))⟩,
    ⟨(some 26), (some (23, true)), .call (.c (.fn 41 [])) [(.t 25), (.c (.int .i64 (-1800))), (.c (.int .i64 (1800)))]⟩,
    ⟨(some 27), none, .v (.pick (.t 23) (.t 26) (.c (.lit (.bool false))))⟩,
    ⟨(some 2), none, .v (.mov (.t 27))⟩])
  .ret))
def r32 : List RV := [.t 2]
theorem k32 : (Try.f32.body.bind (cC Try.prog), cR Try.prog Try.f32.results.toList, Try.f32.ntmps) = (some s32, some r32, 28) := by kernel_rfl
theorem q32 : Known Try.prog 32 := ⟨_, Try.func32, by decide, by simp [Try.f32]⟩
def s35 : SC :=
  (.seq (.reg [⟨(some 2), none, .box 24 (.t 0)⟩,
    ⟨(some 4), none, .v (.mov (.c (.lit (.bool false))))⟩])
  (.seq (.reg [⟨(some 5), none, .v (.mov (.t 1))⟩,
    ⟨(some 6), none, .v (.off (.t 2) 0)⟩,
    ⟨(some 7), none, .v (.load (.t 6) none)⟩,
    ⟨(some 8), none, .v (.off (.t 2) 1)⟩,
    ⟨(some 9), none, .v (.load (.t 8) none)⟩,
    ⟨(some 10), none, .call (.c (.fn 33 [])) [(.t 5), (.t 7), (.t 9)]⟩,
    ⟨(some 4), none, .v (.mov (.t 10))⟩])
  .ret))
def r35 : List RV := [.t 4]
theorem k35 : (Try.f35.body.bind (cC Try.prog), cR Try.prog Try.f35.results.toList, Try.f35.ntmps) = (some s35, some r35, 11) := by kernel_rfl
theorem q35 : Known Try.prog 35 := ⟨_, Try.func35, by decide, by simp [Try.f35]⟩
def s37 : SC :=
  (.seq (.reg [⟨(some 6), none, .v (.mov (.c (.int .i64 (0))))⟩])
  (.seq (.seq (.reg [⟨(some 8), none, .v (.mov (.t 0))⟩,
    ⟨(some 9), none, .v (.mov (.t 1))⟩,
    ⟨(some 10), none, .v (.bin .geq (.t 8) (.t 9))⟩])
  (.cond (.t 10)
    (.seq (.reg [⟨(some 11), none, .v (.mov (.t 0))⟩,
      ⟨(some 6), none, .v (.mov (.t 11))⟩])
    .ret)
    .skip))
  (.seq (.reg [⟨(some 12), none, .v (.mov (.t 1))⟩,
    ⟨(some 13), none, .v (.mov (.t 0))⟩,
    ⟨(some 14), none, .v (.bin .sub (.t 12) (.t 13))⟩,
    ⟨(some 15), none, .v (.bin .add (.t 14) (.c (.int .i64 (1))))⟩,
    ⟨(some 7), none, .v (.mov (.t 15))⟩])
  (.seq (.seq (.reg [⟨(some 16), none, .v (.mov (.t 7))⟩,
    ⟨(some 17), none, .v (.bin .lss (.t 16) (.c (.int .i64 (1))))⟩])
  (.cond (.t 17)
    (.seq (.reg [⟨(some 18), none, .v (.mov (.t 2))⟩,
      ⟨(some 19), none, .v (.mov (.t 0))⟩,
      ⟨(some 20), none, .v (.max2 (.t 18) (.t 19))⟩,
      ⟨(some 21), none, .v (.mov (.t 1))⟩,
      ⟨(some 22), none, .v (.min2 (.t 20) (.t 21))⟩,
      ⟨(some 6), none, .v (.mov (.t 22))⟩])
    .ret)
    .skip))
  (.seq (.reg [⟨(some 23), none, .v (.mov (.t 0))⟩,
    ⟨(some 24), none, .v (.mov (.t 2))⟩,
    ⟨(some 25), none, .v (.mov (.t 7))⟩,
    ⟨(some 26), none, .call (.c (.fn 42 [])) [(.t 24), (.t 25)]⟩,
    ⟨(some 27), none, .v (.bin .add (.t 23) (.t 26))⟩,
    ⟨(some 6), none, .v (.mov (.t 27))⟩])
  .ret)))))
def r37 : List RV := [.t 6]
theorem k37 : (Try.f37.body.bind (cC Try.prog), cR Try.prog Try.f37.results.toList, Try.f37.ntmps) = (some s37, some r37, 28) := by kernel_rfl
theorem q37 : Known Try.prog 37 := ⟨_, Try.func37, by decide, by simp [Try.f37]⟩
def s38 : SC :=
  (.seq (.reg [⟨(some 4), none, .v (.mov (.c (.int .i64 (0))))⟩])
  (.seq (.seq (.reg [⟨(some 5), none, .v (.mov (.t 0))⟩,
    ⟨(some 6), none, .v (.len (.t 5))⟩,
    ⟨(some 7), none, .v (.bin .eql (.t 6) (.c (.int .i64 (0))))⟩])
  (.cond (.t 7)
    (.seq (.reg [⟨(some 4), none, .v (.mov (.c (.int .i64 (0))))⟩])
    .ret)
    .skip))
  (.seq (.reg [⟨(some 8), none, .v (.mov (.t 0))⟩,
    ⟨(some 9), none, .v (.mov (.t 1))⟩,
    ⟨(some 10), none, .v (.mov (.t 0))⟩,
    ⟨(some 11), none, .v (.len (.t 10))⟩,
    ⟨(some 12), none, .call (.c (.fn 42 [])) [(.t 9), (.t 11)]⟩,
    ⟨(some 13), none, .v (.ixa (.t 8) (.t 12) 1)⟩,
    ⟨(some 14), none, .v (.load (.t 13) none)⟩,
    ⟨(some 4), none, .v (.mov (.t 14))⟩])
  .ret)))
def r38 : List RV := [.t 4]
theorem k38 : (Try.f38.body.bind (cC Try.prog), cR Try.prog Try.f38.results.toList, Try.f38.ntmps) = (some s38, some r38, 15) := by kernel_rfl
theorem q38 : Known Try.prog 38 := ⟨_, Try.func38, by decide, by simp [Try.f38]⟩
def s42 : SC :=
  (.seq (.reg [⟨(some 4), none, .v (.mov (.c (.int .i64 (0))))⟩])
  (.seq (.reg [⟨(some 6), none, .v (.mov (.t 0))⟩,
    ⟨(some 7), none, .v (.mov (.t 1))⟩,
    ⟨(some 8), none, .v (.bin .rem (.t 6) (.t 7))⟩,
    ⟨(some 5), none, .v (.mov (.t 8))⟩])
  (.seq (.seq (.reg [⟨(some 9), none, .v (.mov (.t 5))⟩,
    ⟨(some 10), none, .v (.bin .lss (.t 9) (.c (.int .i64 (0))))⟩])
  (.cond (.t 10)
    (.reg [⟨(some 11), none, .v (.mov (.t 5))⟩,
      ⟨(some 12), none, .v (.mov (.t 1))⟩,
      ⟨(some 13), none, .v (.bin .add (.t 11) (.t 12))⟩,
      ⟨(some 5), none, .v (.mov (.t 13))⟩])
    .skip))
  (.seq (.reg [⟨(some 14), none, .v (.mov (.t 5))⟩,
    ⟨(some 4), none, .v (.mov (.t 14))⟩])
  .ret))))
def r42 : List RV := [.t 4]
theorem k42 : (Try.f42.body.bind (cC Try.prog), cR Try.prog Try.f42.results.toList, Try.f42.ntmps) = (some s42, some r42, 15) := by kernel_rfl
theorem q42 : Known Try.prog 42 := ⟨_, Try.func42, by decide, by simp [Try.f42]⟩
def o9_0 : Opr := ⟨(some 41), none, .v (.off (.t 3) 2)⟩
def o9_1 : Opr := ⟨(some 42), none, .v (.load (.t 41) (some 2))⟩
def o9_2 : Opr := ⟨(some 43), none, .v (.load (.t 4) (some 2))⟩
def o9_3 : Opr := ⟨(some 10), none, .new 24 [(.int .i64 (0)), (.int .i64 (0))]⟩
def o9_4 : Opr := ⟨(some 11), none, .new 24 [(.int .i64 (0)), (.int .i64 (0))]⟩
def o9_5 : Opr := ⟨none, none, .store 2 (.t 10) (.t 42)⟩
def o9_6 : Opr := ⟨none, none, .store 2 (.t 11) (.t 43)⟩
def o9_7 : Opr := ⟨(some 154), none, .v (.load (.t 14) (some 2))⟩
def o9_8 : Opr := ⟨none, none, .store 2 (.t 10) (.t 153)⟩
def o9_9 : Opr := ⟨none, none, .store 2 (.t 11) (.t 154)⟩
def s9 : SC :=
  (.seq (.reg [⟨(some 3), none, .box 26 (.t 0)⟩,
    ⟨(some 4), none, .box 24 (.t 1)⟩,
    ⟨(some 6), none, .v (.mov (.c (.lit (.bool false))))⟩])
  (.seq (.seq (.reg [⟨(some 16), none, .v (.load (.t 3) (some 6))⟩,
    ⟨(some 17), none, .call (.c (.fn 32 [])) [(.t 16)]⟩,
    ⟨(some 18), none, .v (.not (.t 17))⟩,
    ⟨(some 19), none, .v (.mov (.t 18))⟩,
    ⟨(some 20), (some (19, false)), .v (.load (.t 4) (some 2))⟩,
    ⟨(some 21), (some (19, false)), .call (.c (.fn 41 [])) [(.t 20), (.c (.int .i64 (1))), (.c (.int .i64 (4000)))]⟩,
    ⟨(some 22), (some (19, false)), .v (.not (.t 21))⟩,
    ⟨(some 23), none, .v (.pick (.t 19) (.c (.lit (.bool true))) (.t 22))⟩])
  (.cond (.t 23)
    (.seq (.reg [⟨(some 24), none, .call (.c (.fn 21 [])) []⟩,
      ⟨(some 6), none, .v (.mov (.t 24))⟩])
    .ret)
    .skip))
  (.seq (.drw [(0, ⟨(some 25), none, .v (.off (.t 3) 2)⟩, false),
    (1, ⟨(some 26), none, .v (.off (.t 25) 0)⟩, false),
    (2, ⟨(some 27), none, .v (.load (.t 26) none)⟩, false),
    (3, ⟨(some 28), none, .v (.off (.t 3) 2)⟩, false),
    (4, ⟨(some 29), none, .v (.off (.t 28) 1)⟩, false),
    (5, ⟨(some 30), none, .v (.load (.t 29) none)⟩, false),
    (6, ⟨(some 31), none, .v (.mov (.t 2))⟩, false),
    (7, ⟨(some 32), none, .call (.c (.fn 38 [])) [(.t 31), (.c (.int .i64 (0)))]⟩, false),
    (8, ⟨(some 33), none, .call (.c (.fn 37 [])) [(.t 27), (.t 30), (.t 32)]⟩, false),
    (9, ⟨(some 34), none, .v (.off (.t 4) 0)⟩, false),
    (10, ⟨(some 35), none, .v (.load (.t 34) none)⟩, false),
    (11, ⟨(some 36), none, .v (.off (.t 4) 1)⟩, false),
    (12, ⟨(some 37), none, .v (.load (.t 36) none)⟩, false),
    (13, ⟨(some 38), none, .v (.mov (.t 2))⟩, false),
    (14, ⟨(some 39), none, .call (.c (.fn 38 [])) [(.t 38), (.c (.int .i64 (1)))]⟩, false)]
    none
    [⟨(some 40), none, .call (.c (.fn 37 [])) [(.t 35), (.t 37), (.t 39)]⟩,
    ⟨(some 7), none, .v (.mov (.t 33))⟩,
    ⟨(some 8), none, .v (.mov (.t 40))⟩])
  (.seq (.reg [⟨(some 9), none, .v (.mov (.c (.lit (.slice none 0 0))))⟩])
  (.seq (.tre (.op o9_0 (.op o9_1 (.op o9_2 (.op o9_3 (tn o9_4 (tn o9_5 (tn o9_6 .leaf))) (tn o9_4 (tn o9_3 (tn o9_5 (tn o9_6 .leaf))))) (.op o9_3 (.op o9_2 (tn
  o9_4 (tn o9_5 (tn o9_6 .leaf))) (tn o9_4 (.op o9_2 (tn o9_5 (tn o9_6 .leaf)) (tn o9_5 (tn o9_2 (tn o9_6 .leaf)))))) (tn o9_4 (.op o9_2 (tn o9_3 (tn o9_5
  (tn o9_6 .leaf))) (tn o9_3 (.op o9_2 (tn o9_5 (tn o9_6 .leaf)) (tn o9_5 (tn o9_2 (tn o9_6 .leaf))))))))) (.op o9_2 (.op o9_1 (.op o9_3 (tn o9_4 (tn o9_5
  (tn o9_6 .leaf))) (tn o9_4 (tn o9_3 (tn o9_5 (tn o9_6 .leaf))))) (.op o9_3 (.op o9_1 (tn o9_4 (tn o9_5 (tn o9_6 .leaf))) (tn o9_4 (tn o9_1 (tn o9_5 (tn
  o9_6 .leaf))))) (tn o9_4 (.op o9_1 (tn o9_3 (tn o9_5 (tn o9_6 .leaf))) (tn o9_3 (tn o9_1 (tn o9_5 (tn o9_6 .leaf)))))))) (.op o9_3 (.op o9_1 (.op o9_2
  (tn o9_4 (tn o9_5 (tn o9_6 .leaf))) (tn o9_4 (.op o9_2 (tn o9_5 (tn o9_6 .leaf)) (tn o9_5 (tn o9_2 (tn o9_6 .leaf)))))) (.op o9_2 (.op o9_1 (tn o9_4 (tn
  o9_5 (tn o9_6 .leaf))) (tn o9_4 (tn o9_1 (tn o9_5 (tn o9_6 .leaf))))) (tn o9_4 (.op o9_1 (.op o9_2 (tn o9_5 (tn o9_6 .leaf)) (tn o9_5 (tn o9_2 (tn o9_6
  .leaf)))) (tn o9_2 (tn o9_1 (tn o9_5 (tn o9_6 .leaf)))))))) (tn o9_4 (.op o9_1 (.op o9_2 (tn o9_3 (tn o9_5 (tn o9_6 .leaf))) (tn o9_3 (.op o9_2 (tn o9_5
  (tn o9_6 .leaf)) (tn o9_5 (tn o9_2 (tn o9_6 .leaf)))))) (.op o9_2 (.op o9_1 (tn o9_3 (tn o9_5 (tn o9_6 .leaf))) (tn o9_3 (tn o9_1 (tn o9_5 (tn o9_6 .leaf)))))
  (tn o9_3 (.op o9_1 (.op o9_2 (tn o9_5 (tn o9_6 .leaf)) (tn o9_5 (tn o9_2 (tn o9_6 .leaf)))) (tn o9_2 (tn o9_1 (tn o9_5 (tn o9_6 .leaf)))))))))))) (.op
  o9_2 (.op o9_0 (.op o9_1 (.op o9_3 (tn o9_4 (tn o9_5 (tn o9_6 .leaf))) (tn o9_4 (tn o9_3 (tn o9_5 (tn o9_6 .leaf))))) (.op o9_3 (.op o9_1 (tn o9_4 (tn
  o9_5 (tn o9_6 .leaf))) (tn o9_4 (tn o9_1 (tn o9_5 (tn o9_6 .leaf))))) (tn o9_4 (.op o9_1 (tn o9_3 (tn o9_5 (tn o9_6 .leaf))) (tn o9_3 (tn o9_1 (tn o9_5
  (tn o9_6 .leaf)))))))) (.op o9_3 (.op o9_0 (.op o9_1 (tn o9_4 (tn o9_5 (tn o9_6 .leaf))) (tn o9_4 (tn o9_1 (tn o9_5 (tn o9_6 .leaf))))) (tn o9_4 (tn o9_0
  (tn o9_1 (tn o9_5 (tn o9_6 .leaf)))))) (tn o9_4 (.op o9_0 (.op o9_1 (tn o9_3 (tn o9_5 (tn o9_6 .leaf))) (tn o9_3 (tn o9_1 (tn o9_5 (tn o9_6 .leaf)))))
  (tn o9_3 (tn o9_0 (tn o9_1 (tn o9_5 (tn o9_6 .leaf))))))))) (.op o9_3 (.op o9_0 (.op o9_1 (.op o9_2 (tn o9_4 (tn o9_5 (tn o9_6 .leaf))) (tn o9_4 (.op o9_2
  (tn o9_5 (tn o9_6 .leaf)) (tn o9_5 (tn o9_2 (tn o9_6 .leaf)))))) (.op o9_2 (.op o9_1 (tn o9_4 (tn o9_5 (tn o9_6 .leaf))) (tn o9_4 (tn o9_1 (tn o9_5 (tn
  o9_6 .leaf))))) (tn o9_4 (.op o9_1 (.op o9_2 (tn o9_5 (tn o9_6 .leaf)) (tn o9_5 (tn o9_2 (tn o9_6 .leaf)))) (tn o9_2 (tn o9_1 (tn o9_5 (tn o9_6 .leaf))))))))
  (.op o9_2 (.op o9_0 (.op o9_1 (tn o9_4 (tn o9_5 (tn o9_6 .leaf))) (tn o9_4 (tn o9_1 (tn o9_5 (tn o9_6 .leaf))))) (tn o9_4 (tn o9_0 (tn o9_1 (tn o9_5 (tn
  o9_6 .leaf)))))) (tn o9_4 (.op o9_0 (.op o9_1 (.op o9_2 (tn o9_5 (tn o9_6 .leaf)) (tn o9_5 (tn o9_2 (tn o9_6 .leaf)))) (tn o9_2 (tn o9_1 (tn o9_5 (tn o9_6
  .leaf))))) (tn o9_2 (tn o9_0 (tn o9_1 (tn o9_5 (tn o9_6 .leaf))))))))) (tn o9_4 (.op o9_0 (.op o9_1 (.op o9_2 (tn o9_3 (tn o9_5 (tn o9_6 .leaf))) (tn o9_3
  (.op o9_2 (tn o9_5 (tn o9_6 .leaf)) (tn o9_5 (tn o9_2 (tn o9_6 .leaf)))))) (.op o9_2 (.op o9_1 (tn o9_3 (tn o9_5 (tn o9_6 .leaf))) (tn o9_3 (tn o9_1 (tn
  o9_5 (tn o9_6 .leaf))))) (tn o9_3 (.op o9_1 (.op o9_2 (tn o9_5 (tn o9_6 .leaf)) (tn o9_5 (tn o9_2 (tn o9_6 .leaf)))) (tn o9_2 (tn o9_1 (tn o9_5 (tn o9_6
  .leaf)))))))) (.op o9_2 (.op o9_0 (.op o9_1 (tn o9_3 (tn o9_5 (tn o9_6 .leaf))) (tn o9_3 (tn o9_1 (tn o9_5 (tn o9_6 .leaf))))) (tn o9_3 (tn o9_0 (tn o9_1
  (tn o9_5 (tn o9_6 .leaf)))))) (tn o9_3 (.op o9_0 (.op o9_1 (.op o9_2 (tn o9_5 (tn o9_6 .leaf)) (tn o9_5 (tn o9_2 (tn o9_6 .leaf)))) (tn o9_2 (tn o9_1 (tn
  o9_5 (tn o9_6 .leaf))))) (tn o9_2 (tn o9_0 (tn o9_1 (tn o9_5 (tn o9_6 .leaf))))))))))))))
  (.seq (.seq (.reg [⟨(some 12), none, .v (.mov (.c (.int .i64 (0))))⟩])
  (.block 0 (.loop
    (.seq (.seq (.reg [⟨(some 44), none, .v (.mov (.t 12))⟩,
      ⟨(some 45), none, .v (.mov (.t 2))⟩,
      ⟨(some 46), none, .call (.c (.fn 38 [])) [(.t 45), (.c (.int .i64 (2)))]⟩,
      ⟨(some 47), none, .call (.c (.fn 42 [])) [(.t 46), (.c (.int .i64 (6)))]⟩,
      ⟨(some 48), none, .v (.bin .add (.c (.int .i64 (1))) (.t 47))⟩,
      ⟨(some 49), none, .v (.bin .lss (.t 44) (.t 48))⟩])
    (.cond (.t 49)
      .skip
      (.exit 0)))
    (.seq (.block 1 (.seq (.drw [(0, ⟨(some 52), none, .v (.mov (.t 9))⟩, false),
      (1, ⟨(some 53), none, .v (.mov (.t 8))⟩, false),
      (2, ⟨(some 54), none, .v (.mov (.t 7))⟩, false),
      (3, ⟨(some 55), none, .v (.bin .sub (.t 53) (.t 54))⟩, false),
      (4, ⟨(some 56), none, .v (.off (.t 3) 4)⟩, false),
      (5, ⟨(some 57), none, .v (.load (.t 56) none)⟩, false),
      (6, ⟨(some 58), none, .v (.neg (.t 57))⟩, false),
      (7, ⟨(some 59), none, .v (.off (.t 3) 4)⟩, false),
      (8, ⟨(some 60), none, .v (.load (.t 59) none)⟩, false),
      (9, ⟨(some 61), none, .v (.mov (.t 2))⟩, false),
      (10, ⟨(some 62), none, .v (.mov (.t 12))⟩, false),
      (11, ⟨(some 63), none, .v (.bin .mul (.c (.int .i64 (2))) (.t 62))⟩, false),
      (12, ⟨(some 64), none, .v (.bin .add (.t 63) (.c (.int .i64 (3))))⟩, false),
      (13, ⟨(some 65), none, .call (.c (.fn 38 [])) [(.t 61), (.t 64)]⟩, false),
      (14, ⟨(some 66), none, .call (.c (.fn 37 [])) [(.t 58), (.t 60), (.t 65)]⟩, false),
      (15, ⟨(some 67), none, .v (.bin .add (.t 55) (.t 66))⟩, false),
      (16, ⟨(some 68), none, .v (.mov (.t 8))⟩, false),
      (17, ⟨(some 69), none, .v (.mov (.t 7))⟩, false),
      (18, ⟨(some 70), none, .v (.bin .add (.t 68) (.t 69))⟩, false),
      (19, ⟨(some 71), none, .v (.off (.t 3) 4)⟩, false),
      (20, ⟨(some 72), none, .v (.load (.t 71) none)⟩, false),
      (21, ⟨(some 73), none, .v (.neg (.t 72))⟩, false),
      (22, ⟨(some 74), none, .v (.off (.t 3) 4)⟩, false),
      (23, ⟨(some 75), none, .v (.load (.t 74) none)⟩, false),
      (24, ⟨(some 76), none, .v (.mov (.t 2))⟩, false),
      (25, ⟨(some 77), none, .v (.mov (.t 12))⟩, false),
      (26, ⟨(some 78), none, .v (.bin .mul (.c (.int .i64 (2))) (.t 77))⟩, false),
      (27, ⟨(some 79), none, .v (.bin .add (.t 78) (.c (.int .i64 (4))))⟩, false),
      (28, ⟨(some 80), none, .call (.c (.fn 38 [])) [(.t 76), (.t 79)]⟩, false),
      (29, ⟨(some 81), none, .call (.c (.fn 37 [])) [(.t 73), (.t 75), (.t 80)]⟩, false),
      (30, ⟨(some 82), none, .v (.bin .add (.t 70) (.t 81))⟩, false),
      (31, ⟨(some 83), none, .bld [(.int .i64 (0)), (.int .i64 (0))] [(0, 1, (.t 67)), (1, 1, (.t 82))]⟩, false)]
      (some ⟨(some 84), none, .bsl 67 1 [(.int .i64 (0)), (.int .i64 (0))] [(0, 2, (.t 83))]⟩)
      [⟨(some 85), none, .app 67 2 16 (.t 52) (.t 84)⟩,
      ⟨(some 9), none, .v (.mov (.t 85))⟩])
    (.seq (.seq (.reg [⟨(some 86), none, .v (.mov (.t 9))⟩,
      ⟨(some 87), none, .v (.mov (.t 12))⟩,
      ⟨(some 88), none, .v (.ixa (.t 86) (.t 87) 2)⟩,
      ⟨(some 89), none, .v (.off (.t 88) 0)⟩,
      ⟨(some 90), none, .v (.load (.t 89) none)⟩,
      ⟨(some 91), none, .call (.c (.fn 33 [])) [(.t 90), (.c (.int .i64 (0))), (.c (.int .i64 (6000)))]⟩,
      ⟨(some 92), none, .v (.not (.t 91))⟩,
      ⟨(some 93), none, .v (.mov (.t 92))⟩,
      ⟨(some 94), (some (93, false)), .v (.mov (.t 9))⟩,
      ⟨(some 95), (some (93, false)), .v (.mov (.t 12))⟩,
      ⟨(some 96), (some (93, false)), .v (.ixa (.t 94) (.t 95) 2)⟩,
      ⟨(some 97), (some (93, false)), .v (.off (.t 96) 1)⟩,
      ⟨(some 98), (some (93, false)), .v (.load (.t 97) none)⟩,
      ⟨(some 99), (some (93, false)), .call (.c (.fn 33 [])) [(.t 98), (.c (.int .i64 (0))), (.c (.int .i64 (6000)))]⟩,
      ⟨(some 100), (some (93, false)), .v (.not (.t 99))⟩,
      ⟨(some 101), none, .v (.pick (.t 93) (.c (.lit (.bool true))) (.t 100))⟩])
    (.cond (.t 101)
      (.seq (.reg [⟨(some 102), none, .call (.c (.fn 21 [])) []⟩,
        ⟨(some 6), none, .v (.mov (.t 102))⟩])
      .ret)
      .skip))
    (.seq (.reg [⟨(some 104), none, .v (.load (.t 3) (some 6))⟩,
      ⟨(some 105), none, .v (.load (.t 4) (some 2))⟩,
      ⟨(some 106), none, .v (.mov (.t 9))⟩,
      ⟨(some 107), none, .call (.c (.fn 22 [])) [(.t 104), (.t 105), (.t 106)]⟩,
      ⟨(some 103), none, .v (.mov (.t 107))⟩,
      ⟨(some 108), none, .v (.ext (.t 103) 0)⟩,
      ⟨(some 109), none, .v (.ext (.t 103) 1)⟩,
      ⟨(some 110), none, .v (.ext (.t 103) 2)⟩,
      ⟨(some 13), none, .new 24 [(.int .i64 (0)), (.int .i64 (0))]⟩,
      ⟨(some 14), none, .new 24 [(.int .i64 (0)), (.int .i64 (0))]⟩,
      ⟨none, none, .store 2 (.t 13) (.t 108)⟩,
      ⟨none, none, .store 2 (.t 14) (.t 109)⟩,
      ⟨(some 15), none, .v (.mov (.t 110))⟩])
    (.seq (.seq (.reg [⟨(some 111), none, .v (.mov (.t 15))⟩,
      ⟨(some 112), none, .v (.bin .neq (.t 111) (.c (.int .i64 (0))))⟩,
      ⟨(some 113), none, .v (.mov (.t 112))⟩,
      ⟨(some 114), (some (113, false)), .v (.load (.t 13) (some 2))⟩,
      ⟨(some 115), (some (113, false)), .v (.mov (.t 7))⟩,
      ⟨(some 116), (some (113, false)), .call (.c (.fn 35 [])) [(.t 114), (.t 115)]⟩,
      ⟨(some 117), (some (113, false)), .v (.not (.t 116))⟩,
      ⟨(some 118), none, .v (.pick (.t 113) (.c (.lit (.bool true))) (.t 117))⟩,
      ⟨(some 119), none, .v (.mov (.t 118))⟩,
      ⟨(some 120), (some (119, false)), .v (.load (.t 14) (some 2))⟩,
      ⟨(some 121), (some (119, false)), .v (.mov (.t 8))⟩,
      ⟨(some 122), (some (119, false)), .call (.c (.fn 35 [])) [(.t 120), (.t 121)]⟩,
      ⟨(some 123), (some (119, false)), .v (.not (.t 122))⟩,
      ⟨(some 124), none, .v (.pick (.t 119) (.c (.lit (.bool true))) (.t 123))⟩,
      ⟨(some 125), none, .v (.mov (.t 124))⟩,
      ⟨(some 126), (some (125, false)), .v (.off (.t 13) 0)⟩,
      ⟨(some 127), (some (125, false)), .v (.load (.t 126) none)⟩,
      ⟨(some 128), (some (125, false)), .v (.off (.t 10) 0)⟩,
      ⟨(some 129), (some (125, false)), .v (.load (.t 128) none)⟩,
      ⟨(some 130), (some (125, false)), .v (.bin .lss (.t 127) (.t 129))⟩,
      ⟨(some 131), none, .v (.pick (.t 125) (.c (.lit (.bool true))) (.t 130))⟩,
      ⟨(some 132), none, .v (.mov (.t 131))⟩,
      ⟨(some 133), (some (132, false)), .v (.off (.t 13) 1)⟩,
      ⟨(some 134), (some (132, false)), .v (.load (.t 133) none)⟩,
      ⟨(some 135), (some (132, false)), .v (.off (.t 10) 1)⟩,
      ⟨(some 136), (some (132, false)), .v (.load (.t 135) none)⟩,
      ⟨(some 137), (some (132, false)), .v (.bin .gtr (.t 134) (.t 136))⟩,
      ⟨(some 138), none, .v (.pick (.t 132) (.c (.lit (.bool true))) (.t 137))⟩,
      ⟨(some 139), none, .v (.mov (.t 138))⟩,
      ⟨(some 140), (some (139, false)), .v (.off (.t 14) 0)⟩,
      ⟨(some 141), (some (139, false)), .v (.load (.t 140) none)⟩,
      ⟨(some 142), (some (139, false)), .v (.off (.t 11) 0)⟩,
      ⟨(some 143), (some (139, false)), .v (.load (.t 142) none)⟩,
      ⟨(some 144), (some (139, false)), .v (.bin .lss (.t 141) (.t 143))⟩,
      ⟨(some 145), none, .v (.pick (.t 139) (.c (.lit (.bool true))) (.t 144))⟩,
      ⟨(some 146), none, .v (.mov (.t 145))⟩,
      ⟨(some 147), (some (146, false)), .v (.off (.t 14) 1)⟩,
      ⟨(some 148), (some (146, false)), .v (.load (.t 147) none)⟩,
      ⟨(some 149), (some (146, false)), .v (.off (.t 11) 1)⟩,
      ⟨(some 150), (some (146, false)), .v (.load (.t 149) none)⟩,
      ⟨(some 151), (some (146, false)), .v (.bin .gtr (.t 148) (.t 150))⟩,
      ⟨(some 152), none, .v (.pick (.t 146) (.c (.lit (.bool true))) (.t 151))⟩])
    (.cond (.t 152)
      (.seq (.reg [⟨(some 6), none, .v (.mov (.c (.lit (.bool false))))⟩])
      .ret)
      .skip))
    (.tre (.op ⟨(some 153), none, .v (.load (.t 13) (some 2))⟩ (.op o9_7 (tn o9_8 (tn o9_9 .leaf)) (tn o9_8 (tn o9_7 (tn o9_9 .leaf)))) (tn o9_7 (tn ⟨(some
  153), none, .v (.load (.t 13) (some 2))⟩ (tn o9_8 (tn o9_9 .leaf)))))))))))
    (.reg [⟨(some 50), none, .v (.mov (.t 12))⟩,
      ⟨(some 51), none, .v (.bin .add (.t 50) (.c (.int .i64 (1))))⟩,
      ⟨(some 12), none, .v (.mov (.t 51))⟩]))))))
  (.seq (.reg [⟨(some 155), none, .call (.c (.fn 21 [])) []⟩,
    ⟨(some 6), none, .v (.mov (.t 155))⟩])
  .ret)))))))
def r9 : List RV := [.t 6]
theorem k9 : (Try.f9.body.bind (cC Try.prog), cR Try.prog Try.f9.results.toList, Try.f9.ntmps) = (some s9, some r9, 156) := by kernel_rfl
def Fmod : FC := fun args => match args with
  | [.int .i64 a, .int .i64 b] => some (0 < b ∧ b ≤ 9223372036854775807, .int .i64 (a % b))
  | _ => none
theorem p42 : PureOk Try.prog 42 (fcC Fmod) := by
  refine pure_of (T := []) trivial Try.func42 k42 ?_
  intro args K hC
  unfold fcC Fmod at hC
  split at hC <;> first | (exact hC.elim) | skip
  rename_i h
  split at h <;> first | (cases h; done) | skip
  cases h
  rename_i a b
  obtain ⟨⟨hb, hb2⟩, hK⟩ := hC
  have e := Int.tmod_eq_emod (a := a) (b := b)
  have h1 := Int.emod_nonneg a (show b ≠ 0 by omega)
  have h2 := Int.emod_lt_of_pos a hb
  have h3 : (b.natAbs : Int) = b := by omega
  simp only [inr64, ne_eq, e_skip, e_reg, e_seq, e_cond, e_ret, o_nil, o_cons, gd_none, putK_e, runK_e, vK_e, evh_v, seqK_n, condK_b, ends_r, endK1_e, endK2_e, evp, bin, gt, st, putf, X.get, mkfr, rep, rdR, tupled, clV, clS, clo, undef, Nat.reduceSub, true_and, decide_eq_true_eq, decide_eq_false_iff_not, s42, r42]
  have e2 : a.tmod b = a % b ∨ a.tmod b = a % b - b := by
    by_cases c : 0 ≤ a ∨ b ∣ a
    · rw [if_pos c] at e; exact .inl (by simpa using e)
    · rw [if_neg c, h3] at e; exact .inr e
  exact ⟨by omega, fun h => ⟨by omega, res hK (by simp [leR]; omega)⟩, fun h => res hK (by simp [leR]; omega)⟩
def chz (low high n : Int) : Int := if high ≤ low then low else low + n % (high - low + 1)
theorem chz_bnd {a b n : Int} (h : a ≤ b) : a ≤ chz a b n ∧ chz a b n ≤ b := by
  unfold chz
  split
  · omega
  · have h1 := Int.emod_nonneg n (show b - a + 1 ≠ 0 by omega)
    have h2 := Int.emod_lt_of_pos n (show 0 < b - a + 1 by omega)
    omega
def Fch : FC := fun args => match args with
  | [.int .i64 a, .int .i64 b, .int .i64 n] => some ((-1000000000 ≤ a ∧ a ≤ 1000000000) ∧ (-1000000000 ≤ b ∧ b ≤ 1000000000), .int .i64 (chz a b n))
  | _ => none
theorem p37 : PureOk Try.prog 37 (fcC Fch) := by
  refine pure_of (T := [(42, .fc Fmod)]) ⟨⟨p42, q42⟩, trivial⟩ Try.func37 k37 ?_
  intro args K hC
  unfold fcC Fch at hC
  split at hC <;> first | (exact hC.elim) | skip
  rename_i h
  split at h <;> first | (cases h; done) | skip
  cases h
  rename_i a b n
  obtain ⟨⟨⟨h1, h2⟩, h3, h4⟩, hK⟩ := hC
  simp only [inr64, e_skip, e_reg, e_seq, e_cond, e_ret, o_nil, o_cons, gd_none, putK_e, runK_e, vK_e, conK_e, callK_e, evh_v, evh_call, seqK_n, seqK_r, condK_b, ends_r, endK1_e, endK2_e, gam_e, gamK_f, pc_e, pcK_e, fcC_e, fcK_e, evp, bin, gt, st, putf, X.get, gets, ap, mkfr, rep, rdR, tupled, clV, clL, clS, clo, lk, undef, Nat.reduceSub, beq_self_eq_true, true_and, decide_eq_true_eq, decide_eq_false_iff_not, s37, r37, Fmod]
  refine ⟨fun h => res hK (by simp [leR, chz]; omega), fun h => ⟨by omega, by omega, fun h5 => by omega, fun h5 => ?_⟩⟩
  have m1 := Int.emod_nonneg n (show b - a + 1 ≠ 0 by omega)
  have m2 := Int.emod_lt_of_pos n (show 0 < b - a + 1 by omega)
  exact ⟨⟨by omega, by omega⟩, by omega, res hK (by simp [leR, chz]; omega)⟩
def pk (l : List Int) (n : Int) : Int := if l.length = 0 then 0 else l.getD (n % (l.length : Int)).toNat 0
def Fpk : FC := fun args => match args with
  | [.ints .i64 l, .int .i64 n] => some ((l.length : Int) ≤ 9223372036854775807, .int .i64 (pk l n))
  | _ => none
theorem p38 : PureOk Try.prog 38 (fcC Fpk) := by
  refine pure_of (T := [(42, .fc Fmod)]) ⟨⟨p42, q42⟩, trivial⟩ Try.func38 k38 ?_
  intro args K hC
  unfold fcC Fpk at hC
  split at hC <;> first | (exact hC.elim) | skip
  rename_i h
  split at h <;> first | (cases h; done) | skip
  cases h
  rename_i l n
  obtain ⟨h1, hK⟩ := hC
  simp only [e_skip, e_reg, e_seq, e_cond, e_ret, o_nil, o_cons, gd_none, putK_e, runK_e, vK_e, conK_e, callK_e, evh_v, evh_call, seqK_n, seqK_r, condK_b, ends_r, endK1_e, endK2_e, gam_e, gamK_f, pc_e, pcK_e, fcC_e, fcK_e, evp, bin, gt, gq, st, putf, X.get, gets, ap, mkfr, rep, rdR, tupled, clV, clL, clS, clo, ld, lda, lens, ixs, lk, undef, Nat.reduceSub, beq_self_eq_true, true_and, decide_eq_true_eq, decide_eq_false_iff_not, s38, r38, Fmod]
  refine ⟨fun h => res hK (by simp [leR, pk]; intro h2; simp [h2] at h), fun h => ?_⟩
  have m1 := Int.emod_nonneg n (show (l.length : Int) ≠ 0 by omega)
  have m2 := Int.emod_lt_of_pos n (show 0 < (l.length : Int) by omega)
  have h' : l.length ≠ 0 := by omega
  rw [pk, if_neg h'] at hK
  exact ⟨⟨by omega, by omega⟩, ⟨m1, m2⟩, res hK (by simp [leR])⟩
def Fhol : FC := fun args => match args with
  | [.agg [.int .i64 a, .int .i64 b], .int .i64 n] => some (True, .bool (decide (a ≤ n ∧ n ≤ b)))
  | _ => none
theorem p35 : PureOk Try.prog 35 (fcC Fhol) := by
  refine pure_of (T := [(33, .fc Fin)]) ⟨⟨p33, q33⟩, trivial⟩ Try.func35 k35 ?_
  intro args K hC
  unfold fcC Fhol at hC
  split at hC <;> first | (exact hC.elim) | skip
  rename_i h
  split at h <;> first | (cases h; done) | skip
  cases h
  obtain ⟨-, hK⟩ := hC
  simp only [e_reg, e_seq, e_ret, o_nil, o_cons, gd_none, putK_e, runK_e, vK_e, boxK_e, conK_e, callK_e, evh_v, evh_box, evh_call, seqK_n, ends_r, endK1_e, endK2_e, gam_e, gamK_f, pc_e, pcK_e, fcC_e, fcK_e, evp, gt, gq, st, putf, X.get, gets, ap, mkfr, rep, rdR, tupled, clV, clL, clS, clo, ld, lda, cs1, gb, pb, ln, lk, undef, Nat.reduceSub, Nat.reduceAdd, beq_self_eq_true, true_and, s35, r35, Fin]
  exact res hK (by simp [leR])
def C32 : PC := fun args K => ∃ v : Sx, args = [v.sv] ∧ K (.bool (decide v.ok))
theorem p32 : PureOk Try.prog 32 C32 := by
  refine pure_of (T := [(17, .pc C17), (33, .fc Fin), (41, .fc Fsp)]) ⟨⟨p17, q17⟩, ⟨p33, q33⟩, ⟨p41, q41⟩, trivial⟩ Try.func32 k32 ?_
  rintro args K ⟨v, rfl, hK⟩
  have hsv : v.sv = .agg [.int .i64 v.step, .rd 2 v.T.length (rowsS v.T), .int .i64 v.a, .int .i64 v.b, .int .i64 v.w, .rd 2 v.S.length (rowsS v.S)] := rfl
  rw [hsv]
  simp only [e_reg, e_seq, o_nil, o_cons, gd_none, putK_e, runK_e, vK_e, boxK_e, conK_e, callK_e, evh_v, evh_box, evh_call, seqK_n, gam_e, gamK_p, pc_e, pcK_e, evp, bin, gt, st, putf, X.get, gets, ap, mkfr, rep, clV, clL, clS, clo, ld, lda, tk, dr, cs1, gb, pb, ln, lk, undef, Nat.reduceSub, beq_self_eq_true, true_and, s32, r32]
  refine ⟨v, rfl, ?_⟩
  by_cases ho : v.ok
  · have e : v.chk = 0 := by unfold Sx.chk; rw [if_pos ho]
    have hd : decide v.ok = true := decide_eq_true ho
    rw [hd] at hK
    obtain ⟨⟨o1, o2, o3, o4⟩, o5, o6, o7, o8⟩ := ho
    have o1' := eq_true o1
    have o2' := eq_true o2
    have o7' := eq_true o7
    have o5' := eq_true o5
    simp only [gdK_btt, decide_true, e_ret, o_nil, o_cons, gd_none, gd_some, gdK_tt, putK_e, runK_e, vK_e, conK_e, callK_e, evh_v, evh_call, seqK_n, ends_r, endK1_e, endK2_e, gam_e, gamK_f, pc_e, pcK_e, fcC_e, fcK_e, evp, bin, gt, gq, st, putf, X.get, gets, ap, rdR, tupled, clV, clL, clS, clo, ld, lda, lens, tk, dr, gb, lk, Nat.reduceAdd, Nat.reduceBEq, beq_self_eq_true, true_and, e, Fin, Fsp, o1', o2', o7', o5']
    exact res hK (by simp [leR])
  · have e : v.chk = 50 := by unfold Sx.chk; rw [if_neg ho]
    have hd : decide v.ok = false := decide_eq_false ho
    rw [hd] at hK
    have h50 : ((50 : Int) = 0) = False := by simp
    simp only [gdK_btf, decide_false, e_ret, o_nil, o_cons, gd_none, gd_some, gdK_ft, putK_e, runK_e, skipK_e, vK_e, evh_v, seqK_n, ends_r, endK1_e, endK2_e, evp, gt, st, putf, X.get, rdR, tupled, clV, clS, clo, undef, true_and, e, h50]
    exact res hK (by simp [leR])
theorem rowsS_snoc (L : List (Int × Int)) (p : Int × Int) (i : Nat) (h : i < L.length + 1) : (if i < L.length then rowsS L i else [.int .i64 p.1, .int .i64 p.2]) = rowsS (L ++ [p]) i := by
  unfold rowsS lo hi
  by_cases h1 : i < L.length
  · rw [if_pos h1]; simp [List.getD, List.getElem?_append_left h1]
  · have : i = L.length := by omega
    subst this
    rw [if_neg h1]; simp [List.getD]
def sunP (i d w : Int) (bits : List Int) (k : Nat) : Int × Int := (d - i + chz (-w) w (pk bits (2 * k + 3)), d + i + chz (-w) w (pk bits (2 * k + 4)))
def sunL (i d w : Int) (bits : List Int) (n : Nat) : List (Int × Int) := (List.range n).map (sunP i d w bits)
theorem sunL_len {i d w : Int} {bits : List Int} {n : Nat} : (sunL i d w bits n).length = n := by simp [sunL]
theorem sunL_snoc {i d w : Int} {bits : List Int} {n : Nat} : sunL i d w bits (n + 1) = sunL i d w bits n ++ [sunP i d w bits n] := by simp [sunL, List.range_succ]
theorem sunL_get {i d w : Int} {bits : List Int} {n k : Nat} (h : k < n) : (sunL i d w bits n).getD k (0, 0) = sunP i d w bits k := by simp [sunL, List.getD, h]
theorem Fe_iff {w : Int} {L : List (Int × Int)} {x y : Int} : ∀ k, Fe w L x y k ↔ ∀ j, j < k → (lo L j + x + -w ≤ y ∧ y ≤ lo L j + x + w) ∧ (hi L j - x + -w ≤ y ∧ y ≤ hi L j - x + w)
  | 0 => ⟨fun _ j h => by omega, fun _ => trivial⟩
  | k + 1 => by
    simp only [Fe]
    rw [Fe_iff k]
    constructor
    · rintro ⟨h1, h2, h3⟩ j hj
      by_cases hjk : j < k
      · exact h1 j hjk
      · have : j = k := by omega
        subst this; exact ⟨h2, h3⟩
    · intro h
      exact ⟨fun j hj => h j (by omega), (h k (by omega)).1, (h k (by omega)).2⟩
theorem Fe_less {i d w : Int} {bits : List Int} {n : Nat} {x y : Int} (h : Fe w (sunL i d w bits (n + 1)) x y (n + 1)) : Fe w (sunL i d w bits n) x y n := by
  rw [Fe_iff] at h ⊢
  intro j hj
  have := h j (by omega)
  unfold lo hi at *
  rw [sunL_get (by omega)] at this ⊢
  exact this
theorem Fe_true {i d w : Int} {bits : List Int} {n : Nat} (hw : 0 ≤ w) : Fe w (sunL i d w bits n) i d n := by
  rw [Fe_iff]
  intro j hj
  have h1 := chz_bnd (n := pk bits (2 * j + 3)) (show -w ≤ w by omega)
  have h2 := chz_bnd (n := pk bits (2 * j + 4)) (show -w ≤ w by omega)
  unfold lo hi
  rw [sunL_get hj]
  simp only [sunP]
  omega
theorem sun_hull {v : Sx} {D : Int × Int} {L : List (Int × Int)} (hok : v.ok) (hQ : sunQ D L) {i d : Int} (hi' : v.a ≤ i ∧ i ≤ v.b) (hd : D.1 ≤ d ∧ d ≤ D.2) (hf : Fe v.w L i d L.length) :
    (sunR v D L).2.2 = 0 ∧ Hull (fun x => (v.a ≤ x ∧ x ≤ v.b) ∧ ∃ y, (D.1 ≤ y ∧ y ≤ D.2) ∧ Fe v.w L x y L.length) (sunR v D L).1 ∧ Hull (fun y => (D.1 ≤ y ∧ y ≤ D.2) ∧ ∃ x, (v.a ≤ x ∧ x ≤ v.b) ∧ Fe v.w L x y L.length) (sunR v D L).2.1 := by
  have hD := hQ.1.1.2
  have hab := hok.2.1
  have en : v.a + (((v.b - v.a + 1).toNat : Nat) : Int) = v.b + 1 := by omega
  rcases accS_spec (a := v.a) (w := v.w) (L := L) hD (v.b - v.a + 1).toNat with ⟨h1, h2⟩ | ⟨h1, h2⟩
  · exact absurd hf (h2 i hi'.1 (by omega) d hd)
  · have e : sunR v D L = ((accS v.a v.w D L (v.b - v.a + 1).toNat).1, (accS v.a v.w D L (v.b - v.a + 1).toNat).2, 0) := by
      unfold sunR
      rw [if_pos hok, if_pos hQ, if_neg (hull_no h1)]
    rw [e]
    refine ⟨rfl, hull_of h1 fun x => ?_, hull_of h2 fun y => ?_⟩
    · constructor
      · rintro ⟨q1, q2⟩; exact ⟨by omega, q2⟩
      · rintro ⟨q1, q2⟩; exact ⟨by omega, q2⟩
    · constructor
      · rintro ⟨q1, x, q2, q3⟩; exact ⟨q1, x, by omega, q3⟩
      · rintro ⟨q1, x, q2, q3⟩; exact ⟨q1, x, by omega, q3⟩
def sunI (v : Sx) (D : Int × Int) (i d : Int) (bits : List Int) (k : Nat) : Int × Int := if k = 0 then (v.a, v.b) else (sunR v D (sunL i d v.w bits k)).1
def sunD (v : Sx) (D : Int × Int) (i d : Int) (bits : List Int) (k : Nat) : Int × Int := if k = 0 then D else (sunR v D (sunL i d v.w bits k)).2.1
theorem sun_nar {v : Sx} {D : Int × Int} {i d : Int} {bits : List Int} {k : Nat} (hok : v.ok) (hD : (1 ≤ D.1 ∧ D.1 ≤ D.2) ∧ D.2 ≤ 4000) (hL : okL (sunL i d v.w bits (k + 1))) (hi' : v.a ≤ i ∧ i ≤ v.b) (hd : D.1 ≤ d ∧ d ≤ D.2) :
    (sunR v D (sunL i d v.w bits (k + 1))).2.2 = 0 ∧ ((sunI v D i d bits (k + 1)).1 ≤ i ∧ i ≤ (sunI v D i d bits (k + 1)).2) ∧ ((sunD v D i d bits (k + 1)).1 ≤ d ∧ d ≤ (sunD v D i d bits (k + 1)).2) ∧
    ((sunI v D i d bits k).1 ≤ (sunI v D i d bits (k + 1)).1 ∧ (sunI v D i d bits (k + 1)).2 ≤ (sunI v D i d bits k).2) ∧ ((sunD v D i d bits k).1 ≤ (sunD v D i d bits (k + 1)).1 ∧ (sunD v D i d bits (k + 1)).2 ≤ (sunD v D i d bits k).2) := by
  have hw := hok.2.2.1.1
  have hf := Fe_true (i := i) (d := d) (bits := bits) (n := k + 1) hw
  obtain ⟨e, h1, h2⟩ := sun_hull (L := sunL i d v.w bits (k + 1)) hok ⟨hD, hL⟩ hi' hd (by rw [sunL_len]; exact hf)
  have eI : sunI v D i d bits (k + 1) = (sunR v D (sunL i d v.w bits (k + 1))).1 := if_neg (by omega)
  have eD : sunD v D i d bits (k + 1) = (sunR v D (sunL i d v.w bits (k + 1))).2.1 := if_neg (by omega)
  rw [eI, eD]
  refine ⟨e, h1.2.2 i ⟨hi', d, hd, by rw [sunL_len]; exact hf⟩, h2.2.2 d ⟨hd, i, hi', by rw [sunL_len]; exact hf⟩, ?_⟩
  by_cases hk : k = 0
  · subst hk
    have g1 := h1.1.1
    have g2 := h1.2.1.1
    have g3 := h2.1.1
    have g4 := h2.2.1.1
    simp only [sunI, sunD, ↓reduceIte]
    exact ⟨⟨g1.1, g2.2⟩, g3.1, g4.2⟩
  · have hL' : okL (sunL i d v.w bits k) := by
      obtain ⟨q1, q2⟩ := hL
      rw [sunL_len] at q1
      rw [sunL_snoc, List.all_append, Bool.and_eq_true] at q2
      refine ⟨by rw [sunL_len]; omega, q2.1⟩
    have hf' := Fe_true (i := i) (d := d) (bits := bits) (n := k) hw
    obtain ⟨-, m1, m2⟩ := sun_hull (L := sunL i d v.w bits k) hok ⟨hD, hL'⟩ hi' hd (by rw [sunL_len]; exact hf')
    have fI : sunI v D i d bits k = (sunR v D (sunL i d v.w bits k)).1 := if_neg hk
    have fD : sunD v D i d bits k = (sunR v D (sunL i d v.w bits k)).2.1 := if_neg hk
    rw [fI, fD]
    have s1 : ∀ x, ((v.a ≤ x ∧ x ≤ v.b) ∧ ∃ y, (D.1 ≤ y ∧ y ≤ D.2) ∧ Fe v.w (sunL i d v.w bits (k + 1)) x y (sunL i d v.w bits (k + 1)).length) → (sunR v D (sunL i d v.w bits k)).1.1 ≤ x ∧ x ≤ (sunR v D (sunL i d v.w bits k)).1.2 := by
      rintro x ⟨q1, y, q2, q3⟩
      rw [sunL_len] at q3
      exact m1.2.2 x ⟨q1, y, q2, by rw [sunL_len]; exact Fe_less q3⟩
    have s2 : ∀ y, ((D.1 ≤ y ∧ y ≤ D.2) ∧ ∃ x, (v.a ≤ x ∧ x ≤ v.b) ∧ Fe v.w (sunL i d v.w bits (k + 1)) x y (sunL i d v.w bits (k + 1)).length) → (sunR v D (sunL i d v.w bits k)).2.1.1 ≤ y ∧ y ≤ (sunR v D (sunL i d v.w bits k)).2.1.2 := by
      rintro y ⟨q1, x, q2, q3⟩
      rw [sunL_len] at q3
      exact m2.2.2 y ⟨q1, x, q2, by rw [sunL_len]; exact Fe_less q3⟩
    exact ⟨⟨(s1 _ h1.1).1, (s1 _ h1.2.1).2⟩, (s2 _ h2.1).1, (s2 _ h2.2.1).2⟩
def C22' : PC := fun args K => ∃ (v : Sx) (D : Int × Int) (L : List (Int × Int)) (f : Nat → List SV), args = [v.sv, .agg [.int .i64 D.1, .int .i64 D.2], .rd 2 L.length f] ∧ (∀ i, i < L.length → f i = rowsS L i) ∧ K (sun3 (sunR v D L))
theorem p22' : PureOk Try.prog 22 C22' := by
  rintro w im args vs K him ha ⟨v, D, L, f, rfl, hf, hK⟩
  refine p22 w im [v.sv, .agg [.int .i64 D.1, .int .i64 D.2], .rd 2 L.length (rowsS L)] vs K him ?_ ⟨v, D, L, rfl, hK⟩
  cases ha with
  | cons _ _ _ _ h0 h =>
    cases h with
    | cons _ _ _ _ h1 h =>
      cases h with
      | cons _ _ _ _ h2 h =>
        exact .cons _ _ _ _ h0 (.cons _ _ _ _ h1 (.cons _ _ _ _ (leR_ok 4 (x := .rd 2 L.length f) (by simp only [leR, true_and]; exact hf) h2) h))
def C9 : PC := fun args K => ∃ (v : Sx) (D : Int × Int) (bits : List Int), args = [v.sv, .agg [.int .i64 D.1, .int .i64 D.2], .ints .i64 bits] ∧ (bits.length : Int) ≤ 9223372036854775807 ∧ K (.lit (.bool true))
set_option maxHeartbeats 4000000 in
theorem p9 (p21 : PureOk Try.prog 21 (fcC F21)) (q21 : Known Try.prog 21) : PureOk Try.prog 9 C9 := by
  refine pure_of (T := [(32, .pc C32), (41, .fc Fsp), (21, .fc F21), (38, .fc Fpk), (37, .fc Fch), (42, .fc Fmod), (33, .fc Fin), (22, .con (lend C22')), (35, .fc Fhol)]) ⟨⟨p32, q32⟩, ⟨p41, q41⟩, ⟨p21, q21⟩, ⟨p38, q38⟩, ⟨p37, q37⟩, ⟨p42, q42⟩, ⟨p33, q33⟩, ⟨lend_ok p22', q22⟩, ⟨p35, q35⟩, trivial⟩ Try.func9 k9 ?_
  rintro args K ⟨v, D, bits, rfl, hbl, hK⟩
  have hsv : v.sv = .agg [.int .i64 v.step, .rd 2 v.T.length (rowsS v.T), .int .i64 v.a, .int .i64 v.b, .int .i64 v.w, .rd 2 v.S.length (rowsS v.S)] := rfl
  rw [hsv]
  simp only [e_reg, e_seq, o_nil, o_cons, gd_none, putK_e, runK_e, vK_e, boxK_e, conK_e, callK_e, evh_v, evh_box, evh_call, seqK_n, gam_e, gamK_p, pc_e, pcK_e, evp, gt, st, putf, X.get, gets, ap, mkfr, rep, clV, clL, clS, clo, ld, lda, tk, dr, cs1, gb, pb, ln, lk, undef, Nat.reduceSub, Nat.reduceAdd, beq_self_eq_true, true_and, s9, r9, tn, o9_0, o9_1, o9_2, o9_3, o9_4, o9_5, o9_6, o9_7, o9_8, o9_9]
  refine ⟨v, rfl, ?_⟩
  by_cases hok : v.ok
  · have h1 : decide v.ok = true := decide_eq_true hok
    by_cases hD : (1 ≤ D.1 ∧ D.1 ≤ D.2) ∧ D.2 ≤ 4000
    · have h2 := eq_true hD
      have hab := hok.2.1
      have hw := hok.2.2.1
      have hi' := chz_bnd (n := pk bits 0) hab.1.2
      have hd := chz_bnd (n := pk bits 1) hD.1.2
      simp only [gdK_bff, condK_bf, decide_true, e_skip, e_reg, e_tre, t_leaf, t_stop, t_op, and_self, e_drw, e_seq, e_cond, e_block, e_loop, o_nil, o_cons, gd_none, gd_some, gdK_ff, putK_e, runK_e, vK_e, storeK3_e, storeK2_e, storeK_e, conK_e, callK_e, evh_v, evh_new, evh_store, evh_call, dX_e, dG_t, d_nil, d_cons, tlK_n, seqK_n, gam_e, gamK_f, gamq_e, gamqK_f, pc_e, pcK_e, fcC_e, fcK_e, evp, gt, gq, st, putf, X.get, gets, ap, clV, clL, clS, clo, clo.clos, ld, lda, tk, dr, sp, sp.spl, ll, cs1, one, allOne, gb, sb, pb, ln, lk, evq, gdl, Bool.and_true, Bool.not_true, Nat.reduceAdd, Nat.reduceBEq, beq_self_eq_true, true_and, and_true, h1, Fsp, h2, Fpk, Fch]
      refine ⟨hbl, ⟨⟨by omega, by omega⟩, by omega, by omega⟩, hbl, ⟨⟨by omega, by omega⟩, by omega, by omega⟩, ?_⟩
      generalize chz v.a v.b (pk bits 0) = i at hi' ⊢
      generalize chz D.1 D.2 (pk bits 1) = d at hd ⊢
      have hm1 := Int.emod_nonneg (pk bits 2) (show (6 : Int) ≠ 0 by decide)
      have hm2 := Int.emod_lt_of_pos (pk bits 2) (show (0 : Int) < 6 by decide)
      refine ⟨?_, ?_⟩
      · refine loop_at2 (G := Nat) (fun k => [(12, .int .i64 k), (9, .own 4)]) (fun k => [.box 26 [.int .i64 v.step, .rd 2 v.T.length (rowsS v.T), .int .i64 v.a, .int .i64 v.b, .int .i64 v.w, .rd 2 v.S.length (rowsS v.S)], .box 24 [.int .i64 D.1, .int .i64 D.2], .box 24 [.int .i64 (sunI v D i d bits k).1, .int .i64 (sunI v D i d bits k).2], .box 24 [.int .i64 (sunD v D i d bits k).1, .int .i64 (sunD v D i d bits k).2], .orw 67 2 k (rowsS (sunL i d v.w bits k))]) (fun k => (k : Int) ≤ 1 + pk bits 2 % 6 ∧ (sunL i d v.w bits k).all sunE = true) (fun k => 7 - k) 0 ⟨by omega, rfl⟩ ?_
        (intro fr1 hf1; simp only [forget, dstC, dstT, dstO, dstD, dst1, st] at hf1; subst hf1)
        refine ⟨?_, ?_⟩
        · refine Lw_re 4 [none] (Nat.zero_le _) (by simp [ln]) (by simp [ln]) rfl ?_ ?_
          · simp only [reL, reX, rn, List.getElem?_cons_zero, Nat.reduceSub, Nat.lt_irrefl, Nat.le_refl, reduceCtorEq, or_true, inb, inb.inbs, ln, sts, st, Bool.and_self, Nat.reduceLT, Nat.reduceAdd, decide_true, and_self, Int.natCast_zero]
          · simp only [reL, reX, reH, reB, reN, newB, inb, and_self, implies_true, sunI, sunD, ↓reduceIte]
        · rintro k ⟨hk, hall⟩
          by_cases hlt : (k : Int) < 1 + pk bits 2 % 6
          · have n0 := eq_true hlt
            have e1 := chz_bnd (n := pk bits (2 * k + 3)) (show -v.w ≤ v.w by omega)
            have e2 := chz_bnd (n := pk bits (2 * k + 4)) (show -v.w ≤ v.w by omega)
            have hl := sunL_len (i := i) (d := d) (w := v.w) (bits := bits) (n := k)
            simp only [condK_bt, decide_true, inr64, ↓reduceIte, e_skip, e_reg, and_self, e_drw, e_seq, e_cond, e_block, o_nil, o_cons, gd_none, gd_some, putK_e, runK_e, vK_e, appK2_or, appK_e, conK_e, callK_e, evh_v, evh_app, evh_call, dX_e, dG_t, d_nil, d_cons, creK_e, tlK_s, evc_e, seqK_n, gam_e, gamK_f, gamq_e, gamqK_f, pc_e, pcK_e, fcC_e, fcK_e, evp, bin, gt, gq, st, putf, X.get, gets, getp, ap, clV, clL, clS, clo, clo.clos, ld, lda, ixs, sp, sp.spl, lay, ll, cs1, one, allOne, gb, sb, pb, ln, lk, evq, gdl, crv, Bool.and_true, Nat.reduceAdd, Nat.reduceBEq, beq_self_eq_true, true_and, sts, Fpk, Fmod, Fch, n0, Int.toNat_natCast, Nat.lt_irrefl, Nat.lt_add_one, Fin]
            repeat refine And.intro (by first | omega | exact hbl) ?_
            by_cases q1 : 0 ≤ d - i + chz (-v.w) v.w (pk bits (2 * k + 3)) ∧ d - i + chz (-v.w) v.w (pk bits (2 * k + 3)) ≤ 6000
            · have t1 := eq_true q1
              by_cases q2 : 0 ≤ d + i + chz (-v.w) v.w (pk bits (2 * k + 4)) ∧ d + i + chz (-v.w) v.w (pk bits (2 * k + 4)) ≤ 6000
              · have t2 := eq_true q2
                simp only [gdK_bff, condK_bf, decide_true, ↓reduceIte, e_skip, e_reg, and_self, e_seq, e_cond, o_nil, o_cons, gd_none, gd_some, gdK_ff, putK_e, runK_e, vK_e, conK_e, callK_e, evh_v, evh_call, seqK_n, gam_e, gamK_f, gamK_c, pc_e, pcK_e, fcC_e, fcK_e, evp, gt, gq, st, putf, X.get, gets, ap, clV, clL, clS, clo, ld, lda, ixs, tk, dr, gb, sb, lk, Bool.not_true, Nat.reduceAdd, Nat.reduceBEq, beq_self_eq_true, true_and, t1, t2, Int.toNat_natCast, Nat.lt_irrefl, Nat.lt_add_one, Fin, lend_e, ldK_e]
                have hs := sunL_snoc (i := i) (d := d) (w := v.w) (bits := bits) (n := k)
                have hl1 := sunL_len (i := i) (d := d) (w := v.w) (bits := bits) (n := k + 1)
                have hall1 : (sunL i d v.w bits (k + 1)).all sunE = true := by
                  rw [hs, List.all_append, hall]
                  simp only [List.all_cons, List.all_nil, Bool.and_true, Bool.true_and, sunE, sunP, decide_eq_true_eq]
                  exact ⟨q1, q2⟩
                have hrow : ∀ j, j < (sunL i d v.w bits (k + 1)).length → (if j < k then rowsS (sunL i d v.w bits k) j else [.int .i64 (d - i + chz (-v.w) v.w (pk bits (2 * k + 3))), .int .i64 (d + i + chz (-v.w) v.w (pk bits (2 * k + 4)))]) = rowsS (sunL i d v.w bits (k + 1)) j := fun j hj => by
                  have := rowsS_snoc (sunL i d v.w bits k) (sunP i d v.w bits k) j (by rw [hl]; rw [hl1] at hj; exact hj)
                  rw [hl, ← hs] at this
                  exact this
                refine ⟨⟨by omega, by omega⟩, v, D, sunL i d v.w bits (k + 1), _, by rw [hl1, hsv], hrow, ?_⟩
                obtain ⟨r1, r2, r3, r4, r5⟩ := sun_nar hok hD ⟨by rw [hl1]; omega, hall1⟩ hi' hd
                have eI : (sunR v D (sunL i d v.w bits (k + 1))).1 = sunI v D i d bits (k + 1) := (if_neg (by omega)).symm
                have eD : (sunR v D (sunL i d v.w bits (k + 1))).2.1 = sunD v D i d bits (k + 1) := (if_neg (by omega)).symm
                have c1 := eq_true r2
                have c2 := eq_true r3
                have c3 : ((sunI v D i d bits (k + 1)).1 < (sunI v D i d bits k).1) = False := by simp; omega
                have c4 : ((sunI v D i d bits k).2 < (sunI v D i d bits (k + 1)).2) = False := by simp; omega
                have c5 : ((sunD v D i d bits (k + 1)).1 < (sunD v D i d bits k).1) = False := by simp; omega
                have c6 : ((sunD v D i d bits k).2 < (sunD v D i d bits (k + 1)).2) = False := by simp; omega
                simp only [gdK_bff, condK_bf, decide_true, decide_false, inr64, e_skip, e_reg, e_tre, t_leaf, t_stop, t_op, and_self, e_seq, e_cond, o_nil, o_cons, gd_none, gd_some, gdK_ff, putK_e, runK_e, vK_e, storeK3_e, storeK2_e, storeK_e, conK_e, callK_e, evh_v, evh_new, evh_store, evh_call, loopK_n, seqK_n, blockK_n, gam_e, gamK_f, pc_e, pcK_e, fcC_e, fcK_e, evp, bin, gt, gq, st, putf, X.get, gets, ap, clV, clL, clS, clo, ld, lda, tk, dr, sp, sp.spl, ll, cs1, one, allOne, gb, sb, pb, ln, lk, Bool.and_true, Bool.not_true, Nat.reduceAdd, Nat.reduceBEq, beq_self_eq_true, true_and, and_true, sun3, npt, npt.npts, eI, eD, r1, Fhol, c1, c2, c3, c4, c5, c6]
                repeat' (first | omega | refine And.intro ?_ ?_)
                refine Nx.mk (k + 1) ⟨by omega, hall1⟩ (by omega) (Lw_re 4 [some 6] (Nat.zero_le _) (by simp [ln]) (by simp [ln]) rfl ?_ ?_)
                · simp only [reL, reX, rn, List.getElem?_cons_zero, Nat.reduceSub, Nat.lt_irrefl, Nat.le_refl, and_false, or_true, inb, inb.inbs, ln, Bool.and_self, Nat.reduceLT, Nat.reduceAdd, decide_true, and_self, Int.natCast_add, Int.natCast_one]
                · simp only [reL, reX, reH, reB, reM, reN, gb, Nat.reduceLeDiff, inb, ln, Nat.reduceLT, Nat.reduceAdd, true_and, and_true, and_self, implies_true]
                  exact fun j hj => hrow j (by rw [hl1]; exact hj)
              · have t2 := eq_false q2
                simp only [gdK_bff, condK_bt, decide_true, decide_false, ↓reduceIte, e_reg, and_self, e_seq, e_cond, e_ret, o_nil, o_cons, gd_none, gd_some, gdK_ff, putK_e, runK_e, vK_e, conK_e, callK_e, evh_v, evh_call, loopK_r, seqK_n, seqK_r, blockK_r, ends_r, endK1_e, endK2_e, gam_e, gamK_f, pc_e, pcK_e, fcC_e, fcK_e, evp, gt, gq, st, putf, X.get, gets, ap, rdR, tupled, clV, clL, clS, clo, ld, lda, ixs, gb, lk, Bool.not_true, Bool.not_false, Nat.reduceAdd, Nat.reduceBEq, beq_self_eq_true, true_and, t1, t2, Int.toNat_natCast, Nat.lt_irrefl, Nat.lt_add_one, Fin, F21]
                exact ⟨⟨by omega, by omega⟩, res hK (by simp [leR])⟩
            · have t1 := eq_false q1
              simp only [gdK_bft, decide_false, e_reg, e_seq, e_cond, e_ret, o_nil, o_cons, gd_none, gd_some, gdK_tf, putK_e, runK_e, skipK_e, vK_e, conK_e, callK_e, evh_v, evh_call, loopK_r, seqK_n, seqK_r, condK_t, blockK_r, ends_r, endK1_e, endK2_e, gam_e, gamK_f, pc_e, pcK_e, fcC_e, fcK_e, evp, gt, st, putf, X.get, gets, ap, rdR, tupled, clV, clL, clS, clo, lk, undef, Bool.not_false, Nat.reduceBEq, beq_self_eq_true, true_and, t1, F21]
              exact res hK (by simp [leR])
          · have n0 := eq_false hlt
            simp only [condK_bf, decide_false, inr64, e_reg, e_seq, e_cond, e_exit, e_ret, o_nil, o_cons, gd_none, putK_e, runK_e, vK_e, conK_e, callK_e, evh_v, evh_call, loopK_x, seqK_n, seqK_x, exitK_t, blockK_x, ends_r, endK1_e, endK2_e, gam_e, gamK_f, pc_e, pcK_e, fcC_e, fcK_e, evp, bin, gt, st, putf, X.get, gets, ap, rdR, tupled, clV, clL, clS, clo, lk, Nat.reduceBEq, beq_self_eq_true, true_and, sts, Fpk, Fmod, n0, F21]
            exact ⟨hbl, ⟨by omega, by omega⟩, ⟨by omega, by omega⟩, res hK (by simp [leR])⟩
      · refine loop_at2 (G := Nat) (fun k => [(12, .int .i64 k), (9, .own 4)]) (fun k => [.box 26 [.int .i64 v.step, .rd 2 v.T.length (rowsS v.T), .int .i64 v.a, .int .i64 v.b, .int .i64 v.w, .rd 2 v.S.length (rowsS v.S)], .box 24 [.int .i64 D.1, .int .i64 D.2], .box 24 [.int .i64 (sunD v D i d bits k).1, .int .i64 (sunD v D i d bits k).2], .box 24 [.int .i64 (sunI v D i d bits k).1, .int .i64 (sunI v D i d bits k).2], .orw 67 2 k (rowsS (sunL i d v.w bits k))]) (fun k => (k : Int) ≤ 1 + pk bits 2 % 6 ∧ (sunL i d v.w bits k).all sunE = true) (fun k => 7 - k) 0 ⟨by omega, rfl⟩ ?_
        (intro fr1 hf1; simp only [forget, dstC, dstT, dstO, dstD, dst1, st] at hf1; subst hf1)
        refine ⟨?_, ?_⟩
        · refine Lw_re 4 [none] (Nat.zero_le _) (by simp [ln]) (by simp [ln]) rfl ?_ ?_
          · simp only [reL, reX, rn, List.getElem?_cons_zero, Nat.reduceSub, Nat.lt_irrefl, Nat.le_refl, reduceCtorEq, or_true, inb, inb.inbs, ln, sts, st, Bool.and_self, Nat.reduceLT, Nat.reduceAdd, decide_true, and_self, Int.natCast_zero]
          · simp only [reL, reX, reH, reB, reN, newB, inb, and_self, implies_true, sunI, sunD, ↓reduceIte]
        · rintro k ⟨hk, hall⟩
          by_cases hlt : (k : Int) < 1 + pk bits 2 % 6
          · have n0 := eq_true hlt
            have e1 := chz_bnd (n := pk bits (2 * k + 3)) (show -v.w ≤ v.w by omega)
            have e2 := chz_bnd (n := pk bits (2 * k + 4)) (show -v.w ≤ v.w by omega)
            have hl := sunL_len (i := i) (d := d) (w := v.w) (bits := bits) (n := k)
            simp only [condK_bt, decide_true, inr64, ↓reduceIte, e_skip, e_reg, and_self, e_drw, e_seq, e_cond, e_block, o_nil, o_cons, gd_none, gd_some, putK_e, runK_e, vK_e, appK2_or, appK_e, conK_e, callK_e, evh_v, evh_app, evh_call, dX_e, dG_t, d_nil, d_cons, creK_e, tlK_s, evc_e, seqK_n, gam_e, gamK_f, gamq_e, gamqK_f, pc_e, pcK_e, fcC_e, fcK_e, evp, bin, gt, gq, st, putf, X.get, gets, getp, ap, clV, clL, clS, clo, clo.clos, ld, lda, ixs, sp, sp.spl, lay, ll, cs1, one, allOne, gb, sb, pb, ln, lk, evq, gdl, crv, Bool.and_true, Nat.reduceAdd, Nat.reduceBEq, beq_self_eq_true, true_and, sts, Fpk, Fmod, Fch, n0, Int.toNat_natCast, Nat.lt_irrefl, Nat.lt_add_one, Fin]
            repeat refine And.intro (by first | omega | exact hbl) ?_
            by_cases q1 : 0 ≤ d - i + chz (-v.w) v.w (pk bits (2 * k + 3)) ∧ d - i + chz (-v.w) v.w (pk bits (2 * k + 3)) ≤ 6000
            · have t1 := eq_true q1
              by_cases q2 : 0 ≤ d + i + chz (-v.w) v.w (pk bits (2 * k + 4)) ∧ d + i + chz (-v.w) v.w (pk bits (2 * k + 4)) ≤ 6000
              · have t2 := eq_true q2
                simp only [gdK_bff, condK_bf, decide_true, ↓reduceIte, e_skip, e_reg, and_self, e_seq, e_cond, o_nil, o_cons, gd_none, gd_some, gdK_ff, putK_e, runK_e, vK_e, conK_e, callK_e, evh_v, evh_call, seqK_n, gam_e, gamK_f, gamK_c, pc_e, pcK_e, fcC_e, fcK_e, evp, gt, gq, st, putf, X.get, gets, ap, clV, clL, clS, clo, ld, lda, ixs, tk, dr, gb, sb, lk, Bool.not_true, Nat.reduceAdd, Nat.reduceBEq, beq_self_eq_true, true_and, t1, t2, Int.toNat_natCast, Nat.lt_irrefl, Nat.lt_add_one, Fin, lend_e, ldK_e]
                have hs := sunL_snoc (i := i) (d := d) (w := v.w) (bits := bits) (n := k)
                have hl1 := sunL_len (i := i) (d := d) (w := v.w) (bits := bits) (n := k + 1)
                have hall1 : (sunL i d v.w bits (k + 1)).all sunE = true := by
                  rw [hs, List.all_append, hall]
                  simp only [List.all_cons, List.all_nil, Bool.and_true, Bool.true_and, sunE, sunP, decide_eq_true_eq]
                  exact ⟨q1, q2⟩
                have hrow : ∀ j, j < (sunL i d v.w bits (k + 1)).length → (if j < k then rowsS (sunL i d v.w bits k) j else [.int .i64 (d - i + chz (-v.w) v.w (pk bits (2 * k + 3))), .int .i64 (d + i + chz (-v.w) v.w (pk bits (2 * k + 4)))]) = rowsS (sunL i d v.w bits (k + 1)) j := fun j hj => by
                  have := rowsS_snoc (sunL i d v.w bits k) (sunP i d v.w bits k) j (by rw [hl]; rw [hl1] at hj; exact hj)
                  rw [hl, ← hs] at this
                  exact this
                refine ⟨⟨by omega, by omega⟩, v, D, sunL i d v.w bits (k + 1), _, by rw [hl1, hsv], hrow, ?_⟩
                obtain ⟨r1, r2, r3, r4, r5⟩ := sun_nar hok hD ⟨by rw [hl1]; omega, hall1⟩ hi' hd
                have eI : (sunR v D (sunL i d v.w bits (k + 1))).1 = sunI v D i d bits (k + 1) := (if_neg (by omega)).symm
                have eD : (sunR v D (sunL i d v.w bits (k + 1))).2.1 = sunD v D i d bits (k + 1) := (if_neg (by omega)).symm
                have c1 := eq_true r2
                have c2 := eq_true r3
                have c3 : ((sunI v D i d bits (k + 1)).1 < (sunI v D i d bits k).1) = False := by simp; omega
                have c4 : ((sunI v D i d bits k).2 < (sunI v D i d bits (k + 1)).2) = False := by simp; omega
                have c5 : ((sunD v D i d bits (k + 1)).1 < (sunD v D i d bits k).1) = False := by simp; omega
                have c6 : ((sunD v D i d bits k).2 < (sunD v D i d bits (k + 1)).2) = False := by simp; omega
                simp only [gdK_bff, condK_bf, decide_true, decide_false, inr64, e_skip, e_reg, e_tre, t_leaf, t_stop, t_op, and_self, e_seq, e_cond, o_nil, o_cons, gd_none, gd_some, gdK_ff, putK_e, runK_e, vK_e, storeK3_e, storeK2_e, storeK_e, conK_e, callK_e, evh_v, evh_new, evh_store, evh_call, loopK_n, seqK_n, blockK_n, gam_e, gamK_f, pc_e, pcK_e, fcC_e, fcK_e, evp, bin, gt, gq, st, putf, X.get, gets, ap, clV, clL, clS, clo, ld, lda, tk, dr, sp, sp.spl, ll, cs1, one, allOne, gb, sb, pb, ln, lk, Bool.and_true, Bool.not_true, Nat.reduceAdd, Nat.reduceBEq, beq_self_eq_true, true_and, and_true, sun3, npt, npt.npts, eI, eD, r1, Fhol, c1, c2, c3, c4, c5, c6]
                repeat' (first | omega | refine And.intro ?_ ?_)
                refine Nx.mk (k + 1) ⟨by omega, hall1⟩ (by omega) (Lw_re 4 [some 6] (Nat.zero_le _) (by simp [ln]) (by simp [ln]) rfl ?_ ?_)
                · simp only [reL, reX, rn, List.getElem?_cons_zero, Nat.reduceSub, Nat.lt_irrefl, Nat.le_refl, and_false, or_true, inb, inb.inbs, ln, Bool.and_self, Nat.reduceLT, Nat.reduceAdd, decide_true, and_self, Int.natCast_add, Int.natCast_one]
                · simp only [reL, reX, reH, reB, reM, reN, gb, Nat.reduceLeDiff, inb, ln, Nat.reduceLT, Nat.reduceAdd, true_and, and_true, and_self, implies_true]
                  exact fun j hj => hrow j (by rw [hl1]; exact hj)
              · have t2 := eq_false q2
                simp only [gdK_bff, condK_bt, decide_true, decide_false, ↓reduceIte, e_reg, and_self, e_seq, e_cond, e_ret, o_nil, o_cons, gd_none, gd_some, gdK_ff, putK_e, runK_e, vK_e, conK_e, callK_e, evh_v, evh_call, loopK_r, seqK_n, seqK_r, blockK_r, ends_r, endK1_e, endK2_e, gam_e, gamK_f, pc_e, pcK_e, fcC_e, fcK_e, evp, gt, gq, st, putf, X.get, gets, ap, rdR, tupled, clV, clL, clS, clo, ld, lda, ixs, gb, lk, Bool.not_true, Bool.not_false, Nat.reduceAdd, Nat.reduceBEq, beq_self_eq_true, true_and, t1, t2, Int.toNat_natCast, Nat.lt_irrefl, Nat.lt_add_one, Fin, F21]
                exact ⟨⟨by omega, by omega⟩, res hK (by simp [leR])⟩
            · have t1 := eq_false q1
              simp only [gdK_bft, decide_false, e_reg, e_seq, e_cond, e_ret, o_nil, o_cons, gd_none, gd_some, gdK_tf, putK_e, runK_e, skipK_e, vK_e, conK_e, callK_e, evh_v, evh_call, loopK_r, seqK_n, seqK_r, condK_t, blockK_r, ends_r, endK1_e, endK2_e, gam_e, gamK_f, pc_e, pcK_e, fcC_e, fcK_e, evp, gt, st, putf, X.get, gets, ap, rdR, tupled, clV, clL, clS, clo, lk, undef, Bool.not_false, Nat.reduceBEq, beq_self_eq_true, true_and, t1, F21]
              exact res hK (by simp [leR])
          · have n0 := eq_false hlt
            simp only [condK_bf, decide_false, inr64, e_reg, e_seq, e_cond, e_exit, e_ret, o_nil, o_cons, gd_none, putK_e, runK_e, vK_e, conK_e, callK_e, evh_v, evh_call, loopK_x, seqK_n, seqK_x, exitK_t, blockK_x, ends_r, endK1_e, endK2_e, gam_e, gamK_f, pc_e, pcK_e, fcC_e, fcK_e, evp, bin, gt, st, putf, X.get, gets, ap, rdR, tupled, clV, clL, clS, clo, lk, Nat.reduceBEq, beq_self_eq_true, true_and, sts, Fpk, Fmod, n0, F21]
            exact ⟨hbl, ⟨by omega, by omega⟩, ⟨by omega, by omega⟩, res hK (by simp [leR])⟩
    · have h2 := eq_false hD
      simp only [gdK_bff, condK_bt, decide_false, e_reg, e_seq, e_cond, e_ret, o_nil, o_cons, gd_none, gd_some, gdK_ff, putK_e, runK_e, vK_e, conK_e, callK_e, evh_v, evh_call, seqK_n, seqK_r, ends_r, endK1_e, endK2_e, gam_e, gamK_f, pc_e, pcK_e, fcC_e, fcK_e, evp, gt, st, putf, X.get, gets, ap, rdR, tupled, clV, clL, clS, clo, ld, lda, tk, dr, gb, lk, Bool.not_true, Bool.not_false, Nat.reduceBEq, beq_self_eq_true, true_and, h1, Fsp, h2, F21]
      exact res hK (by simp [leR])
  · have h1 : decide v.ok = false := decide_eq_false hok
    simp only [gdK_bft, e_reg, e_seq, e_cond, e_ret, o_nil, o_cons, gd_none, gd_some, gdK_tf, putK_e, runK_e, skipK_e, vK_e, conK_e, callK_e, evh_v, evh_call, seqK_n, seqK_r, condK_t, ends_r, endK1_e, endK2_e, gam_e, gamK_f, pc_e, pcK_e, fcC_e, fcK_e, evp, gt, st, putf, X.get, gets, ap, rdR, tupled, clV, clL, clS, clo, lk, undef, Bool.not_false, Nat.reduceBEq, beq_self_eq_true, true_and, h1, F21]
    exact res hK (by simp [leR])
end Go.Proofs.Ytjagiieconpgbaa
end
