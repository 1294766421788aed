/- Sextants: the sun: small functions. -/
import Derived.Test.YtjagiieconpgbaaVgES
import Derived.Test.YtjagiieconpgbaaVgV12
section
namespace Go.Proofs.Ytjagiieconpgbaa
open Go Go.Vg
set_option linter.unusedSimpArgs false
set_option linter.unusedVariables false
set_option maxRecDepth 10000
/- 68: octant/sextant.noSpan -/
def s68 : SC :=
  (.seq (.reg [⟨(some 0), none, .new 24 [(.int .i64 (0)), (.int .i64 (0))]⟩])
  (.seq (.reg [⟨(some 1), none, .bld [(.int .i64 (0)), (.int .i64 (0))] [(0, 1, (.c (.int .i64 (1)))), (1, 1, (.c (.int .i64 (0))))]⟩,
    ⟨none, none, .store 2 (.t 0) (.t 1)⟩])
  .ret))
def r68 : List RV := [.c 0 (some 2)]
def n68 : Nat := 2
theorem k68 : (Try.f68.body.bind (cC Try.prog), cR Try.prog Try.f68.results.toList, Try.f68.ntmps) = (some s68, some r68, 2) := by kernel_rfl
theorem q68 : Known Try.prog 68 := ⟨_, Try.func68, by decide, by simp [Try.f68]⟩

/- 98: (octant/sextant.pair).byOn -/
def s98 : SC :=
  (.seq (.reg [⟨(some 2), none, .box 137 (.t 0)⟩,
    ⟨(some 4), none, .v (.mov (.c (.int .i64 (0))))⟩])
  (.seq (.reg [⟨(some 5), none, .v (.off (.t 2) 0)⟩,
    ⟨(some 6), none, .v (.off (.t 5) 0)⟩,
    ⟨(some 7), none, .v (.load (.t 6) none)⟩,
    ⟨(some 8), none, .v (.mov (.t 1))⟩,
    ⟨(some 9), none, .v (.bin .add (.t 7) (.t 8))⟩,
    ⟨(some 4), none, .v (.mov (.t 9))⟩])
  .ret))
def r98 : List RV := [.t 4]
def n98 : Nat := 10
theorem k98 : (Try.f98.body.bind (cC Try.prog), cR Try.prog Try.f98.results.toList, Try.f98.ntmps) = (some s98, some r98, 10) := by kernel_rfl
theorem q98 : Known Try.prog 98 := ⟨_, Try.func98, by decide, by simp [Try.f98]⟩

/- 99: (octant/sextant.pair).byOff -/
def s99 : SC :=
  (.seq (.reg [⟨(some 2), none, .box 137 (.t 0)⟩,
    ⟨(some 4), none, .v (.mov (.c (.int .i64 (0))))⟩])
  (.seq (.reg [⟨(some 5), none, .v (.off (.t 2) 0)⟩,
    ⟨(some 6), none, .v (.off (.t 5) 1)⟩,
    ⟨(some 7), none, .v (.load (.t 6) none)⟩,
    ⟨(some 8), none, .v (.mov (.t 1))⟩,
    ⟨(some 9), none, .v (.bin .sub (.t 7) (.t 8))⟩,
    ⟨(some 4), none, .v (.mov (.t 9))⟩])
  .ret))
def r99 : List RV := [.t 4]
def n99 : Nat := 10
theorem k99 : (Try.f99.body.bind (cC Try.prog), cR Try.prog Try.f99.results.toList, Try.f99.ntmps) = (some s99, some r99, 10) := by kernel_rfl
theorem q99 : Known Try.prog 99 := ⟨_, Try.func99, by decide, by simp [Try.f99]⟩

/- 101: octant/sextant.common -/
def s101 : SC :=
  (.seq (.reg [⟨(some 2), none, .box 24 (.t 0)⟩,
    ⟨(some 3), none, .box 24 (.t 1)⟩,
    ⟨(some 4), none, .new 24 [(.int .i64 (0)), (.int .i64 (0))]⟩])
  (.seq (.reg [⟨(some 6), none, .v (.off (.t 2) 0)⟩,
    ⟨(some 7), none, .v (.load (.t 6) none)⟩,
    ⟨(some 8), none, .v (.off (.t 3) 0)⟩,
    ⟨(some 9), none, .v (.load (.t 8) none)⟩,
    ⟨(some 10), none, .v (.max2 (.t 7) (.t 9))⟩,
    ⟨(some 11), none, .v (.off (.t 2) 1)⟩,
    ⟨(some 12), none, .v (.load (.t 11) none)⟩,
    ⟨(some 13), none, .v (.off (.t 3) 1)⟩,
    ⟨(some 14), none, .v (.load (.t 13) none)⟩,
    ⟨(some 15), none, .v (.min2 (.t 12) (.t 14))⟩,
    ⟨(some 16), none, .bld [(.int .i64 (0)), (.int .i64 (0))] [(0, 1, (.t 10)), (1, 1, (.t 15))]⟩,
    ⟨(some 5), none, .new 24 [(.int .i64 (0)), (.int .i64 (0))]⟩,
    ⟨none, none, .store 2 (.t 5) (.t 16)⟩])
  (.seq (.seq (.reg [⟨(some 17), none, .v (.off (.t 5) 0)⟩,
    ⟨(some 18), none, .v (.load (.t 17) none)⟩,
    ⟨(some 19), none, .v (.off (.t 5) 1)⟩,
    ⟨(some 20), none, .v (.load (.t 19) none)⟩,
    ⟨(some 21), none, .v (.bin .gtr (.t 18) (.t 20))⟩])
  (.cond (.t 21)
    (.seq (.reg [⟨(some 22), none, .call (.c (.fn 68 [])) []⟩,
      ⟨none, none, .store 2 (.t 4) (.t 22)⟩])
    .ret)
    .skip))
  (.seq (.reg [⟨(some 23), none, .v (.load (.t 5) (some 2))⟩,
    ⟨none, none, .store 2 (.t 4) (.t 23)⟩])
  .ret))))
def r101 : List RV := [.c 4 (some 2)]
def n101 : Nat := 24
theorem k101 : (Try.f101.body.bind (cC Try.prog), cR Try.prog Try.f101.results.toList, Try.f101.ntmps) = (some s101, some r101, 24) := by kernel_rfl
theorem q101 : Known Try.prog 101 := ⟨_, Try.func101, by decide, by simp [Try.f101]⟩

/- 103: octant/sextant.around -/
def s103 : SC :=
  (.seq (.reg [⟨(some 2), none, .box 24 (.t 0)⟩,
    ⟨(some 3), none, .box 24 (.t 1)⟩,
    ⟨(some 4), none, .new 24 [(.int .i64 (0)), (.int .i64 (0))]⟩])
  (.seq (.seq (.drw [(0, ⟨(some 5), none, .v (.load (.t 2) (some 2))⟩, false),
    (1, ⟨(some 6), none, .call (.c (.fn 68 [])) []⟩, false)]
    none
    [⟨(some 7), none, .v (.eqs [(some .i64), (some .i64)] false (.t 5) (.t 6))⟩])
  (.cond (.t 7)
    (.seq (.reg [⟨(some 8), none, .v (.load (.t 3) (some 2))⟩,
      ⟨none, none, .store 2 (.t 4) (.t 8)⟩])
    .ret)
    .skip))
  (.seq (.reg [⟨(some 9), none, .v (.off (.t 2) 0)⟩,
    ⟨(some 10), none, .v (.load (.t 9) none)⟩,
    ⟨(some 11), none, .v (.off (.t 3) 0)⟩,
    ⟨(some 12), none, .v (.load (.t 11) none)⟩,
    ⟨(some 13), none, .v (.min2 (.t 10) (.t 12))⟩,
    ⟨(some 14), none, .v (.off (.t 2) 1)⟩,
    ⟨(some 15), none, .v (.load (.t 14) none)⟩,
    ⟨(some 16), none, .v (.off (.t 3) 1)⟩,
    ⟨(some 17), none, .v (.load (.t 16) none)⟩,
    ⟨(some 18), none, .v (.max2 (.t 15) (.t 17))⟩,
    ⟨(some 19), none, .bld [(.int .i64 (0)), (.int .i64 (0))] [(0, 1, (.t 13)), (1, 1, (.t 18))]⟩,
    ⟨none, none, .store 2 (.t 4) (.t 19)⟩])
  .ret)))
def r103 : List RV := [.c 4 (some 2)]
def n103 : Nat := 20
theorem k103 : (Try.f103.body.bind (cC Try.prog), cR Try.prog Try.f103.results.toList, Try.f103.ntmps) = (some s103, some r103, 20) := by kernel_rfl
theorem q103 : Known Try.prog 103 := ⟨_, Try.func103, by decide, by simp [Try.f103]⟩

/- 100: (octant/sextant.sextant).indexErrors -/
def s100 : SC :=
  (.seq (.reg [⟨(some 1), none, .box 89 (.t 0)⟩,
    ⟨(some 2), none, .v (.mov (.c (.lit .nilFunc)))⟩])
  (.seq (.reg [⟨(some 3), none, .v (.mkfn 115 [(.t 1)])⟩,
    ⟨(some 2), none, .v (.mov (.t 3))⟩])
  .ret))
def r100 : List RV := [.t 2]
def n100 : Nat := 4
theorem k100 : (Try.f100.body.bind (cC Try.prog), cR Try.prog Try.f100.results.toList, Try.f100.ntmps) = (some s100, some r100, 4) := by kernel_rfl
theorem q100 : Known Try.prog 100 := ⟨_, Try.func100, by decide, by simp [Try.f100]⟩

/- 66: octant/sextant.arePairs -/
def s66 : SC :=
  (.seq (.reg [⟨(some 2), none, .v (.mov (.c (.lit (.bool false))))⟩])
  (.seq (.seq (.reg [⟨(some 5), none, .v (.mov (.t 0))⟩,
    ⟨(some 6), none, .v (.len (.t 5))⟩,
    ⟨(some 7), none, .call (.c (.fn 78 [])) [(.t 6), (.c (.int .i64 (1))), (.c (.int .i64 (6)))]⟩,
    ⟨(some 8), none, .v (.not (.t 7))⟩])
  (.cond (.t 8)
    (.seq (.reg [⟨(some 2), none, .v (.mov (.c (.lit (.bool false))))⟩])
    .ret)
    .skip))
  (.seq (.seq (.reg [⟨(some 9), none, .v (.mov (.t 0))⟩,
    ⟨(some 10), none, .v (.len (.t 9))⟩,
    ⟨(some 11), none, .v (.mov (.c (.int .i64 (0))))⟩])
  (.block 0 (.loop
    (.seq (.reg [⟨(some 12), none, .v (.bin .lss (.t 11) (.t 10))⟩])
    (.seq (.cond (.t 12)
      .skip
      (.exit 0))
    (.seq (.block 1 (.seq (.reg [⟨(some 13), none, .v (.ixa (.t 9) (.t 11) 2)⟩,
      ⟨(some 14), none, .v (.load (.t 13) (some 2))⟩,
      ⟨(some 4), none, .new 67 [(.int .i64 (0)), (.int .i64 (0))]⟩,
      ⟨none, none, .store 2 (.t 4) (.t 14)⟩])
    (.seq (.reg [⟨(some 15), none, .v (.off (.t 4) 0)⟩,
      ⟨(some 16), none, .v (.load (.t 15) none)⟩,
      ⟨(some 17), none, .call (.c (.fn 78 [])) [(.t 16), (.c (.int .i64 (0))), (.c (.int .i64 (6000)))]⟩,
      ⟨(some 18), none, .v (.not (.t 17))⟩,
      ⟨(some 19), none, .v (.mov (.t 18))⟩,
      ⟨(some 20), (some (19, false)), .v (.off (.t 4) 1)⟩,
      ⟨(some 21), (some (19, false)), .v (.load (.t 20) none)⟩,
      ⟨(some 22), (some (19, false)), .call (.c (.fn 78 [])) [(.t 21), (.c (.int .i64 (0))), (.c (.int .i64 (6000)))]⟩,
      ⟨(some 23), (some (19, false)), .v (.not (.t 22))⟩,
      ⟨(some 24), none, .v (.pick (.t 19) (.c (.lit (.bool true))) (.t 23))⟩])
    (.cond (.t 24)
      (.seq (.reg [⟨(some 2), none, .v (.mov (.c (.lit (.bool false))))⟩])
      .ret)
      .skip))))
    (.reg [⟨(some 25), none, .v (.bin .add (.t 11) (.c (.int .i64 (1))))⟩,
      ⟨(some 11), none, .v (.mov (.t 25))⟩])))))))
  (.seq (.reg [⟨(some 2), none, .v (.mov (.c (.lit (.bool true))))⟩])
  .ret))))
def r66 : List RV := [.t 2]
def n66 : Nat := 26
theorem k66 : (Try.f66.body.bind (cC Try.prog), cR Try.prog Try.f66.results.toList, Try.f66.ntmps) = (some s66, some r66, 26) := by kernel_rfl
theorem q66 : Known Try.prog 66 := ⟨_, Try.func66, by decide, by simp [Try.f66]⟩


def F68 : FC := fun args => match args with
  | [] => some (True, .agg [.int .i64 1, .int .i64 0])
  | _ => none
theorem p68 : PureOk Try.prog 68 (fcC F68) := by
  refine pure_of (T := []) trivial Try.func68 k68 ?_
  intro args K hC
  unfold fcC F68 at hC
  split at hC <;> first | (exact hC.elim) | skip
  rename_i h
  split at h <;> first | (cases h; done) | skip
  cases h
  obtain ⟨-, hK⟩ := hC
  simp only [↓reduceIte, e_reg, and_self, e_seq, e_ret, o_nil, o_cons, gd_none, putK_e, runK_e, bldK_e, storeK3_e, storeK2_e, storeK_e, evh_new, evh_bld, evh_store, seqK_n, ends_r, endK1_e, endK2_e, gt, st, putf, X.get, getp, mkfr, rep, rdR, tupled, clV, clL, clS, clo, ld, tk, dr, sp, sp.spl, lay, ll, cs1, one, allOne, gb, sb, pb, ln, undef, Bool.and_true, Nat.reduceAdd, beq_self_eq_true, true_and, s68, r68]
  exact res hK (by simp [leR, leR.leRs])
def F98 : FC := fun args => match args with
  | [.agg [.int .i64 a, .int .i64 b], .int .i64 i] => some ((-1000000 ≤ a ∧ a ≤ 1000000) ∧ -1000000 ≤ i ∧ i ≤ 1000000, .int .i64 (a + i))
  | _ => none
theorem p98 : PureOk Try.prog 98 (fcC F98) := by
  refine pure_of (T := []) trivial Try.func98 k98 ?_
  intro args K hC
  unfold fcC F98 at hC
  split at hC <;> first | (exact hC.elim) | skip
  rename_i h
  split at h <;> first | (cases h; done) | skip
  cases h
  obtain ⟨⟨q1, q2⟩, hK⟩ := hC
  simp only [inr64, e_reg, e_seq, e_ret, o_nil, o_cons, gd_none, putK_e, runK_e, vK_e, boxK_e, evh_v, evh_box, seqK_n, ends_r, endK1_e, endK2_e, evp, bin, gt, gq, st, putf, X.get, mkfr, rep, rdR, tupled, clV, clS, clo, ld, lda, cs1, gb, pb, ln, undef, Nat.reduceSub, Nat.reduceAdd, true_and, s98, r98]
  exact ⟨by omega, res hK (by simp [leR])⟩
def F99 : FC := fun args => match args with
  | [.agg [.int .i64 a, .int .i64 b], .int .i64 i] => some ((-1000000 ≤ b ∧ b ≤ 1000000) ∧ -1000000 ≤ i ∧ i ≤ 1000000, .int .i64 (b - i))
  | _ => none
theorem p99 : PureOk Try.prog 99 (fcC F99) := by
  refine pure_of (T := []) trivial Try.func99 k99 ?_
  intro args K hC
  unfold fcC F99 at hC
  split at hC <;> first | (exact hC.elim) | skip
  rename_i h
  split at h <;> first | (cases h; done) | skip
  cases h
  obtain ⟨⟨q1, q2⟩, hK⟩ := hC
  simp only [inr64, e_reg, e_seq, e_ret, o_nil, o_cons, gd_none, putK_e, runK_e, vK_e, boxK_e, evh_v, evh_box, seqK_n, ends_r, endK1_e, endK2_e, evp, bin, gt, gq, st, putf, X.get, mkfr, rep, rdR, tupled, clV, clS, clo, ld, lda, cs1, gb, pb, ln, undef, Nat.reduceSub, Nat.reduceAdd, true_and, s99, r99]
  exact ⟨by omega, res hK (by simp [leR])⟩
/-- What is in both; noSpan if nothing is. -/
def cmn (p q : Int × Int) : Int × Int := if max p.1 q.1 ≤ min p.2 q.2 then (max p.1 q.1, min p.2 q.2) else (1, 0)
def F101 : FC := fun args => match args with
  | [.agg [.int .i64 a, .int .i64 b], .agg [.int .i64 c, .int .i64 d]] => some (True, .agg [.int .i64 (cmn (a, b) (c, d)).1, .int .i64 (cmn (a, b) (c, d)).2])
  | _ => none
theorem p101 : PureOk Try.prog 101 (fcC F101) := by
  refine pure_of (T := [(68, .fc F68)]) ⟨⟨p68, q68⟩, trivial⟩ Try.func101 k101 ?_
  intro args K hC
  unfold fcC F101 at hC
  split at hC <;> first | (exact hC.elim) | skip
  rename_i h
  split at h <;> first | (cases h; done) | skip
  cases h
  obtain ⟨-, hK⟩ := hC
  rename_i a b c d
  unfold cmn at hK
  simp only at hK
  simp only [↓reduceIte, e_skip, e_reg, and_self, e_seq, e_cond, e_ret, o_nil, o_cons, gd_none, putK_e, runK_e, vK_e, boxK_e, bldK_e, storeK3_e, storeK2_e, storeK_e, conK_e, callK_e, evh_v, evh_new, evh_box, evh_bld, evh_store, evh_call, seqK_n, seqK_r, condK_b, ends_r, endK1_e, endK2_e, gam_e, gamK_f, pc_e, pcK_e, fcC_e, fcK_e, evp, bin, gt, gq, st, putf, X.get, gets, getp, ap, mkfr, rep, rdR, tupled, clV, clL, clS, clo, ld, lda, tk, dr, sp, sp.spl, lay, ll, cs1, one, allOne, gb, sb, pb, ln, lk, Value.oneCell', undef, Bool.and_true, Nat.reduceSub, Nat.reduceAdd, beq_self_eq_true, true_and, decide_eq_true_eq, decide_eq_false_iff_not, s101, r101, F68]
  by_cases h : max a c ≤ min b d
  · rw [if_pos h] at hK
    refine ⟨fun h1 => ?_, fun h1 => res hK ?_⟩
    · exfalso
      revert h1; split <;> split <;> omega
    · simp only [leR, leR.leRs, and_true, true_and]
      exact ⟨by split <;> omega, by split <;> omega⟩
  · rw [if_neg h] at hK
    refine ⟨fun h1 => res hK (by simp [leR, leR.leRs]), fun h1 => ?_⟩
    exfalso
    revert h1; split <;> split <;> omega
/-- The least span that both are in. -/
def arn (p q : Int × Int) : Int × Int := if p = (1, 0) then q else (min p.1 q.1, max p.2 q.2)
def F103 : FC := fun args => match args with
  | [.agg [.int .i64 a, .int .i64 b], .agg [.int .i64 c, .int .i64 d]] => some ((-1000000000 ≤ a ∧ a ≤ 1000000000) ∧ (-1000000000 ≤ b ∧ b ≤ 1000000000), .agg [.int .i64 (arn (a, b) (c, d)).1, .int .i64 (arn (a, b) (c, d)).2])
  | _ => none
theorem p103 : PureOk Try.prog 103 (fcC F103) := by
  refine pure_of (T := [(68, .fc F68)]) ⟨⟨p68, q68⟩, trivial⟩ Try.func103 k103 ?_
  intro args K hC
  unfold fcC F103 at hC
  split at hC <;> first | (exact hC.elim) | skip
  rename_i h
  split at h <;> first | (cases h; done) | skip
  cases h
  rename_i a b c d
  obtain ⟨⟨⟨q1, q2⟩, q3, q4⟩, hK⟩ := hC
  unfold arn at hK
  simp only [↓reduceIte, List.cons.injEq, e_skip, e_reg, and_self, e_drw, e_seq, e_cond, e_ret, o_nil, o_cons, gd_none, putK_e, runK_e, vK_e, boxK_e, bldK_e, storeK3_e, storeK2_e, storeK_e, evh_v, evh_new, evh_box, evh_bld, evh_store, dX_e, dG_t, d_nil, d_cons, tlK_n, seqK_n, seqK_r, condK_b, ends_r, endK1_e, endK2_e, gamq_e, gamqK_f, evp, fit, InQ, gt, gq, st, putf, X.get, gets, getp, ap, mkfr, rep, rdR, tupled, clV, clL, clS, clo, clo.clos, ld, lda, tk, dr, sp, sp.spl, lay, ll, cs1, one, allOne, gb, sb, pb, ln, lk, evq, gdl, undef, Bool.and_true, cond_false, Nat.reduceSub, Nat.reduceAdd, beq_self_eq_true, true_and, and_true, decide_eq_true_eq, decide_eq_false_iff_not, s103, r103, F68]
  refine ⟨by omega, fun h => ?_, fun h => ?_⟩
  · rw [if_pos (by rw [h.1, h.2])] at hK
    exact res hK (by simp [leR, leR.leRs])
  · rw [if_neg (fun e => h (by cases e; exact ⟨rfl, rfl⟩))] at hK
    refine res hK ?_
    simp only [leR, leR.leRs, and_true, true_and]
    exact ⟨by split <;> omega, by split <;> omega⟩
def F100 : FC := fun args => match args with
  | [.agg [.int .i64 s, .rd 2 n f, .int .i64 a, .int .i64 b, .int .i64 w, .rd 2 m g]] => some (True, .fn 115 [.rp [.int .i64 s, .rd 2 n f, .int .i64 a, .int .i64 b, .int .i64 w, .rd 2 m g] 0])
  | _ => none
theorem p100 : PureOk Try.prog 100 (fcC F100) := by
  refine pure_of (T := []) trivial Try.func100 k100 ?_
  intro args K hC
  unfold fcC F100 at hC
  split at hC <;> first | (exact hC.elim) | skip
  rename_i h
  split at h <;> first | (cases h; done) | skip
  cases h
  obtain ⟨-, hK⟩ := hC
  simp only [e_reg, e_seq, e_ret, o_nil, o_cons, gd_none, putK_e, runK_e, vK_e, boxK_e, evh_v, evh_box, seqK_n, ends_r, endK1_e, endK2_e, evp, gt, st, putf, X.get, gets, mkfr, rep, rdR, tupled, clV, clL, clS, clo, cs1, gb, sb, pb, ln, undef, Nat.reduceSub, true_and, s100, r100]
  exact res hK (by simp [leR, leR.leRs])
def F89 : FC := fun args => match args with
  | [.rd 2 n f] => some (n = 2 ∧ (f 0 = [.int .i64 (rlo f 0), .int .i64 (rhi f 0)] ∧ f 1 = [.int .i64 (rlo f 1), .int .i64 (rhi f 1)]) ∧ ((-1000000000 ≤ rlo f 0 ∧ rlo f 0 ≤ 1000000000) ∧ (-1000000000 ≤ rhi f 0 ∧ rhi f 0 ≤ 1000000000)) ∧ ((-1000000000 ≤ rlo f 1 ∧ rlo f 1 ≤ 1000000000) ∧ (-1000000000 ≤ rhi f 1 ∧ rhi f 1 ≤ 1000000000)),
      .agg [.int .i64 (rlo f 0 + rlo f 1), .int .i64 (rhi f 0 + rhi f 1)])
  | _ => none
theorem p89' : PureOk Try.prog 89 (fcC F89) := by
  refine pweak p89 fun args K hC => ?_
  unfold fcC F89 at hC
  split at hC <;> first | (exact hC.elim) | skip
  rename_i h
  split at h <;> first | (cases h; done) | skip
  cases h
  rename_i n f
  obtain ⟨⟨rfl, ⟨h0, h1⟩, b0, b1⟩, hK⟩ := hC
  refine ⟨[(rlo f 0, rhi f 0), (rlo f 1, rhi f 1)], f, rfl, fun i hi' => ?_, fun i => ?_, by simp, ?_⟩
  · have : i = 0 ∨ i = 1 := by simp at hi'; omega
    rcases this with rfl | rfl
    · rw [h0]; rfl
    · rw [h1]; rfl
  · rcases (show i = 0 ∨ i = 1 ∨ 2 ≤ i by omega) with rfl | rfl | h2
    · exact b0
    · exact b1
    · have : ([(rlo f 0, rhi f 0), (rlo f 1, rhi f 1)] : List (Int × Int)).getD i (0, 0) = (0, 0) := by simp [List.getD, h2]
      unfold lo hi; rw [this]; simp
  · simpa [sumT, lo, hi, List.getD] using hK
/-- What can be read of the sun. -/
def sunE (p : Int × Int) : Bool := decide ((0 ≤ p.1 ∧ p.1 ≤ 6000) ∧ (0 ≤ p.2 ∧ p.2 ≤ 6000))
def okL (L : List (Int × Int)) : Prop := (1 ≤ (L.length : Int) ∧ (L.length : Int) ≤ 6) ∧ L.all sunE = true
instance (L : List (Int × Int)) : Decidable (okL L) := by unfold okL; infer_instance
def C66 : PC := fun args K => ∃ (L : List (Int × Int)), args = [.rd 2 L.length (rowsS L)] ∧ K (.bool (decide (okL L)))
theorem allX_snoc {q : Int × Int → Bool} {L : List (Int × Int)} {i : Nat} (h : i < L.length) : (L.take (i + 1)).all q = ((L.take i).all q && q (L.getD i (0, 0))) := by
  rw [List.take_add_one, List.getElem?_eq_getElem h, List.all_append]; simp [List.getD, h]
theorem p66 : PureOk Try.prog 66 C66 := by
  refine pure_of (T := [(78, .fc Fin)]) ⟨⟨p78, q78⟩, trivial⟩ Try.func66 k66 ?_
  rintro args K ⟨L, rfl, hK⟩
  simp only [e_skip, e_reg, e_seq, e_cond, e_block, e_loop, e_ret, o_nil, o_cons, gd_none, putK_e, runK_e, vK_e, conK_e, callK_e, evh_v, evh_call, seqK_n, seqK_r, condK_b, ends_r, endK1_e, endK2_e, gam_e, gamK_f, pc_e, pcK_e, fcC_e, fcK_e, evp, gt, st, putf, X.get, gets, ap, mkfr, rep, rdR, tupled, clV, clL, clS, clo, lens, lk, undef, Bool.not_true, Bool.not_false, Nat.reduceSub, beq_self_eq_true, true_and, decide_eq_true_eq, decide_eq_false_iff_not, Bool.not_eq_eq_eq_not, s66, r66, Fin]
  refine ⟨fun h => ?_, fun h => ?_⟩
  · have hd : decide (okL L) = false := decide_eq_false (fun ho => h ho.1)
    rw [hd] at hK
    exact res hK (by simp [leR])
  refine loop_at2 (G := Nat) (fun i => [(11, .int .i64 i)]) (fun i => []) (fun i => i ≤ L.length ∧ (L.take i).all sunE = true) (fun i => L.length - i) 0 ⟨Nat.zero_le _, by simp⟩ ?_
  (intro fr1 hf1; simp only [forget, dstC, dstO, st] at hf1; subst hf1)
  refine ⟨?_, ?_⟩
  · refine Lw_re 0 [] (Nat.zero_le _) (by simp [ln]) (by simp [ln]) rfl ?_ ?_
    · simp only [reL, reX, inb, ln, sts, st, and_self, Int.natCast_zero, implies_true]
    · simp only [reH, reN]
  · rintro i ⟨hi1, hp⟩
    have hsp : sunE (L.getD i (0, 0)) = decide ((0 ≤ lo L i ∧ lo L i ≤ 6000) ∧ (0 ≤ hi L i ∧ hi L i ≤ 6000)) := rfl
    have bad : i < L.length → ¬ ((0 ≤ lo L i ∧ lo L i ≤ 6000) ∧ (0 ≤ hi L i ∧ hi L i ≤ 6000)) → ∃ r', K r' ∧ leR 4 (.lit (.bool false)) r' := fun ha hb => by
      have hd : decide (okL L) = false := decide_eq_false (fun ho => by
        have h2 := ho.2
        rw [List.all_eq_true] at h2
        have := h2 _ (getD_memS ha)
        rw [hsp, decide_eq_true_eq] at this
        exact hb this)
      rw [hd] at hK
      exact res hK (by simp [leR])
    simp only [inr64, e_skip, e_reg, and_self, e_seq, e_cond, e_block, e_exit, e_ret, o_nil, o_cons, gd_none, gd_some, gdK_tf, gdK_ff, gdK_bf, putK_e, runK_e, skipK_e, vK_e, storeK3_e, storeK2_e, storeK_e, conK_e, callK_e, evh_v, evh_new, evh_store, evh_call, loopK_n, loopK_x, loopK_r, seqK_n, seqK_x, seqK_r, condK_t, condK_b, exitK_t, blockK_x, blockK_n, blockK_r, ends_r, endK1_e, endK2_e, gam_e, gamK_f, pc_e, pcK_e, fcC_e, fcK_e, evp, bin, gt, gq, st, putf, X.get, gets, ap, rdR, tupled, clV, clL, clS, clo, ld, lda, ixs, tk, dr, sp, sp.spl, ll, cs1, one, allOne, gb, sb, pb, ln, lk, undef, Bool.and_true, Bool.not_true, Bool.not_false, Nat.reduceAdd, beq_self_eq_true, true_and, decide_eq_true_eq, decide_eq_false_iff_not, Bool.not_eq_eq_eq_not, sts, Int.toNat_natCast, rowsS, Fin]
    refine ⟨fun h1 => ⟨⟨by omega, by omega⟩, fun h2 => ⟨fun h3 => bad (by omega) fun hh => h3 hh.2, fun h3 => ⟨by omega, ?_⟩⟩, fun h2 => bad (by omega) fun hh => h2 hh.1⟩, fun h1 => ?_⟩
    · have ha : i < L.length := by omega
      refine Nx.mk (i + 1) ⟨by omega, ?_⟩ (by show L.length - (i + 1) < L.length - i; omega) (Lw_re 0 [] (Nat.zero_le _) (by simp [ln]) (by simp [ln]) rfl ?_ ?_)
      · rw [allX_snoc ha, hp, hsp, decide_eq_true ⟨h2, h3⟩]; rfl
      · simp only [reL, reX, inb, and_self, Int.natCast_add, Int.natCast_one, implies_true]
      · simp only [reH, reN]
    · have : i = L.length := by omega
      subst this
      rw [List.take_length] at hp
      have hd : decide (okL L) = true := decide_eq_true ⟨h, hp⟩
      rw [hd] at hK
      exact res hK (by simp [leR])
end Go.Proofs.Ytjagiieconpgbaa
end

section
namespace Go.Proofs.Ytjagiieconpgbaa
open Go Go.Vg
set_option linter.unusedSimpArgs false
set_option linter.unusedVariables false
set_option maxRecDepth 10000
/- 115: (octant/sextant.sextant).indexErrors$1 -/
def s115 : SC :=
  (.seq (.reg [⟨(some 4), none, .v (.off (.t 1) 0)⟩,
    ⟨(some 5), none, .v (.off (.t 4) 2)⟩,
    ⟨(some 6), none, .v (.off (.t 5) 0)⟩,
    ⟨(some 7), none, .v (.load (.t 6) none)⟩,
    ⟨(some 3), none, .v (.mov (.t 7))⟩])
  (.block 0 (.loop
    (.seq (.seq (.reg [⟨(some 8), none, .v (.mov (.t 3))⟩,
      ⟨(some 9), none, .v (.off (.t 1) 0)⟩,
      ⟨(some 10), none, .v (.off (.t 9) 2)⟩,
      ⟨(some 11), none, .v (.off (.t 10) 1)⟩,
      ⟨(some 12), none, .v (.load (.t 11) none)⟩,
      ⟨(some 13), none, .v (.bin .leq (.t 8) (.t 12))⟩])
    (.cond (.t 13)
      .skip
      (.exit 0)))
    (.seq (.block 1 (.seq (.reg [⟨(some 16), none, .v (.mov (.t 0))⟩,
      ⟨(some 17), none, .v (.mov (.t 3))⟩,
      ⟨(some 18), none, .call (.t 16) [(.t 17)]⟩,
      ⟨(some 19), none, .v (.not (.t 18))⟩])
    (.cond (.t 19)
      .ret
      .skip)))
    (.reg [⟨(some 14), none, .v (.mov (.t 3))⟩,
      ⟨(some 15), none, .v (.bin .add (.t 14) (.c (.int .i64 (1))))⟩,
      ⟨(some 3), none, .v (.mov (.t 15))⟩]))))))
def r115 : List RV := []
def n115 : Nat := 20
theorem k115 : (Try.f115.body.bind (cC Try.prog), cR Try.prog Try.f115.results.toList, Try.f115.ntmps) = (some s115, some r115, 20) := by kernel_rfl
theorem q115 : Known Try.prog 115 := ⟨_, Try.func115, by decide, by simp [Try.f115]⟩


def tn (o : Opr) (a : DT) : DT := .op o a .stop
def s67a0 : SC :=
  (.reg [⟨(some 9), none, .v (.mov (.t 20))⟩])
def o67b_0 : Opr := ⟨(some 32), none, .v (.load (.t 10) (some 2))⟩
def o67b_1 : Opr := ⟨(some 37), none, .call (.t 33) [(.t 35), (.t 36)]⟩
def o67b_2 : Opr := ⟨(some 38), none, .call (.c (.fn 90 [])) [(.t 37)]⟩
def o67b_3 : Opr := ⟨(some 41), none, .v (.load (.t 40) none)⟩
def o67b_4 : Opr := ⟨(some 42), none, .call (.c (.fn 102 [])) [(.t 41)]⟩
def o67b_5 : Opr := ⟨(some 43), none, .bsl 24 2 [(.int .i64 (0)), (.int .i64 (0)), (.int .i64 (0)), (.int .i64 (0))] [(0, 2, (.t 38)), (2, 2, (.t 42))]⟩
def o67b_6 : Opr := ⟨(some 44), none, .call (.c (.fn 89 [])) [(.t 43)]⟩
def o67b_7 : Opr := ⟨(some 45), none, .call (.c (.fn 101 [])) [(.t 32), (.t 44)]⟩
def o67b_8 : Opr := ⟨none, none, .store 2 (.t 10) (.t 45)⟩
def s67b0 : SC :=
  (.block 1 (.seq (.reg [⟨(some 21), none, .v (.load (.t 4) (some 2))⟩,
    ⟨(some 10), none, .new 24 [(.int .i64 (0)), (.int .i64 (0))]⟩,
    ⟨none, none, .store 2 (.t 10) (.t 21)⟩])
  (.seq (.seq (.reg [⟨(some 22), none, .v (.load (.t 5) none)⟩,
    ⟨(some 23), none, .v (.len (.t 22))⟩,
    ⟨(some 24), none, .v (.mov (.c (.int .i64 (0))))⟩])
  (.block 2 (.loop
    (.seq (.reg [⟨(some 25), none, .v (.bin .lss (.t 24) (.t 23))⟩])
    (.seq (.cond (.t 25)
      .skip
      (.exit 2))
    (.seq (.block 3 (.seq (.reg [⟨(some 26), none, .v (.ixa (.t 22) (.t 24) 2)⟩,
      ⟨(some 27), none, .v (.load (.t 26) (some 2))⟩,
      ⟨(some 12), none, .new 67 [(.int .i64 (0)), (.int .i64 (0))]⟩,
      ⟨none, none, .store 2 (.t 12) (.t 27)⟩])
    (.seq (.seq (.reg [⟨(some 28), none, .v (.load (.t 8) (some 2))⟩,
      ⟨(some 29), none, .v (.mov (.c (.int .i64 (0))))⟩])
    (.block 4 (.loop
      (.seq (.reg [⟨(some 30), none, .v (.bin .lss (.t 29) (.c (.int .i64 (2))))⟩])
      (.seq (.cond (.t 30)
        .skip
        (.exit 4))
      (.seq (.block 5 (.seq (.reg [⟨(some 31), none, .v (.ixv (.t 28) (.t 29) 2 1 none)⟩,
        ⟨(some 14), none, .v (.mov (.t 31))⟩])
      (.tre (tn ⟨(some 33), none, .v (.mov (.t 14))⟩ (tn ⟨(some 34), none, .v (.load (.t 12) (some 2))⟩ (tn ⟨(some 35), none, .bld [(.int .i64 (0)), (.int .i64
  (0))] [(0, 2, (.t 34))]⟩ (tn ⟨(some 36), none, .v (.mov (.t 9))⟩ (tn ⟨(some 39), none, .v (.off (.t 3) 0)⟩ (tn ⟨(some 40), none, .v (.off (.t 39) 4)⟩ (.op
  o67b_0 (.op o67b_1 (.op o67b_2 (tn o67b_3 (tn o67b_4 (tn o67b_5 (tn o67b_6 (tn o67b_7 (tn o67b_8 .leaf)))))) (tn o67b_3 (tn o67b_2 (tn o67b_4 (tn o67b_5
  (tn o67b_6 (tn o67b_7 (tn o67b_8 .leaf)))))))) (tn o67b_3 (tn o67b_1 (tn o67b_2 (tn o67b_4 (tn o67b_5 (tn o67b_6 (tn o67b_7 (tn o67b_8 .leaf))))))))) (.op
  o67b_1 (.op o67b_0 (.op o67b_2 (tn o67b_3 (tn o67b_4 (tn o67b_5 (tn o67b_6 (tn o67b_7 (tn o67b_8 .leaf)))))) (tn o67b_3 (tn o67b_2 (tn o67b_4 (tn o67b_5
  (tn o67b_6 (tn o67b_7 (tn o67b_8 .leaf)))))))) (.op o67b_2 (.op o67b_0 (tn o67b_3 (tn o67b_4 (tn o67b_5 (tn o67b_6 (tn o67b_7 (tn o67b_8 .leaf)))))) (tn
  o67b_3 (.op o67b_0 (tn o67b_4 (tn o67b_5 (tn o67b_6 (tn o67b_7 (tn o67b_8 .leaf))))) (tn o67b_4 (.op o67b_0 (tn o67b_5 (tn o67b_6 (tn o67b_7 (tn o67b_8
  .leaf)))) (tn o67b_5 (.op o67b_0 (tn o67b_6 (tn o67b_7 (tn o67b_8 .leaf))) (tn o67b_6 (tn o67b_0 (tn o67b_7 (tn o67b_8 .leaf))))))))))) (tn o67b_3 (.op
  o67b_0 (tn o67b_2 (tn o67b_4 (tn o67b_5 (tn o67b_6 (tn o67b_7 (tn o67b_8 .leaf)))))) (tn o67b_2 (.op o67b_0 (tn o67b_4 (tn o67b_5 (tn o67b_6 (tn o67b_7
  (tn o67b_8 .leaf))))) (tn o67b_4 (.op o67b_0 (tn o67b_5 (tn o67b_6 (tn o67b_7 (tn o67b_8 .leaf)))) (tn o67b_5 (.op o67b_0 (tn o67b_6 (tn o67b_7 (tn o67b_8
  .leaf))) (tn o67b_6 (tn o67b_0 (tn o67b_7 (tn o67b_8 .leaf)))))))))))))) (tn o67b_3 (.op o67b_0 (tn o67b_1 (tn o67b_2 (tn o67b_4 (tn o67b_5 (tn o67b_6
  (tn o67b_7 (tn o67b_8 .leaf))))))) (tn o67b_1 (.op o67b_0 (tn o67b_2 (tn o67b_4 (tn o67b_5 (tn o67b_6 (tn o67b_7 (tn o67b_8 .leaf)))))) (tn o67b_2 (.op
  o67b_0 (tn o67b_4 (tn o67b_5 (tn o67b_6 (tn o67b_7 (tn o67b_8 .leaf))))) (tn o67b_4 (.op o67b_0 (tn o67b_5 (tn o67b_6 (tn o67b_7 (tn o67b_8 .leaf)))) (tn
  o67b_5 (.op o67b_0 (tn o67b_6 (tn o67b_7 (tn o67b_8 .leaf))) (tn o67b_6 (tn o67b_0 (tn o67b_7 (tn o67b_8 .leaf)))))))))))))))))))))))))
      (.reg [⟨(some 46), none, .v (.bin .add (.t 29) (.c (.int .i64 (1))))⟩,
        ⟨(some 29), none, .v (.mov (.t 46))⟩])))))))
    (.seq (.drw [(0, ⟨(some 47), none, .v (.load (.t 10) (some 2))⟩, false),
      (1, ⟨(some 48), none, .call (.c (.fn 68 [])) []⟩, false)]
      none
      [⟨(some 49), none, .v (.eqs [(some .i64), (some .i64)] false (.t 47) (.t 48))⟩])
    (.cond (.t 49)
      (.exit 1)
      .skip)))))
    (.reg [⟨(some 50), none, .v (.bin .add (.t 24) (.c (.int .i64 (1))))⟩,
      ⟨(some 24), none, .v (.mov (.t 50))⟩])))))))
  (.drw [(0, ⟨(some 51), none, .v (.load (.t 6) (some 2))⟩, false),
    (1, ⟨(some 52), none, .v (.mov (.t 9))⟩, false),
    (2, ⟨(some 53), none, .call (.c (.fn 90 [])) [(.t 52)]⟩, false),
    (3, ⟨(some 54), none, .call (.c (.fn 103 [])) [(.t 51), (.t 53)]⟩, false),
    (4, ⟨(some 55), none, .v (.load (.t 7) (some 2))⟩, false),
    (5, ⟨(some 56), none, .v (.load (.t 10) (some 2))⟩, false)]
    none
    [⟨(some 57), none, .call (.c (.fn 103 [])) [(.t 55), (.t 56)]⟩,
    ⟨none, none, .store 2 (.t 6) (.t 54)⟩,
    ⟨none, none, .store 2 (.t 7) (.t 57)⟩]))))
def o67m_0 : Opr := ⟨(some 59), none, .v (.load (.t 7) (some 2))⟩
def o67m_1 : Opr := ⟨none, none, .store 2 (.t 6) (.t 58)⟩
def o67m_2 : Opr := ⟨none, none, .store 2 (.t 7) (.t 59)⟩
noncomputable def s67 : SC :=
  (.seq (.reg [⟨(some 3), none, .box 89 (.t 0)⟩,
    ⟨(some 4), none, .box 24 (.t 1)⟩,
    ⟨(some 5), none, .box 37 (.t 2)⟩,
    ⟨(some 6), none, .new 24 [(.int .i64 (0)), (.int .i64 (0))]⟩,
    ⟨(some 7), none, .new 24 [(.int .i64 (0)), (.int .i64 (0))]⟩])
  (.scp (.seq (.reg [⟨(some 15), none, .call (.c (.fn 68 [])) []⟩,
    ⟨(some 16), none, .call (.c (.fn 68 [])) []⟩,
    ⟨none, none, .store 2 (.t 6) (.t 15)⟩,
    ⟨none, none, .store 2 (.t 7) (.t 16)⟩])
  (.seq (.reg [⟨(some 17), none, .bld [(.lit .nilFunc), (.lit .nilFunc)] [(0, 1, (.c (.fn 98 []))), (1, 1, (.c (.fn 99 [])))]⟩,
    ⟨(some 8), none, .new 138 [(.lit .nilFunc), (.lit .nilFunc)]⟩,
    ⟨none, none, .store 2 (.t 8) (.t 17)⟩])
  (.seq .skip
  (.seq (.seq (.reg [⟨(some 18), none, .v (.load (.t 3) (some 6))⟩,
    ⟨(some 19), none, .call (.c (.fn 100 [])) [(.t 18)]⟩])
  (.block 0 (.sem (rg Try.f67 0))))
  (.seq (.tre (.op ⟨(some 58), none, .v (.load (.t 6) (some 2))⟩ (.op o67m_0 (tn o67m_1 (tn o67m_2 .leaf)) (tn o67m_1 (tn o67m_0 (tn o67m_2 .leaf)))) (tn o67m_0
  (tn ⟨(some 58), none, .v (.load (.t 6) (some 2))⟩ (tn o67m_1 (tn o67m_2 .leaf))))))
  .ret)))))))
def r67 : List RV := [.c 6 (some 2), .c 7 (some 2)]
theorem k67a0 : cC Try.prog (rgA (rg Try.f67 0)) = some s67a0 := by kernel_rfl
theorem k67b0 : cC Try.prog (rgB (rg Try.f67 0)) = some s67b0 := by kernel_rfl
theorem k67 : (Try.f67.body.bind (cC Try.prog), cR Try.prog Try.f67.results.toList, Try.f67.ntmps) = (some s67, some r67, 60) := by kernel_rfl
theorem q67 : Known Try.prog 67 := ⟨_, Try.func67, by decide, by simp [Try.f67]⟩
theorem c67r : rIs (rg Try.f67 0) = true := by kernel_rfl
theorem c67q : (rgQ (rg Try.f67 0)).toList = [20] := by kernel_rfl
theorem c67o : cX (rgO (rg Try.f67 0)) = some (.t 19) := by kernel_rfl
/-- What is left of the diameters with an index error, by so many pairs. -/
def nowS (w : Int) (D : Int × Int) (L : List (Int × Int)) (i : Int) : Nat → Int × Int
  | 0 => D
  | k + 1 => cmn (cmn (nowS w D L i k) (lo L k + i + -w, lo L k + i + w)) (hi L k - i + -w, hi L k - i + w)
/-- Index errors and diameters, by so many index errors. -/
def accS (a w : Int) (D : Int × Int) (L : List (Int × Int)) : Nat → (Int × Int) × (Int × Int)
  | 0 => ((1, 0), (1, 0))
  | n + 1 => if nowS w D L (a + n) L.length = (1, 0) then accS a w D L n else (arn (accS a w D L n).1 (a + n, a + n), arn (accS a w D L n).2 (nowS w D L (a + n) L.length))
theorem cmn_no {q : Int × Int} : cmn (1, 0) q = (1, 0) := by
  unfold cmn; simp only; split
  · omega
  · rfl
theorem nowS_no {w : Int} {D : Int × Int} {L : List (Int × Int)} {i : Int} : ∀ {k m : Nat}, nowS w D L i k = (1, 0) → nowS w D L i (k + m) = (1, 0)
  | k, 0, h => h
  | k, m + 1, h => by
    have := nowS_no (m := m) h
    rw [← Nat.add_assoc]
    simp only [nowS, this, cmn_no]
theorem cmn_bnd {p q : Int × Int} {M : Int} (hM : 1 ≤ M) (h : (-M ≤ p.1 ∧ p.1 ≤ M) ∧ (-M ≤ p.2 ∧ p.2 ≤ M)) (h' : (-M ≤ q.1 ∧ q.1 ≤ M) ∧ (-M ≤ q.2 ∧ q.2 ≤ M)) : (-M ≤ (cmn p q).1 ∧ (cmn p q).1 ≤ M) ∧ (-M ≤ (cmn p q).2 ∧ (cmn p q).2 ≤ M) := by
  unfold cmn; split <;> simp only <;> omega
/-- The diameters that are left, within a pair. -/
def nowR (w : Int) (D : Int × Int) (L : List (Int × Int)) (i : Int) (k : Nat) : Nat → Int × Int
  | 0 => nowS w D L i k
  | 1 => cmn (nowS w D L i k) (lo L k + i + -w, lo L k + i + w)
  | _ => nowS w D L i (k + 1)
theorem sunB {L : List (Int × Int)} (h : okL L) {k : Nat} (hk : k < L.length) : (0 ≤ lo L k ∧ lo L k ≤ 6000) ∧ (0 ≤ hi L k ∧ hi L k ≤ 6000) := by
  have h2 := h.2
  rw [List.all_eq_true] at h2
  have := h2 _ (getD_memS hk)
  unfold sunE at this
  rw [decide_eq_true_eq] at this
  exact this
theorem nowS_bnd {w : Int} {D : Int × Int} {L : List (Int × Int)} {i : Int} (hL : okL L) (hD : (1 ≤ D.1 ∧ D.1 ≤ D.2) ∧ D.2 ≤ 4000) (hi' : -1800 ≤ i ∧ i ≤ 1800) (hw : 0 ≤ w ∧ w ≤ 60) : ∀ k, k ≤ L.length → (-10000 ≤ (nowS w D L i k).1 ∧ (nowS w D L i k).1 ≤ 10000) ∧ (-10000 ≤ (nowS w D L i k).2 ∧ (nowS w D L i k).2 ≤ 10000)
  | 0, _ => by simp only [nowS]; omega
  | k + 1, hk => by
    have h := nowS_bnd (L := L) (w := w) (i := i) hL hD hi' hw k (by omega)
    have hs := sunB hL (show k < L.length by omega)
    simp only [nowS]
    exact cmn_bnd (by omega) (cmn_bnd (by omega) h (by simp only; omega)) (by simp only; omega)
theorem arn_bnd {p q : Int × Int} {M : Int} (h : (-M ≤ p.1 ∧ p.1 ≤ M) ∧ (-M ≤ p.2 ∧ p.2 ≤ M)) (h' : (-M ≤ q.1 ∧ q.1 ≤ M) ∧ (-M ≤ q.2 ∧ q.2 ≤ M)) : (-M ≤ (arn p q).1 ∧ (arn p q).1 ≤ M) ∧ (-M ≤ (arn p q).2 ∧ (arn p q).2 ≤ M) := by
  unfold arn; split <;> first | (simp only; omega) | omega
theorem accS_bnd {a w : Int} {D : Int × Int} {L : List (Int × Int)} (hL : okL L) (hD : (1 ≤ D.1 ∧ D.1 ≤ D.2) ∧ D.2 ≤ 4000) (ha : -1800 ≤ a) (hw : 0 ≤ w ∧ w ≤ 60) : ∀ {n : Nat}, a + n ≤ 1801 →
    ((-10000 ≤ (accS a w D L n).1.1 ∧ (accS a w D L n).1.1 ≤ 10000) ∧ (-10000 ≤ (accS a w D L n).1.2 ∧ (accS a w D L n).1.2 ≤ 10000)) ∧ ((-10000 ≤ (accS a w D L n).2.1 ∧ (accS a w D L n).2.1 ≤ 10000) ∧ (-10000 ≤ (accS a w D L n).2.2 ∧ (accS a w D L n).2.2 ≤ 10000))
  | 0, _ => by simp only [accS]; omega
  | n + 1, h => by
    have h1 := accS_bnd (L := L) (w := w) (D := D) hL hD ha hw (n := n) (by omega)
    have h2 := nowS_bnd (L := L) (w := w) (D := D) (i := a + n) hL hD (by omega) hw L.length (Nat.le_refl _)
    simp only [accS]
    split
    · exact h1
    · exact ⟨arn_bnd h1.1 (by simp only; omega), arn_bnd h1.2 h2⟩
theorem row4_0 {x y z u : SV} : rowOf 2 [x, y, z, u] 0 = [x, y] := rfl
theorem row4_1 {x y z u : SV} : rowOf 2 [x, y, z, u] 1 = [z, u] := rfl
theorem rlo4 {a b c d : Int} : rlo (rowOf 2 [.int .i64 a, .int .i64 b, .int .i64 c, .int .i64 d]) 0 = a ∧ rlo (rowOf 2 [.int .i64 a, .int .i64 b, .int .i64 c, .int .i64 d]) 1 = c := ⟨rfl, rfl⟩
theorem rhi4 {a b c d : Int} : rhi (rowOf 2 [.int .i64 a, .int .i64 b, .int .i64 c, .int .i64 d]) 0 = b ∧ rhi (rowOf 2 [.int .i64 a, .int .i64 b, .int .i64 c, .int .i64 d]) 1 = d := ⟨rfl, rfl⟩
def C67 : PC := fun args K => ∃ (v : Sx) (D : Int × Int) (L : List (Int × Int)), args = [v.sv, .agg [.int .i64 D.1, .int .i64 D.2], .rd 2 L.length (rowsS L)] ∧ v.ok ∧ ((1 ≤ D.1 ∧ D.1 ≤ D.2) ∧ D.2 ≤ 4000) ∧ okL L ∧
  K (.tup [.agg [.int .i64 (accS v.a v.w D L (v.b - v.a + 1).toNat).1.1, .int .i64 (accS v.a v.w D L (v.b - v.a + 1).toNat).1.2], .agg [.int .i64 (accS v.a v.w D L (v.b - v.a + 1).toNat).2.1, .int .i64 (accS v.a v.w D L (v.b - v.a + 1).toNat).2.2]])
set_option maxHeartbeats 2000000 in
theorem p67 : PureOk Try.prog 67 C67 := by
  have hT : TabOk Try.prog [(68, .fc F68), (100, .fc F100), (98, .fc F98), (99, .fc F99), (90, .fc F90), (102, .fc F102), (89, .fc F89), (101, .fc F101), (103, .fc F103)] :=
    ⟨⟨p68, q68⟩, ⟨p100, q100⟩, ⟨p98, q98⟩, ⟨p99, q99⟩, ⟨p90, q90⟩, ⟨p102, q102⟩, ⟨p89', q89⟩, ⟨p101, q101⟩, ⟨p103, q103⟩, trivial⟩
  refine pure_of hT Try.func67 k67 ?_
  rintro args K ⟨v, D, L, rfl, hok, hD, hL, hK⟩
  have hab := hok.2.1
  have hw := hok.2.2.1
  obtain ⟨step, T, a, b, w, S⟩ := v
  simp only at hab hw hK
  simp only [Sx.sv]
  simp only [↓reduceIte, e_skip, e_reg, and_self, e_seq, e_block, e_scp, o_nil, o_cons, gd_none, putK_e, runK_e, vK_e, boxK_e, bldK_e, storeK3_e, storeK2_e, storeK_e, conK_e, callK_e, evh_v, evh_new, evh_box, evh_bld, evh_store, evh_call, seqK_n, gam_e, gamK_f, pc_e, pcK_e, fcC_e, fcK_e, evp, gt, st, putf, X.get, gets, getp, ap, mkfr, rep, clV, clL, clS, clo, ld, lda, tk, dr, sp, sp.spl, lay, ll, cs1, one, allOne, gb, sb, pb, ln, lk, Value.oneCell', undef, Bool.and_true, Nat.reduceSub, Nat.reduceAdd, Nat.reduceBEq, beq_self_eq_true, true_and, s67, r67, F68, F100, e_sem]
  obtain ⟨F0, hF0⟩ : ∃ F0 : List SV, (mkfr [.agg [.int .i64 step, .rd 2 T.length (rowsS T), .int .i64 a, .int .i64 b, .int .i64 w, .rd 2 S.length (rowsS S)], .agg [.int .i64 D.1, .int .i64 D.2], .rd 2 L.length (rowsS L), .ptr 0 0, .ptr 1 0, .ptr 2 0, .ptr 3 0, .ptr 4 0, .ptr 5 0, .lit undef, .lit undef, .lit undef, .lit undef, .lit undef, .lit undef, .agg [.int .i64 1, .int .i64 0], .agg [.int .i64 1, .int .i64 0], .agg [.fn 98 [], .fn 99 []], .agg [.int .i64 step, .rd 2 T.length (rowsS T), .int .i64 a, .int .i64 b, .int .i64 w, .rd 2 S.length (rowsS S)], .fn 115 [.rp [.int .i64 step, .rd 2 T.length (rowsS T), .int .i64 a, .int .i64 b, .int .i64 w, .rd 2 S.length (rowsS S)] 0]] 60) = F0 := ⟨_, rfl⟩
  have rF : ∀ n, 8 ≤ n → reL n n [] F0 F0 = True := fun n hn => by
    rw [← hF0]
    have h0 : 0 < n := by omega
    have h1 : 1 < n := by omega
    have h2 : 2 < n := by omega
    have h3 : 3 < n := by omega
    have h4 : 4 < n := by omega
    have h5 : 5 < n := by omega
    simp only [reL, reX, Nat.reduceSub, inb, inb.inbs, Bool.and_self, decide_true, and_self, implies_true, mkfr, rep, Nat.reduceSub, h0, h1, h2, h3, h4, h5, undef]
  have rF8 := rF 8 (by omega)
  have rF9 := rF 9 (by omega)
  have rF10 := rF 10 (by omega)
  clear rF
  refine sem_ofF hT c67r c67q (F0 := F0) (by rw [← hF0]; rfl) c67o rfl Try.func115 (by decide) k115 rfl ?_
  simp only [e_reg, e_seq, e_block, e_loop, o_nil, o_cons, gd_none, putK_e, runK_e, vK_e, evh_v, seqK_n, evp, gt, gq, st, putf, X.get, mkfr, rep, ld, lda, pb, ln, undef, Nat.reduceSub, Nat.reduceAdd, true_and, s115]
  refine loop_at2 (G := Nat) (fun n => [(3, .int .i64 (a + n))]) (fun n => [.box 89 [.int .i64 step, .rd 2 T.length (rowsS T), .int .i64 a, .int .i64 b, .int .i64 w, .rd 2 S.length (rowsS S)], .box 24 [.int .i64 D.1, .int .i64 D.2], .box 37 [.rd 2 L.length (rowsS L)], .box 24 [.int .i64 (accS a w D L n).1.1, .int .i64 (accS a w D L n).1.2], .box 24 [.int .i64 (accS a w D L n).2.1, .int .i64 (accS a w D L n).2.2], .box 138 [.fn 98 [], .fn 99 []], .ob .df, .ob (.wl .ready none F0 [20] (rgA (rg Try.f67 0)) (rgB (rg Try.f67 0)) 6)]) (fun n => a + n ≤ b + 1) (fun n => (b + 1 - a - n).toNat) 0 (by omega) ?_
  (intro fr1 hf1; simp only [forget, dstC, dstO, st] at hf1; subst hf1)
  refine ⟨?_, ?_⟩
  · refine Lw_re 8 [] (by omega) (by simp [ln]) (by simp [ln]) rfl ?_ ?_
    · simp only [reL, reX, inb, ln, sts, st, Nat.reduceLT, Nat.reduceAdd, decide_true, and_self, Int.natCast_zero, Int.add_zero]
    · simp only [reL, reX, reH, reB, reN, inb, inb.inbs, ln, Nat.reduceLT, Nat.reduceAdd, and_self, implies_true, rF8, accS]
  · intro n hn
    by_cases hb : a + n ≤ b
    · have hbT : (a + (n : Int) ≤ b) = True := by simp [hb]
      simp only [condK_bt, decide_true, e_skip, e_reg, e_seq, e_cond, e_block, o_nil, o_cons, gd_none, putK_e, runK_e, vK_e, evh_v, evh_call, seqK_n, evp, bin, gt, gq, st, putf, X.get, gets, ld, lda, Nat.reduceAdd, true_and, sts, hbT, callK_y]
      refine yld_ofF hT hF0 k67a0 k67b0 rfl rfl (by rfl) rfl ?_
      simp only [e_reg, o_nil, o_cons, gd_none, putK_e, runK_e, vK_e, evh_v, evp, gt, st, putf, X.get, mkfr, rep, gb, ln, undef, Nat.reduceSub, Nat.reduceAdd, true_and, s67a0, setL, mkfr, rep]
      refine ⟨fun _ _ _ _ _ _ h => by cases h; rfl, ?_⟩
      simp only [e_reg, and_self, e_seq, e_block, e_loop, o_nil, o_cons, gd_none, putK_e, runK_e, vK_e, storeK3_e, storeK2_e, storeK_e, evh_v, evh_new, evh_store, seqK_n, evp, gt, gq, st, putf, X.get, ld, lda, lens, tk, dr, sp, sp.spl, ll, cs1, one, allOne, gb, sb, pb, ln, Bool.and_true, Nat.reduceAdd, true_and, yK1, s67b0]
      refine loop_at2 (G := Nat) (fun k => [(24, .int .i64 k)]) (fun k => [.box 89 [.int .i64 step, .rd 2 T.length (rowsS T), .int .i64 a, .int .i64 b, .int .i64 w, .rd 2 S.length (rowsS S)], .box 24 [.int .i64 D.1, .int .i64 D.2], .box 37 [.rd 2 L.length (rowsS L)], .box 24 [.int .i64 (accS a w D L n).1.1, .int .i64 (accS a w D L n).1.2], .box 24 [.int .i64 (accS a w D L n).2.1, .int .i64 (accS a w D L n).2.2], .box 138 [.fn 98 [], .fn 99 []], .ob .df, .ob (.wl .busy none F0 [20] (rgA (rg Try.f67 0)) (rgB (rg Try.f67 0)) 6), .box 24 [.int .i64 (nowS w D L (a + n) k).1, .int .i64 (nowS w D L (a + n) k).2]]) (fun k => k ≤ L.length ∧ nowS w D L (a + n) k ≠ (1, 0)) (fun k => L.length - k) 0 ⟨Nat.zero_le _, by simp only [nowS]; intro e; rw [e] at hD; omega⟩ ?_
      (intro fr1 hf1; simp only [forget, dstC, dstT, dstO, dstD, dst1, st, tn, o67b_0, o67b_1, o67b_2, o67b_3, o67b_4, o67b_5, o67b_6, o67b_7, o67b_8] at hf1; subst hf1)
      refine ⟨?_, ?_⟩
      · refine Lw_re 9 [] (by simp []) (by simp [ln]) (by simp [ln]) rfl ?_ ?_
        · simp only [reL, reX, inb, inb.inbs, ln, sts, st, Bool.and_self, Nat.reduceLT, Nat.reduceAdd, decide_true, and_self, Int.natCast_zero, implies_true]
        · simp only [reL, reX, reH, reB, reN, inb, inb.inbs, ln, Nat.reduceLT, Nat.reduceAdd, and_self, implies_true, rF9, nowS]
      · rintro k ⟨hk1, hk2⟩
        by_cases hk : k < L.length
        · have hkT : ((k : Int) < L.length) = True := by simp [hk]
          have hLk := sunB hL hk
          have hLn := hL.1
          simp only [condK_bt, decide_true, ne_eq, e_skip, e_reg, and_self, e_seq, e_cond, e_block, e_loop, o_nil, o_cons, gd_none, putK_e, runK_e, vK_e, storeK3_e, storeK2_e, storeK_e, evh_v, evh_new, evh_store, seqK_n, evp, bin, gt, st, putf, X.get, ld, lda, ixs, tk, dr, sp, sp.spl, ll, cs1, one, allOne, gb, sb, pb, ln, Bool.and_true, Nat.reduceAdd, true_and, and_true, sts, Int.toNat_natCast, rowsS, hkT]
          refine ⟨by omega, ?_⟩
          refine loop_at2 (G := Nat) (fun r => [(29, .int .i64 r)]) (fun r => [.box 89 [.int .i64 step, .rd 2 T.length (rowsS T), .int .i64 a, .int .i64 b, .int .i64 w, .rd 2 S.length (rowsS S)], .box 24 [.int .i64 D.1, .int .i64 D.2], .box 37 [.rd 2 L.length (rowsS L)], .box 24 [.int .i64 (accS a w D L n).1.1, .int .i64 (accS a w D L n).1.2], .box 24 [.int .i64 (accS a w D L n).2.1, .int .i64 (accS a w D L n).2.2], .box 138 [.fn 98 [], .fn 99 []], .ob .df, .ob (.wl .busy none F0 [20] (rgA (rg Try.f67 0)) (rgB (rg Try.f67 0)) 6), .box 24 [.int .i64 (nowR w D L (a + n) k r).1, .int .i64 (nowR w D L (a + n) k r).2], .box 67 [.int .i64 (lo L k), .int .i64 (hi L k)]]) (fun r => r ≤ 2) (fun r => 2 - r) 0 (by omega) ?_
          (intro fr1 hf1; simp only [forget, dstC, dstT, dstO, dst1, st, tn, o67b_0, o67b_1, o67b_2, o67b_3, o67b_4, o67b_5, o67b_6, o67b_7, o67b_8] at hf1; subst hf1)
          refine ⟨?_, ?_⟩
          · refine Lw_re 10 [] (by simp []) (by simp [ln]) (by simp [ln]) rfl ?_ ?_
            · simp only [reL, reX, inb, inb.inbs, ln, sts, st, Bool.and_self, Nat.reduceLT, Nat.reduceAdd, decide_true, and_self, Int.natCast_zero, implies_true]
            · simp only [reL, reX, reH, reB, reN, inb, inb.inbs, ln, Nat.reduceLT, Nat.reduceAdd, and_self, implies_true, rF10, nowR]
          · intro r hr
            rcases (show r = 0 ∨ r = 1 ∨ r = 2 by omega) with rfl | rfl | rfl
            · have z2 : ((0 : Int) < 2) = True := by simp
              simp (maxSteps := 3000000) only [condK_bt, decide_true, inr64, e_skip, e_reg, e_tre, t_leaf, t_stop, t_op, and_self, e_seq, e_cond, e_block, o_nil, o_cons, gd_none, putK_e, runK_e, vK_e, bslK_e, bldK_e, storeK3_e, storeK2_e, storeK_e, conK_e, callK_e, evh_v, evh_bsl, evh_bld, evh_store, evh_call, loopK_n, seqK_n, blockK_n, gam_e, gamK_f, pc_e, pcK_e, fcC_e, fcK_e, evp, bin, gt, gq, st, putf, X.get, gets, getp, ap, clV, clL, clS, clo, ld, lda, tk, dr, sp, sp.spl, lay, ll, cs1, one, allOne, gb, sb, pb, ln, lk, Value.oneCell', Bool.and_true, Nat.reduceSub, Nat.reduceAdd, Nat.reduceMul, Nat.reduceDiv, Nat.reduceBEq, beq_self_eq_true, true_and, and_true, sts, Int.natCast_zero, Int.reduceToNat, z2, tn, o67b_0, o67b_1, o67b_2, o67b_3, o67b_4, o67b_5, o67b_6, o67b_7, o67b_8, F98, F90, F102, F89, F101, toInts, row4_0, row4_1, rlo4, rhi4, nowR]
              refine ⟨by omega, by omega, by omega, by omega, by omega, ?_⟩
              refine Nx.mk 1 (by omega) (by omega) (Lw_re 10 [] (by simp []) (by simp [ln]) (by simp [ln]) rfl ?_ ?_)
              · simp only [reL, reX, inb, inb.inbs, Bool.and_self, Nat.reduceLT, decide_true, and_self, Int.natCast_one, Int.zero_add, implies_true]
              · simp only [reL, reX, reH, reB, reN, inb, inb.inbs, ln, Nat.reduceLT, Nat.reduceAdd, and_self, implies_true, rF10]
            · have z2 : ((1 : Int) < 2) = True := by simp
              simp (maxSteps := 3000000) only [condK_bt, decide_true, inr64, e_skip, e_reg, e_tre, t_leaf, t_stop, t_op, and_self, e_seq, e_cond, e_block, o_nil, o_cons, gd_none, putK_e, runK_e, vK_e, bslK_e, bldK_e, storeK3_e, storeK2_e, storeK_e, conK_e, callK_e, evh_v, evh_bsl, evh_bld, evh_store, evh_call, loopK_n, seqK_n, blockK_n, gam_e, gamK_f, pc_e, pcK_e, fcC_e, fcK_e, evp, bin, gt, gq, st, putf, X.get, gets, getp, ap, clV, clL, clS, clo, ld, lda, tk, dr, sp, sp.spl, lay, ll, cs1, one, allOne, gb, sb, pb, ln, lk, Value.oneCell', Bool.and_true, Nat.reduceSub, Nat.reduceAdd, Nat.reduceMul, Nat.reduceDiv, Nat.reduceBEq, beq_self_eq_true, true_and, and_true, sts, Int.natCast_one, Int.reduceToNat, z2, tn, o67b_0, o67b_1, o67b_2, o67b_3, o67b_4, o67b_5, o67b_6, o67b_7, o67b_8, F99, F90, F102, F89, F101, toInts, row4_0, row4_1, rlo4, rhi4, nowR]
              refine ⟨by omega, by omega, by omega, by omega, by omega, ?_⟩
              refine Nx.mk 2 (by omega) (by omega) (Lw_re 10 [] (by simp []) (by simp [ln]) (by simp [ln]) rfl ?_ ?_)
              · simp only [reL, reX, inb, inb.inbs, Bool.and_self, Nat.reduceLT, decide_true, true_and, and_true, and_self, Int.reduceAdd, implies_true]
                rfl
              · simp only [reL, reX, reH, reB, reN, inb, inb.inbs, ln, Nat.reduceLT, Nat.reduceAdd, and_self, implies_true, rF10, nowS]
            · have z2 : (((2 : Nat) : Int) < 2) = False := by simp
              have hnb := nowS_bnd (w := w) (i := a + n) hL hD (by omega) hw (k + 1) (by omega)
              by_cases he : nowS w D L (a + n) (k + 1) = (1, 0)
              · have he1 : ((nowS w D L (a + n) (k + 1)).1 = 1 ∧ (nowS w D L (a + n) (k + 1)).2 = 0) = True := by rw [he]; simp
                have hend : nowS w D L (a + n) L.length = (1, 0) := by
                  have := nowS_no (m := L.length - (k + 1)) he
                  rwa [show k + 1 + (L.length - (k + 1)) = L.length by omega] at this
                have hacc : accS a w D L (n + 1) = accS a w D L n := by simp only [accS, if_pos hend]
                simp only [condK_bt, condK_bf, decide_true, decide_false, inr64, List.cons.injEq, e_skip, e_reg, e_drw, e_seq, e_cond, e_exit, o_nil, o_cons, gd_none, putK_e, runK_e, vK_e, evh_v, dX_e, dG_t, d_nil, d_cons, tlK_n, loopK_n, loopK_x, seqK_n, seqK_x, condK_f, exitK_t, exitK_f, blockK_x, blockK_n, gamq_e, gamqK_f, evp, fit, InQ, bin, gt, st, putf, X.get, gets, ap, clo.clos, ld, lda, tk, dr, gb, sb, lk, evq, gdl, Bool.not_true, cond_false, Nat.reduceSub, Nat.reduceBEq, beq_self_eq_true, true_and, and_true, sts, z2, nowR, F68, he1, yK2]
                refine ⟨by omega, by omega, ?_⟩
                refine Nx.mk (n + 1) (by omega) (by omega) (Lw_re 8 [] (by omega) (by simp [ln]) (by simp [ln]) rfl ?_ ?_)
                · simp only [reL, reX, inb, Nat.reduceLT, decide_true, and_self, Int.natCast_add, Int.natCast_one, Int.add_assoc]
                · simp only [reL, reX, reH, reB, reN, inb, inb.inbs, ln, Nat.reduceLT, Nat.reduceAdd, and_self, implies_true, rF8, hacc]
              · have he1 : ((nowS w D L (a + n) (k + 1)).1 = 1 ∧ (nowS w D L (a + n) (k + 1)).2 = 0) = False := by
                  simp only [eq_iff_iff, iff_false]
                  intro hh; exact he (Prod.ext hh.1 hh.2)
                simp only [condK_bf, decide_false, inr64, List.cons.injEq, e_skip, e_reg, e_drw, e_seq, e_cond, e_exit, o_nil, o_cons, gd_none, putK_e, runK_e, vK_e, evh_v, dX_e, dG_t, d_nil, d_cons, tlK_n, loopK_n, loopK_x, seqK_n, seqK_x, exitK_t, blockK_x, blockK_n, gamq_e, gamqK_f, evp, fit, InQ, bin, gt, st, putf, X.get, gets, ap, clo.clos, ld, lda, tk, dr, gb, lk, evq, gdl, Bool.not_false, cond_false, Nat.reduceSub, beq_self_eq_true, true_and, and_true, sts, z2, nowR, F68, he1]
                refine ⟨by omega, by omega, ?_⟩
                refine Nx.mk (k + 1) ⟨by omega, he⟩ (by omega) (Lw_re 9 [] (by simp []) (by simp [ln]) (by simp [ln]) rfl ?_ ?_)
                · simp only [reL, reX, inb, inb.inbs, Bool.and_self, Nat.reduceLT, decide_true, and_self, Int.natCast_add, Int.natCast_one, implies_true]
                · simp only [reL, reX, reH, reB, reN, inb, inb.inbs, ln, Nat.reduceLT, Nat.reduceAdd, and_self, implies_true, rF9]
        · have hkF : ((k : Int) < L.length) = False := by simp; omega
          have hkl : k = L.length := by omega
          subst hkl
          have hacc : accS a w D L (n + 1) = (arn (accS a w D L n).1 (a + n, a + n), arn (accS a w D L n).2 (nowS w D L (a + n) L.length)) := by simp only [accS, if_neg hk2]
          have hb1 := accS_bnd (a := a) (w := w) (D := D) hL hD (by omega) hw (n := n) (by omega)
          simp only [condK_bf, decide_false, inr64, ne_eq, e_skip, e_reg, and_self, e_drw, e_seq, e_cond, e_exit, o_nil, o_cons, gd_none, putK_e, runK_e, vK_e, storeK3_e, storeK2_e, storeK_e, conK_e, callK_e, evh_v, evh_store, evh_call, dX_e, dG_t, d_nil, d_cons, tlK_n, loopK_n, loopK_x, seqK_n, seqK_x, condK_f, exitK_t, blockK_x, blockK_n, gam_e, gamK_f, gamq_e, gamqK_f, pc_e, pcK_e, fcC_e, fcK_e, evp, bin, gt, st, putf, X.get, gets, ap, clV, clL, clS, clo, clo.clos, ld, lda, tk, dr, sp, sp.spl, ll, cs1, one, allOne, gb, sb, lk, evq, gdl, Value.oneCell', Bool.and_true, Nat.reduceAdd, Nat.reduceBEq, beq_self_eq_true, true_and, sts, hkF, F90, F103, yK2]
          refine ⟨by omega, by omega, by omega, ?_⟩
          refine Nx.mk (n + 1) (by omega) (by omega) (Lw_re 8 [] (by omega) (by simp [ln]) (by simp [ln]) rfl ?_ ?_)
          · simp only [reL, reX, inb, Nat.reduceLT, decide_true, and_self, Int.natCast_add, Int.natCast_one, Int.add_assoc]
          · simp only [reL, reX, reH, reB, reN, inb, inb.inbs, ln, Nat.reduceLT, Nat.reduceAdd, and_self, implies_true, rF8, hacc]
    · have hbF : (a + (n : Int) ≤ b) = False := by simp; omega
      simp only [condK_bf, decide_false, ne_eq, not_false_eq_true, reduceCtorEq, e_reg, e_tre, t_leaf, t_stop, t_op, and_self, e_seq, e_cond, e_exit, e_ret, scpK_r, o_nil, o_cons, gd_none, putK_e, runK_e, vK_e, storeK3_e, storeK2_e, storeK_e, evh_v, evh_store, loopK_x, seqK_n, seqK_x, exitK_t, blockK_x, blockK_n, ends_r, endK1_e, endK2_e, evp, bin, gt, gq, st, putf, X.get, rdR, tupled, clV, clL, clS, clo, ld, lda, tk, dr, sp, sp.spl, ll, cs1, one, allOne, gb, sb, Bool.and_true, Nat.reduceAdd, beq_self_eq_true, true_and, and_true, sts, hbF, rK, tn, o67m_0, o67m_1, o67m_2, ne_eq, true_or]
      have hnn : (b - a + 1).toNat = n := by omega
      rw [hnn] at hK
      exact res hK (by simp [leR, leR.leRs])
end Go.Proofs.Ytjagiieconpgbaa
end

section
namespace Go.Proofs.Ytjagiieconpgbaa
open Go Go.Vg
set_option linter.unusedSimpArgs false
set_option linter.unusedVariables false
set_option maxRecDepth 10000
/- 22: octant/sextant.Index -/
def s22 : SC :=
  (.seq (.reg [⟨(some 3), none, .box 26 (.t 0)⟩,
    ⟨(some 4), none, .box 24 (.t 1)⟩,
    ⟨(some 6), none, .new 24 [(.int .i64 (0)), (.int .i64 (0))]⟩,
    ⟨(some 7), none, .new 24 [(.int .i64 (0)), (.int .i64 (0))]⟩,
    ⟨(some 8), none, .v (.mov (.c (.int .i64 (0))))⟩])
  (.seq (.seq (.reg [⟨(some 10), none, .v (.load (.t 3) (some 6))⟩,
    ⟨(some 11), none, .call (.c (.fn 17 [])) [(.t 10)]⟩,
    ⟨(some 9), none, .v (.mov (.t 11))⟩])
  (.seq (.reg [⟨(some 12), none, .v (.mov (.t 9))⟩,
    ⟨(some 13), none, .v (.bin .neq (.t 12) (.c (.int .i64 (0))))⟩])
  (.cond (.t 13)
    (.seq (.reg [⟨(some 14), none, .bld [(.int .i64 (0)), (.int .i64 (0))] []⟩,
      ⟨(some 15), none, .bld [(.int .i64 (0)), (.int .i64 (0))] []⟩,
      ⟨(some 16), none, .v (.mov (.t 9))⟩,
      ⟨none, none, .store 2 (.t 6) (.t 14)⟩,
      ⟨none, none, .store 2 (.t 7) (.t 15)⟩,
      ⟨(some 8), none, .v (.mov (.t 16))⟩])
    .ret)
    .skip)))
  (.seq (.seq (.reg [⟨(some 17), none, .v (.load (.t 4) (some 2))⟩,
    ⟨(some 18), none, .call (.c (.fn 65 [])) [(.t 17), (.c (.int .i64 (1))), (.c (.int .i64 (4000)))]⟩,
    ⟨(some 19), none, .v (.not (.t 18))⟩,
    ⟨(some 20), none, .v (.mov (.t 19))⟩,
    ⟨(some 21), (some (20, false)), .v (.mov (.t 2))⟩,
    ⟨(some 22), (some (20, false)), .call (.c (.fn 66 [])) [(.t 21)]⟩,
    ⟨(some 23), (some (20, false)), .v (.not (.t 22))⟩,
    ⟨(some 24), none, .v (.pick (.t 20) (.c (.lit (.bool true))) (.t 23))⟩])
  (.cond (.t 24)
    (.seq (.reg [⟨(some 25), none, .bld [(.int .i64 (0)), (.int .i64 (0))] []⟩,
      ⟨(some 26), none, .bld [(.int .i64 (0)), (.int .i64 (0))] []⟩,
      ⟨none, none, .store 2 (.t 6) (.t 25)⟩,
      ⟨none, none, .store 2 (.t 7) (.t 26)⟩,
      ⟨(some 8), none, .v (.mov (.c (.int .i64 (52))))⟩])
    .ret)
    .skip))
  (.seq (.reg [⟨(some 28), none, .v (.load (.t 3) (some 6))⟩,
    ⟨(some 29), none, .bld [(.int .i64 (0)), (.lit (.slice none 0 0)), (.int .i64 (0)), (.int .i64 (0)), (.int .i64 (0)), (.lit (.slice none 0 0))] [(0, 6, (.t 28))]⟩,
    ⟨(some 30), none, .v (.load (.t 4) (some 2))⟩,
    ⟨(some 31), none, .v (.mov (.t 2))⟩,
    ⟨(some 32), none, .call (.c (.fn 67 [])) [(.t 29), (.t 30), (.t 31)]⟩,
    ⟨(some 27), none, .v (.mov (.t 32))⟩,
    ⟨(some 33), none, .v (.ext (.t 27) 0)⟩,
    ⟨(some 34), none, .v (.ext (.t 27) 1)⟩,
    ⟨none, none, .store 2 (.t 6) (.t 33)⟩,
    ⟨none, none, .store 2 (.t 7) (.t 34)⟩])
  (.seq (.seq (.drw [(0, ⟨(some 35), none, .v (.load (.t 6) (some 2))⟩, false),
    (1, ⟨(some 36), none, .call (.c (.fn 68 [])) []⟩, false)]
    none
    [⟨(some 37), none, .v (.eqs [(some .i64), (some .i64)] false (.t 35) (.t 36))⟩])
  (.cond (.t 37)
    (.seq (.reg [⟨(some 38), none, .bld [(.int .i64 (0)), (.int .i64 (0))] []⟩,
      ⟨(some 39), none, .bld [(.int .i64 (0)), (.int .i64 (0))] []⟩,
      ⟨none, none, .store 2 (.t 6) (.t 38)⟩,
      ⟨none, none, .store 2 (.t 7) (.t 39)⟩,
      ⟨(some 8), none, .v (.mov (.c (.int .i64 (54))))⟩])
    .ret)
    .skip))
  (.seq (.tre (.op ⟨(some 40), none, .v (.load (.t 6) (some 2))⟩ (.op ⟨(some 41), none, .v (.load (.t 7) (some 2))⟩ (.op ⟨none, none, .store 2 (.t 6) (.t 40)⟩ (.op ⟨none, none, .store 2 (.t 7) (.t 41)⟩ (.op ⟨(some 8), none, .v (.mov (.c (.int .i64 (0))))⟩ .leaf
    .stop)
    .stop)
    .stop)
    (.op ⟨none, none, .store 2 (.t 6) (.t 40)⟩ (.op ⟨(some 41), none, .v (.load (.t 7) (some 2))⟩ (.op ⟨none, none, .store 2 (.t 7) (.t 41)⟩ (.op ⟨(some 8), none, .v (.mov (.c (.int .i64 (0))))⟩ .leaf
    .stop)
    .stop)
    .stop)
    .stop))
    (.op ⟨(some 41), none, .v (.load (.t 7) (some 2))⟩ (.op ⟨(some 40), none, .v (.load (.t 6) (some 2))⟩ (.op ⟨none, none, .store 2 (.t 6) (.t 40)⟩ (.op ⟨none, none, .store 2 (.t 7) (.t 41)⟩ (.op ⟨(some 8), none, .v (.mov (.c (.int .i64 (0))))⟩ .leaf
    .stop)
    .stop)
    .stop)
    .stop)
    .stop)))
  .ret))))))
def r22 : List RV := [.c 6 (some 2), .c 7 (some 2), .t 8]
def n22 : Nat := 42
theorem k22 : (Try.f22.body.bind (cC Try.prog), cR Try.prog Try.f22.results.toList, Try.f22.ntmps) = (some s22, some r22, 42) := by kernel_rfl
theorem q22 : Known Try.prog 22 := ⟨_, Try.func22, by decide, by simp [Try.f22]⟩

/- 69: octant/octantref00.Wider -/
def s69 : SC :=
  (.seq (.reg [⟨(some 3), none, .box 24 (.t 0)⟩,
    ⟨(some 6), none, .new 24 [(.int .i64 (0)), (.int .i64 (0))]⟩])
  (.seq (.seq (.reg [⟨(some 7), none, .v (.mov (.t 2))⟩])
  (.cond (.t 7)
    (.seq (.reg [⟨(some 8), none, .v (.mov (.t 1))⟩,
      ⟨(some 9), none, .v (.mov (.t 1))⟩,
      ⟨(some 10), none, .bld [(.int .i64 (0)), (.int .i64 (0))] [(0, 1, (.t 8)), (1, 1, (.t 9))]⟩,
      ⟨none, none, .store 2 (.t 6) (.t 10)⟩])
    .ret)
    .skip))
  (.seq (.reg [⟨(some 11), none, .v (.off (.t 3) 0)⟩,
    ⟨(some 12), none, .v (.load (.t 11) none)⟩,
    ⟨(some 13), none, .v (.mov (.t 1))⟩,
    ⟨(some 14), none, .v (.min2 (.t 12) (.t 13))⟩,
    ⟨(some 15), none, .v (.off (.t 3) 1)⟩,
    ⟨(some 16), none, .v (.load (.t 15) none)⟩,
    ⟨(some 17), none, .v (.mov (.t 1))⟩,
    ⟨(some 18), none, .v (.max2 (.t 16) (.t 17))⟩,
    ⟨(some 19), none, .bld [(.int .i64 (0)), (.int .i64 (0))] [(0, 1, (.t 14)), (1, 1, (.t 18))]⟩,
    ⟨none, none, .store 2 (.t 6) (.t 19)⟩])
  .ret)))
def r69 : List RV := [.c 6 (some 2)]
def n69 : Nat := 20
theorem k69 : (Try.f69.body.bind (cC Try.prog), cR Try.prog Try.f69.results.toList, Try.f69.ntmps) = (some s69, some r69, 20) := by kernel_rfl
theorem q69 : Known Try.prog 69 := ⟨_, Try.func69, by decide, by simp [Try.f69]⟩


def sunQ (D : Int × Int) (L : List (Int × Int)) : Prop := ((1 ≤ D.1 ∧ D.1 ≤ D.2) ∧ D.2 ≤ 4000) ∧ okL L
instance (D : Int × Int) (L : List (Int × Int)) : Decidable (sunQ D L) := by unfold sunQ; infer_instance
/-- What Index returns. -/
def sunR (v : Sx) (D : Int × Int) (L : List (Int × Int)) : (Int × Int) × (Int × Int) × Int :=
  if v.ok then if sunQ D L then if (accS v.a v.w D L (v.b - v.a + 1).toNat).1 = (1, 0) then ((0, 0), (0, 0), 54)
    else ((accS v.a v.w D L (v.b - v.a + 1).toNat).1, (accS v.a v.w D L (v.b - v.a + 1).toNat).2, 0) else ((0, 0), (0, 0), 52) else ((0, 0), (0, 0), 50)
def sun3 (r : (Int × Int) × (Int × Int) × Int) : SV := .tup [.agg [.int .i64 r.1.1, .int .i64 r.1.2], .agg [.int .i64 r.2.1.1, .int .i64 r.2.1.2], .int .i64 r.2.2]
def C22 : PC := fun args K => ∃ (v : Sx) (D : Int × Int) (L : List (Int × Int)), args = [v.sv, .agg [.int .i64 D.1, .int .i64 D.2], .rd 2 L.length (rowsS L)] ∧ K (sun3 (sunR v D L))
theorem p22 : PureOk Try.prog 22 C22 := by
  refine pure_of (T := [(17, .pc C17), (65, .fc Fsp), (66, .pc C66), (67, .pc C67), (68, .fc F68)]) ⟨⟨p17, q17⟩, ⟨p65, q65⟩, ⟨p66, q66⟩, ⟨p67, q67⟩, ⟨p68, q68⟩, trivial⟩ Try.func22 k22 ?_
  rintro args K ⟨v, D, L, rfl, hK⟩
  have hsv : v.sv = .agg [.int .i64 v.step, .rd 2 v.T.length (rowsS v.T), .int .i64 v.a, .int .i64 v.b, .int .i64 v.w, .rd 2 v.S.length (rowsS v.S)] := rfl
  rw [hsv]
  simp only [e_reg, e_seq, o_nil, o_cons, gd_none, putK_e, runK_e, vK_e, boxK_e, conK_e, callK_e, evh_v, evh_new, evh_box, evh_call, seqK_n, gam_e, gamK_p, pc_e, pcK_e, evp, bin, gt, st, putf, X.get, gets, ap, mkfr, rep, clV, clL, clS, clo, ld, lda, tk, dr, cs1, gb, pb, ln, lk, undef, Nat.reduceSub, Nat.reduceAdd, beq_self_eq_true, true_and, s22, r22]
  refine ⟨v, rfl, ?_⟩
  by_cases hok : v.ok
  · have h1 : (v.chk = 0) = True := by simp [Sx.chk, hok]
    simp only [condK_bf, decide_true, e_skip, e_reg, e_seq, e_cond, o_nil, o_cons, gd_none, putK_e, runK_e, vK_e, conK_e, callK_e, evh_v, evh_call, seqK_n, gam_e, gamK_f, pc_e, pcK_e, fcC_e, evp, gt, st, putf, X.get, gets, ap, clV, clL, clS, clo, ld, lda, tk, dr, gb, lk, Bool.not_true, Nat.reduceBEq, beq_self_eq_true, true_and, h1]
    by_cases hD : (1 ≤ D.1 ∧ D.1 ≤ D.2) ∧ D.2 ≤ 4000
    · have h2 : ((1 ≤ D.1 ∧ D.1 ≤ D.2) ∧ D.2 ≤ 4000) = True := by simp only [hD, and_self]
      simp only [gdK_bff, decide_true, o_cons, gd_none, gd_some, gdK_ff, putK_e, runK_e, vK_e, conK_e, callK_e, evh_v, evh_call, gam_e, gamK_p, pc_e, pcK_e, fcK_e, evp, gt, st, putf, X.get, gets, ap, clV, clL, clS, clo, lk, Bool.not_true, Nat.reduceBEq, beq_self_eq_true, true_and, h2, Fsp]
      refine ⟨L, rfl, ?_⟩
      by_cases hL : okL L
      · have h3 : okL L = True := by simp only [hL]
        simp only [condK_bf, decide_true, e_skip, e_reg, e_seq, e_cond, o_nil, o_cons, gd_none, putK_e, runK_e, vK_e, bldK_e, conK_e, callK_e, evh_v, evh_bld, evh_call, seqK_n, gam_e, gamK_p, pc_e, pcK_e, evp, gt, st, putf, X.get, gets, getp, ap, clV, clL, clS, clo, ld, lda, tk, dr, sp, sp.spl, lay, ll, cs1, gb, lk, Bool.not_true, Nat.reduceAdd, Nat.reduceBEq, beq_self_eq_true, true_and, h3]
        refine ⟨v, D, L, rfl, hok, hD, hL, ?_⟩
        have hb := accS_bnd (a := v.a) (w := v.w) (D := D) hL hD hok.2.1.1.1 hok.2.2.1 (n := (v.b - v.a + 1).toNat) (by have := hok.2.1; omega)
        by_cases hf : (accS v.a v.w D L (v.b - v.a + 1).toNat).1 = (1, 0)
        · have h4 : ((accS v.a v.w D L (v.b - v.a + 1).toNat).1.1 = 1 ∧ (accS v.a v.w D L (v.b - v.a + 1).toNat).1.2 = 0) = True := by rw [hf]; simp
          simp only [condK_bt, decide_true, List.cons.injEq, e_reg, and_self, e_drw, e_seq, e_cond, e_ret, o_nil, o_cons, gd_none, putK_e, runK_e, vK_e, bldK_e, storeK3_e, storeK2_e, storeK_e, evh_v, evh_bld, evh_store, dX_e, dG_t, d_nil, d_cons, tlK_n, seqK_n, seqK_r, ends_r, endK1_e, endK2_e, gamq_e, gamqK_f, evp, fit, InQ, gt, gq, st, putf, X.get, gets, getp, ap, rdR, tupled, clV, clL, clS, clo, clo.clos, ld, lda, tk, dr, sp, sp.spl, lay, ll, cs1, one, allOne, gb, sb, lk, evq, gdl, Bool.and_true, Bool.not_true, cond_false, Nat.reduceAdd, Nat.reduceBEq, beq_self_eq_true, true_and, and_true, h4, F68]
          have e : sunR v D L = ((0, 0), (0, 0), 54) := by unfold sunR; rw [if_pos hok, if_pos ⟨hD, hL⟩, if_pos hf]
          rw [e] at hK
          repeat' (first | (exact ⟨_, hK, by simp [leR, leR.leRs, sun3]⟩) | omega | apply And.intro)
        · have h4 : ((accS v.a v.w D L (v.b - v.a + 1).toNat).1.1 = 1 ∧ (accS v.a v.w D L (v.b - v.a + 1).toNat).1.2 = 0) = False := by
            simp only [eq_iff_iff, iff_false]
            intro hh; exact hf (Prod.ext hh.1 hh.2)
          simp only [condK_bf, decide_false, List.cons.injEq, e_skip, e_tre, t_leaf, t_stop, t_op, and_self, e_drw, e_seq, e_cond, e_ret, o_nil, o_cons, gd_none, putK_e, runK_e, vK_e, storeK3_e, storeK2_e, storeK_e, evh_v, evh_store, dX_e, dG_t, d_nil, d_cons, tlK_n, seqK_n, ends_r, endK1_e, endK2_e, gamq_e, gamqK_f, evp, fit, InQ, gt, gq, st, putf, X.get, gets, ap, rdR, tupled, clV, clL, clS, clo, clo.clos, ld, lda, tk, dr, sp, sp.spl, ll, cs1, one, allOne, gb, sb, lk, evq, gdl, Bool.and_true, Bool.not_false, cond_false, Nat.reduceAdd, Nat.reduceBEq, beq_self_eq_true, true_and, and_true, h4, F68]
          have e : sunR v D L = ((accS v.a v.w D L (v.b - v.a + 1).toNat).1, (accS v.a v.w D L (v.b - v.a + 1).toNat).2, 0) := by unfold sunR; rw [if_pos hok, if_pos ⟨hD, hL⟩, if_neg hf]
          rw [e] at hK
          repeat' (first | (exact ⟨_, hK, by simp [leR, leR.leRs, sun3]⟩) | omega | apply And.intro)
      · have h3 : okL L = False := by simp only [hL]
        simp only [condK_bt, decide_false, e_reg, and_self, e_seq, e_cond, e_ret, o_nil, o_cons, gd_none, putK_e, runK_e, vK_e, bldK_e, storeK3_e, storeK2_e, storeK_e, evh_v, evh_bld, evh_store, seqK_n, seqK_r, ends_r, endK1_e, endK2_e, evp, gt, st, putf, X.get, getp, rdR, tupled, clV, clL, clS, clo, ld, tk, dr, sp, sp.spl, lay, ll, cs1, one, allOne, gb, sb, Bool.and_true, Bool.not_false, Nat.reduceAdd, true_and, h3]
        have e : sunR v D L = ((0, 0), (0, 0), 52) := by unfold sunR; rw [if_pos hok, if_neg (fun h => hL h.2)]
        rw [e] at hK
        exact res hK (by simp [leR, leR.leRs, sun3])
    · have h2 : ((1 ≤ D.1 ∧ D.1 ≤ D.2) ∧ D.2 ≤ 4000) = False := by simp only [hD]
      simp only [gdK_bft, decide_false, e_reg, and_self, e_seq, e_cond, e_ret, o_nil, o_cons, gd_none, gd_some, gdK_tf, putK_e, runK_e, skipK_e, vK_e, bldK_e, storeK3_e, storeK2_e, storeK_e, evh_v, evh_bld, evh_store, seqK_n, seqK_r, condK_t, ends_r, endK1_e, endK2_e, fcK_e, evp, gt, st, putf, X.get, getp, rdR, tupled, clV, clL, clS, clo, ld, tk, dr, sp, sp.spl, lay, ll, cs1, one, allOne, gb, sb, undef, Bool.and_true, Bool.not_false, Nat.reduceAdd, true_and, h2, Fsp]
      have e : sunR v D L = ((0, 0), (0, 0), 52) := by unfold sunR; rw [if_pos hok, if_neg (fun h => hD h.1)]
      rw [e] at hK
      exact res hK (by simp [leR, leR.leRs, sun3])
  · have h1 : (v.chk = 0) = False := by simp [Sx.chk, hok]
    simp only [condK_bt, decide_false, e_reg, and_self, e_seq, e_cond, e_ret, o_nil, o_cons, gd_none, putK_e, runK_e, vK_e, bldK_e, storeK3_e, storeK2_e, storeK_e, evh_v, evh_bld, evh_store, seqK_n, seqK_r, ends_r, endK1_e, endK2_e, evp, gt, st, putf, X.get, getp, rdR, tupled, clV, clL, clS, clo, ld, tk, dr, sp, sp.spl, lay, ll, cs1, one, allOne, gb, sb, Bool.and_true, Bool.not_false, Nat.reduceAdd, true_and, h1]
    have e : sunR v D L = ((0, 0), (0, 0), 50) := by unfold sunR; rw [if_neg hok]
    rw [e] at hK
    exact res hK (by simp [leR, leR.leRs, sun3, Sx.chk, hok])
def wid (p : Int × Int) (x : Int) (n : Bool) : Int × Int := if n = true then (x, x) else (min p.1 x, max p.2 x)
def F69 : FC := fun args => match args with
  | [.agg [.int .i64 a, .int .i64 b], .int .i64 x, .bool n] => some (True, .agg [.int .i64 (wid (a, b) x n).1, .int .i64 (wid (a, b) x n).2])
  | [.agg [.int .i64 a, .int .i64 b], .int .i64 x, .lit (.bool n)] => some (True, .agg [.int .i64 (wid (a, b) x n).1, .int .i64 (wid (a, b) x n).2])
  | _ => none
theorem p69 : PureOk Try.prog 69 (fcC F69) := by
  refine pure_of (T := []) trivial Try.func69 k69 ?_
  intro args K hC
  unfold fcC F69 at hC
  split at hC <;> first | (exact hC.elim) | skip
  rename_i h
  split at h <;> first | (cases h; done) | skip
  all_goals
    cases h
    rename_i a b x n
    obtain ⟨-, hK⟩ := hC
    cases n with
    | true =>
      simp only [condK_bt, ↓reduceIte, e_reg, and_self, e_seq, e_cond, e_ret, o_nil, o_cons, gd_none, putK_e, runK_e, vK_e, boxK_e, bldK_e, storeK3_e, storeK2_e, storeK_e, evh_v, evh_new, evh_box, evh_bld, evh_store, seqK_n, seqK_r, condK_t, ends_r, endK1_e, endK2_e, evp, gt, st, putf, X.get, getp, mkfr, rep, rdR, tupled, clV, clL, clS, clo, ld, tk, dr, sp, sp.spl, lay, ll, cs1, one, allOne, gb, sb, pb, ln, undef, Bool.and_true, Nat.reduceSub, Nat.reduceAdd, beq_self_eq_true, true_and, s69, r69]
      exact res hK (by simp [leR, leR.leRs, wid])
    | false =>
      simp only [condK_bf, ↓reduceIte, e_skip, e_reg, and_self, e_seq, e_cond, e_ret, o_nil, o_cons, gd_none, putK_e, runK_e, vK_e, boxK_e, bldK_e, storeK3_e, storeK2_e, storeK_e, evh_v, evh_new, evh_box, evh_bld, evh_store, seqK_n, condK_f, ends_r, endK1_e, endK2_e, evp, gt, gq, st, putf, X.get, getp, mkfr, rep, rdR, tupled, clV, clL, clS, clo, ld, lda, tk, dr, sp, sp.spl, lay, ll, cs1, one, allOne, gb, sb, pb, ln, undef, Bool.and_true, Nat.reduceSub, Nat.reduceAdd, beq_self_eq_true, true_and, s69, r69]
      refine res hK ?_
      simp [leR, leR.leRs, wid]
      constructor <;> split <;> omega
end Go.Proofs.Ytjagiieconpgbaa
end

section
namespace Go.Proofs.Ytjagiieconpgbaa
open Go Go.Vg
set_option linter.unusedSimpArgs false
set_option linter.unusedVariables false
set_option maxRecDepth 10000
/- 23: octant/octantref05.Index -/
def s23 : SC :=
  (.seq (.reg [⟨(some 3), none, .box 26 (.t 0)⟩,
    ⟨(some 4), none, .box 24 (.t 1)⟩,
    ⟨(some 6), none, .new 24 [(.int .i64 (0)), (.int .i64 (0))]⟩,
    ⟨(some 7), none, .new 24 [(.int .i64 (0)), (.int .i64 (0))]⟩,
    ⟨(some 8), none, .v (.mov (.c (.int .i64 (0))))⟩])
  (.seq (.seq (.reg [⟨(some 19), none, .v (.load (.t 3) (some 6))⟩,
    ⟨(some 20), none, .call (.c (.fn 18 [])) [(.t 19)]⟩,
    ⟨(some 9), none, .v (.mov (.t 20))⟩])
  (.seq (.reg [⟨(some 21), none, .v (.mov (.t 9))⟩,
    ⟨(some 22), none, .v (.bin .neq (.t 21) (.c (.int .i64 (0))))⟩])
  (.cond (.t 22)
    (.seq (.reg [⟨(some 23), none, .bld [(.int .i64 (0)), (.int .i64 (0))] []⟩,
      ⟨(some 24), none, .bld [(.int .i64 (0)), (.int .i64 (0))] []⟩,
      ⟨(some 25), none, .v (.mov (.t 9))⟩,
      ⟨none, none, .store 2 (.t 6) (.t 23)⟩,
      ⟨none, none, .store 2 (.t 7) (.t 24)⟩,
      ⟨(some 8), none, .v (.mov (.t 25))⟩])
    .ret)
    .skip)))
  (.seq (.reg [⟨(some 26), none, .v (.load (.t 4) (some 2))⟩,
    ⟨(some 27), none, .call (.c (.fn 41 [])) [(.t 26), (.c (.int .i64 (1))), (.c (.int .i64 (4000)))]⟩,
    ⟨(some 28), none, .v (.mov (.t 27))⟩,
    ⟨(some 29), (some (28, true)), .v (.mov (.t 2))⟩,
    ⟨(some 30), (some (28, true)), .v (.len (.t 29))⟩,
    ⟨(some 31), (some (28, true)), .call (.c (.fn 33 [])) [(.t 30), (.c (.int .i64 (1))), (.c (.int .i64 (6)))]⟩,
    ⟨(some 32), none, .v (.pick (.t 28) (.t 31) (.c (.lit (.bool false))))⟩,
    ⟨(some 10), none, .v (.mov (.t 32))⟩])
  (.seq (.seq (.reg [⟨(some 11), none, .v (.mov (.c (.int .i64 (0))))⟩])
  (.block 0 (.loop
    (.seq (.seq (.reg [⟨(some 33), none, .v (.mov (.t 10))⟩,
      ⟨(some 34), none, .v (.mov (.t 33))⟩,
      ⟨(some 35), (some (34, true)), .v (.mov (.t 11))⟩,
      ⟨(some 36), (some (34, true)), .v (.mov (.t 2))⟩,
      ⟨(some 37), (some (34, true)), .v (.len (.t 36))⟩,
      ⟨(some 38), (some (34, true)), .v (.bin .lss (.t 35) (.t 37))⟩,
      ⟨(some 39), none, .v (.pick (.t 34) (.t 38) (.c (.lit (.bool false))))⟩])
    (.cond (.t 39)
      .skip
      (.exit 0)))
    (.seq (.block 1 (.reg [⟨(some 42), none, .v (.mov (.t 2))⟩,
      ⟨(some 43), none, .v (.mov (.t 11))⟩,
      ⟨(some 44), none, .v (.ixa (.t 42) (.t 43) 2)⟩,
      ⟨(some 45), none, .v (.off (.t 44) 0)⟩,
      ⟨(some 46), none, .v (.load (.t 45) none)⟩,
      ⟨(some 47), none, .call (.c (.fn 33 [])) [(.t 46), (.c (.int .i64 (0))), (.c (.int .i64 (6000)))]⟩,
      ⟨(some 48), none, .v (.mov (.t 47))⟩,
      ⟨(some 49), (some (48, true)), .v (.mov (.t 2))⟩,
      ⟨(some 50), (some (48, true)), .v (.mov (.t 11))⟩,
      ⟨(some 51), (some (48, true)), .v (.ixa (.t 49) (.t 50) 2)⟩,
      ⟨(some 52), (some (48, true)), .v (.off (.t 51) 1)⟩,
      ⟨(some 53), (some (48, true)), .v (.load (.t 52) none)⟩,
      ⟨(some 54), (some (48, true)), .call (.c (.fn 33 [])) [(.t 53), (.c (.int .i64 (0))), (.c (.int .i64 (6000)))]⟩,
      ⟨(some 55), none, .v (.pick (.t 48) (.t 54) (.c (.lit (.bool false))))⟩,
      ⟨(some 10), none, .v (.mov (.t 55))⟩]))
    (.reg [⟨(some 40), none, .v (.mov (.t 11))⟩,
      ⟨(some 41), none, .v (.bin .add (.t 40) (.c (.int .i64 (1))))⟩,
      ⟨(some 11), none, .v (.mov (.t 41))⟩]))))))
  (.seq (.seq (.reg [⟨(some 56), none, .v (.mov (.t 10))⟩,
    ⟨(some 57), none, .v (.not (.t 56))⟩])
  (.cond (.t 57)
    (.seq (.reg [⟨(some 58), none, .bld [(.int .i64 (0)), (.int .i64 (0))] []⟩,
      ⟨(some 59), none, .bld [(.int .i64 (0)), (.int .i64 (0))] []⟩,
      ⟨none, none, .store 2 (.t 6) (.t 58)⟩,
      ⟨none, none, .store 2 (.t 7) (.t 59)⟩,
      ⟨(some 8), none, .v (.mov (.c (.int .i64 (52))))⟩])
    .ret)
    .skip))
  (.seq (.reg [⟨(some 12), none, .new 24 [(.int .i64 (0)), (.int .i64 (0))]⟩,
    ⟨(some 13), none, .new 24 [(.int .i64 (0)), (.int .i64 (0))]⟩])
  (.seq (.reg [⟨(some 14), none, .v (.mov (.c (.lit (.bool false))))⟩])
  (.seq (.seq (.reg [⟨(some 60), none, .v (.off (.t 4) 0)⟩,
    ⟨(some 61), none, .v (.load (.t 60) none)⟩,
    ⟨(some 15), none, .v (.mov (.t 61))⟩])
  (.block 2 (.loop
    (.seq (.seq (.reg [⟨(some 62), none, .v (.mov (.t 15))⟩,
      ⟨(some 63), none, .v (.off (.t 4) 1)⟩,
      ⟨(some 64), none, .v (.load (.t 63) none)⟩,
      ⟨(some 65), none, .v (.bin .leq (.t 62) (.t 64))⟩])
    (.cond (.t 65)
      .skip
      (.exit 2)))
    (.seq (.block 3 (.seq (.drw [(0, ⟨(some 68), none, .v (.off (.t 3) 2)⟩, false),
      (1, ⟨(some 69), none, .v (.off (.t 68) 0)⟩, false),
      (2, ⟨(some 70), none, .v (.load (.t 69) none)⟩, false),
      (3, ⟨(some 71), none, .v (.off (.t 3) 2)⟩, false),
      (4, ⟨(some 72), none, .v (.off (.t 71) 1)⟩, false),
      (5, ⟨(some 73), none, .v (.load (.t 72) none)⟩, false),
      (6, ⟨(some 16), none, .v (.mov (.t 70))⟩, false)]
      none
      [⟨(some 17), none, .v (.mov (.t 73))⟩])
    (.seq (.seq (.reg [⟨(some 18), none, .v (.mov (.c (.int .i64 (0))))⟩])
    (.block 4 (.loop
      (.seq (.seq (.reg [⟨(some 74), none, .v (.mov (.t 18))⟩,
        ⟨(some 75), none, .v (.mov (.t 2))⟩,
        ⟨(some 76), none, .v (.len (.t 75))⟩,
        ⟨(some 77), none, .v (.bin .lss (.t 74) (.t 76))⟩])
      (.cond (.t 77)
        .skip
        (.exit 4)))
      (.seq (.block 5 (.drw [(0, ⟨(some 80), none, .v (.mov (.t 16))⟩, false),
        (1, ⟨(some 81), none, .v (.mov (.t 15))⟩, false),
        (2, ⟨(some 82), none, .v (.mov (.t 2))⟩, false),
        (3, ⟨(some 83), none, .v (.mov (.t 18))⟩, false),
        (4, ⟨(some 84), none, .v (.ixa (.t 82) (.t 83) 2)⟩, false),
        (5, ⟨(some 85), none, .v (.off (.t 84) 0)⟩, false),
        (6, ⟨(some 86), none, .v (.load (.t 85) none)⟩, false),
        (7, ⟨(some 87), none, .v (.bin .sub (.t 81) (.t 86))⟩, false),
        (8, ⟨(some 88), none, .v (.off (.t 3) 4)⟩, false),
        (9, ⟨(some 89), none, .v (.load (.t 88) none)⟩, false),
        (10, ⟨(some 90), none, .v (.bin .sub (.t 87) (.t 89))⟩, false),
        (11, ⟨(some 91), none, .v (.mov (.t 2))⟩, false),
        (12, ⟨(some 92), none, .v (.mov (.t 18))⟩, false),
        (13, ⟨(some 93), none, .v (.ixa (.t 91) (.t 92) 2)⟩, false),
        (14, ⟨(some 94), none, .v (.off (.t 93) 1)⟩, false),
        (15, ⟨(some 95), none, .v (.load (.t 94) none)⟩, false),
        (16, ⟨(some 96), none, .v (.mov (.t 15))⟩, false),
        (17, ⟨(some 97), none, .v (.bin .sub (.t 95) (.t 96))⟩, false),
        (18, ⟨(some 98), none, .v (.off (.t 3) 4)⟩, false),
        (19, ⟨(some 99), none, .v (.load (.t 98) none)⟩, false),
        (20, ⟨(some 100), none, .v (.bin .sub (.t 97) (.t 99))⟩, false),
        (21, ⟨(some 101), none, .v (.mx3 false (.t 80) (.t 90) (.t 100))⟩, false),
        (22, ⟨(some 102), none, .v (.mov (.t 17))⟩, false),
        (23, ⟨(some 103), none, .v (.mov (.t 15))⟩, false),
        (24, ⟨(some 104), none, .v (.mov (.t 2))⟩, false),
        (25, ⟨(some 105), none, .v (.mov (.t 18))⟩, false),
        (26, ⟨(some 106), none, .v (.ixa (.t 104) (.t 105) 2)⟩, false),
        (27, ⟨(some 107), none, .v (.off (.t 106) 0)⟩, false),
        (28, ⟨(some 108), none, .v (.load (.t 107) none)⟩, false),
        (29, ⟨(some 109), none, .v (.bin .sub (.t 103) (.t 108))⟩, false),
        (30, ⟨(some 110), none, .v (.off (.t 3) 4)⟩, false),
        (31, ⟨(some 111), none, .v (.load (.t 110) none)⟩, false),
        (32, ⟨(some 112), none, .v (.bin .add (.t 109) (.t 111))⟩, false),
        (33, ⟨(some 113), none, .v (.mov (.t 2))⟩, false),
        (34, ⟨(some 114), none, .v (.mov (.t 18))⟩, false),
        (35, ⟨(some 115), none, .v (.ixa (.t 113) (.t 114) 2)⟩, false),
        (36, ⟨(some 116), none, .v (.off (.t 115) 1)⟩, false),
        (37, ⟨(some 117), none, .v (.load (.t 116) none)⟩, false),
        (38, ⟨(some 118), none, .v (.mov (.t 15))⟩, false),
        (39, ⟨(some 119), none, .v (.bin .sub (.t 117) (.t 118))⟩, false),
        (40, ⟨(some 120), none, .v (.off (.t 3) 4)⟩, false),
        (41, ⟨(some 121), none, .v (.load (.t 120) none)⟩, false),
        (42, ⟨(some 122), none, .v (.bin .add (.t 119) (.t 121))⟩, false),
        (43, ⟨(some 123), none, .v (.mx3 true (.t 102) (.t 112) (.t 122))⟩, false),
        (44, ⟨(some 16), none, .v (.mov (.t 101))⟩, false)]
        none
        [⟨(some 17), none, .v (.mov (.t 123))⟩]))
      (.reg [⟨(some 78), none, .v (.mov (.t 18))⟩,
        ⟨(some 79), none, .v (.bin .add (.t 78) (.c (.int .i64 (1))))⟩,
        ⟨(some 18), none, .v (.mov (.t 79))⟩]))))))
    (.seq (.reg [⟨(some 124), none, .v (.mov (.t 16))⟩,
      ⟨(some 125), none, .v (.mov (.t 17))⟩,
      ⟨(some 126), none, .v (.bin .leq (.t 124) (.t 125))⟩])
    (.cond (.t 126)
      (.seq (.drw [(0, ⟨(some 127), none, .v (.load (.t 12) (some 2))⟩, false),
        (1, ⟨(some 128), none, .v (.mov (.t 16))⟩, false),
        (2, ⟨(some 129), none, .v (.mov (.t 14))⟩, false),
        (3, ⟨(some 130), none, .v (.not (.t 129))⟩, false),
        (4, ⟨(some 131), none, .call (.c (.fn 69 [])) [(.t 127), (.t 128), (.t 130)]⟩, false),
        (5, ⟨(some 132), none, .v (.mov (.t 17))⟩, false),
        (6, ⟨(some 133), none, .call (.c (.fn 69 [])) [(.t 131), (.t 132), (.c (.lit (.bool false)))]⟩, false),
        (7, ⟨(some 134), none, .v (.load (.t 13) (some 2))⟩, false),
        (8, ⟨(some 135), none, .v (.mov (.t 15))⟩, false),
        (9, ⟨(some 136), none, .v (.mov (.t 14))⟩, false),
        (10, ⟨(some 137), none, .v (.not (.t 136))⟩, false)]
        none
        [⟨(some 138), none, .call (.c (.fn 69 [])) [(.t 134), (.t 135), (.t 137)]⟩,
        ⟨none, none, .store 2 (.t 12) (.t 133)⟩,
        ⟨none, none, .store 2 (.t 13) (.t 138)⟩])
      (.reg [⟨(some 14), none, .v (.mov (.c (.lit (.bool true))))⟩]))
      .skip)))))
    (.reg [⟨(some 66), none, .v (.mov (.t 15))⟩,
      ⟨(some 67), none, .v (.bin .add (.t 66) (.c (.int .i64 (1))))⟩,
      ⟨(some 15), none, .v (.mov (.t 67))⟩]))))))
  (.seq (.seq (.reg [⟨(some 139), none, .v (.mov (.t 14))⟩,
    ⟨(some 140), none, .v (.not (.t 139))⟩])
  (.cond (.t 140)
    (.seq (.reg [⟨(some 141), none, .bld [(.int .i64 (0)), (.int .i64 (0))] []⟩,
      ⟨(some 142), none, .bld [(.int .i64 (0)), (.int .i64 (0))] []⟩,
      ⟨none, none, .store 2 (.t 6) (.t 141)⟩,
      ⟨none, none, .store 2 (.t 7) (.t 142)⟩,
      ⟨(some 8), none, .v (.mov (.c (.int .i64 (54))))⟩])
    .ret)
    .skip))
  (.seq (.tre (.op ⟨(some 143), none, .v (.load (.t 12) (some 2))⟩ (.op ⟨(some 144), none, .v (.load (.t 13) (some 2))⟩ (.op ⟨none, none, .store 2 (.t 6) (.t 143)⟩ (.op ⟨none, none, .store 2 (.t 7) (.t 144)⟩ (.op ⟨(some 8), none, .v (.mov (.c (.int .i64 (0))))⟩ .leaf
    .stop)
    .stop)
    .stop)
    (.op ⟨none, none, .store 2 (.t 6) (.t 143)⟩ (.op ⟨(some 144), none, .v (.load (.t 13) (some 2))⟩ (.op ⟨none, none, .store 2 (.t 7) (.t 144)⟩ (.op ⟨(some 8), none, .v (.mov (.c (.int .i64 (0))))⟩ .leaf
    .stop)
    .stop)
    .stop)
    .stop))
    (.op ⟨(some 144), none, .v (.load (.t 13) (some 2))⟩ (.op ⟨(some 143), none, .v (.load (.t 12) (some 2))⟩ (.op ⟨none, none, .store 2 (.t 6) (.t 143)⟩ (.op ⟨none, none, .store 2 (.t 7) (.t 144)⟩ (.op ⟨(some 8), none, .v (.mov (.c (.int .i64 (0))))⟩ .leaf
    .stop)
    .stop)
    .stop)
    .stop)
    .stop)))
  .ret))))))))))
def r23 : List RV := [.c 6 (some 2), .c 7 (some 2), .t 8]
def n23 : Nat := 145
theorem k23 : (Try.f23.body.bind (cC Try.prog), cR Try.prog Try.f23.results.toList, Try.f23.ntmps) = (some s23, some r23, 145) := by kernel_rfl
theorem q23 : Known Try.prog 23 := ⟨_, Try.func23, by decide, by simp [Try.f23]⟩


def mx3 (a b c : Int) : Int := if (if a < b then b else a) < c then c else (if a < b then b else a)
def mn3 (a b c : Int) : Int := if c < (if b < a then b else a) then c else (if b < a then b else a)
/-- Index errors, at a diameter, by so many pairs. -/
def lhS (a b w d : Int) (L : List (Int × Int)) : Nat → Int × Int
  | 0 => (a, b)
  | k + 1 => (mx3 (lhS a b w d L k).1 (d - lo L k - w) (hi L k - d - w), mn3 (lhS a b w d L k).2 (d - lo L k + w) (hi L k - d + w))
/-- Index errors and diameters, by so many diameters. -/
def accD (a b w dl : Int) (L : List (Int × Int)) : Nat → Bool × (Int × Int) × (Int × Int)
  | 0 => (false, (0, 0), (0, 0))
  | n + 1 => if (lhS a b w (dl + n) L L.length).1 ≤ (lhS a b w (dl + n) L L.length).2 then
      (true, wid (wid (accD a b w dl L n).2.1 (lhS a b w (dl + n) L L.length).1 (!(accD a b w dl L n).1)) (lhS a b w (dl + n) L L.length).2 false, wid (accD a b w dl L n).2.2 (dl + n) (!(accD a b w dl L n).1))
    else accD a b w dl L n
def sunS (v : Sx) (D : Int × Int) (L : List (Int × Int)) : (Int × Int) × (Int × Int) × Int :=
  if v.ok then if sunQ D L then if (accD v.a v.b v.w D.1 L (D.2 - D.1 + 1).toNat).1 = false then ((0, 0), (0, 0), 54)
    else ((accD v.a v.b v.w D.1 L (D.2 - D.1 + 1).toNat).2.1, (accD v.a v.b v.w D.1 L (D.2 - D.1 + 1).toNat).2.2, 0) else ((0, 0), (0, 0), 52) else ((0, 0), (0, 0), 50)
def C23 : PC := fun args K => ∃ (v : Sx) (D : Int × Int) (L : List (Int × Int)), args = [v.sv, .agg [.int .i64 D.1, .int .i64 D.2], .rd 2 L.length (rowsS L)] ∧ K (sun3 (sunS v D L))
theorem mx3_bnd {a b c M : Int} (h : -M ≤ a ∧ a ≤ M) (h1 : -M ≤ b ∧ b ≤ M) (h2 : -M ≤ c ∧ c ≤ M) : (-M ≤ mx3 a b c ∧ mx3 a b c ≤ M) ∧ (-M ≤ mn3 a b c ∧ mn3 a b c ≤ M) := by
  unfold mx3 mn3; constructor <;> (split <;> split <;> omega)
theorem lhS_bnd {a b w d : Int} {L : List (Int × Int)} (hL : okL L) (ha : -1800 ≤ a ∧ a ≤ 1800) (hb : -1800 ≤ b ∧ b ≤ 1800) (hw : 0 ≤ w ∧ w ≤ 60) (hd : 0 ≤ d ∧ d ≤ 4000) : ∀ k, k ≤ L.length →
    (-20000 ≤ (lhS a b w d L k).1 ∧ (lhS a b w d L k).1 ≤ 20000) ∧ (-20000 ≤ (lhS a b w d L k).2 ∧ (lhS a b w d L k).2 ≤ 20000)
  | 0, _ => by simp only [lhS]; omega
  | k + 1, hk => by
    have h := lhS_bnd hL ha hb hw hd k (by omega)
    have hs := sunB hL (show k < L.length by omega)
    simp only [lhS]
    exact ⟨(mx3_bnd h.1 (by omega) (by omega)).1, (mx3_bnd h.2 (by omega) (by omega)).2⟩
theorem lhS_w {a b a' b' w w' d : Int} {L : List (Int × Int)} (h : a = a') (h1 : b = b') (h2 : w = w') (k : Nat) : lhS a b w d L k = lhS a' b' w' d L k := by rw [h, h1, h2]
set_option maxHeartbeats 2000000 in
theorem p23 : PureOk Try.prog 23 C23 := by
  refine pure_of (T := [(18, .pc C17), (41, .fc Fsp), (33, .fc Fin), (69, .fc F69)]) ⟨⟨p18, q18⟩, ⟨p41, q41⟩, ⟨p33, q33⟩, ⟨p69, q69⟩, trivial⟩ Try.func23 k23 ?_
  rintro args K ⟨v, D, L, rfl, hK⟩
  have hsv : v.sv = .agg [.int .i64 v.step, .rd 2 v.T.length (rowsS v.T), .int .i64 v.a, .int .i64 v.b, .int .i64 v.w, .rd 2 v.S.length (rowsS v.S)] := rfl
  rw [hsv]
  simp only [e_reg, e_seq, o_nil, o_cons, gd_none, putK_e, runK_e, vK_e, boxK_e, conK_e, callK_e, evh_v, evh_new, evh_box, evh_call, seqK_n, gam_e, gamK_p, pc_e, pcK_e, evp, bin, gt, st, putf, X.get, gets, ap, mkfr, rep, clV, clL, clS, clo, ld, lda, tk, dr, cs1, gb, pb, ln, lk, undef, Nat.reduceSub, Nat.reduceAdd, beq_self_eq_true, true_and, s23, r23]
  refine ⟨v, rfl, ?_⟩
  by_cases hok : v.ok
  · have h1 : (v.chk = 0) = True := by simp [Sx.chk, hok]
    by_cases hD : (1 ≤ D.1 ∧ D.1 ≤ D.2) ∧ D.2 ≤ 4000
    · have h2 : ((1 ≤ D.1 ∧ D.1 ≤ D.2) ∧ D.2 ≤ 4000) = True := by simp only [hD, and_self]
      by_cases hl : 1 ≤ (L.length : Int) ∧ (L.length : Int) ≤ 6
      · have h3 : (1 ≤ (L.length : Int) ∧ (L.length : Int) ≤ 6) = True := by simp only [hl, and_self]
        simp only [gdK_btt, condK_bf, decide_true, e_skip, e_reg, e_seq, e_cond, e_block, e_loop, o_nil, o_cons, gd_none, gd_some, gdK_tt, putK_e, runK_e, vK_e, conK_e, callK_e, evh_v, evh_call, seqK_n, gam_e, gamK_f, pc_e, pcK_e, fcC_e, fcK_e, evp, gt, st, putf, X.get, gets, ap, clV, clL, clS, clo, ld, lda, lens, tk, dr, gb, lk, Bool.not_true, Nat.reduceBEq, beq_self_eq_true, true_and, h1, h2, h3, Fsp, Fin]
        refine loop_at2 (G := Nat) (fun i => [(11, .int .i64 i), (10, .bool ((L.take i).all sunE))]) (fun i => [.box 26 [.int .i64 v.step, .rd 2 v.T.length (rowsS v.T), .int .i64 v.a, .int .i64 v.b, .int .i64 v.w, .rd 2 v.S.length (rowsS v.S)], .box 24 [.int .i64 D.1, .int .i64 D.2], .box 24 [.int .i64 0, .int .i64 0], .box 24 [.int .i64 0, .int .i64 0]]) (fun i => i ≤ L.length) (fun i => L.length - i) 0 (Nat.zero_le _) ?_
        (intro fr1 hf1; simp only [forget, dstC, dstO, st] at hf1; subst hf1)
        refine ⟨?_, ?_⟩
        · refine Lw_re 4 [] (Nat.zero_le _) (by simp [ln]) (by simp [ln]) rfl ?_ ?_
          · simp only [reL, reX, inb, inb.inbs, ln, sts, st, Bool.and_self, Nat.reduceLT, Nat.reduceAdd, decide_true, and_self, Int.natCast_zero, List.take_zero, List.all_nil, implies_true]
          · simp only [reL, reX, reH, reB, reN, inb, and_self, implies_true]
        · intro i hi1
          have hsp : sunE (L.getD i (0, 0)) = decide ((0 ≤ lo L i ∧ lo L i ≤ 6000) ∧ (0 ≤ hi L i ∧ hi L i ≤ 6000)) := rfl
          by_cases hall : (L.take i).all sunE = true
          · by_cases hk : i < L.length
            · have hkT : ((i : Int) < L.length) = True := by simp [hk]
              by_cases ho : 0 ≤ lo L i ∧ lo L i ≤ 6000
              · have hoT : (0 ≤ lo L i ∧ lo L i ≤ 6000) = True := by simp only [ho, and_self]
                simp only [gdK_btt, condK_bt, decide_true, inr64, e_skip, e_reg, e_seq, e_cond, e_block, o_nil, o_cons, gd_none, gd_some, gdK_tt, putK_e, runK_e, vK_e, conK_e, callK_e, evh_v, evh_call, loopK_n, seqK_n, blockK_n, gam_e, gamK_f, pc_e, pcK_e, fcC_e, fcK_e, evp, bin, gt, gq, st, putf, X.get, gets, ap, clV, clL, clS, clo, ld, lda, lens, ixs, lk, Nat.reduceAdd, Nat.reduceBEq, beq_self_eq_true, true_and, and_true, sts, Int.toNat_natCast, rowsS, hall, hkT, Fin, hoT]
                have e : decide (0 ≤ hi L i ∧ hi L i ≤ 6000) = (L.take (i + 1)).all sunE := by
                  rw [allX_snoc hk, hall, hsp]; simp only [hoT, true_and, Bool.true_and]
                refine ⟨by omega, by omega, ⟨by omega, by omega⟩, ?_⟩
                rw [e]
                refine Nx.mk (i + 1) (by omega) (by omega) (Lw_re 4 [] (Nat.zero_le _) (by simp [ln]) (by simp [ln]) rfl ?_ ?_)
                · simp only [reL, reX, inb, inb.inbs, Bool.and_self, Nat.reduceLT, decide_true, and_self, Int.natCast_add, Int.natCast_one, implies_true]
                · simp only [reL, reX, reH, reB, reN, inb, and_self, implies_true]
              · have hoT : (0 ≤ lo L i ∧ lo L i ≤ 6000) = False := by simp only [ho]
                simp only [gdK_btt, gdK_btf, condK_bt, decide_true, decide_false, inr64, e_skip, e_reg, e_seq, e_cond, e_block, o_nil, o_cons, gd_none, gd_some, gdK_tt, gdK_ft, putK_e, runK_e, skipK_e, vK_e, conK_e, callK_e, evh_v, evh_call, loopK_n, seqK_n, blockK_n, gam_e, gamK_f, pc_e, pcK_e, fcC_e, fcK_e, evp, bin, gt, gq, st, putf, X.get, gets, ap, clV, clL, clS, clo, ld, lda, lens, ixs, lk, undef, Nat.reduceAdd, Nat.reduceBEq, beq_self_eq_true, true_and, and_true, sts, Int.toNat_natCast, rowsS, hall, hkT, Fin, hoT]
                have e : (L.take (i + 1)).all sunE = false := by
                  rw [allX_snoc hk, hall, hsp]; simp only [hoT, false_and, decide_false, Bool.true_and]
                refine ⟨by omega, ⟨by omega, by omega⟩, ?_⟩
                refine Nx.mk (i + 1) (by omega) (by omega) (Lw_re 4 [] (Nat.zero_le _) (by simp [ln]) (by simp [ln]) rfl ?_ ?_)
                · simp only [reL, reX, inb, inb.inbs, Bool.and_self, Nat.reduceLT, decide_true, and_self, Int.natCast_add, Int.natCast_one, implies_true, e]
                · simp only [reL, reX, reH, reB, reN, inb, and_self, implies_true]
            · have hkF : ((i : Int) < L.length) = False := by simp; omega
              have hil : i = L.length := by omega
              simp only [gdK_btt, condK_bf, decide_false, e_skip, e_reg, e_seq, e_cond, e_block, e_loop, e_exit, o_nil, o_cons, gd_none, gd_some, gdK_tt, putK_e, runK_e, vK_e, evh_v, evh_new, loopK_x, seqK_n, seqK_x, exitK_t, blockK_x, evp, bin, gt, gq, st, putf, X.get, ld, lda, lens, gb, pb, ln, Bool.not_true, Nat.reduceAdd, beq_self_eq_true, true_and, sts, hall, hkF]
              rw [hil, List.take_length] at hall
              have hL : okL L := ⟨hl, hall⟩
              clear hi1 hsp hkF hil hk
              refine loop_at2 (G := Nat) (fun n => [(15, .int .i64 (D.1 + n)), (14, .bool (accD v.a v.b v.w D.1 L n).1)]) (fun n => [.box 26 [.int .i64 v.step, .rd 2 v.T.length (rowsS v.T), .int .i64 v.a, .int .i64 v.b, .int .i64 v.w, .rd 2 v.S.length (rowsS v.S)], .box 24 [.int .i64 D.1, .int .i64 D.2], .box 24 [.int .i64 0, .int .i64 0], .box 24 [.int .i64 0, .int .i64 0], .box 24 [.int .i64 (accD v.a v.b v.w D.1 L n).2.1.1, .int .i64 (accD v.a v.b v.w D.1 L n).2.1.2], .box 24 [.int .i64 (accD v.a v.b v.w D.1 L n).2.2.1, .int .i64 (accD v.a v.b v.w D.1 L n).2.2.2]]) (fun n => D.1 + n ≤ D.2 + 1) (fun n => (D.2 + 1 - D.1 - n).toNat) 0 (by omega) ?_
              (intro fr1 hf1; simp only [forget, dstC, dstO, dstD, dst1, st] at hf1; subst hf1)
              refine ⟨?_, ?_⟩
              · refine Lw_re 6 [] (Nat.zero_le _) (by simp [ln]) (by simp [ln]) rfl ?_ ?_
                · simp only [reL, reX, inb, inb.inbs, ln, sts, st, Bool.and_self, Nat.reduceLT, Nat.reduceAdd, decide_true, and_self, Int.natCast_zero, Int.add_zero, implies_true, accD]
                · simp only [reL, reX, reH, reB, reN, inb, and_self, implies_true, accD]
              · intro n hn
                by_cases hb : D.1 + n ≤ D.2
                · have hbT : (D.1 + (n : Int) ≤ D.2) = True := by simp [hb]
                  simp only [condK_bt, decide_true, e_skip, e_reg, e_drw, e_seq, e_cond, e_block, e_loop, o_nil, o_cons, gd_none, putK_e, runK_e, vK_e, evh_v, dX_e, dG_t, d_nil, d_cons, tlK_n, seqK_n, evp, bin, gt, gq, st, putf, X.get, ld, lda, gb, evq, gdl, Nat.reduceAdd, true_and, sts, hbT]
                  have hab := hok.2.1
                  have hw := hok.2.2.1
                  have hbn : ∀ k, k ≤ L.length → _ := fun k hk => lhS_bnd (a := v.a) (b := v.b) (w := v.w) (d := D.1 + n) hL (by omega) (by omega) hw (by omega) k hk
                  refine loop_at2 (G := Nat) (fun k => [(18, .int .i64 k), (16, .int .i64 (lhS v.a v.b v.w (D.1 + n) L k).1), (17, .int .i64 (lhS v.a v.b v.w (D.1 + n) L k).2)]) (fun k => [.box 26 [.int .i64 v.step, .rd 2 v.T.length (rowsS v.T), .int .i64 v.a, .int .i64 v.b, .int .i64 v.w, .rd 2 v.S.length (rowsS v.S)], .box 24 [.int .i64 D.1, .int .i64 D.2], .box 24 [.int .i64 0, .int .i64 0], .box 24 [.int .i64 0, .int .i64 0], .box 24 [.int .i64 (accD v.a v.b v.w D.1 L n).2.1.1, .int .i64 (accD v.a v.b v.w D.1 L n).2.1.2], .box 24 [.int .i64 (accD v.a v.b v.w D.1 L n).2.2.1, .int .i64 (accD v.a v.b v.w D.1 L n).2.2.2]]) (fun k => k ≤ L.length) (fun k => L.length - k) 0 (Nat.zero_le _) ?_
                  (intro fr1 hf1; simp only [forget, dstC, dstO, dstD, dst1, st] at hf1; subst hf1)
                  refine ⟨?_, ?_⟩
                  · refine Lw_re 6 [] (Nat.zero_le _) (by simp [ln]) (by simp [ln]) rfl ?_ ?_
                    · simp only [reL, reX, inb, inb.inbs, ln, sts, st, Bool.and_self, Nat.reduceLT, Nat.reduceAdd, decide_true, and_self, Int.natCast_zero, implies_true, lhS]
                    · simp only [reL, reX, reH, reB, reN, inb, and_self, implies_true]
                  · intro k hk1
                    have hb0 := hbn k hk1
                    by_cases hk : k < L.length
                    · have hkT : ((k : Int) < L.length) = True := by simp [hk]
                      have hs := sunB hL hk
                      simp only [condK_bt, decide_true, inr64, e_skip, e_reg, e_drw, e_seq, e_cond, e_block, o_nil, o_cons, gd_none, putK_e, runK_e, vK_e, evh_v, dX_e, dG_t, d_nil, d_cons, tlK_n, loopK_n, seqK_n, blockK_n, evp, bin, gt, gq, st, putf, X.get, ld, lda, lens, ixs, gb, evq, gdl, Nat.reduceAdd, true_and, and_true, sts, Int.toNat_natCast, rowsS, hkT]
                      refine ⟨by omega, by omega, by omega, by omega, by omega, by omega, by omega, by omega, by omega, by omega, by omega, by omega, by omega, ?_⟩
                      refine Nx.mk (k + 1) (by omega) (by omega) (Lw_re 6 [] (Nat.zero_le _) (by simp [ln]) (by simp [ln]) rfl ?_ ?_)
                      · simp only [reL, reX, inb, inb.inbs, Bool.and_self, Nat.reduceLT, decide_true, and_self, Int.natCast_add, Int.natCast_one, implies_true, lhS, mx3, mn3]
                      · simp only [reL, reX, reH, reB, reN, inb, and_self, implies_true]
                    · have hkF : ((k : Int) < L.length) = False := by simp; omega
                      have hkl : k = L.length := by omega
                      subst hkl
                      by_cases hle : (lhS v.a v.b v.w (D.1 + n) L L.length).1 ≤ (lhS v.a v.b v.w (D.1 + n) L L.length).2
                      · have hleT : ((lhS v.a v.b v.w (D.1 + n) L L.length).1 ≤ (lhS v.a v.b v.w (D.1 + n) L L.length).2) = True := by simp only [hle]
                        have e : accD v.a v.b v.w D.1 L (n + 1) = (true, wid (wid (accD v.a v.b v.w D.1 L n).2.1 (lhS v.a v.b v.w (D.1 + n) L L.length).1 (!(accD v.a v.b v.w D.1 L n).1)) (lhS v.a v.b v.w (D.1 + n) L L.length).2 false, wid (accD v.a v.b v.w D.1 L n).2.2 (D.1 + n) (!(accD v.a v.b v.w D.1 L n).1)) := by rw [accD, if_pos hle]
                        simp only [condK_bt, condK_bf, decide_true, decide_false, inr64, e_reg, and_self, e_drw, e_seq, e_cond, e_exit, o_nil, o_cons, gd_none, putK_e, runK_e, vK_e, storeK3_e, storeK2_e, storeK_e, conK_e, callK_e, evh_v, evh_store, evh_call, dX_e, dG_t, d_nil, d_cons, tlK_n, loopK_n, loopK_x, seqK_n, seqK_x, exitK_t, blockK_x, blockK_n, gam_e, gamK_f, gamq_e, gamqK_f, pc_e, pcK_e, fcC_e, fcK_e, evp, bin, gt, st, putf, X.get, gets, ap, clV, clL, clS, clo, clo.clos, ld, lda, lens, tk, dr, sp, sp.spl, ll, cs1, one, allOne, gb, sb, lk, evq, gdl, Value.oneCell', Bool.and_true, Nat.reduceAdd, Nat.reduceBEq, beq_self_eq_true, true_and, sts, hkF, hleT, F69]
                        refine ⟨⟨by omega, by omega⟩, ?_⟩
                        refine Nx.mk (n + 1) (by omega) (by omega) (Lw_re 6 [] (Nat.zero_le _) (by simp [ln]) (by simp [ln]) rfl ?_ ?_)
                        · simp only [reL, reX, inb, inb.inbs, Bool.and_self, Nat.reduceLT, decide_true, and_self, Int.natCast_add, Int.natCast_one, implies_true, e, Int.add_assoc]
                        · simp only [reL, reX, reH, reB, reN, inb, and_self, implies_true, e]
                      · have hleF : ((lhS v.a v.b v.w (D.1 + n) L L.length).1 ≤ (lhS v.a v.b v.w (D.1 + n) L L.length).2) = False := by simp only [hle]
                        have e : accD v.a v.b v.w D.1 L (n + 1) = accD v.a v.b v.w D.1 L n := by rw [accD, if_neg hle]
                        simp only [condK_bf, decide_false, inr64, e_skip, e_reg, e_seq, e_cond, e_exit, o_nil, o_cons, gd_none, putK_e, runK_e, vK_e, evh_v, loopK_n, loopK_x, seqK_n, seqK_x, exitK_t, blockK_x, blockK_n, evp, bin, gt, st, putf, X.get, lens, beq_self_eq_true, true_and, sts, hkF, hleF]
                        refine ⟨⟨by omega, by omega⟩, ?_⟩
                        refine Nx.mk (n + 1) (by omega) (by omega) (Lw_re 6 [] (Nat.zero_le _) (by simp [ln]) (by simp [ln]) rfl ?_ ?_)
                        · simp only [reL, reX, inb, inb.inbs, Bool.and_self, Nat.reduceLT, decide_true, and_self, Int.natCast_add, Int.natCast_one, implies_true, e, Int.add_assoc]
                        · simp only [reL, reX, reH, reB, reN, inb, and_self, implies_true, e]
                · have hbF : (D.1 + (n : Int) ≤ D.2) = False := by simp; omega
                  have hnn : (D.2 - D.1 + 1).toNat = n := by omega
                  cases hfd : (accD v.a v.b v.w D.1 L n).1 with
                  | false =>
                    simp only [condK_bt, condK_bf, decide_false, e_reg, and_self, e_seq, e_cond, e_exit, e_ret, o_nil, o_cons, gd_none, putK_e, runK_e, vK_e, bldK_e, storeK3_e, storeK2_e, storeK_e, evh_v, evh_bld, evh_store, loopK_x, seqK_n, seqK_x, seqK_r, exitK_t, blockK_x, ends_r, endK1_e, endK2_e, evp, bin, gt, gq, st, putf, X.get, getp, rdR, tupled, clV, clL, clS, clo, ld, lda, tk, dr, sp, sp.spl, lay, ll, cs1, one, allOne, gb, sb, Bool.and_true, Bool.not_false, Nat.reduceAdd, beq_self_eq_true, true_and, sts, hbF]
                    have e : sunS v D L = ((0, 0), (0, 0), 54) := by unfold sunS; rw [if_pos hok, if_pos ⟨hD, hL⟩, hnn, if_pos hfd]
                    rw [e] at hK
                    exact ⟨_, hK, by simp [leR, leR.leRs, sun3]⟩
                  | true =>
                    simp only [condK_bf, decide_false, e_skip, e_reg, e_tre, t_leaf, t_stop, t_op, and_self, e_seq, e_cond, e_exit, e_ret, o_nil, o_cons, gd_none, putK_e, runK_e, vK_e, storeK3_e, storeK2_e, storeK_e, evh_v, evh_store, loopK_x, seqK_n, seqK_x, exitK_t, blockK_x, ends_r, endK1_e, endK2_e, evp, bin, gt, gq, st, putf, X.get, rdR, tupled, clV, clL, clS, clo, ld, lda, tk, dr, sp, sp.spl, ll, cs1, one, allOne, gb, sb, Bool.and_true, Bool.not_true, Nat.reduceAdd, beq_self_eq_true, true_and, and_true, sts, hbF]
                    have e : sunS v D L = ((accD v.a v.b v.w D.1 L n).2.1, (accD v.a v.b v.w D.1 L n).2.2, 0) := by unfold sunS; rw [if_pos hok, if_pos ⟨hD, hL⟩, hnn, if_neg (by rw [hfd]; simp)]
                    rw [e] at hK
                    exact ⟨_, hK, by simp [leR, leR.leRs, sun3]⟩
          · rw [Bool.not_eq_true] at hall
            simp only [gdK_btf, condK_bt, e_reg, and_self, e_seq, e_cond, e_exit, e_ret, o_nil, o_cons, gd_none, gd_some, gdK_ft, putK_e, runK_e, skipK_e, vK_e, bldK_e, storeK3_e, storeK2_e, storeK_e, evh_v, evh_bld, evh_store, loopK_x, seqK_n, seqK_x, seqK_r, condK_f, exitK_t, blockK_x, ends_r, endK1_e, endK2_e, evp, gt, st, putf, X.get, getp, rdR, tupled, clV, clL, clS, clo, ld, tk, dr, sp, sp.spl, lay, ll, cs1, one, allOne, gb, sb, undef, Bool.and_true, Bool.not_false, Nat.reduceAdd, beq_self_eq_true, true_and, sts, hall]
            have e : sunS v D L = ((0, 0), (0, 0), 52) := by
              unfold sunS
              rw [if_pos hok, if_neg]
              intro h
              have h9 := h.2.2
              have : (L.take i).all sunE = true := by
                rw [List.all_eq_true] at h9 ⊢
                exact fun x hx => h9 x (List.mem_of_mem_take hx)
              rw [this] at hall; cases hall
            rw [e] at hK
            exact ⟨_, hK, by simp [leR, leR.leRs, sun3]⟩
      · have h3 : (1 ≤ (L.length : Int) ∧ (L.length : Int) ≤ 6) = False := by simp only [hl]
        simp only [gdK_btt, condK_bf, decide_true, decide_false, e_skip, e_reg, e_seq, e_cond, e_block, e_loop, o_nil, o_cons, gd_none, gd_some, gdK_tt, putK_e, runK_e, vK_e, conK_e, callK_e, evh_v, evh_call, seqK_n, gam_e, gamK_f, pc_e, pcK_e, fcC_e, fcK_e, evp, gt, st, putf, X.get, gets, ap, clV, clL, clS, clo, ld, lda, lens, tk, dr, gb, lk, Bool.not_true, Nat.reduceBEq, beq_self_eq_true, true_and, h1, h2, h3, Fsp, Fin]
        refine loop_once ?_
        simp only [gdK_btf, condK_bt, e_reg, and_self, e_seq, e_cond, e_exit, e_ret, o_nil, o_cons, gd_none, gd_some, gdK_ft, putK_e, runK_e, skipK_e, vK_e, bldK_e, storeK3_e, storeK2_e, storeK_e, evh_v, evh_bld, evh_store, loopK_x, seqK_n, seqK_x, seqK_r, condK_f, exitK_t, blockK_x, ends_r, endK1_e, endK2_e, evp, gt, st, putf, X.get, getp, rdR, tupled, clV, clL, clS, clo, ld, tk, dr, sp, sp.spl, lay, ll, cs1, one, allOne, gb, sb, undef, Bool.and_true, Bool.not_false, Nat.reduceAdd, beq_self_eq_true, true_and]
        have e : sunS v D L = ((0, 0), (0, 0), 52) := by unfold sunS; rw [if_pos hok, if_neg (fun h => hl h.2.1)]
        rw [e] at hK
        exact ⟨_, hK, by simp [leR, leR.leRs, sun3]⟩
    · have h2 : ((1 ≤ D.1 ∧ D.1 ≤ D.2) ∧ D.2 ≤ 4000) = False := by simp only [hD]
      simp only [gdK_btf, condK_bf, decide_true, decide_false, e_skip, e_reg, e_seq, e_cond, e_block, e_loop, o_nil, o_cons, gd_none, gd_some, gdK_ft, putK_e, runK_e, skipK_e, vK_e, conK_e, callK_e, evh_v, evh_call, seqK_n, gam_e, gamK_f, pc_e, pcK_e, fcC_e, fcK_e, evp, gt, st, putf, X.get, gets, ap, clV, clL, clS, clo, ld, lda, tk, dr, gb, lk, undef, Bool.not_true, Nat.reduceBEq, beq_self_eq_true, true_and, h1, h2, Fsp]
      refine loop_once ?_
      simp only [e_reg, and_self, e_seq, e_cond, e_exit, e_ret, o_nil, o_cons, gd_none, gd_some, gdK_ft, putK_e, runK_e, skipK_e, vK_e, bldK_e, storeK3_e, storeK2_e, storeK_e, evh_v, evh_bld, evh_store, loopK_x, seqK_n, seqK_x, seqK_r, condK_t, condK_f, exitK_t, blockK_x, ends_r, endK1_e, endK2_e, evp, gt, st, putf, X.get, getp, rdR, tupled, clV, clL, clS, clo, ld, tk, dr, sp, sp.spl, lay, ll, cs1, one, allOne, gb, sb, undef, Bool.and_true, Nat.reduceAdd, beq_self_eq_true, true_and]
      have e : sunS v D L = ((0, 0), (0, 0), 52) := by unfold sunS; rw [if_pos hok, if_neg (fun h => hD h.1)]
      rw [e] at hK
      exact ⟨_, hK, by simp [leR, leR.leRs, sun3]⟩
  · have h1 : (v.chk = 0) = False := by simp [Sx.chk, hok]
    simp only [condK_bt, decide_false, e_reg, and_self, e_seq, e_cond, e_ret, o_nil, o_cons, gd_none, putK_e, runK_e, vK_e, bldK_e, storeK3_e, storeK2_e, storeK_e, evh_v, evh_bld, evh_store, seqK_n, seqK_r, ends_r, endK1_e, endK2_e, evp, gt, st, putf, X.get, getp, rdR, tupled, clV, clL, clS, clo, ld, tk, dr, sp, sp.spl, lay, ll, cs1, one, allOne, gb, sb, Bool.and_true, Bool.not_false, Nat.reduceAdd, true_and, h1]
    have e : sunS v D L = ((0, 0), (0, 0), 50) := by unfold sunS; rw [if_neg hok]
    rw [e] at hK
    exact res hK (by simp [leR, leR.leRs, sun3, Sx.chk, hok])
end Go.Proofs.Ytjagiieconpgbaa
end

section
namespace Go.Proofs.Ytjagiieconpgbaa
open Go Go.Vg
set_option linter.unusedSimpArgs false
set_option linter.unusedVariables false
set_option maxRecDepth 10000
/-- Whether an index error and a diameter agree with so many pairs. -/
def Fe (w : Int) (L : List (Int × Int)) (i d : Int) : Nat → Prop
  | 0 => True
  | k + 1 => Fe w L i d k ∧ (lo L k + i + -w ≤ d ∧ d ≤ lo L k + i + w) ∧ (hi L k - i + -w ≤ d ∧ d ≤ hi L k - i + w)
theorem cmn_mem {p q : Int × Int} {d : Int} : ((cmn p q).1 ≤ d ∧ d ≤ (cmn p q).2) ↔ (p.1 ≤ d ∧ d ≤ p.2) ∧ (q.1 ≤ d ∧ d ≤ q.2) := by
  unfold cmn
  split
  · simp only; omega
  · simp only; omega
theorem cmn_nrm {p q : Int × Int} : cmn p q = (1, 0) ∨ (cmn p q).1 ≤ (cmn p q).2 := by
  unfold cmn
  split
  · rename_i h; exact .inr h
  · exact .inl rfl
theorem nowS_mem {w : Int} {D : Int × Int} {L : List (Int × Int)} {i d : Int} : ∀ k, ((nowS w D L i k).1 ≤ d ∧ d ≤ (nowS w D L i k).2) ↔ (D.1 ≤ d ∧ d ≤ D.2) ∧ Fe w L i d k
  | 0 => by simp only [nowS, Fe, and_true]
  | k + 1 => by
    simp only [nowS, Fe]
    rw [cmn_mem, cmn_mem, nowS_mem k]
    simp only [and_assoc]
theorem nowS_nrm {w : Int} {D : Int × Int} {L : List (Int × Int)} {i : Int} (hD : D.1 ≤ D.2) : ∀ k, nowS w D L i k = (1, 0) ∨ (nowS w D L i k).1 ≤ (nowS w D L i k).2
  | 0 => .inr hD
  | k + 1 => cmn_nrm
theorem mx3_le {a b c i : Int} : mx3 a b c ≤ i ↔ a ≤ i ∧ b ≤ i ∧ c ≤ i := by
  unfold mx3; split <;> split <;> omega
theorem le_mn3 {a b c i : Int} : i ≤ mn3 a b c ↔ i ≤ a ∧ i ≤ b ∧ i ≤ c := by
  unfold mn3; split <;> split <;> omega
theorem lhS_mem {a b w d i : Int} {L : List (Int × Int)} : ∀ k, ((lhS a b w d L k).1 ≤ i ∧ i ≤ (lhS a b w d L k).2) ↔ (a ≤ i ∧ i ≤ b) ∧ Fe w L i d k
  | 0 => by simp only [lhS, Fe, and_true]
  | k + 1 => by
    have h := lhS_mem (a := a) (b := b) (w := w) (d := d) (i := i) (L := L) k
    simp only [lhS, Fe]
    rw [mx3_le, le_mn3]
    constructor
    · rintro ⟨⟨h1, h2, h3⟩, h4, h5, h6⟩
      obtain ⟨g1, g2⟩ := h.1 ⟨h1, h4⟩
      exact ⟨g1, g2, ⟨by omega, by omega⟩, by omega, by omega⟩
    · rintro ⟨g1, g2, ⟨h2, h3⟩, h5, h6⟩
      obtain ⟨h1, h4⟩ := h.2 ⟨g1, g2⟩
      exact ⟨⟨h1, by omega, by omega⟩, h4, by omega, by omega⟩
def Hull (P : Int → Prop) (p : Int × Int) : Prop := P p.1 ∧ P p.2 ∧ ∀ x, P x → p.1 ≤ x ∧ x ≤ p.2
theorem hull_le {P : Int → Prop} {p : Int × Int} (h : Hull P p) : p.1 ≤ p.2 := (h.2.2 _ h.2.1).1
theorem hull_no {P : Int → Prop} {p : Int × Int} (h : Hull P p) : p ≠ (1, 0) := fun e => by
  have := hull_le h; rw [e] at this; simp only at this; omega
theorem hull_eq {P Q : Int → Prop} {p q : Int × Int} (h : Hull P p) (h' : Hull Q q) (e : ∀ x, P x ↔ Q x) : p = q := by
  have a1 := h.2.2 _ ((e _).2 h'.1)
  have a2 := h.2.2 _ ((e _).2 h'.2.1)
  have b1 := h'.2.2 _ ((e _).1 h.1)
  have b2 := h'.2.2 _ ((e _).1 h.2.1)
  exact Prod.ext (by omega) (by omega)
theorem hull_of {P Q : Int → Prop} {p : Int × Int} (h : Hull P p) (e : ∀ x, Q x ↔ P x) : Hull Q p :=
  ⟨(e _).2 h.1, (e _).2 h.2.1, fun x hx => h.2.2 x ((e x).1 hx)⟩
theorem hull_arn {P Q R : Int → Prop} {p q : Int × Int} (h : Hull P p) (h' : Hull Q q) (e : ∀ x, R x ↔ P x ∨ Q x) : Hull R (arn p q) := by
  unfold arn
  rw [if_neg (hull_no h)]
  refine ⟨?_, ?_, fun x hx => ?_⟩
  · simp only
    rcases Int.le_total p.1 q.1 with g | g
    · rw [Int.min_eq_left g]; exact (e _).2 (.inl h.1)
    · rw [Int.min_eq_right g]; exact (e _).2 (.inr h'.1)
  · simp only
    rcases Int.le_total p.2 q.2 with g | g
    · rw [Int.max_eq_right g]; exact (e _).2 (.inr h'.2.1)
    · rw [Int.max_eq_left g]; exact (e _).2 (.inl h.2.1)
  · simp only
    rcases (e x).1 hx with g | g
    · have := h.2.2 x g; omega
    · have := h'.2.2 x g; omega
theorem wid_new {p s : Int × Int} (h : s.1 ≤ s.2) : wid (wid p s.1 true) s.2 false = s := by
  unfold wid; exact Prod.ext (by simp; omega) (by simp; omega)
theorem wid_old {p s : Int × Int} (h : s.1 ≤ s.2) (hp : p ≠ (1, 0)) : wid (wid p s.1 false) s.2 false = arn p s := by
  unfold wid arn; rw [if_neg hp]; exact Prod.ext (by simp; omega) (by simp; omega)
theorem hull_int {P : Int → Prop} {s : Int × Int} (h : s.1 ≤ s.2) (e : ∀ x, (s.1 ≤ x ∧ x ≤ s.2) ↔ P x) : Hull P s :=
  ⟨(e _).1 ⟨Int.le_refl _, h⟩, (e _).1 ⟨h, Int.le_refl _⟩, fun x hx => (e x).2 hx⟩
theorem accS_spec {a w : Int} {D : Int × Int} {L : List (Int × Int)} (hD : D.1 ≤ D.2) : ∀ n : Nat,
    (accS a w D L n = ((1, 0), (1, 0)) ∧ ∀ i, a ≤ i → i < a + n → ∀ d, (D.1 ≤ d ∧ d ≤ D.2) → ¬ Fe w L i d L.length) ∨
    (Hull (fun i => (a ≤ i ∧ i < a + n) ∧ ∃ d, (D.1 ≤ d ∧ d ≤ D.2) ∧ Fe w L i d L.length) (accS a w D L n).1 ∧ Hull (fun d => (D.1 ≤ d ∧ d ≤ D.2) ∧ ∃ i, (a ≤ i ∧ i < a + n) ∧ Fe w L i d L.length) (accS a w D L n).2)
  | 0 => .inl ⟨rfl, fun i h1 h2 => by simp only [Int.natCast_zero, Int.add_zero] at h2; omega⟩
  | n + 1 => by
    have hm := fun d => nowS_mem (w := w) (D := D) (L := L) (i := a + n) (d := d) L.length
    have hn : ((n + 1 : Nat) : Int) = n + 1 := Int.natCast_succ n
    rcases accS_spec (a := a) (w := w) (L := L) hD n with ⟨h1, h2⟩ | ⟨h1, h2⟩
    · by_cases he : nowS w D L (a + n) L.length = (1, 0)
      · refine .inl ⟨by rw [accS, if_pos he]; exact h1, fun i g1 g2 d hd hf => ?_⟩
        by_cases gi : i = a + n
        · subst gi
          have := (hm d).2 ⟨hd, hf⟩
          rw [he] at this
          simp only at this
          omega
        · exact h2 i g1 (by omega) d hd hf
      · have hle := (nowS_nrm (w := w) (L := L) (i := a + n) hD L.length).resolve_left he
        have e : accS a w D L (n + 1) = ((a + n, a + n), nowS w D L (a + n) L.length) := by rw [accS, if_neg he, h1]; simp [arn]
        rw [e]
        refine .inr ⟨⟨?_, ?_, ?_⟩, hull_int hle fun d => ?_⟩
        · exact ⟨⟨by simp only; omega, by simp only; omega⟩, _, (hm _).1 ⟨Int.le_refl _, hle⟩⟩
        · exact ⟨⟨by simp only; omega, by simp only; omega⟩, _, (hm _).1 ⟨Int.le_refl _, hle⟩⟩
        · rintro i ⟨⟨g1, g2⟩, d, hd, hf⟩
          by_cases gi : i = a + n
          · simp only; omega
          · exact absurd hf (h2 i g1 (by omega) d hd)
        · rw [hm d]
          constructor
          · rintro ⟨hd, hf⟩; exact ⟨hd, _, ⟨by omega, by omega⟩, hf⟩
          · rintro ⟨hd, i, ⟨g1, g2⟩, hf⟩
            by_cases gi : i = a + n
            · subst gi; exact ⟨hd, hf⟩
            · exact absurd hf (h2 i g1 (by omega) d hd)
    · right
      by_cases he : nowS w D L (a + n) L.length = (1, 0)
      · have hno : ∀ d, (D.1 ≤ d ∧ d ≤ D.2) → ¬ Fe w L (a + n) d L.length := fun d hd hf => by
          have := (hm d).2 ⟨hd, hf⟩
          rw [he] at this
          simp only at this
          omega
        have e : accS a w D L (n + 1) = accS a w D L n := by rw [accS, if_pos he]
        rw [e]
        refine ⟨hull_of h1 fun i => ?_, hull_of h2 fun d => ?_⟩
        · constructor
          · rintro ⟨⟨g1, g2⟩, d, hd, hf⟩
            by_cases gi : i = a + n
            · subst gi; exact absurd hf (hno d hd)
            · exact ⟨⟨g1, by omega⟩, d, hd, hf⟩
          · rintro ⟨⟨g1, g2⟩, d, hd, hf⟩; exact ⟨⟨g1, by omega⟩, d, hd, hf⟩
        · constructor
          · rintro ⟨hd, i, ⟨g1, g2⟩, hf⟩
            by_cases gi : i = a + n
            · subst gi; exact absurd hf (hno d hd)
            · exact ⟨hd, i, ⟨g1, by omega⟩, hf⟩
          · rintro ⟨hd, i, ⟨g1, g2⟩, hf⟩; exact ⟨hd, i, ⟨g1, by omega⟩, hf⟩
      · have hle := (nowS_nrm (w := w) (L := L) (i := a + n) hD L.length).resolve_left he
        have e : accS a w D L (n + 1) = (arn (accS a w D L n).1 (a + n, a + n), arn (accS a w D L n).2 (nowS w D L (a + n) L.length)) := by rw [accS, if_neg he]
        rw [e]
        refine ⟨hull_arn (Q := fun i => i = a + n) h1 ⟨rfl, rfl, fun x hx => by subst hx; exact ⟨Int.le_refl _, Int.le_refl _⟩⟩ fun i => ?_, hull_arn (Q := fun d => (D.1 ≤ d ∧ d ≤ D.2) ∧ Fe w L (a + n) d L.length) h2 (hull_int hle hm) fun d => ?_⟩
        · constructor
          · rintro ⟨⟨g1, g2⟩, hx⟩
            by_cases gi : i = a + n
            · exact .inr gi
            · exact .inl ⟨⟨g1, by omega⟩, hx⟩
          · rintro (⟨⟨g1, g2⟩, hx⟩ | rfl)
            · exact ⟨⟨g1, by omega⟩, hx⟩
            · exact ⟨⟨by omega, by omega⟩, _, (hm _).1 ⟨Int.le_refl _, hle⟩⟩
        · constructor
          · rintro ⟨hd, i, ⟨g1, g2⟩, hf⟩
            by_cases gi : i = a + n
            · subst gi; exact .inr ⟨hd, hf⟩
            · exact .inl ⟨hd, i, ⟨g1, by omega⟩, hf⟩
          · rintro (⟨hd, i, ⟨g1, g2⟩, hf⟩ | ⟨hd, hf⟩)
            · exact ⟨hd, i, ⟨g1, by omega⟩, hf⟩
            · exact ⟨hd, _, ⟨by omega, by omega⟩, hf⟩
theorem accD_spec {a b w dl : Int} {L : List (Int × Int)} : ∀ n : Nat,
    ((accD a b w dl L n).1 = false ∧ ∀ d, dl ≤ d → d < dl + n → ∀ i, (a ≤ i ∧ i ≤ b) → ¬ Fe w L i d L.length) ∨
    ((accD a b w dl L n).1 = true ∧ Hull (fun i => (a ≤ i ∧ i ≤ b) ∧ ∃ d, (dl ≤ d ∧ d < dl + n) ∧ Fe w L i d L.length) (accD a b w dl L n).2.1 ∧ Hull (fun d => (dl ≤ d ∧ d < dl + n) ∧ ∃ i, (a ≤ i ∧ i ≤ b) ∧ Fe w L i d L.length) (accD a b w dl L n).2.2)
  | 0 => .inl ⟨rfl, fun i h1 h2 => by simp only [Int.natCast_zero, Int.add_zero] at h2; omega⟩
  | n + 1 => by
    have hm := fun i => lhS_mem (a := a) (b := b) (w := w) (L := L) (i := i) (d := dl + n) L.length
    have hn : ((n + 1 : Nat) : Int) = n + 1 := Int.natCast_succ n
    rcases accD_spec (a := a) (b := b) (w := w) (dl := dl) (L := L) n with ⟨h1, h2⟩ | ⟨h0, h1, h2⟩
    · by_cases hle : (lhS a b w (dl + n) L L.length).1 ≤ (lhS a b w (dl + n) L L.length).2
      · have e : accD a b w dl L (n + 1) = (true, lhS a b w (dl + n) L L.length, (dl + n, dl + n)) := by
          rw [accD, if_pos hle, h1]; simp only [Bool.not_false]; rw [wid_new hle]; simp [wid]
        rw [e]
        refine .inr ⟨rfl, hull_int hle fun i => ?_, ⟨?_, ?_, ?_⟩⟩
        · rw [hm i]
          constructor
          · rintro ⟨hd, hf⟩; exact ⟨hd, _, ⟨by omega, by omega⟩, hf⟩
          · rintro ⟨hd, i', ⟨g1, g2⟩, hf⟩
            by_cases gi : i' = dl + n
            · subst gi; exact ⟨hd, hf⟩
            · exact absurd hf (h2 i' g1 (by omega) i hd)
        · exact ⟨⟨by simp only; omega, by simp only; omega⟩, _, (hm _).1 ⟨Int.le_refl _, hle⟩⟩
        · exact ⟨⟨by simp only; omega, by simp only; omega⟩, _, (hm _).1 ⟨Int.le_refl _, hle⟩⟩
        · rintro d ⟨⟨g1, g2⟩, i, hd, hf⟩
          by_cases gi : d = dl + n
          · simp only; omega
          · exact absurd hf (h2 d g1 (by omega) i hd)
      · refine .inl ⟨by rw [accD, if_neg hle]; exact h1, fun d g1 g2 i hd hf => ?_⟩
        by_cases gi : d = dl + n
        · subst gi
          have := (hm i).2 ⟨hd, hf⟩
          omega
        · exact h2 d g1 (by omega) i hd hf
    · right
      by_cases hle : (lhS a b w (dl + n) L L.length).1 ≤ (lhS a b w (dl + n) L L.length).2
      · have e : accD a b w dl L (n + 1) = (true, arn (accD a b w dl L n).2.1 (lhS a b w (dl + n) L L.length), arn (accD a b w dl L n).2.2 (dl + n, dl + n)) := by
          rw [accD, if_pos hle, h0]; simp only [Bool.not_true]; rw [wid_old hle (hull_no h1)]; simp [wid, arn, hull_no h2]
        rw [e]
        refine ⟨rfl, hull_arn (Q := fun i => (a ≤ i ∧ i ≤ b) ∧ Fe w L i (dl + n) L.length) h1 (hull_int hle hm) fun i => ?_, hull_arn (Q := fun d => d = dl + n) h2 ⟨rfl, rfl, fun x hx => by subst hx; exact ⟨Int.le_refl _, Int.le_refl _⟩⟩ fun d => ?_⟩
        · constructor
          · rintro ⟨hd, d, ⟨g1, g2⟩, hf⟩
            by_cases gi : d = dl + n
            · subst gi; exact .inr ⟨hd, hf⟩
            · exact .inl ⟨hd, d, ⟨g1, by omega⟩, hf⟩
          · rintro (⟨hd, d, ⟨g1, g2⟩, hf⟩ | ⟨hd, hf⟩)
            · exact ⟨hd, d, ⟨g1, by omega⟩, hf⟩
            · exact ⟨hd, _, ⟨by omega, by omega⟩, hf⟩
        · constructor
          · rintro ⟨⟨g1, g2⟩, hx⟩
            by_cases gi : d = dl + n
            · exact .inr gi
            · exact .inl ⟨⟨g1, by omega⟩, hx⟩
          · rintro (⟨⟨g1, g2⟩, hx⟩ | rfl)
            · exact ⟨⟨g1, by omega⟩, hx⟩
            · exact ⟨⟨by omega, by omega⟩, _, (hm _).1 ⟨Int.le_refl _, hle⟩⟩
      · have hno : ∀ i, (a ≤ i ∧ i ≤ b) → ¬ Fe w L i (dl + n) L.length := fun i hd hf => by
          have := (hm i).2 ⟨hd, hf⟩
          omega
        have e : accD a b w dl L (n + 1) = accD a b w dl L n := by rw [accD, if_neg hle]
        rw [e]
        refine ⟨h0, hull_of h1 fun i => ?_, hull_of h2 fun d => ?_⟩
        · constructor
          · rintro ⟨hd, d, ⟨g1, g2⟩, hf⟩
            by_cases gi : d = dl + n
            · subst gi; exact absurd hf (hno i hd)
            · exact ⟨hd, d, ⟨g1, by omega⟩, hf⟩
          · rintro ⟨hd, d, ⟨g1, g2⟩, hf⟩; exact ⟨hd, d, ⟨g1, by omega⟩, hf⟩
        · constructor
          · rintro ⟨⟨g1, g2⟩, i, hd, hf⟩
            by_cases gi : d = dl + n
            · subst gi; exact absurd hf (hno i hd)
            · exact ⟨⟨g1, by omega⟩, i, hd, hf⟩
          · rintro ⟨⟨g1, g2⟩, i, hd, hf⟩; exact ⟨⟨g1, by omega⟩, i, hd, hf⟩
theorem sun_eq (v : Sx) (D : Int × Int) (L : List (Int × Int)) : sunS v D L = sunR v D L := by
  unfold sunS sunR
  by_cases hok : v.ok
  · by_cases hQ : sunQ D L
    · rw [if_pos hok, if_pos hQ, if_pos hok, if_pos hQ]
      have hD := hQ.1.1.2
      have hab := hok.2.1
      have en : v.a + (((v.b - v.a + 1).toNat : Nat) : Int) = v.b + 1 := by omega
      have ed : D.1 + (((D.2 - D.1 + 1).toNat : Nat) : Int) = D.2 + 1 := by omega
      rcases accS_spec (a := v.a) (w := v.w) (L := L) hD (v.b - v.a + 1).toNat with ⟨h1, h2⟩ | ⟨h1, h2⟩ <;> rcases accD_spec (a := v.a) (b := v.b) (w := v.w) (dl := D.1) (L := L) (D.2 - D.1 + 1).toNat with ⟨g0, g2⟩ | ⟨g0, g1, g2⟩
      · rw [if_pos g0, if_pos (by rw [h1])]
      · obtain ⟨⟨q1, q2⟩, d, ⟨q3, q4⟩, hf⟩ := g1.1
        exact absurd hf (h2 _ q1 (by omega) d ⟨q3, by omega⟩)
      · obtain ⟨⟨q1, q2⟩, d, ⟨q3, q4⟩, hf⟩ := h1.1
        exact absurd hf (g2 d q3 (by omega) _ ⟨q1, by omega⟩)
      · rw [if_neg (by rw [g0]; simp), if_neg (hull_no h1)]
        have e1 := hull_eq g1 h1 fun i => by
          constructor
          · rintro ⟨q1, d, q2, hf⟩; exact ⟨by omega, d, by omega, hf⟩
          · rintro ⟨q1, d, q2, hf⟩; exact ⟨by omega, d, by omega, hf⟩
        have e2 := hull_eq g2 h2 fun d => by
          constructor
          · rintro ⟨q1, i, q2, hf⟩; exact ⟨by omega, i, by omega, hf⟩
          · rintro ⟨q1, i, q2, hf⟩; exact ⟨by omega, i, by omega, hf⟩
        rw [e1, e2]
    · rw [if_pos hok, if_neg hQ, if_pos hok, if_neg hQ]
  · rw [if_neg hok, if_neg hok]
end Go.Proofs.Ytjagiieconpgbaa
end

section
namespace Go.Proofs.Ytjagiieconpgbaa
open Go Go.Vg
set_option linter.unusedSimpArgs false
set_option linter.unusedVariables false
set_option maxRecDepth 10000
/- 4: octant/octantlaw05.SextantSuns -/
def s4 : SC :=
  (.seq (.reg [⟨(some 3), none, .box 26 (.t 0)⟩,
    ⟨(some 4), none, .box 24 (.t 1)⟩,
    ⟨(some 6), none, .v (.mov (.c (.lit (.bool false))))⟩])
  (.seq (.reg [⟨(some 14), none, .v (.load (.t 3) (some 6))⟩,
    ⟨(some 15), none, .v (.load (.t 4) (some 2))⟩,
    ⟨(some 16), none, .v (.mov (.t 2))⟩,
    ⟨(some 17), none, .call (.c (.fn 22 [])) [(.t 14), (.t 15), (.t 16)]⟩,
    ⟨(some 13), none, .v (.mov (.t 17))⟩,
    ⟨(some 18), none, .v (.ext (.t 13) 0)⟩,
    ⟨(some 19), none, .v (.ext (.t 13) 1)⟩,
    ⟨(some 20), none, .v (.ext (.t 13) 2)⟩,
    ⟨(some 7), none, .new 24 [(.int .i64 (0)), (.int .i64 (0))]⟩,
    ⟨(some 8), none, .new 24 [(.int .i64 (0)), (.int .i64 (0))]⟩,
    ⟨none, none, .store 2 (.t 7) (.t 18)⟩,
    ⟨none, none, .store 2 (.t 8) (.t 19)⟩,
    ⟨(some 9), none, .v (.mov (.t 20))⟩])
  (.seq (.reg [⟨(some 22), none, .v (.load (.t 3) (some 6))⟩,
    ⟨(some 23), none, .v (.load (.t 4) (some 2))⟩,
    ⟨(some 24), none, .v (.mov (.t 2))⟩,
    ⟨(some 25), none, .call (.c (.fn 23 [])) [(.t 22), (.t 23), (.t 24)]⟩,
    ⟨(some 21), none, .v (.mov (.t 25))⟩,
    ⟨(some 26), none, .v (.ext (.t 21) 0)⟩,
    ⟨(some 27), none, .v (.ext (.t 21) 1)⟩,
    ⟨(some 28), none, .v (.ext (.t 21) 2)⟩,
    ⟨(some 10), none, .new 24 [(.int .i64 (0)), (.int .i64 (0))]⟩,
    ⟨(some 11), none, .new 24 [(.int .i64 (0)), (.int .i64 (0))]⟩,
    ⟨none, none, .store 2 (.t 10) (.t 26)⟩,
    ⟨none, none, .store 2 (.t 11) (.t 27)⟩,
    ⟨(some 12), none, .v (.mov (.t 28))⟩])
  (.seq (.reg [⟨(some 29), none, .v (.load (.t 7) (some 2))⟩,
    ⟨(some 30), none, .v (.load (.t 10) (some 2))⟩,
    ⟨(some 31), none, .v (.eqs [(some .i64), (some .i64)] false (.t 29) (.t 30))⟩,
    ⟨(some 32), none, .v (.mov (.t 31))⟩,
    ⟨(some 33), (some (32, true)), .v (.load (.t 8) (some 2))⟩,
    ⟨(some 34), (some (32, true)), .v (.load (.t 11) (some 2))⟩,
    ⟨(some 35), (some (32, true)), .v (.eqs [(some .i64), (some .i64)] false (.t 33) (.t 34))⟩,
    ⟨(some 36), none, .v (.pick (.t 32) (.t 35) (.c (.lit (.bool false))))⟩,
    ⟨(some 37), none, .v (.mov (.t 36))⟩,
    ⟨(some 38), (some (37, true)), .v (.mov (.t 9))⟩,
    ⟨(some 39), (some (37, true)), .v (.mov (.t 12))⟩,
    ⟨(some 40), (some (37, true)), .v (.bin .eql (.t 38) (.t 39))⟩,
    ⟨(some 41), none, .v (.pick (.t 37) (.t 40) (.c (.lit (.bool false))))⟩,
    ⟨(some 42), none, .v (.mov (.t 41))⟩,
    ⟨(some 43), (some (42, true)), .call (.c (.fn 21 [])) []⟩,
    ⟨(some 44), none, .v (.pick (.t 42) (.t 43) (.c (.lit (.bool false))))⟩,
    ⟨(some 6), none, .v (.mov (.t 44))⟩])
  .ret))))
def r4 : List RV := [.t 6]
def n4 : Nat := 45
theorem k4 : (Try.f4.body.bind (cC Try.prog), cR Try.prog Try.f4.results.toList, Try.f4.ntmps) = (some s4, some r4, 45) := by kernel_rfl
theorem q4 : Known Try.prog 4 := ⟨_, Try.func4, by decide, by simp [Try.f4]⟩


def C4 : PC := fun args K => ∃ (v : Sx) (D : Int × Int) (L : List (Int × Int)), args = [v.sv, .agg [.int .i64 D.1, .int .i64 D.2], .rd 2 L.length (rowsS L)] ∧ K (.lit (.bool true))
theorem sunR_bnd (v : Sx) (D : Int × Int) (L : List (Int × Int)) : ((-10000 ≤ (sunR v D L).1.1 ∧ (sunR v D L).1.1 ≤ 10000) ∧ (-10000 ≤ (sunR v D L).1.2 ∧ (sunR v D L).1.2 ≤ 10000)) ∧ ((-10000 ≤ (sunR v D L).2.1.1 ∧ (sunR v D L).2.1.1 ≤ 10000) ∧ (-10000 ≤ (sunR v D L).2.1.2 ∧ (sunR v D L).2.1.2 ≤ 10000)) := by
  unfold sunR
  split
  · rename_i hok
    split
    · rename_i hQ
      split
      · simp
      · have hb := accS_bnd (a := v.a) (w := v.w) (D := D) hQ.2 hQ.1 hok.2.1.1.1 hok.2.2.1 (n := (v.b - v.a + 1).toNat) (by have := hok.2.1; omega)
        exact hb
    · simp
  · simp
attribute [local irreducible] sunR
theorem p4 (p21 : PureOk Try.prog 21 (fcC F21)) (q21 : Known Try.prog 21) : PureOk Try.prog 4 C4 := by
  refine pure_of (T := [(22, .pc C22), (23, .pc C23), (21, .fc F21)]) ⟨⟨p22, q22⟩, ⟨p23, q23⟩, ⟨p21, q21⟩, trivial⟩ Try.func4 k4 ?_
  rintro args K ⟨v, D, L, rfl, hK⟩
  have hsv : v.sv = .agg [.int .i64 v.step, .rd 2 v.T.length (rowsS v.T), .int .i64 v.a, .int .i64 v.b, .int .i64 v.w, .rd 2 v.S.length (rowsS v.S)] := rfl
  have hb := sunR_bnd v D L
  rw [hsv]
  simp only [dX_bt, dX_bf, gdK_btt, gdK_btf, gdK_bft, gdK_bff, condK_bt, condK_bf, decide_true, decide_false, inr64, ↓reduceIte, ite_true, ite_false, List.cons.injEq, ne_eq, not_true_eq_false, not_false_eq_true, reduceCtorEq, e_skip, e_reg, e_tre, t_leaf, t_stop, t_op, and_self, e_drw, e_seq, e_cond, e_block, e_loop, e_exit, e_ret, e_shut, e_scp, scpK_n, scpK_x, scpK_r, shutH, shut1, shutB, slQ, o_nil, o_cons, gd_none, gd_some, gdK_tt, gdK_tf, gdK_ft, gdK_ff, gdK_u, putK_e, runK_e, skipK_e, vK_e, boxK_e, bslK_e, bldK_e, storeK3_e, storeK2_e, storeK_e, storeK_p, storeE_e, appK2_oi, appK2_or, appK_e, conK_e, callK_e, callK_m, evh_v, evh_new, evh_box, evh_bsl, evh_bld, evh_store, evh_app, evh_mki, evh_emp, mkiK_e, appK_i, evh_call, evh_inv, evh_slc, slcK_e, appC_e, appK_c, appK_l, appK_b, appK_ce, appE_b, appK_m, appK_m2, appK_mi, appK_mi2, appM_o, appMI_o, appK_y, appY_e, storeK_r, storeE_o, storeR_o, storeR1_e, appB1_b, appB1_f, appD_e, appL_i, appL_2, appL_f, appL_b, appL_l, appL_r, appL_s, slO, bnd, slv, od_none, od_some, invK_e, invK2_e, lkm, dX_e, dX_l, dG_t, dG_f, d_nil, d_cons, creK_e, tlK_n, tlK_s, evc_e, loopK_n, loopK_x, loopK_r, seqK_n, seqK_x, seqK_r, condK_t, condK_f, exitK_t, exitK_f, blockK_x, blockK_n, blockK_r, ends_r, ends_n, endK1_e, endK2_e, gam_e, gamK_f, gamK_p, gamK_c, gamq_e, gamqK_f, pc_e, pcK_e, fcC_e, fcK_e, evp, fit, InQ, nilq, nb, bin, binB, gt, gq, st, putf, X.get, gets, getp, ap, mkfr, rep, rdR, tupled, clV, clL, clS, clo, clo.clos, asB, ld, lda, lens, ixs, tk, dr, sp, sp.spl, lay, ll, cs1, one, allOne, gb, sb, pb, ln, lk, evq, gdl, crv, Value.oneCell', undef, Bool.and_true, Bool.true_and, Bool.not_true, Bool.not_false, cond_true, cond_false, Nat.reduceSub, Nat.reduceAdd, Nat.reduceMul, Nat.reduceDiv, Nat.reduceBEq, beq_self_eq_true, true_and, and_true, decide_eq_true_eq, decide_eq_false_iff_not, Bool.not_eq_eq_eq_not, sts, s4, r4]
  refine ⟨v, D, L, rfl, ?_⟩
  simp only [dX_bt, dX_bf, gdK_btt, gdK_btf, gdK_bft, gdK_bff, condK_bt, condK_bf, decide_true, decide_false, inr64, ↓reduceIte, ite_true, ite_false, List.cons.injEq, ne_eq, not_true_eq_false, not_false_eq_true, reduceCtorEq, e_skip, e_reg, e_tre, t_leaf, t_stop, t_op, and_self, e_drw, e_seq, e_cond, e_block, e_loop, e_exit, e_ret, e_shut, e_scp, scpK_n, scpK_x, scpK_r, shutH, shut1, shutB, slQ, o_nil, o_cons, gd_none, gd_some, gdK_tt, gdK_tf, gdK_ft, gdK_ff, gdK_u, putK_e, runK_e, skipK_e, vK_e, boxK_e, bslK_e, bldK_e, storeK3_e, storeK2_e, storeK_e, storeK_p, storeE_e, appK2_oi, appK2_or, appK_e, conK_e, callK_e, callK_m, evh_v, evh_new, evh_box, evh_bsl, evh_bld, evh_store, evh_app, evh_mki, evh_emp, mkiK_e, appK_i, evh_call, evh_inv, evh_slc, slcK_e, appC_e, appK_c, appK_l, appK_b, appK_ce, appE_b, appK_m, appK_m2, appK_mi, appK_mi2, appM_o, appMI_o, appK_y, appY_e, storeK_r, storeE_o, storeR_o, storeR1_e, appB1_b, appB1_f, appD_e, appL_i, appL_2, appL_f, appL_b, appL_l, appL_r, appL_s, slO, bnd, slv, od_none, od_some, invK_e, invK2_e, lkm, dX_e, dX_l, dG_t, dG_f, d_nil, d_cons, creK_e, tlK_n, tlK_s, evc_e, loopK_n, loopK_x, loopK_r, seqK_n, seqK_x, seqK_r, condK_t, condK_f, exitK_t, exitK_f, blockK_x, blockK_n, blockK_r, ends_r, ends_n, endK1_e, endK2_e, gam_e, gamK_f, gamK_p, gamK_c, gamq_e, gamqK_f, pc_e, pcK_e, fcC_e, fcK_e, evp, fit, InQ, nilq, nb, bin, binB, gt, gq, st, putf, X.get, gets, getp, ap, mkfr, rep, rdR, tupled, clV, clL, clS, clo, clo.clos, asB, ld, lda, lens, ixs, tk, dr, sp, sp.spl, lay, ll, cs1, one, allOne, gb, sb, pb, ln, lk, evq, gdl, crv, Value.oneCell', undef, Bool.and_true, Bool.true_and, Bool.not_true, Bool.not_false, cond_true, cond_false, Nat.reduceSub, Nat.reduceAdd, Nat.reduceMul, Nat.reduceDiv, Nat.reduceBEq, beq_self_eq_true, true_and, and_true, decide_eq_true_eq, decide_eq_false_iff_not, Bool.not_eq_eq_eq_not, sts, sun3]
  refine ⟨v, D, L, rfl, ?_⟩
  rw [sun_eq]
  simp only [inr64, ↓reduceIte, ite_true, ite_false, List.cons.injEq, ne_eq, not_true_eq_false, not_false_eq_true, reduceCtorEq, e_skip, e_reg, e_tre, t_leaf, t_stop, t_op, and_self, e_drw, e_seq, e_cond, e_block, e_loop, e_exit, e_ret, e_shut, e_scp, scpK_n, scpK_x, scpK_r, shutH, shut1, shutB, slQ, o_nil, o_cons, gd_none, gd_some, gdK_tt, gdK_tf, gdK_ft, gdK_ff, gdK_u, gdK_bt, gdK_bf, putK_e, runK_e, skipK_e, vK_e, boxK_e, bslK_e, bldK_e, storeK3_e, storeK2_e, storeK_e, storeK_p, storeE_e, appK2_oi, appK2_or, appK_e, conK_e, callK_e, callK_m, evh_v, evh_new, evh_box, evh_bsl, evh_bld, evh_store, evh_app, evh_mki, evh_emp, mkiK_e, appK_i, evh_call, evh_inv, evh_slc, slcK_e, appC_e, appK_c, appK_l, appK_b, appK_ce, appE_b, appK_m, appK_m2, appK_mi, appK_mi2, appM_o, appMI_o, appK_y, appY_e, storeK_r, storeE_o, storeR_o, storeR1_e, appB1_b, appB1_f, appD_e, appL_i, appL_2, appL_f, appL_b, appL_l, appL_r, appL_s, slO, bnd, slv, od_none, od_some, invK_e, invK2_e, lkm, dX_e, dX_b, dX_l, dG_t, dG_f, d_nil, d_cons, creK_e, tlK_n, tlK_s, evc_e, loopK_n, loopK_x, loopK_r, seqK_n, seqK_x, seqK_r, condK_t, condK_f, condK_b, exitK_t, exitK_f, blockK_x, blockK_n, blockK_r, ends_r, ends_n, endK1_e, endK2_e, gam_e, gamK_f, gamK_p, gamK_c, gamq_e, gamqK_f, pc_e, pcK_e, fcC_e, fcK_e, evp, fit, InQ, nilq, nb, bin, binB, gt, gq, st, putf, X.get, gets, getp, ap, mkfr, rep, rdR, tupled, clV, clL, clS, clo, clo.clos, asB, ld, lda, lens, ixs, tk, dr, sp, sp.spl, lay, ll, cs1, one, allOne, gb, sb, pb, ln, lk, evq, gdl, crv, Value.oneCell', undef, Bool.and_true, Bool.true_and, Bool.not_true, Bool.not_false, cond_true, cond_false, Nat.reduceSub, Nat.reduceAdd, Nat.reduceMul, Nat.reduceDiv, Nat.reduceBEq, beq_self_eq_true, true_and, and_true, decide_eq_true_eq, decide_eq_false_iff_not, Bool.not_eq_eq_eq_not, sts, sun3, F21]
  exact ⟨by omega, fun _ => ⟨by omega, fun _ => ⟨fun _ => res hK (by simp [leR]), fun h => h.elim⟩, fun h => h.elim⟩, fun h => h.elim⟩
end Go.Proofs.Ytjagiieconpgbaa
end
