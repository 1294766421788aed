/- Parts of ScrewSteady. -/
import Derived.Test.YtbbbpdajikblbaaVgP2
import Derived.Test.YtbbbpdajikblbaaVgN5
namespace Go.Proofs.Ytbbbpdajikblbaa
open Go Go.Vg
set_option linter.unusedSimpArgs false
set_option linter.unusedVariables false
set_option maxRecDepth 10000
/- 46: octant/octantref00.Rising -/
def s46 : SC :=
  (.seq (.reg [⟨(some 4), none, .v (.mov (.c (.lit (.bool false))))⟩])
  (.seq (.seq (.reg [⟨(some 5), none, .v (.mov (.c (.int .i64 (0))))⟩])
  (.block 0 (.loop
    (.seq (.seq (.reg [⟨(some 6), none, .v (.mov (.t 5))⟩,
      ⟨(some 7), none, .v (.mov (.t 0))⟩,
      ⟨(some 8), none, .v (.len (.t 7))⟩,
      ⟨(some 9), none, .v (.bin .lss (.t 6) (.t 8))⟩])
    (.cond (.t 9)
      .skip
      (.exit 0)))
    (.seq (.block 1 (.seq (.drw [(0, ⟨(some 12), none, .v (.mov (.t 0))⟩, false),
      (1, ⟨(some 13), none, .v (.mov (.t 5))⟩, false),
      (2, ⟨(some 14), none, .v (.ixa (.t 12) (.t 13) 1)⟩, false),
      (3, ⟨(some 15), none, .v (.load (.t 14) none)⟩, false),
      (4, ⟨(some 16), none, .v (.mov (.t 1))⟩, false),
      (5, ⟨(some 17), none, .v (.bin .sub (.t 16) (.c (.int .i64 (1))))⟩, false),
      (6, ⟨(some 18), none, .call (.c (.fn 39 [])) [(.t 15), (.c (.int .i64 (0))), (.t 17)]⟩, false),
      (7, ⟨(some 19), none, .v (.not (.t 18))⟩, false),
      (8, ⟨(some 20), none, .v (.mov (.t 19))⟩, true),
      (9, ⟨(some 21), (some (20, false)), .v (.mov (.t 5))⟩, false),
      (10, ⟨(some 22), (some (20, false)), .v (.bin .gtr (.t 21) (.c (.int .i64 (0))))⟩, false),
      (11, ⟨(some 23), (some (20, false)), .v (.mov (.t 22))⟩, true),
      (12, ⟨(some 24), (some (23, true)), .v (.mov (.t 0))⟩, false),
      (13, ⟨(some 25), (some (23, true)), .v (.mov (.t 5))⟩, false),
      (14, ⟨(some 26), (some (23, true)), .v (.ixa (.t 24) (.t 25) 1)⟩, false),
      (15, ⟨(some 27), (some (23, true)), .v (.load (.t 26) none)⟩, false),
      (16, ⟨(some 28), (some (23, true)), .v (.mov (.t 0))⟩, false),
      (17, ⟨(some 29), (some (23, true)), .v (.mov (.t 5))⟩, false),
      (18, ⟨(some 30), (some (23, true)), .v (.bin .sub (.t 29) (.c (.int .i64 (1))))⟩, false),
      (19, ⟨(some 31), (some (23, true)), .v (.ixa (.t 28) (.t 30) 1)⟩, false),
      (20, ⟨(some 32), (some (23, true)), .v (.load (.t 31) none)⟩, false)]
      none
      [⟨(some 33), (some (23, true)), .v (.bin .leq (.t 27) (.t 32))⟩,
      ⟨(some 34), (some (20, false)), .v (.pick (.t 23) (.t 33) (.c (.lit (.bool false))))⟩,
      ⟨(some 35), none, .v (.pick (.t 20) (.c (.lit (.bool true))) (.t 34))⟩])
    (.cond (.t 35)
      (.seq (.reg [⟨(some 4), none, .v (.mov (.c (.lit (.bool false))))⟩])
      .ret)
      .skip)))
    (.reg [⟨(some 10), none, .v (.mov (.t 5))⟩,
      ⟨(some 11), none, .v (.bin .add (.t 10) (.c (.int .i64 (1))))⟩,
      ⟨(some 5), none, .v (.mov (.t 11))⟩]))))))
  (.seq (.reg [⟨(some 4), none, .v (.mov (.c (.lit (.bool true))))⟩])
  .ret)))
def r46 : List RV := [.t 4]
def n46 : Nat := 36
theorem k46 : (Try.f46.body.bind (cC Try.prog), cR Try.prog Try.f46.results.toList, Try.f46.ntmps) = (some s46, some r46, 36) := by kernel_rfl
theorem q46 : Known Try.prog 46 := ⟨_, Try.func46, by decide, by simp [Try.f46]⟩

/- 47: octant/octantref00.Place -/
def s47 : SC :=
  (.seq (.reg [⟨(some 4), none, .v (.mov (.c (.int .i64 (0))))⟩])
  (.seq (.reg [⟨(some 5), none, .v (.mov (.c (.int .i64 (-1))))⟩])
  (.seq (.seq (.reg [⟨(some 7), none, .v (.mov (.t 0))⟩,
    ⟨(some 8), none, .v (.len (.t 7))⟩,
    ⟨(some 9), none, .v (.bin .sub (.t 8) (.c (.int .i64 (1))))⟩,
    ⟨(some 6), none, .v (.mov (.t 9))⟩])
  (.block 0 (.loop
    (.seq (.seq (.reg [⟨(some 10), none, .v (.mov (.t 6))⟩,
      ⟨(some 11), none, .v (.bin .geq (.t 10) (.c (.int .i64 (0))))⟩])
    (.cond (.t 11)
      .skip
      (.exit 0)))
    (.seq (.block 1 (.seq (.reg [⟨(some 14), none, .v (.mov (.t 0))⟩,
      ⟨(some 15), none, .v (.mov (.t 6))⟩,
      ⟨(some 16), none, .v (.ixa (.t 14) (.t 15) 1)⟩,
      ⟨(some 17), none, .v (.load (.t 16) none)⟩,
      ⟨(some 18), none, .v (.mov (.t 1))⟩,
      ⟨(some 19), none, .v (.bin .eql (.t 17) (.t 18))⟩])
    (.cond (.t 19)
      (.reg [⟨(some 20), none, .v (.mov (.t 6))⟩,
        ⟨(some 5), none, .v (.mov (.t 20))⟩])
      .skip)))
    (.reg [⟨(some 12), none, .v (.mov (.t 6))⟩,
      ⟨(some 13), none, .v (.bin .sub (.t 12) (.c (.int .i64 (1))))⟩,
      ⟨(some 6), none, .v (.mov (.t 13))⟩]))))))
  (.seq (.reg [⟨(some 21), none, .v (.mov (.t 5))⟩,
    ⟨(some 4), none, .v (.mov (.t 21))⟩])
  .ret))))
def r47 : List RV := [.t 4]
def n47 : Nat := 22
theorem k47 : (Try.f47.body.bind (cC Try.prog), cR Try.prog Try.f47.results.toList, Try.f47.ntmps) = (some s47, some r47, 22) := by kernel_rfl
theorem q47 : Known Try.prog 47 := ⟨_, Try.func47, by decide, by simp [Try.f47]⟩

/- 50: octant/octantref00.Pick -/
def s50 : SC :=
  (.seq (.reg [⟨(some 4), none, .v (.mov (.c (.int .i64 (0))))⟩])
  (.seq (.seq (.reg [⟨(some 5), none, .v (.mov (.t 0))⟩,
    ⟨(some 6), none, .v (.len (.t 5))⟩,
    ⟨(some 7), none, .v (.bin .eql (.t 6) (.c (.int .i64 (0))))⟩])
  (.cond (.t 7)
    (.seq (.reg [⟨(some 4), none, .v (.mov (.c (.int .i64 (0))))⟩])
    .ret)
    .skip))
  (.seq (.reg [⟨(some 8), none, .v (.mov (.t 0))⟩,
    ⟨(some 9), none, .v (.mov (.t 1))⟩,
    ⟨(some 10), none, .v (.mov (.t 0))⟩,
    ⟨(some 11), none, .v (.len (.t 10))⟩,
    ⟨(some 12), none, .call (.c (.fn 38 [])) [(.t 9), (.t 11)]⟩,
    ⟨(some 13), none, .v (.ixa (.t 8) (.t 12) 1)⟩,
    ⟨(some 14), none, .v (.load (.t 13) none)⟩,
    ⟨(some 4), none, .v (.mov (.t 14))⟩])
  .ret)))
def r50 : List RV := [.t 4]
def n50 : Nat := 15
theorem k50 : (Try.f50.body.bind (cC Try.prog), cR Try.prog Try.f50.results.toList, Try.f50.ntmps) = (some s50, some r50, 15) := by kernel_rfl
theorem q50 : Known Try.prog 50 := ⟨_, Try.func50, by decide, by simp [Try.f50]⟩

/- 51: octant/octantlaw02.to -/
def s51 : SC :=
  (.seq (.reg [⟨(some 4), none, .new 63 [(.int .i64 (0)), (.int .i64 (0))]⟩])
  (.seq (.reg [⟨(some 5), none, .v (.mov (.t 0))⟩,
    ⟨(some 6), none, .v (.mov (.t 1))⟩,
    ⟨(some 7), none, .bld [(.int .i64 (0)), (.int .i64 (0))] [(0, 1, (.t 5)), (1, 1, (.t 6))]⟩,
    ⟨none, none, .store 2 (.t 4) (.t 7)⟩])
  .ret))
def r51 : List RV := [.c 4 (some 2)]
def n51 : Nat := 8
theorem k51 : (Try.f51.body.bind (cC Try.prog), cR Try.prog Try.f51.results.toList, Try.f51.ntmps) = (some s51, some r51, 8) := by kernel_rfl
theorem q51 : Known Try.prog 51 := ⟨_, Try.func51, by decide, by simp [Try.f51]⟩


def FM38 : FC := fun args => match args with
  | [.int .i64 a, .int .i64 b] => some (0 < b ∧ (0 ≤ a ∨ b ≤ 9223372036854775807), .int .i64 (a % b))
  | _ => none
theorem pm38 : PureOk Try.prog 38 (fcC FM38) := by
  refine pure_of (T := []) trivial Try.func38 k38 ?_
  intro args K hC
  unfold fcC FM38 at hC
  split at hC <;> first | (exact hC.elim) | skip
  rename_i h
  split at h <;> first | (cases h; done) | skip
  cases h
  rename_i a b
  obtain ⟨⟨hb, hb2⟩, hK⟩ := hC
  have e := Int.tmod_eq_emod (a := a) (b := b)
  have h1 := Int.emod_nonneg a (show b ≠ 0 by omega)
  have h2 := Int.emod_lt_of_pos a hb
  have h3 : (b.natAbs : Int) = b := by omega
  have h4 : 0 ≤ a → a.tmod b = a % b := fun h => Int.tmod_eq_emod_of_nonneg h
  simp only [inr64, ↓reduceIte, ite_true, ite_false, List.cons.injEq, ne_eq, not_true_eq_false, not_false_eq_true, reduceCtorEq, e_skip, e_reg, e_drw, e_seq, e_cond, e_block, e_loop, e_exit, e_ret, e_shut, e_scp, scpK_n, scpK_x, scpK_r, shutH, shut1, shutB, slQ, o_nil, o_cons, gd_none, gd_some, gdK_tt, gdK_tf, gdK_ft, gdK_ff, gdK_u, gdK_bt, gdK_bf, putK_e, runK_e, skipK_e, vK_e, boxK_e, bslK_e, bldK_e, storeK3_e, storeK2_e, storeK_e, appK2_oi, appK2_or, appK_e, conK_e, callK_e, callK_m, evh_v, evh_new, evh_box, evh_bsl, evh_bld, evh_store, evh_app, evh_call, evh_inv, evh_slc, slcK_e, appC_e, appK_c, appK_l, slO, bnd, slv, od_none, od_some, invK_e, invK2_e, lkm, dX_e, dX_b, dX_l, dG_t, dG_f, d_nil, d_cons, creK_e, tlK_n, tlK_s, evc_e, loopK_n, loopK_x, loopK_r, seqK_n, seqK_x, seqK_r, condK_t, condK_f, condK_b, exitK_t, exitK_f, blockK_x, blockK_n, blockK_r, ends_r, ends_n, endK1_e, endK2_e, gam_e, gamK_f, gamK_p, gamK_c, gamq_e, gamqK_f, pc_e, pcK_e, fcC_e, fcK_e, evp, fit, InQ, nilq, nb, bin, binB, gt, gq, st, putf, X.get, gets, getp, ap, mkfr, rep, rdR, tupled, clV, clL, clS, clo, clo.clos, asB, ld, lda, lens, ixs, tk, dr, sp, sp.spl, lay, ll, cs1, one, allOne, gb, sb, pb, ln, lk, evq, gdl, crv, Value.oneCell', undef, Bool.and_true, Bool.true_and, Bool.not_true, Bool.not_false, cond_true, cond_false, Nat.reduceSub, Nat.reduceAdd, Nat.reduceMul, Nat.reduceDiv, Nat.reduceBEq, beq_self_eq_true, true_and, and_true, decide_eq_true_eq, decide_eq_false_iff_not, Bool.not_eq_eq_eq_not, sts, s38, r38]
  have e2 : a.tmod b = a % b ∨ a.tmod b = a % b - b := by
    by_cases c : 0 ≤ a ∨ b ∣ a
    · rw [if_pos c] at e; exact .inl (by simpa using e)
    · rw [if_neg c, h3] at e; exact .inr e
  refine ⟨by omega, fun h => ⟨?_, res hK (by simp [leR]; omega)⟩, fun h => res hK (by simp [leR]; omega)⟩
  have : b ≤ 9223372036854775807 := hb2.resolve_left fun h0 => by have := h4 h0; omega
  omega
def pickL (l : List Int) (i : Int) : Int := if l.length = 0 then 0 else l.getD (i % (l.length : Int)).toNat 0
def F50 : FC := fun args => match args with
  | [.ints .i64 l, .int .i64 i] => some (0 ≤ i, .int .i64 (pickL l i))
  | _ => none
theorem p50 : PureOk Try.prog 50 (fcC F50) := by
  refine pure_of (T := [(38, .fc FM38)]) ⟨⟨pm38, q38⟩, trivial⟩ Try.func50 k50 ?_
  intro args K hC
  unfold fcC F50 at hC
  split at hC <;> first | (exact hC.elim) | skip
  rename_i h
  split at h <;> first | (cases h; done) | skip
  cases h
  rename_i l i
  obtain ⟨hi, hK⟩ := hC
  simp only [inr64, ↓reduceIte, ite_true, ite_false, List.cons.injEq, ne_eq, not_true_eq_false, not_false_eq_true, reduceCtorEq, e_skip, e_reg, e_drw, e_seq, e_cond, e_block, e_loop, e_exit, e_ret, e_shut, e_scp, scpK_n, scpK_x, scpK_r, shutH, shut1, shutB, slQ, o_nil, o_cons, gd_none, gd_some, gdK_tt, gdK_tf, gdK_ft, gdK_ff, gdK_u, gdK_bt, gdK_bf, putK_e, runK_e, skipK_e, vK_e, boxK_e, bslK_e, bldK_e, storeK3_e, storeK2_e, storeK_e, appK2_oi, appK2_or, appK_e, conK_e, callK_e, callK_m, evh_v, evh_new, evh_box, evh_bsl, evh_bld, evh_store, evh_app, evh_call, evh_inv, evh_slc, slcK_e, appC_e, appK_c, appK_l, slO, bnd, slv, od_none, od_some, invK_e, invK2_e, lkm, dX_e, dX_b, dX_l, dG_t, dG_f, d_nil, d_cons, creK_e, tlK_n, tlK_s, evc_e, loopK_n, loopK_x, loopK_r, seqK_n, seqK_x, seqK_r, condK_t, condK_f, condK_b, exitK_t, exitK_f, blockK_x, blockK_n, blockK_r, ends_r, ends_n, endK1_e, endK2_e, gam_e, gamK_f, gamK_p, gamK_c, gamq_e, gamqK_f, pc_e, pcK_e, fcC_e, fcK_e, evp, fit, InQ, nilq, nb, bin, binB, gt, gq, st, putf, X.get, gets, getp, ap, mkfr, rep, rdR, tupled, clV, clL, clS, clo, clo.clos, asB, ld, lda, lens, ixs, tk, dr, sp, sp.spl, lay, ll, cs1, one, allOne, gb, sb, pb, ln, lk, evq, gdl, crv, Value.oneCell', undef, Bool.and_true, Bool.true_and, Bool.not_true, Bool.not_false, cond_true, cond_false, Nat.reduceSub, Nat.reduceAdd, Nat.reduceMul, Nat.reduceDiv, Nat.reduceBEq, beq_self_eq_true, true_and, and_true, decide_eq_true_eq, decide_eq_false_iff_not, Bool.not_eq_eq_eq_not, sts, s50, r50, FM38]
  refine ⟨fun h => res hK ?_, fun h => ?_⟩
  · simp [leR, pickL, show l.length = 0 by omega]
  · have h1 := Int.emod_nonneg i h
    have h2 := Int.emod_lt_of_pos i (show (0 : Int) < l.length by omega)
    exact ⟨⟨by omega, .inl hi⟩, ⟨h1, h2⟩, res hK (by simp only [leR, pickL, if_neg (show ¬ l.length = 0 by omega)]; trivial)⟩
def F51 : FC := fun args => match args with
  | [.int .i64 a, .int .i64 b] => some (True, .agg [.int .i64 a, .int .i64 b])
  | _ => none
theorem p51 : PureOk Try.prog 51 (fcC F51) := by
  refine pure_of (T := []) trivial Try.func51 k51 ?_
  intro args K hC
  unfold fcC F51 at hC
  split at hC <;> first | (exact hC.elim) | skip
  rename_i h
  split at h <;> first | (cases h; done) | skip
  cases h
  obtain ⟨-, hK⟩ := hC
  simp only [inr64, ↓reduceIte, ite_true, ite_false, List.cons.injEq, ne_eq, not_true_eq_false, not_false_eq_true, reduceCtorEq, e_skip, e_reg, e_drw, e_seq, e_cond, e_block, e_loop, e_exit, e_ret, e_shut, e_scp, scpK_n, scpK_x, scpK_r, shutH, shut1, shutB, slQ, o_nil, o_cons, gd_none, gd_some, gdK_tt, gdK_tf, gdK_ft, gdK_ff, gdK_u, gdK_bt, gdK_bf, putK_e, runK_e, skipK_e, vK_e, boxK_e, bslK_e, bldK_e, storeK3_e, storeK2_e, storeK_e, appK2_oi, appK2_or, appK_e, conK_e, callK_e, callK_m, evh_v, evh_new, evh_box, evh_bsl, evh_bld, evh_store, evh_app, evh_call, evh_inv, evh_slc, slcK_e, appC_e, appK_c, appK_l, slO, bnd, slv, od_none, od_some, invK_e, invK2_e, lkm, dX_e, dX_b, dX_l, dG_t, dG_f, d_nil, d_cons, creK_e, tlK_n, tlK_s, evc_e, loopK_n, loopK_x, loopK_r, seqK_n, seqK_x, seqK_r, condK_t, condK_f, condK_b, exitK_t, exitK_f, blockK_x, blockK_n, blockK_r, ends_r, ends_n, endK1_e, endK2_e, gam_e, gamK_f, gamK_p, gamK_c, gamq_e, gamqK_f, pc_e, pcK_e, fcC_e, fcK_e, evp, fit, InQ, nilq, nb, bin, binB, gt, gq, st, putf, X.get, gets, getp, ap, mkfr, rep, rdR, tupled, clV, clL, clS, clo, clo.clos, asB, ld, lda, lens, ixs, tk, dr, sp, sp.spl, lay, ll, cs1, one, allOne, gb, sb, pb, ln, lk, evq, gdl, crv, Value.oneCell', undef, Bool.and_true, Bool.true_and, Bool.not_true, Bool.not_false, cond_true, cond_false, Nat.reduceSub, Nat.reduceAdd, Nat.reduceMul, Nat.reduceDiv, Nat.reduceBEq, beq_self_eq_true, true_and, and_true, decide_eq_true_eq, decide_eq_false_iff_not, Bool.not_eq_eq_eq_not, sts, s51, r51]
  exact res hK (by simp [leR, leR.leRs])
def C46 : PC := fun args K => ∃ (l : List Int) (n : Nat), args = [.ints .i64 l, .int .i64 n] ∧ (n ≤ 1000 ∧ l.length ≤ 1000) ∧ (∀ x, x ∈ l → 0 ≤ x ∧ x < n) ∧ (∀ i, i + 1 < l.length → l.getD i 0 < l.getD (i + 1) 0) ∧ K (.bool true)
theorem p46 : PureOk Try.prog 46 C46 := by
  refine pure_of (T := [(39, .fc F39)]) ⟨⟨p39, q39⟩, trivial⟩ Try.func46 k46 ?_
  rintro args K ⟨l, n, rfl, ⟨hn, hn2⟩, hb, hr, hK⟩
  simp only [inr64, ↓reduceIte, ite_true, ite_false, List.cons.injEq, ne_eq, not_true_eq_false, not_false_eq_true, reduceCtorEq, e_skip, e_reg, e_drw, e_seq, e_cond, e_block, e_loop, e_exit, e_ret, e_shut, e_scp, scpK_n, scpK_x, scpK_r, shutH, shut1, shutB, slQ, o_nil, o_cons, gd_none, gd_some, gdK_tt, gdK_tf, gdK_ft, gdK_ff, gdK_u, gdK_bt, gdK_bf, putK_e, runK_e, skipK_e, vK_e, boxK_e, bslK_e, bldK_e, storeK3_e, storeK2_e, storeK_e, appK2_oi, appK2_or, appK_e, conK_e, callK_e, callK_m, evh_v, evh_new, evh_box, evh_bsl, evh_bld, evh_store, evh_app, evh_call, evh_inv, evh_slc, slcK_e, appC_e, appK_c, appK_l, slO, bnd, slv, od_none, od_some, invK_e, invK2_e, lkm, dX_e, dX_b, dX_l, dG_t, dG_f, d_nil, d_cons, creK_e, tlK_n, tlK_s, evc_e, loopK_n, loopK_x, loopK_r, seqK_n, seqK_x, seqK_r, condK_t, condK_f, condK_b, exitK_t, exitK_f, blockK_x, blockK_n, blockK_r, ends_r, ends_n, endK1_e, endK2_e, gam_e, gamK_f, gamK_p, gamK_c, gamq_e, gamqK_f, pc_e, pcK_e, fcC_e, fcK_e, evp, fit, InQ, nilq, nb, bin, binB, gt, gq, st, putf, X.get, gets, getp, ap, mkfr, rep, rdR, tupled, clV, clL, clS, clo, clo.clos, asB, ld, lda, lens, ixs, tk, dr, sp, sp.spl, lay, ll, cs1, one, allOne, gb, sb, pb, ln, lk, evq, gdl, crv, Value.oneCell', undef, Bool.and_true, Bool.true_and, Bool.not_true, Bool.not_false, cond_true, cond_false, Nat.reduceSub, Nat.reduceAdd, Nat.reduceMul, Nat.reduceDiv, Nat.reduceBEq, beq_self_eq_true, true_and, and_true, decide_eq_true_eq, decide_eq_false_iff_not, Bool.not_eq_eq_eq_not, sts, s46, r46, F39]
  refine loop_at2 (G := Nat) (fun i => [(5, .int .i64 i)]) (fun i => []) (fun i => i ≤ l.length) (fun i => l.length - i) 0 (Nat.zero_le _) ?_
  (intro fr1 hf1; simp only [forget, dstC, dstO, dstD, dst1, st] at hf1; subst hf1)
  refine ⟨?_, ?_⟩
  · refine Lw_re 0 [] (Nat.zero_le _) (by simp [ln]) (by simp [ln]) rfl ?_ ?_
    · simp only [reL, reX, reH, reB, reM, reN, newB, rn, once, gb, List.getElem?_cons_zero, List.getElem?_cons_succ, Nat.reduceSub, Nat.reduceLeDiff, Nat.lt_irrefl, Nat.le_refl, false_and, or_false, false_or, and_false, reduceCtorEq, true_or, or_true, leL, leX, leH, leB, news, inb, inb.inbs, ln, sts, st, Bool.and_self, Bool.and_true, Bool.true_and, Nat.reduceLT, Nat.reduceAdd, decide_true, true_and, and_true, and_self, SV.agg.injEq, Int.natCast_zero, implies_true]
    · simp only [reL, reX, reH, reB, reM, reN, newB, rn, once, gb, List.getElem?_cons_zero, List.getElem?_cons_succ, Nat.reduceSub, Nat.reduceLeDiff, Nat.lt_irrefl, Nat.le_refl, false_and, or_false, false_or, and_false, reduceCtorEq, true_or, or_true, leL, leX, leH, leB, news, inb, inb.inbs, ln, sts, st, Bool.and_self, Bool.and_true, Bool.true_and, Nat.reduceLT, Nat.reduceAdd, decide_true, true_and, and_true, and_self, SV.agg.injEq]
  · intro i hi1
    simp only [inr64, ↓reduceIte, ite_true, ite_false, List.cons.injEq, ne_eq, not_true_eq_false, not_false_eq_true, reduceCtorEq, e_skip, e_reg, e_drw, e_seq, e_cond, e_block, e_loop, e_exit, e_ret, e_shut, e_scp, scpK_n, scpK_x, scpK_r, shutH, shut1, shutB, slQ, o_nil, o_cons, gd_none, gd_some, gdK_tt, gdK_tf, gdK_ft, gdK_ff, gdK_u, gdK_bt, gdK_bf, putK_e, runK_e, skipK_e, vK_e, boxK_e, bslK_e, bldK_e, storeK3_e, storeK2_e, storeK_e, appK2_oi, appK2_or, appK_e, conK_e, callK_e, callK_m, evh_v, evh_new, evh_box, evh_bsl, evh_bld, evh_store, evh_app, evh_call, evh_inv, evh_slc, slcK_e, appC_e, appK_c, appK_l, slO, bnd, slv, od_none, od_some, invK_e, invK2_e, lkm, dX_e, dX_b, dX_l, dG_t, dG_f, d_nil, d_cons, creK_e, tlK_n, tlK_s, evc_e, loopK_n, loopK_x, loopK_r, seqK_n, seqK_x, seqK_r, condK_t, condK_f, condK_b, exitK_t, exitK_f, blockK_x, blockK_n, blockK_r, ends_r, ends_n, endK1_e, endK2_e, gam_e, gamK_f, gamK_p, gamK_c, gamq_e, gamqK_f, pc_e, pcK_e, fcC_e, fcK_e, evp, fit, InQ, nilq, nb, bin, binB, gt, gq, st, putf, X.get, gets, getp, ap, mkfr, rep, rdR, tupled, clV, clL, clS, clo, clo.clos, asB, ld, lda, lens, ixs, tk, dr, sp, sp.spl, lay, ll, cs1, one, allOne, gb, sb, pb, ln, lk, evq, gdl, crv, Value.oneCell', undef, Bool.and_true, Bool.true_and, Bool.not_true, Bool.not_false, cond_true, cond_false, Nat.reduceSub, Nat.reduceAdd, Nat.reduceMul, Nat.reduceDiv, Nat.reduceBEq, beq_self_eq_true, true_and, and_true, decide_eq_true_eq, decide_eq_false_iff_not, Bool.not_eq_eq_eq_not, sts, Int.toNat_natCast, F39]
    refine ⟨fun h => ?_, fun h => res hK (by simp [leR])⟩
    have hm := hb _ (getD_mem (show i < l.length by omega))
    refine ⟨by omega, by omega, fun h1 => absurd (by omega) h1, fun _ => ⟨fun h2 => ⟨by omega, by omega, by omega, fun h3 => ?_, fun h3 => ⟨by omega, ?_⟩⟩, fun h2 => ⟨by omega, ?_⟩⟩⟩
    · have := hr (i - 1) (by omega)
      rw [show i - 1 + 1 = i by omega] at this
      rw [show ((i : Int) - 1).toNat = i - 1 by omega] at h3
      omega
    · refine Nx.mk (i + 1) (by show i + 1 ≤ l.length; omega) (by show l.length - (i + 1) < l.length - i; omega) (Lw_re 0 [] (Nat.zero_le _) (by simp [ln]) (by simp [ln]) rfl ?_ ?_)
      · simp only [reL, reX, reH, reB, reM, reN, newB, rn, once, gb, List.getElem?_cons_zero, List.getElem?_cons_succ, Nat.reduceSub, Nat.reduceLeDiff, Nat.lt_irrefl, Nat.le_refl, false_and, or_false, false_or, and_false, reduceCtorEq, true_or, or_true, leL, leX, leH, leB, news, inb, inb.inbs, ln, sts, st, Bool.and_self, Bool.and_true, Bool.true_and, Nat.reduceLT, Nat.reduceAdd, decide_true, true_and, and_true, and_self, SV.agg.injEq, Int.natCast_add, Int.natCast_one, implies_true]
      · simp only [reL, reX, reH, reB, reM, reN, newB, rn, once, gb, List.getElem?_cons_zero, List.getElem?_cons_succ, Nat.reduceSub, Nat.reduceLeDiff, Nat.lt_irrefl, Nat.le_refl, false_and, or_false, false_or, and_false, reduceCtorEq, true_or, or_true, leL, leX, leH, leB, news, inb, inb.inbs, ln, sts, st, Bool.and_self, Bool.and_true, Bool.true_and, Nat.reduceLT, Nat.reduceAdd, decide_true, true_and, and_true, and_self, SV.agg.injEq]
    · refine Nx.mk (i + 1) (by show i + 1 ≤ l.length; omega) (by show l.length - (i + 1) < l.length - i; omega) (Lw_re 0 [] (Nat.zero_le _) (by simp [ln]) (by simp [ln]) rfl ?_ ?_)
      · simp only [reL, reX, reH, reB, reM, reN, newB, rn, once, gb, List.getElem?_cons_zero, List.getElem?_cons_succ, Nat.reduceSub, Nat.reduceLeDiff, Nat.lt_irrefl, Nat.le_refl, false_and, or_false, false_or, and_false, reduceCtorEq, true_or, or_true, leL, leX, leH, leB, news, inb, inb.inbs, ln, sts, st, Bool.and_self, Bool.and_true, Bool.true_and, Nat.reduceLT, Nat.reduceAdd, decide_true, true_and, and_true, and_self, SV.agg.injEq, Int.natCast_add, Int.natCast_one, implies_true]
      · simp only [reL, reX, reH, reB, reM, reN, newB, rn, once, gb, List.getElem?_cons_zero, List.getElem?_cons_succ, Nat.reduceSub, Nat.reduceLeDiff, Nat.lt_irrefl, Nat.le_refl, false_and, or_false, false_or, and_false, reduceCtorEq, true_or, or_true, leL, leX, leH, leB, news, inb, inb.inbs, ln, sts, st, Bool.and_self, Bool.and_true, Bool.true_and, Nat.reduceLT, Nat.reduceAdd, decide_true, true_and, and_true, and_self, SV.agg.injEq]
def C47 : PC := fun args K => ∃ (l : List Int) (n : Int), args = [.ints .i64 l, .int .i64 n] ∧ l.length ≤ 1000 ∧ ∀ r : Int, (0 ≤ r ↔ n ∈ l) → K (.int .i64 r)
theorem p47 : PureOk Try.prog 47 C47 := by
  refine pure_of (T := []) trivial Try.func47 k47 ?_
  rintro args K ⟨l, n, rfl, hl, hK⟩
  simp only [inr64, ↓reduceIte, ite_true, ite_false, List.cons.injEq, ne_eq, not_true_eq_false, not_false_eq_true, reduceCtorEq, e_skip, e_reg, e_drw, e_seq, e_cond, e_block, e_loop, e_exit, e_ret, e_shut, e_scp, scpK_n, scpK_x, scpK_r, shutH, shut1, shutB, slQ, o_nil, o_cons, gd_none, gd_some, gdK_tt, gdK_tf, gdK_ft, gdK_ff, gdK_u, gdK_bt, gdK_bf, putK_e, runK_e, skipK_e, vK_e, boxK_e, bslK_e, bldK_e, storeK3_e, storeK2_e, storeK_e, appK2_oi, appK2_or, appK_e, conK_e, callK_e, callK_m, evh_v, evh_new, evh_box, evh_bsl, evh_bld, evh_store, evh_app, evh_call, evh_inv, evh_slc, slcK_e, appC_e, appK_c, appK_l, slO, bnd, slv, od_none, od_some, invK_e, invK2_e, lkm, dX_e, dX_b, dX_l, dG_t, dG_f, d_nil, d_cons, creK_e, tlK_n, tlK_s, evc_e, loopK_n, loopK_x, loopK_r, seqK_n, seqK_x, seqK_r, condK_t, condK_f, condK_b, exitK_t, exitK_f, blockK_x, blockK_n, blockK_r, ends_r, ends_n, endK1_e, endK2_e, gam_e, gamK_f, gamK_p, gamK_c, gamq_e, gamqK_f, pc_e, pcK_e, fcC_e, fcK_e, evp, fit, InQ, nilq, nb, bin, binB, gt, gq, st, putf, X.get, gets, getp, ap, mkfr, rep, rdR, tupled, clV, clL, clS, clo, clo.clos, asB, ld, lda, lens, ixs, tk, dr, sp, sp.spl, lay, ll, cs1, one, allOne, gb, sb, pb, ln, lk, evq, gdl, crv, Value.oneCell', undef, Bool.and_true, Bool.true_and, Bool.not_true, Bool.not_false, cond_true, cond_false, Nat.reduceSub, Nat.reduceAdd, Nat.reduceMul, Nat.reduceDiv, Nat.reduceBEq, beq_self_eq_true, true_and, and_true, decide_eq_true_eq, decide_eq_false_iff_not, Bool.not_eq_eq_eq_not, sts, s47, r47]
  refine ⟨by omega, ?_⟩
  refine loop_at2 (G := Nat × Int) (fun g => [(6, .int .i64 ((g.1 : Int) - 1)), (5, .int .i64 g.2)]) (fun i => []) (fun g => g.1 ≤ l.length ∧ (0 ≤ g.2 ↔ n ∈ l.drop g.1)) (fun g => g.1) (l.length, -1) ⟨Nat.le_refl _, by simp⟩ ?_
  (intro fr1 hf1; simp only [forget, dstC, dstO, dstD, dst1, st] at hf1; subst hf1)
  refine ⟨?_, ?_⟩
  · refine Lw_re 0 [] (Nat.zero_le _) (by simp [ln]) (by simp [ln]) rfl ?_ ?_
    · simp only [reL, reX, reH, reB, reM, reN, newB, rn, once, gb, List.getElem?_cons_zero, List.getElem?_cons_succ, Nat.reduceSub, Nat.reduceLeDiff, Nat.lt_irrefl, Nat.le_refl, false_and, or_false, false_or, and_false, reduceCtorEq, true_or, or_true, leL, leX, leH, leB, news, inb, inb.inbs, ln, sts, st, Bool.and_self, Bool.and_true, Bool.true_and, Nat.reduceLT, Nat.reduceAdd, decide_true, true_and, and_true, and_self, SV.agg.injEq, implies_true]
    · simp only [reL, reX, reH, reB, reM, reN, newB, rn, once, gb, List.getElem?_cons_zero, List.getElem?_cons_succ, Nat.reduceSub, Nat.reduceLeDiff, Nat.lt_irrefl, Nat.le_refl, false_and, or_false, false_or, and_false, reduceCtorEq, true_or, or_true, leL, leX, leH, leB, news, inb, inb.inbs, ln, sts, st, Bool.and_self, Bool.and_true, Bool.true_and, Nat.reduceLT, Nat.reduceAdd, decide_true, true_and, and_true, and_self, SV.agg.injEq]
  · rintro ⟨i, r⟩ ⟨hi1, hi2⟩
    dsimp only at hi1 hi2
    simp only [inr64, ↓reduceIte, ite_true, ite_false, List.cons.injEq, ne_eq, not_true_eq_false, not_false_eq_true, reduceCtorEq, e_skip, e_reg, e_drw, e_seq, e_cond, e_block, e_loop, e_exit, e_ret, e_shut, e_scp, scpK_n, scpK_x, scpK_r, shutH, shut1, shutB, slQ, o_nil, o_cons, gd_none, gd_some, gdK_tt, gdK_tf, gdK_ft, gdK_ff, gdK_u, gdK_bt, gdK_bf, putK_e, runK_e, skipK_e, vK_e, boxK_e, bslK_e, bldK_e, storeK3_e, storeK2_e, storeK_e, appK2_oi, appK2_or, appK_e, conK_e, callK_e, callK_m, evh_v, evh_new, evh_box, evh_bsl, evh_bld, evh_store, evh_app, evh_call, evh_inv, evh_slc, slcK_e, appC_e, appK_c, appK_l, slO, bnd, slv, od_none, od_some, invK_e, invK2_e, lkm, dX_e, dX_b, dX_l, dG_t, dG_f, d_nil, d_cons, creK_e, tlK_n, tlK_s, evc_e, loopK_n, loopK_x, loopK_r, seqK_n, seqK_x, seqK_r, condK_t, condK_f, condK_b, exitK_t, exitK_f, blockK_x, blockK_n, blockK_r, ends_r, ends_n, endK1_e, endK2_e, gam_e, gamK_f, gamK_p, gamK_c, gamq_e, gamqK_f, pc_e, pcK_e, fcC_e, fcK_e, evp, fit, InQ, nilq, nb, bin, binB, gt, gq, st, putf, X.get, gets, getp, ap, mkfr, rep, rdR, tupled, clV, clL, clS, clo, clo.clos, asB, ld, lda, lens, ixs, tk, dr, sp, sp.spl, lay, ll, cs1, one, allOne, gb, sb, pb, ln, lk, evq, gdl, crv, Value.oneCell', undef, Bool.and_true, Bool.true_and, Bool.not_true, Bool.not_false, cond_true, cond_false, Nat.reduceSub, Nat.reduceAdd, Nat.reduceMul, Nat.reduceDiv, Nat.reduceBEq, beq_self_eq_true, true_and, and_true, decide_eq_true_eq, decide_eq_false_iff_not, Bool.not_eq_eq_eq_not, sts, Int.toNat_natCast]
    have dr : ∀ j, j < l.length → (n ∈ l.drop j ↔ l.getD j 0 = n ∨ n ∈ l.drop (j + 1)) := fun j hj => by
      rw [List.drop_eq_getElem_cons hj, List.mem_cons]
      simp [List.getD, hj, eq_comm]
    refine ⟨fun h => ?_, fun h => ?_⟩
    · have d := dr (i - 1) (by omega)
      rw [show i - 1 + 1 = i by omega] at d
      rw [show ((i : Int) - 1).toNat = i - 1 by omega]
      have ec : (i : Int) - 1 = ((i - 1 : Nat) : Int) := by omega
      refine ⟨by omega, fun h1 => ⟨by omega, ?_⟩, fun h1 => ⟨by omega, ?_⟩⟩
      · refine Nx.mk (i - 1, (i : Int) - 1) ⟨by show i - 1 ≤ l.length; omega, ⟨fun _ => d.2 (.inl h1), fun _ => h⟩⟩ (by show i - 1 < i; omega) (Lw_re 0 [] (Nat.zero_le _) (by simp [ln]) (by simp [ln]) rfl ?_ ?_)
        · simp only [reL, reX, reH, reB, reM, reN, newB, rn, once, gb, List.getElem?_cons_zero, List.getElem?_cons_succ, Nat.reduceSub, Nat.reduceLeDiff, Nat.lt_irrefl, Nat.le_refl, false_and, or_false, false_or, and_false, reduceCtorEq, true_or, or_true, leL, leX, leH, leB, news, inb, inb.inbs, ln, sts, st, Bool.and_self, Bool.and_true, Bool.true_and, Nat.reduceLT, Nat.reduceAdd, decide_true, true_and, and_true, and_self, SV.agg.injEq, ec, implies_true]
        · simp only [reL, reX, reH, reB, reM, reN, newB, rn, once, gb, List.getElem?_cons_zero, List.getElem?_cons_succ, Nat.reduceSub, Nat.reduceLeDiff, Nat.lt_irrefl, Nat.le_refl, false_and, or_false, false_or, and_false, reduceCtorEq, true_or, or_true, leL, leX, leH, leB, news, inb, inb.inbs, ln, sts, st, Bool.and_self, Bool.and_true, Bool.true_and, Nat.reduceLT, Nat.reduceAdd, decide_true, true_and, and_true, and_self, SV.agg.injEq]
      · refine Nx.mk (i - 1, r) ⟨by show i - 1 ≤ l.length; omega, by simp only; rw [d, hi2]; exact ⟨.inr, fun h => h.resolve_left h1⟩⟩ (by show i - 1 < i; omega) (Lw_re 0 [] (Nat.zero_le _) (by simp [ln]) (by simp [ln]) rfl ?_ ?_)
        · simp only [reL, reX, reH, reB, reM, reN, newB, rn, once, gb, List.getElem?_cons_zero, List.getElem?_cons_succ, Nat.reduceSub, Nat.reduceLeDiff, Nat.lt_irrefl, Nat.le_refl, false_and, or_false, false_or, and_false, reduceCtorEq, true_or, or_true, leL, leX, leH, leB, news, inb, inb.inbs, ln, sts, st, Bool.and_self, Bool.and_true, Bool.true_and, Nat.reduceLT, Nat.reduceAdd, decide_true, true_and, and_true, and_self, SV.agg.injEq, ec, implies_true]
        · simp only [reL, reX, reH, reB, reM, reN, newB, rn, once, gb, List.getElem?_cons_zero, List.getElem?_cons_succ, Nat.reduceSub, Nat.reduceLeDiff, Nat.lt_irrefl, Nat.le_refl, false_and, or_false, false_or, and_false, reduceCtorEq, true_or, or_true, leL, leX, leH, leB, news, inb, inb.inbs, ln, sts, st, Bool.and_self, Bool.and_true, Bool.true_and, Nat.reduceLT, Nat.reduceAdd, decide_true, true_and, and_true, and_self, SV.agg.injEq]
    · have e : i = 0 := by omega
      subst e
      exact res (hK r (by simpa using hi2)) (by simp [leR])
end Go.Proofs.Ytbbbpdajikblbaa
