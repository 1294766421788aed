/- The law's spread; remainders. -/
import Derived.Test.YtbbbpdajikblbaaVgN3
namespace Go.Proofs.Ytbbbpdajikblbaa
open Go Go.Vg
set_option linter.unusedSimpArgs false
set_option linter.unusedVariables false
set_option maxRecDepth 10000
/- 88: octant/octantref00.Wider -/
def s88 : SC :=
  (.seq (.reg [⟨(some 3), none, .box 63 (.t 0)⟩,
    ⟨(some 6), none, .new 63 [(.int .i64 (0)), (.int .i64 (0))]⟩])
  (.seq (.seq (.reg [⟨(some 7), none, .v (.mov (.t 2))⟩])
  (.cond (.t 7)
    (.seq (.reg [⟨(some 8), none, .v (.mov (.t 1))⟩,
      ⟨(some 9), none, .v (.mov (.t 1))⟩,
      ⟨(some 10), none, .bld [(.int .i64 (0)), (.int .i64 (0))] [(0, 1, (.t 8)), (1, 1, (.t 9))]⟩,
      ⟨none, none, .store 2 (.t 6) (.t 10)⟩])
    .ret)
    .skip))
  (.seq (.reg [⟨(some 11), none, .v (.off (.t 3) 0)⟩,
    ⟨(some 12), none, .v (.load (.t 11) none)⟩,
    ⟨(some 13), none, .v (.mov (.t 1))⟩,
    ⟨(some 14), none, .v (.min2 (.t 12) (.t 13))⟩,
    ⟨(some 15), none, .v (.off (.t 3) 1)⟩,
    ⟨(some 16), none, .v (.load (.t 15) none)⟩,
    ⟨(some 17), none, .v (.mov (.t 1))⟩,
    ⟨(some 18), none, .v (.max2 (.t 16) (.t 17))⟩,
    ⟨(some 19), none, .bld [(.int .i64 (0)), (.int .i64 (0))] [(0, 1, (.t 14)), (1, 1, (.t 18))]⟩,
    ⟨none, none, .store 2 (.t 6) (.t 19)⟩])
  .ret)))
def r88 : List RV := [.c 6 (some 2)]
def n88 : Nat := 20
theorem k88 : (Try.f88.body.bind (cC Try.prog), cR Try.prog Try.f88.results.toList, Try.f88.ntmps) = (some s88, some r88, 20) := by kernel_rfl
theorem q88 : Known Try.prog 88 := ⟨_, Try.func88, by decide, by simp [Try.f88]⟩

/- 48: octant/octantlaw02.spread -/
def s48 : SC :=
  (.seq (.reg [⟨(some 2), none, .v (.mov (.c (.int .i64 (0))))⟩])
  (.seq (.reg [⟨(some 3), none, .new 63 [(.int .i64 (0)), (.int .i64 (0))]⟩])
  (.seq (.seq (.reg [⟨(some 4), none, .v (.mov (.c (.int .i64 (0))))⟩])
  (.block 0 (.loop
    (.seq (.seq (.reg [⟨(some 5), none, .v (.mov (.t 4))⟩,
      ⟨(some 6), none, .v (.mov (.t 0))⟩,
      ⟨(some 7), none, .v (.len (.t 6))⟩,
      ⟨(some 8), none, .v (.bin .lss (.t 5) (.t 7))⟩])
    (.cond (.t 8)
      .skip
      (.exit 0)))
    (.seq (.block 1 (.drw [(0, ⟨(some 11), none, .v (.load (.t 3) (some 2))⟩, false),
      (1, ⟨(some 12), none, .v (.mov (.t 0))⟩, false),
      (2, ⟨(some 13), none, .v (.mov (.t 4))⟩, false),
      (3, ⟨(some 14), none, .v (.ixa (.t 12) (.t 13) 1)⟩, false),
      (4, ⟨(some 15), none, .v (.load (.t 14) none)⟩, false),
      (5, ⟨(some 16), none, .v (.mov (.t 4))⟩, false),
      (6, ⟨(some 17), none, .v (.bin .eql (.t 16) (.c (.int .i64 (0))))⟩, false)]
      none
      [⟨(some 18), none, .call (.c (.fn 88 [])) [(.t 11), (.t 15), (.t 17)]⟩,
      ⟨none, none, .store 2 (.t 3) (.t 18)⟩]))
    (.reg [⟨(some 9), none, .v (.mov (.t 4))⟩,
      ⟨(some 10), none, .v (.bin .add (.t 9) (.c (.int .i64 (1))))⟩,
      ⟨(some 4), none, .v (.mov (.t 10))⟩]))))))
  (.seq (.reg [⟨(some 19), none, .v (.off (.t 3) 1)⟩,
    ⟨(some 20), none, .v (.load (.t 19) none)⟩,
    ⟨(some 21), none, .v (.off (.t 3) 0)⟩,
    ⟨(some 22), none, .v (.load (.t 21) none)⟩,
    ⟨(some 23), none, .v (.bin .sub (.t 20) (.t 22))⟩,
    ⟨(some 2), none, .v (.mov (.t 23))⟩])
  .ret))))
def r48 : List RV := [.t 2]
def n48 : Nat := 24
theorem k48 : (Try.f48.body.bind (cC Try.prog), cR Try.prog Try.f48.results.toList, Try.f48.ntmps) = (some s48, some r48, 24) := by kernel_rfl
theorem q48 : Known Try.prog 48 := ⟨_, Try.func48, by decide, by simp [Try.f48]⟩

/- 38: octant/octantref00.Mod -/
def s38 : SC :=
  (.seq (.reg [⟨(some 4), none, .v (.mov (.c (.int .i64 (0))))⟩])
  (.seq (.reg [⟨(some 6), none, .v (.mov (.t 0))⟩,
    ⟨(some 7), none, .v (.mov (.t 1))⟩,
    ⟨(some 8), none, .v (.bin .rem (.t 6) (.t 7))⟩,
    ⟨(some 5), none, .v (.mov (.t 8))⟩])
  (.seq (.seq (.reg [⟨(some 9), none, .v (.mov (.t 5))⟩,
    ⟨(some 10), none, .v (.bin .lss (.t 9) (.c (.int .i64 (0))))⟩])
  (.cond (.t 10)
    (.reg [⟨(some 11), none, .v (.mov (.t 5))⟩,
      ⟨(some 12), none, .v (.mov (.t 1))⟩,
      ⟨(some 13), none, .v (.bin .add (.t 11) (.t 12))⟩,
      ⟨(some 5), none, .v (.mov (.t 13))⟩])
    .skip))
  (.seq (.reg [⟨(some 14), none, .v (.mov (.t 5))⟩,
    ⟨(some 4), none, .v (.mov (.t 14))⟩])
  .ret))))
def r38 : List RV := [.t 4]
def n38 : Nat := 15
theorem k38 : (Try.f38.body.bind (cC Try.prog), cR Try.prog Try.f38.results.toList, Try.f38.ntmps) = (some s38, some r38, 15) := by kernel_rfl
theorem q38 : Known Try.prog 38 := ⟨_, Try.func38, by decide, by simp [Try.f38]⟩


def F88 : FC := fun args => match args with
  | [.agg [.int .i64 lo, .int .i64 hi], .int .i64 n, .bool b] => some (True, .agg [.int .i64 (if b then n else min lo n), .int .i64 (if b then n else max hi n)])
  | _ => none
theorem p88 : PureOk Try.prog 88 (fcC F88) := by
  refine pure_of (T := []) trivial Try.func88 k88 ?_
  intro args K hC
  unfold fcC F88 at hC
  split at hC <;> first | (exact hC.elim) | skip
  rename_i h
  split at h <;> first | (cases h; done) | skip
  cases h
  rename_i lo hi n b
  obtain ⟨-, hK⟩ := hC
  simp only [inr64, ↓reduceIte, ite_true, ite_false, List.cons.injEq, ne_eq, not_true_eq_false, not_false_eq_true, reduceCtorEq, e_skip, e_reg, e_drw, e_seq, e_cond, e_block, e_loop, e_exit, e_ret, e_shut, e_scp, scpK_n, scpK_x, scpK_r, shutH, shut1, shutB, slQ, o_nil, o_cons, gd_none, gd_some, gdK_tt, gdK_tf, gdK_ft, gdK_ff, gdK_u, gdK_bt, gdK_bf, putK_e, runK_e, skipK_e, vK_e, boxK_e, bslK_e, bldK_e, storeK3_e, storeK2_e, storeK_e, storeK_p, storeE_e, appK2_oi, appK2_or, appK_e, conK_e, callK_e, callK_m, evh_v, evh_new, evh_box, evh_bsl, evh_bld, evh_store, evh_app, evh_call, evh_inv, evh_slc, slcK_e, appC_e, appK_c, appK_l, slO, bnd, slv, od_none, od_some, invK_e, invK2_e, lkm, dX_e, dX_b, dX_l, dG_t, dG_f, d_nil, d_cons, creK_e, tlK_n, tlK_s, evc_e, loopK_n, loopK_x, loopK_r, seqK_n, seqK_x, seqK_r, condK_t, condK_f, condK_b, exitK_t, exitK_f, blockK_x, blockK_n, blockK_r, ends_r, ends_n, endK1_e, endK2_e, gam_e, gamK_f, gamK_p, gamK_c, gamq_e, gamqK_f, pc_e, pcK_e, fcC_e, fcK_e, evp, fit, InQ, nilq, nb, bin, binB, gt, gq, st, putf, X.get, gets, getp, ap, mkfr, rep, rdR, tupled, clV, clL, clS, clo, clo.clos, asB, ld, lda, lens, ixs, tk, dr, sp, sp.spl, lay, ll, cs1, one, allOne, gb, sb, pb, ln, lk, evq, gdl, crv, Value.oneCell', undef, Bool.and_true, Bool.true_and, Bool.not_true, Bool.not_false, cond_true, cond_false, Nat.reduceSub, Nat.reduceAdd, Nat.reduceMul, Nat.reduceDiv, Nat.reduceBEq, beq_self_eq_true, true_and, and_true, decide_eq_true_eq, decide_eq_false_iff_not, Bool.not_eq_eq_eq_not, sts, s88, r88]
  refine ⟨fun h => res hK (by simp [leR, leR.leRs, h]), fun h => res hK ?_⟩
  simp only [leR, leR.leRs, h, Bool.false_eq_true, if_false, true_and, and_true]
  exact ⟨by split <;> omega, by split <;> omega⟩
def F48 : FC := fun args => match args with
  | [.ints .i64 l] => some (within 100000000000000 l ∧ l.length ≤ 1000, .int .i64 (spreadL l))
  | _ => none
theorem p48 : PureOk Try.prog 48 (fcC F48) := by
  refine pure_of (T := [(88, .fc F88)]) ⟨⟨p88, q88⟩, trivial⟩ Try.func48 k48 ?_
  intro args K hC
  unfold fcC F48 at hC
  split at hC <;> first | (exact hC.elim) | skip
  rename_i h
  split at h <;> first | (cases h; done) | skip
  cases h
  rename_i l
  obtain ⟨⟨hb, hlen⟩, hK⟩ := hC
  simp only [inr64, ↓reduceIte, ite_true, ite_false, List.cons.injEq, ne_eq, not_true_eq_false, not_false_eq_true, reduceCtorEq, e_skip, e_reg, e_drw, e_seq, e_cond, e_block, e_loop, e_exit, e_ret, e_shut, e_scp, scpK_n, scpK_x, scpK_r, shutH, shut1, shutB, slQ, o_nil, o_cons, gd_none, gd_some, gdK_tt, gdK_tf, gdK_ft, gdK_ff, gdK_u, gdK_bt, gdK_bf, putK_e, runK_e, skipK_e, vK_e, boxK_e, bslK_e, bldK_e, storeK3_e, storeK2_e, storeK_e, storeK_p, storeE_e, appK2_oi, appK2_or, appK_e, conK_e, callK_e, callK_m, evh_v, evh_new, evh_box, evh_bsl, evh_bld, evh_store, evh_app, evh_call, evh_inv, evh_slc, slcK_e, appC_e, appK_c, appK_l, slO, bnd, slv, od_none, od_some, invK_e, invK2_e, lkm, dX_e, dX_b, dX_l, dG_t, dG_f, d_nil, d_cons, creK_e, tlK_n, tlK_s, evc_e, loopK_n, loopK_x, loopK_r, seqK_n, seqK_x, seqK_r, condK_t, condK_f, condK_b, exitK_t, exitK_f, blockK_x, blockK_n, blockK_r, ends_r, ends_n, endK1_e, endK2_e, gam_e, gamK_f, gamK_p, gamK_c, gamq_e, gamqK_f, pc_e, pcK_e, fcC_e, fcK_e, evp, fit, InQ, nilq, nb, bin, binB, gt, gq, st, putf, X.get, gets, getp, ap, mkfr, rep, rdR, tupled, clV, clL, clS, clo, clo.clos, asB, ld, lda, lens, ixs, tk, dr, sp, sp.spl, lay, ll, cs1, one, allOne, gb, sb, pb, ln, lk, evq, gdl, crv, Value.oneCell', undef, Bool.and_true, Bool.true_and, Bool.not_true, Bool.not_false, cond_true, cond_false, Nat.reduceSub, Nat.reduceAdd, Nat.reduceMul, Nat.reduceDiv, Nat.reduceBEq, beq_self_eq_true, true_and, and_true, decide_eq_true_eq, decide_eq_false_iff_not, Bool.not_eq_eq_eq_not, sts, s48, r48]
  refine loop_at2 (G := Nat × Int × Int) (fun g => [(4, .int .i64 g.1)]) (fun g => [Blk.box 63 [.int .i64 g.2.1, .int .i64 g.2.2]])
    (fun g => g.1 ≤ l.length ∧ (g.1 = 0 → g.2.1 = 0 ∧ g.2.2 = 0) ∧ (0 < g.1 → g.2.1 = mnL (l.getD 0 0) (l.take g.1) ∧ g.2.2 = mxL (l.getD 0 0) (l.take g.1))) (fun g => l.length - g.1) (0, 0, 0) ⟨Nat.zero_le _, fun _ => ⟨rfl, rfl⟩, fun h => absurd h (by simp)⟩ ?_
  (intro fr1 hf1; simp only [forget, dstC, dstO, dstD, dst1, st] at hf1; subst hf1)
  refine ⟨?_, ?_⟩
  · refine Lw_re 1 [] (Nat.zero_le _) (by simp [ln]) (by simp [ln]) rfl ?_ ?_
    · simp only [reL, reX, reH, reB, reM, reN, newB, rn, once, gb, List.getElem?_cons_zero, List.getElem?_cons_succ, Nat.reduceSub, Nat.reduceLeDiff, Nat.lt_irrefl, Nat.le_refl, false_and, or_false, false_or, and_false, reduceCtorEq, true_or, or_true, leL, leX, leH, leB, news, inb, inb.inbs, ln, sts, st, Bool.and_self, Bool.and_true, Bool.true_and, Nat.reduceLT, Nat.reduceAdd, decide_true, true_and, and_true, and_self, SV.agg.injEq, Int.natCast_zero]
    · simp only [reL, reX, reH, reB, reM, reN, newB, rn, once, gb, List.getElem?_cons_zero, List.getElem?_cons_succ, Nat.reduceSub, Nat.reduceLeDiff, Nat.lt_irrefl, Nat.le_refl, false_and, or_false, false_or, and_false, reduceCtorEq, true_or, or_true, leL, leX, leH, leB, news, inb, inb.inbs, ln, sts, st, Bool.and_self, Bool.and_true, Bool.true_and, Nat.reduceLT, Nat.reduceAdd, decide_true, true_and, and_true, and_self, SV.agg.injEq]
  · rintro ⟨i, lo, hi⟩ ⟨hi1, hi2, hi3⟩
    dsimp only at hi1 hi2 hi3
    simp only [inr64, ↓reduceIte, ite_true, ite_false, List.cons.injEq, ne_eq, not_true_eq_false, not_false_eq_true, reduceCtorEq, e_skip, e_reg, e_drw, e_seq, e_cond, e_block, e_loop, e_exit, e_ret, e_shut, e_scp, scpK_n, scpK_x, scpK_r, shutH, shut1, shutB, slQ, o_nil, o_cons, gd_none, gd_some, gdK_tt, gdK_tf, gdK_ft, gdK_ff, gdK_u, gdK_bt, gdK_bf, putK_e, runK_e, skipK_e, vK_e, boxK_e, bslK_e, bldK_e, storeK3_e, storeK2_e, storeK_e, storeK_p, storeE_e, appK2_oi, appK2_or, appK_e, conK_e, callK_e, callK_m, evh_v, evh_new, evh_box, evh_bsl, evh_bld, evh_store, evh_app, evh_call, evh_inv, evh_slc, slcK_e, appC_e, appK_c, appK_l, slO, bnd, slv, od_none, od_some, invK_e, invK2_e, lkm, dX_e, dX_b, dX_l, dG_t, dG_f, d_nil, d_cons, creK_e, tlK_n, tlK_s, evc_e, loopK_n, loopK_x, loopK_r, seqK_n, seqK_x, seqK_r, condK_t, condK_f, condK_b, exitK_t, exitK_f, blockK_x, blockK_n, blockK_r, ends_r, ends_n, endK1_e, endK2_e, gam_e, gamK_f, gamK_p, gamK_c, gamq_e, gamqK_f, pc_e, pcK_e, fcC_e, fcK_e, evp, fit, InQ, nilq, nb, bin, binB, gt, gq, st, putf, X.get, gets, getp, ap, mkfr, rep, rdR, tupled, clV, clL, clS, clo, clo.clos, asB, ld, lda, lens, ixs, tk, dr, sp, sp.spl, lay, ll, cs1, one, allOne, gb, sb, pb, ln, lk, evq, gdl, crv, Value.oneCell', undef, Bool.and_true, Bool.true_and, Bool.not_true, Bool.not_false, cond_true, cond_false, Nat.reduceSub, Nat.reduceAdd, Nat.reduceMul, Nat.reduceDiv, Nat.reduceBEq, beq_self_eq_true, true_and, and_true, decide_eq_true_eq, decide_eq_false_iff_not, Bool.not_eq_eq_eq_not, sts, Int.toNat_natCast, F88]
    refine ⟨fun h => ?_, fun h => ?_⟩
    · have ha : i < l.length := by omega
      refine ⟨by omega, by omega, ?_⟩
      refine Nx.mk (i + 1, (if (i : Int) = 0 then l.getD i 0 else min lo (l.getD i 0)), (if (i : Int) = 0 then l.getD i 0 else max hi (l.getD i 0))) ⟨by show i + 1 ≤ l.length; omega, fun h => absurd h (by simp), fun _ => ?_⟩ (by show l.length - (i + 1) < l.length - i; omega) (Lw_re 1 [] (Nat.zero_le _) (by simp [ln]) (by simp [ln]) rfl ?_ ?_)
      · simp only
        rw [mnL_snoc ha, mxL_snoc ha]
        by_cases h0 : i = 0
        · subst h0
          simp [mnL, mxL]
        · obtain ⟨e1, e2⟩ := hi3 (by omega)
          rw [← e1, ← e2, if_neg (by omega), if_neg (by omega)]
          exact ⟨rfl, rfl⟩
      · simp only [reL, reX, reH, reB, reM, reN, newB, rn, once, gb, List.getElem?_cons_zero, List.getElem?_cons_succ, Nat.reduceSub, Nat.reduceLeDiff, Nat.lt_irrefl, Nat.le_refl, false_and, or_false, false_or, and_false, reduceCtorEq, true_or, or_true, leL, leX, leH, leB, news, inb, inb.inbs, ln, sts, st, Bool.and_self, Bool.and_true, Bool.true_and, Nat.reduceLT, Nat.reduceAdd, decide_true, true_and, and_true, and_self, SV.agg.injEq, Int.natCast_add, Int.natCast_one]
      · simp only [reL, reX, reH, reB, reM, reN, newB, rn, once, gb, List.getElem?_cons_zero, List.getElem?_cons_succ, Nat.reduceSub, Nat.reduceLeDiff, Nat.lt_irrefl, Nat.le_refl, false_and, or_false, false_or, and_false, reduceCtorEq, true_or, or_true, leL, leX, leH, leB, news, inb, inb.inbs, ln, sts, st, Bool.and_self, Bool.and_true, Bool.true_and, Nat.reduceLT, Nat.reduceAdd, decide_true, true_and, and_true, and_self, SV.agg.injEq]
    · have hl : i = l.length := by omega
      by_cases h0 : i = 0
      · obtain ⟨rfl, rfl⟩ := hi2 h0
        have : l = [] := List.eq_nil_of_length_eq_zero (by omega)
        subst this
        exact ⟨by omega, res hK (by simp [leR, spreadL, mxL, mnL])⟩
      · obtain ⟨e1, e2⟩ := hi3 (by omega)
        subst hl
        rw [List.take_length] at e1 e2
        have h0' : 0 < l.length := by omega
        have hx := hb _ (getD_mem h0')
        have m1 := mxL_bd hb hx.1 hx.2
        have m2 := mnL_bd hb hx.1 hx.2
        rw [← e2] at m1
        rw [← e1] at m2
        refine ⟨by omega, res hK ?_⟩
        have e0 : l = l.getD 0 0 :: l.drop 1 := by cases l with
          | nil => simp at h0'
          | cons x t => simp
        have ex : mxL (l.getD 0 0) l = mxL (l.getD 0 0) (l.drop 1) := by
          conv => lhs; rw [e0]
          simp [mxL]
        have en : mnL (l.getD 0 0) l = mnL (l.getD 0 0) (l.drop 1) := by
          conv => lhs; rw [e0]
          simp [mnL]
        rw [e1, e2, ex, en]
        simp [leR, spreadL]
def F38 : FC := fun args => match args with
  | [.int .i64 a, .int .i64 b] => some (0 < b ∧ b ≤ 9223372036854775807, .int .i64 (a % b))
  | _ => none
theorem p38 : PureOk Try.prog 38 (fcC F38) := by
  refine pure_of (T := []) trivial Try.func38 k38 ?_
  intro args K hC
  unfold fcC F38 at hC
  split at hC <;> first | (exact hC.elim) | skip
  rename_i h
  split at h <;> first | (cases h; done) | skip
  cases h
  rename_i a b
  obtain ⟨⟨hb, hb2⟩, hK⟩ := hC
  have e := Int.tmod_eq_emod (a := a) (b := b)
  have h1 := Int.emod_nonneg a (show b ≠ 0 by omega)
  have h2 := Int.emod_lt_of_pos a hb
  have h3 : (b.natAbs : Int) = b := by omega
  simp only [inr64, ↓reduceIte, ite_true, ite_false, List.cons.injEq, ne_eq, not_true_eq_false, not_false_eq_true, reduceCtorEq, e_skip, e_reg, e_drw, e_seq, e_cond, e_block, e_loop, e_exit, e_ret, e_shut, e_scp, scpK_n, scpK_x, scpK_r, shutH, shut1, shutB, slQ, o_nil, o_cons, gd_none, gd_some, gdK_tt, gdK_tf, gdK_ft, gdK_ff, gdK_u, gdK_bt, gdK_bf, putK_e, runK_e, skipK_e, vK_e, boxK_e, bslK_e, bldK_e, storeK3_e, storeK2_e, storeK_e, storeK_p, storeE_e, appK2_oi, appK2_or, appK_e, conK_e, callK_e, callK_m, evh_v, evh_new, evh_box, evh_bsl, evh_bld, evh_store, evh_app, evh_call, evh_inv, evh_slc, slcK_e, appC_e, appK_c, appK_l, slO, bnd, slv, od_none, od_some, invK_e, invK2_e, lkm, dX_e, dX_b, dX_l, dG_t, dG_f, d_nil, d_cons, creK_e, tlK_n, tlK_s, evc_e, loopK_n, loopK_x, loopK_r, seqK_n, seqK_x, seqK_r, condK_t, condK_f, condK_b, exitK_t, exitK_f, blockK_x, blockK_n, blockK_r, ends_r, ends_n, endK1_e, endK2_e, gam_e, gamK_f, gamK_p, gamK_c, gamq_e, gamqK_f, pc_e, pcK_e, fcC_e, fcK_e, evp, fit, InQ, nilq, nb, bin, binB, gt, gq, st, putf, X.get, gets, getp, ap, mkfr, rep, rdR, tupled, clV, clL, clS, clo, clo.clos, asB, ld, lda, lens, ixs, tk, dr, sp, sp.spl, lay, ll, cs1, one, allOne, gb, sb, pb, ln, lk, evq, gdl, crv, Value.oneCell', undef, Bool.and_true, Bool.true_and, Bool.not_true, Bool.not_false, cond_true, cond_false, Nat.reduceSub, Nat.reduceAdd, Nat.reduceMul, Nat.reduceDiv, Nat.reduceBEq, beq_self_eq_true, true_and, and_true, decide_eq_true_eq, decide_eq_false_iff_not, Bool.not_eq_eq_eq_not, sts, s38, r38]
  have e2 : a.tmod b = a % b ∨ a.tmod b = a % b - b := by
    by_cases c : 0 ≤ a ∨ b ∣ a
    · rw [if_pos c] at e; exact .inl (by simpa using e)
    · rw [if_neg c, h3] at e; exact .inr e
  exact ⟨by omega, fun h => ⟨by omega, res hK (by simp [leR]; omega)⟩, fun h => res hK (by simp [leR]; omega)⟩
end Go.Proofs.Ytbbbpdajikblbaa
