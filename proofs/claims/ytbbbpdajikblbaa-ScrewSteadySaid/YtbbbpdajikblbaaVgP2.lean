/- Periods: what the program and the specification return, for all spans. -/
import Derived.Test.YtbbbpdajikblbaaVgP1
namespace Go.Proofs.Ytbbbpdajikblbaa
open Go Go.Vg
set_option linter.unusedSimpArgs false
set_option linter.unusedVariables false
set_option maxRecDepth 10000
/- 36: octant/screw.Periods -/
def s36 : SC :=
  (.seq (.reg [⟨(some 2), none, .v (.mov (.c (.lit (.slice none 0 0))))⟩,
    ⟨(some 3), none, .v (.mov (.c (.int .i64 (0))))⟩])
  (.seq (.seq (.reg [⟨(some 6), none, .v (.mov (.t 0))⟩,
    ⟨(some 7), none, .call (.c (.fn 85 [])) [(.t 6)]⟩,
    ⟨(some 8), none, .v (.not (.t 7))⟩])
  (.cond (.t 8)
    (.seq (.reg [⟨(some 2), none, .v (.mov (.c (.lit (.slice none 0 0))))⟩,
      ⟨(some 3), none, .v (.mov (.c (.int .i64 (25))))⟩])
    .ret)
    .skip))
  (.seq (.reg [⟨(some 4), none, .v (.mov (.c (.lit (.slice none 0 0))))⟩])
  (.seq (.seq (.reg [⟨(some 9), none, .v (.mov (.t 0))⟩,
    ⟨(some 10), none, .v (.len (.t 9))⟩,
    ⟨(some 11), none, .v (.mov (.c (.int .i64 (0))))⟩])
  (.block 0 (.loop
    (.seq (.reg [⟨(some 12), none, .v (.bin .lss (.t 11) (.t 10))⟩])
    (.seq (.cond (.t 12)
      .skip
      (.exit 0))
    (.seq (.block 1 (.seq (.reg [⟨(some 13), none, .v (.mov (.t 11))⟩,
      ⟨(some 5), none, .v (.mov (.t 13))⟩])
    (.seq (.reg [⟨(some 14), none, .v (.mov (.t 0))⟩,
      ⟨(some 15), none, .v (.mov (.t 5))⟩,
      ⟨(some 16), none, .v (.bin .add (.t 15) (.c (.int .i64 (1))))⟩,
      ⟨(some 17), none, .call (.c (.fn 86 [])) [(.t 14), (.t 16)]⟩])
    (.cond (.t 17)
      (.reg [⟨(some 18), none, .v (.mov (.t 4))⟩,
        ⟨(some 19), none, .v (.mov (.t 5))⟩,
        ⟨(some 20), none, .v (.bin .add (.t 19) (.c (.int .i64 (1))))⟩,
        ⟨(some 21), none, .bsl 3 1 [(.int .i64 (0))] [(0, 1, (.t 20))]⟩,
        ⟨(some 22), none, .app 3 1 8 (.t 18) (.t 21)⟩,
        ⟨(some 4), none, .v (.mov (.t 22))⟩])
      .skip))))
    (.reg [⟨(some 23), none, .v (.bin .add (.t 11) (.c (.int .i64 (1))))⟩,
      ⟨(some 11), none, .v (.mov (.t 23))⟩])))))))
  (.seq (.reg [⟨(some 24), none, .v (.mov (.t 4))⟩,
    ⟨(some 25), none, .v (.mov (.t 4))⟩,
    ⟨(some 26), none, .v (.len (.t 25))⟩,
    ⟨(some 27), none, .v (.mov (.t 4))⟩,
    ⟨(some 28), none, .v (.len (.t 27))⟩,
    ⟨(some 29), none, .slc (.t 24) none (some (.t 26)) (some (.t 28)) 1⟩,
    ⟨(some 2), none, .v (.mov (.t 29))⟩,
    ⟨(some 3), none, .v (.mov (.c (.int .i64 (0))))⟩])
  .ret)))))
def r36 : List RV := [.t 2, .t 3]
def n36 : Nat := 30
theorem k36 : (Try.f36.body.bind (cC Try.prog), cR Try.prog Try.f36.results.toList, Try.f36.ntmps) = (some s36, some r36, 30) := by kernel_rfl
theorem q36 : Known Try.prog 36 := ⟨_, Try.func36, by decide, by simp [Try.f36]⟩

/- 37: octant/octantref02.Periods -/
def s37 : SC :=
  (.seq (.reg [⟨(some 2), none, .v (.mov (.c (.lit (.slice none 0 0))))⟩,
    ⟨(some 3), none, .v (.mov (.c (.int .i64 (0))))⟩])
  (.seq (.reg [⟨(some 11), none, .v (.mov (.t 0))⟩,
    ⟨(some 12), none, .v (.len (.t 11))⟩,
    ⟨(some 13), none, .call (.c (.fn 39 [])) [(.t 12), (.c (.int .i64 (1))), (.c (.int .i64 (64)))]⟩,
    ⟨(some 4), none, .v (.mov (.t 13))⟩])
  (.seq (.seq (.reg [⟨(some 5), none, .v (.mov (.c (.int .i64 (0))))⟩])
  (.block 0 (.loop
    (.seq (.seq (.reg [⟨(some 14), none, .v (.mov (.t 4))⟩,
      ⟨(some 15), none, .v (.mov (.t 14))⟩,
      ⟨(some 16), (some (15, true)), .v (.mov (.t 5))⟩,
      ⟨(some 17), (some (15, true)), .v (.mov (.t 0))⟩,
      ⟨(some 18), (some (15, true)), .v (.len (.t 17))⟩,
      ⟨(some 19), (some (15, true)), .v (.bin .lss (.t 16) (.t 18))⟩,
      ⟨(some 20), none, .v (.pick (.t 15) (.t 19) (.c (.lit (.bool false))))⟩])
    (.cond (.t 20)
      .skip
      (.exit 0)))
    (.seq (.block 1 (.reg [⟨(some 23), none, .v (.mov (.t 0))⟩,
      ⟨(some 24), none, .v (.mov (.t 5))⟩,
      ⟨(some 25), none, .v (.ixa (.t 23) (.t 24) 2)⟩,
      ⟨(some 26), none, .v (.load (.t 25) (some 2))⟩,
      ⟨(some 27), none, .call (.c (.fn 87 [])) [(.t 26), (.c (.int .i64 (-1000000))), (.c (.int .i64 (1000000)))]⟩,
      ⟨(some 4), none, .v (.mov (.t 27))⟩]))
    (.reg [⟨(some 21), none, .v (.mov (.t 5))⟩,
      ⟨(some 22), none, .v (.bin .add (.t 21) (.c (.int .i64 (1))))⟩,
      ⟨(some 5), none, .v (.mov (.t 22))⟩]))))))
  (.seq (.seq (.reg [⟨(some 28), none, .v (.mov (.t 4))⟩,
    ⟨(some 29), none, .v (.not (.t 28))⟩])
  (.cond (.t 29)
    (.seq (.reg [⟨(some 2), none, .v (.mov (.c (.lit (.slice none 0 0))))⟩,
      ⟨(some 3), none, .v (.mov (.c (.int .i64 (25))))⟩])
    .ret)
    .skip))
  (.seq (.reg [⟨(some 6), none, .v (.mov (.c (.lit (.slice none 0 0))))⟩])
  (.seq (.seq (.reg [⟨(some 7), none, .v (.mov (.c (.int .i64 (1))))⟩])
  (.block 2 (.loop
    (.seq (.seq (.reg [⟨(some 30), none, .v (.mov (.t 7))⟩,
      ⟨(some 31), none, .v (.mov (.t 0))⟩,
      ⟨(some 32), none, .v (.len (.t 31))⟩,
      ⟨(some 33), none, .v (.bin .leq (.t 30) (.t 32))⟩])
    (.cond (.t 33)
      .skip
      (.exit 2)))
    (.seq (.block 3 (.seq (.reg [⟨(some 8), none, .v (.mov (.c (.lit (.bool true))))⟩])
    (.seq (.seq (.reg [⟨(some 9), none, .v (.mov (.c (.int .i64 (0))))⟩])
    (.block 4 (.loop
      (.seq (.seq (.reg [⟨(some 36), none, .v (.mov (.t 9))⟩,
        ⟨(some 37), none, .v (.mov (.t 0))⟩,
        ⟨(some 38), none, .v (.len (.t 37))⟩,
        ⟨(some 39), none, .v (.bin .lss (.t 36) (.t 38))⟩])
      (.cond (.t 39)
        .skip
        (.exit 4)))
      (.seq (.block 5 (.seq (.reg [⟨(some 42), none, .v (.mov (.t 9))⟩,
        ⟨(some 10), none, .v (.mov (.t 42))⟩])
      (.block 6 (.loop
        (.seq (.seq (.reg [⟨(some 43), none, .v (.mov (.t 10))⟩,
          ⟨(some 44), none, .v (.mov (.t 0))⟩,
          ⟨(some 45), none, .v (.len (.t 44))⟩,
          ⟨(some 46), none, .v (.bin .lss (.t 43) (.t 45))⟩])
        (.cond (.t 46)
          .skip
          (.exit 6)))
        (.seq (.block 7 (.drw [(0, ⟨(some 50), none, .v (.mov (.t 8))⟩, false),
          (1, ⟨(some 51), none, .v (.mov (.t 50))⟩, true),
          (2, ⟨(some 52), (some (51, true)), .v (.mov (.t 0))⟩, false),
          (3, ⟨(some 53), (some (51, true)), .v (.mov (.t 10))⟩, false),
          (4, ⟨(some 54), (some (51, true)), .v (.ixa (.t 52) (.t 53) 2)⟩, false),
          (5, ⟨(some 55), (some (51, true)), .v (.off (.t 54) 0)⟩, false),
          (6, ⟨(some 56), (some (51, true)), .v (.load (.t 55) none)⟩, false),
          (7, ⟨(some 57), (some (51, true)), .v (.mov (.t 0))⟩, false),
          (8, ⟨(some 58), (some (51, true)), .v (.mov (.t 9))⟩, false),
          (9, ⟨(some 59), (some (51, true)), .v (.ixa (.t 57) (.t 58) 2)⟩, false),
          (10, ⟨(some 60), (some (51, true)), .v (.off (.t 59) 1)⟩, false),
          (11, ⟨(some 61), (some (51, true)), .v (.load (.t 60) none)⟩, false),
          (12, ⟨(some 62), (some (51, true)), .v (.bin .leq (.t 56) (.t 61))⟩, false),
          (13, ⟨(some 63), none, .v (.pick (.t 51) (.t 62) (.c (.lit (.bool false))))⟩, false),
          (14, ⟨(some 64), none, .v (.mov (.t 63))⟩, true),
          (15, ⟨(some 65), (some (64, true)), .v (.mov (.t 0))⟩, false),
          (16, ⟨(some 66), (some (64, true)), .v (.mov (.t 9))⟩, false),
          (17, ⟨(some 67), (some (64, true)), .v (.ixa (.t 65) (.t 66) 2)⟩, false),
          (18, ⟨(some 68), (some (64, true)), .v (.off (.t 67) 0)⟩, false),
          (19, ⟨(some 69), (some (64, true)), .v (.load (.t 68) none)⟩, false),
          (20, ⟨(some 70), (some (64, true)), .v (.mov (.t 0))⟩, false),
          (21, ⟨(some 71), (some (64, true)), .v (.mov (.t 10))⟩, false),
          (22, ⟨(some 72), (some (64, true)), .v (.ixa (.t 70) (.t 71) 2)⟩, false),
          (23, ⟨(some 73), (some (64, true)), .v (.off (.t 72) 1)⟩, false),
          (24, ⟨(some 74), (some (64, true)), .v (.load (.t 73) none)⟩, false)]
          none
          [⟨(some 75), (some (64, true)), .v (.bin .leq (.t 69) (.t 74))⟩,
          ⟨(some 76), none, .v (.pick (.t 64) (.t 75) (.c (.lit (.bool false))))⟩,
          ⟨(some 8), none, .v (.mov (.t 76))⟩]))
        (.reg [⟨(some 47), none, .v (.mov (.t 10))⟩,
          ⟨(some 48), none, .v (.mov (.t 7))⟩,
          ⟨(some 49), none, .v (.bin .add (.t 47) (.t 48))⟩,
          ⟨(some 10), none, .v (.mov (.t 49))⟩])))))))
      (.reg [⟨(some 40), none, .v (.mov (.t 9))⟩,
        ⟨(some 41), none, .v (.bin .add (.t 40) (.c (.int .i64 (1))))⟩,
        ⟨(some 9), none, .v (.mov (.t 41))⟩]))))))
    (.seq (.reg [⟨(some 77), none, .v (.mov (.t 8))⟩])
    (.cond (.t 77)
      (.reg [⟨(some 78), none, .v (.mov (.t 6))⟩,
        ⟨(some 79), none, .v (.mov (.t 7))⟩,
        ⟨(some 80), none, .bsl 3 1 [(.int .i64 (0))] [(0, 1, (.t 79))]⟩,
        ⟨(some 81), none, .app 3 1 8 (.t 78) (.t 80)⟩,
        ⟨(some 6), none, .v (.mov (.t 81))⟩])
      .skip)))))
    (.reg [⟨(some 34), none, .v (.mov (.t 7))⟩,
      ⟨(some 35), none, .v (.bin .add (.t 34) (.c (.int .i64 (1))))⟩,
      ⟨(some 7), none, .v (.mov (.t 35))⟩]))))))
  (.seq (.reg [⟨(some 82), none, .v (.mov (.t 6))⟩,
    ⟨(some 2), none, .v (.mov (.t 82))⟩,
    ⟨(some 3), none, .v (.mov (.c (.int .i64 (0))))⟩])
  .ret)))))))
def r37 : List RV := [.t 2, .t 3]
def n37 : Nat := 83
theorem k37 : (Try.f37.body.bind (cC Try.prog), cR Try.prog Try.f37.results.toList, Try.f37.ntmps) = (some s37, some r37, 83) := by kernel_rfl
theorem q37 : Known Try.prog 37 := ⟨_, Try.func37, by decide, by simp [Try.f37]⟩

/- 6: octant/octantlaw02.ScrewPeriods -/
def s6 : SC :=
  (.seq (.reg [⟨(some 2), none, .v (.mov (.c (.lit (.bool false))))⟩])
  (.seq (.reg [⟨(some 8), none, .v (.mov (.t 0))⟩,
    ⟨(some 9), none, .call (.c (.fn 36 [])) [(.t 8)]⟩,
    ⟨(some 7), none, .v (.mov (.t 9))⟩,
    ⟨(some 10), none, .v (.ext (.t 7) 0)⟩,
    ⟨(some 11), none, .v (.ext (.t 7) 1)⟩,
    ⟨(some 3), none, .v (.mov (.t 10))⟩,
    ⟨(some 4), none, .v (.mov (.t 11))⟩])
  (.seq (.reg [⟨(some 13), none, .v (.mov (.t 0))⟩,
    ⟨(some 14), none, .call (.c (.fn 37 [])) [(.t 13)]⟩,
    ⟨(some 12), none, .v (.mov (.t 14))⟩,
    ⟨(some 15), none, .v (.ext (.t 12) 0)⟩,
    ⟨(some 16), none, .v (.ext (.t 12) 1)⟩,
    ⟨(some 5), none, .v (.mov (.t 15))⟩,
    ⟨(some 6), none, .v (.mov (.t 16))⟩])
  (.seq (.reg [⟨(some 17), none, .v (.mov (.t 3))⟩,
    ⟨(some 18), none, .v (.mov (.t 5))⟩,
    ⟨(some 19), none, .call (.c (.fn 21 [])) [(.t 17), (.t 18)]⟩,
    ⟨(some 20), none, .v (.mov (.t 19))⟩,
    ⟨(some 21), (some (20, true)), .v (.mov (.t 4))⟩,
    ⟨(some 22), (some (20, true)), .v (.mov (.t 6))⟩,
    ⟨(some 23), (some (20, true)), .v (.bin .eql (.t 21) (.t 22))⟩,
    ⟨(some 24), none, .v (.pick (.t 20) (.t 23) (.c (.lit (.bool false))))⟩,
    ⟨(some 25), none, .v (.mov (.t 24))⟩,
    ⟨(some 26), (some (25, true)), .call (.c (.fn 24 [])) []⟩,
    ⟨(some 27), none, .v (.pick (.t 25) (.t 26) (.c (.lit (.bool false))))⟩,
    ⟨(some 2), none, .v (.mov (.t 27))⟩])
  .ret))))
def r6 : List RV := [.t 2]
def n6 : Nat := 28
theorem k6 : (Try.f6.body.bind (cC Try.prog), cR Try.prog Try.f6.results.toList, Try.f6.ntmps) = (some s6, some r6, 28) := by kernel_rfl
theorem q6 : Known Try.prog 6 := ⟨_, Try.func6, by decide, by simp [Try.f6]⟩


def PerP (L : List (Int × Int)) (p : Nat) : Prop := ∀ i k, i < L.length → k < L.length → i % p = k % p → lo L i ≤ hi L k
def perB (L : List (Int × Int)) (p : Nat) : Bool := (List.range L.length).all fun i => (List.range L.length).all fun k => !(decide (i % p = k % p)) || decide (lo L i ≤ hi L k)
theorem perB_iff {L : List (Int × Int)} {p : Nat} : perB L p = true ↔ PerP L p := by
  unfold perB PerP
  simp only [List.all_eq_true, List.mem_range, Bool.or_eq_true, Bool.not_eq_true', decide_eq_false_iff_not, decide_eq_true_eq]
  exact ⟨fun h i k hi hk e => (h i hi k hk).resolve_left (fun h => h e), fun h i hi k hk => by
    by_cases e : i % p = k % p
    · exact .inr (h i k hi hk e)
    · exact .inl e⟩
/-- The periods up to k. -/
def persL (L : List (Int × Int)) (k : Nat) : List Int := ((List.range k).filter fun i => perB L (i + 1)).map fun i : Nat => (i : Int) + 1
theorem persL_snoc (L : List (Int × Int)) (k : Nat) : persL L (k + 1) = if perB L (k + 1) then persL L k ++ [(k : Int) + 1] else persL L k := by
  unfold persL
  rw [List.range_succ, List.filter_append, List.map_append]
  by_cases h : perB L (k + 1) = true
  · rw [if_pos h]; simp [h]
  · rw [if_neg h]; simp [h]
theorem persL_len (L : List (Int × Int)) (k : Nat) : (persL L k).length ≤ k := by
  unfold persL
  rw [List.length_map]
  exact Nat.le_trans (List.length_filter_le _ _) (by simp)
def C36 : PC := fun args K => ∃ L : List (Int × Int), args = [.rd 2 L.length (rowsS L)] ∧ K (.tup [.ints .i64 (if spansB L then persL L L.length else []), .int .i64 (if spansB L then 0 else 25)])
theorem p36 : PureOk Try.prog 36 C36 := by
  refine pure_of (T := [(85, .pc C85), (86, .pc C86)]) ⟨⟨p85, q85⟩, ⟨p86, q86⟩, trivial⟩ Try.func36 k36 ?_
  rintro args K ⟨L, rfl, hK⟩
  simp only [inr64, ↓reduceIte, ite_true, ite_false, List.cons.injEq, ne_eq, not_true_eq_false, not_false_eq_true, reduceCtorEq, e_skip, e_reg, e_drw, e_seq, e_cond, e_block, e_loop, e_exit, e_ret, e_shut, e_scp, scpK_n, scpK_x, scpK_r, shutH, shut1, shutB, slQ, o_nil, o_cons, gd_none, gd_some, gdK_tt, gdK_tf, gdK_ft, gdK_ff, gdK_u, gdK_bt, gdK_bf, putK_e, runK_e, skipK_e, vK_e, boxK_e, bslK_e, bldK_e, storeK3_e, storeK2_e, storeK_e, appK2_oi, appK2_or, appK_e, conK_e, callK_e, callK_m, evh_v, evh_new, evh_box, evh_bsl, evh_bld, evh_store, evh_app, evh_call, evh_inv, evh_slc, slcK_e, appC_e, appK_c, appK_l, slO, bnd, slv, od_none, od_some, invK_e, invK2_e, lkm, dX_e, dX_b, dX_l, dG_t, dG_f, d_nil, d_cons, creK_e, tlK_n, tlK_s, evc_e, loopK_n, loopK_x, loopK_r, seqK_n, seqK_x, seqK_r, condK_t, condK_f, condK_b, exitK_t, exitK_f, blockK_x, blockK_n, blockK_r, ends_r, ends_n, endK1_e, endK2_e, gam_e, gamK_f, gamK_p, gamK_c, gamq_e, gamqK_f, pc_e, pcK_e, fcC_e, fcK_e, evp, fit, InQ, nilq, nb, bin, binB, gt, gq, st, putf, X.get, gets, getp, ap, mkfr, rep, rdR, tupled, clV, clL, clS, clo, clo.clos, asB, ld, lda, lens, ixs, tk, dr, sp, sp.spl, lay, ll, cs1, one, allOne, gb, sb, pb, ln, lk, evq, gdl, crv, Value.oneCell', undef, Bool.and_true, Bool.true_and, Bool.not_true, Bool.not_false, cond_true, cond_false, Nat.reduceSub, Nat.reduceAdd, Nat.reduceMul, Nat.reduceDiv, Nat.reduceBEq, beq_self_eq_true, true_and, and_true, decide_eq_true_eq, decide_eq_false_iff_not, Bool.not_eq_eq_eq_not, sts, s36, r36]
  refine ⟨L, rfl, ?_⟩
  simp only [inr64, ↓reduceIte, ite_true, ite_false, List.cons.injEq, ne_eq, not_true_eq_false, not_false_eq_true, reduceCtorEq, e_skip, e_reg, e_drw, e_seq, e_cond, e_block, e_loop, e_exit, e_ret, e_shut, e_scp, scpK_n, scpK_x, scpK_r, shutH, shut1, shutB, slQ, o_nil, o_cons, gd_none, gd_some, gdK_tt, gdK_tf, gdK_ft, gdK_ff, gdK_u, gdK_bt, gdK_bf, putK_e, runK_e, skipK_e, vK_e, boxK_e, bslK_e, bldK_e, storeK3_e, storeK2_e, storeK_e, appK2_oi, appK2_or, appK_e, conK_e, callK_e, callK_m, evh_v, evh_new, evh_box, evh_bsl, evh_bld, evh_store, evh_app, evh_call, evh_inv, evh_slc, slcK_e, appC_e, appK_c, appK_l, slO, bnd, slv, od_none, od_some, invK_e, invK2_e, lkm, dX_e, dX_b, dX_l, dG_t, dG_f, d_nil, d_cons, creK_e, tlK_n, tlK_s, evc_e, loopK_n, loopK_x, loopK_r, seqK_n, seqK_x, seqK_r, condK_t, condK_f, condK_b, exitK_t, exitK_f, blockK_x, blockK_n, blockK_r, ends_r, ends_n, endK1_e, endK2_e, gam_e, gamK_f, gamK_p, gamK_c, gamq_e, gamqK_f, pc_e, pcK_e, fcC_e, fcK_e, evp, fit, InQ, nilq, nb, bin, binB, gt, gq, st, putf, X.get, gets, getp, ap, mkfr, rep, rdR, tupled, clV, clL, clS, clo, clo.clos, asB, ld, lda, lens, ixs, tk, dr, sp, sp.spl, lay, ll, cs1, one, allOne, gb, sb, pb, ln, lk, evq, gdl, crv, Value.oneCell', undef, Bool.and_true, Bool.true_and, Bool.not_true, Bool.not_false, cond_true, cond_false, Nat.reduceSub, Nat.reduceAdd, Nat.reduceMul, Nat.reduceDiv, Nat.reduceBEq, beq_self_eq_true, true_and, and_true, decide_eq_true_eq, decide_eq_false_iff_not, Bool.not_eq_eq_eq_not, sts]
  refine ⟨fun h => res hK (by simp [leR, leR.leRs, h]), fun h => ?_⟩
  obtain ⟨⟨q1, q2⟩, q3⟩ := spansB_iff.1 h
  refine loop_at2 (G := Nat) (fun i => [(11, .int .i64 i), (4, .own 0)]) (fun i => [.oi .i64 3 (persL L i)]) (fun i => i ≤ L.length) (fun i => L.length - i) 0 (Nat.zero_le _) ?_
  (intro fr1 hf1; simp only [forget, dstC, dstO, dstD, dst1, st] at hf1; subst hf1)
  refine ⟨?_, ?_⟩
  · refine Lw_re 0 [none] (Nat.zero_le _) (by simp [ln]) (by simp [ln]) rfl ?_ ?_
    · simp only [reL, reX, reH, reB, reM, reN, newB, rn, once, gb, List.getElem?_cons_zero, List.getElem?_cons_succ, Nat.reduceSub, Nat.reduceLeDiff, Nat.lt_irrefl, Nat.le_refl, false_and, or_false, false_or, and_false, reduceCtorEq, true_or, or_true, leL, leX, leH, leB, news, inb, inb.inbs, ln, sts, st, Bool.and_self, Bool.and_true, Bool.true_and, Nat.reduceLT, Nat.reduceAdd, decide_true, true_and, and_true, and_self, SV.agg.injEq, Int.natCast_zero, implies_true]
    · simp only [reL, reX, reH, reB, reM, reN, newB, rn, once, gb, List.getElem?_cons_zero, List.getElem?_cons_succ, Nat.reduceSub, Nat.reduceLeDiff, Nat.lt_irrefl, Nat.le_refl, false_and, or_false, false_or, and_false, reduceCtorEq, true_or, or_true, leL, leX, leH, leB, news, inb, inb.inbs, ln, sts, st, Bool.and_self, Bool.and_true, Bool.true_and, Nat.reduceLT, Nat.reduceAdd, decide_true, true_and, and_true, and_self, SV.agg.injEq, persL, List.range_zero, List.filter_nil, List.map_nil]
  · intro i hi1
    simp only [inr64, ↓reduceIte, ite_true, ite_false, List.cons.injEq, ne_eq, not_true_eq_false, not_false_eq_true, reduceCtorEq, e_skip, e_reg, e_drw, e_seq, e_cond, e_block, e_loop, e_exit, e_ret, e_shut, e_scp, scpK_n, scpK_x, scpK_r, shutH, shut1, shutB, slQ, o_nil, o_cons, gd_none, gd_some, gdK_tt, gdK_tf, gdK_ft, gdK_ff, gdK_u, gdK_bt, gdK_bf, putK_e, runK_e, skipK_e, vK_e, boxK_e, bslK_e, bldK_e, storeK3_e, storeK2_e, storeK_e, appK2_oi, appK2_or, appK_e, conK_e, callK_e, callK_m, evh_v, evh_new, evh_box, evh_bsl, evh_bld, evh_store, evh_app, evh_call, evh_inv, evh_slc, slcK_e, appC_e, appK_c, appK_l, slO, bnd, slv, od_none, od_some, invK_e, invK2_e, lkm, dX_e, dX_b, dX_l, dG_t, dG_f, d_nil, d_cons, creK_e, tlK_n, tlK_s, evc_e, loopK_n, loopK_x, loopK_r, seqK_n, seqK_x, seqK_r, condK_t, condK_f, condK_b, exitK_t, exitK_f, blockK_x, blockK_n, blockK_r, ends_r, ends_n, endK1_e, endK2_e, gam_e, gamK_f, gamK_p, gamK_c, gamq_e, gamqK_f, pc_e, pcK_e, fcC_e, fcK_e, evp, fit, InQ, nilq, nb, bin, binB, gt, gq, st, putf, X.get, gets, getp, ap, mkfr, rep, rdR, tupled, clV, clL, clS, clo, clo.clos, asB, ld, lda, lens, ixs, tk, dr, sp, sp.spl, lay, ll, cs1, one, allOne, gb, sb, pb, ln, lk, evq, gdl, crv, Value.oneCell', undef, Bool.and_true, Bool.true_and, Bool.not_true, Bool.not_false, cond_true, cond_false, Nat.reduceSub, Nat.reduceAdd, Nat.reduceMul, Nat.reduceDiv, Nat.reduceBEq, beq_self_eq_true, true_and, and_true, decide_eq_true_eq, decide_eq_false_iff_not, Bool.not_eq_eq_eq_not, sts, Int.toNat_natCast]
    have hpl := persL_len L i
    refine ⟨fun h2 => ⟨by omega, L, i + 1, by simp, ⟨by omega, by omega, q2⟩, fun b hb => ?_⟩, fun h2 => ?_⟩
    · have eb : b = perB L (i + 1) := by rw [Bool.eq_iff_iff, hb, perB_iff]; rfl
      subst eb
      simp only [inr64, ↓reduceIte, ite_true, ite_false, List.cons.injEq, ne_eq, not_true_eq_false, not_false_eq_true, reduceCtorEq, e_skip, e_reg, e_drw, e_seq, e_cond, e_block, e_loop, e_exit, e_ret, e_shut, e_scp, scpK_n, scpK_x, scpK_r, shutH, shut1, shutB, slQ, o_nil, o_cons, gd_none, gd_some, gdK_tt, gdK_tf, gdK_ft, gdK_ff, gdK_u, gdK_bt, gdK_bf, putK_e, runK_e, skipK_e, vK_e, boxK_e, bslK_e, bldK_e, storeK3_e, storeK2_e, storeK_e, appK2_oi, appK2_or, appK_e, conK_e, callK_e, callK_m, evh_v, evh_new, evh_box, evh_bsl, evh_bld, evh_store, evh_app, evh_call, evh_inv, evh_slc, slcK_e, appC_e, appK_c, appK_l, slO, bnd, slv, od_none, od_some, invK_e, invK2_e, lkm, dX_e, dX_b, dX_l, dG_t, dG_f, d_nil, d_cons, creK_e, tlK_n, tlK_s, evc_e, loopK_n, loopK_x, loopK_r, seqK_n, seqK_x, seqK_r, condK_t, condK_f, condK_b, exitK_t, exitK_f, blockK_x, blockK_n, blockK_r, ends_r, ends_n, endK1_e, endK2_e, gam_e, gamK_f, gamK_p, gamK_c, gamq_e, gamqK_f, pc_e, pcK_e, fcC_e, fcK_e, evp, fit, InQ, nilq, nb, bin, binB, gt, gq, st, putf, X.get, gets, getp, ap, mkfr, rep, rdR, tupled, clV, clL, clS, clo, clo.clos, asB, ld, lda, lens, ixs, tk, dr, sp, sp.spl, lay, ll, cs1, one, allOne, gb, sb, pb, ln, lk, evq, gdl, crv, Value.oneCell', undef, Bool.and_true, Bool.true_and, Bool.not_true, Bool.not_false, cond_true, cond_false, Nat.reduceSub, Nat.reduceAdd, Nat.reduceMul, Nat.reduceDiv, Nat.reduceBEq, beq_self_eq_true, true_and, and_true, decide_eq_true_eq, decide_eq_false_iff_not, Bool.not_eq_eq_eq_not, sts]
      refine ⟨fun h3 => ⟨by omega, by omega, by omega, ?_⟩, fun h3 => ⟨by omega, ?_⟩⟩
      · refine Nx.mk (i + 1) (by show i + 1 ≤ L.length; omega) (by show L.length - (i + 1) < L.length - i; omega) (Lw_re 0 [some 2] (Nat.zero_le _) (by simp [ln]) (by simp [ln]) rfl ?_ ?_)
        · simp only [reL, reX, reH, reB, reM, reN, newB, rn, once, gb, List.getElem?_cons_zero, List.getElem?_cons_succ, Nat.reduceSub, Nat.reduceLeDiff, Nat.lt_irrefl, Nat.le_refl, false_and, or_false, false_or, and_false, reduceCtorEq, true_or, or_true, leL, leX, leH, leB, news, inb, inb.inbs, ln, sts, st, Bool.and_self, Bool.and_true, Bool.true_and, Nat.reduceLT, Nat.reduceAdd, decide_true, true_and, and_true, and_self, SV.agg.injEq, Int.natCast_add, Int.natCast_one, implies_true]
        · simp only [reL, reX, reH, reB, reM, reN, newB, rn, once, gb, List.getElem?_cons_zero, List.getElem?_cons_succ, Nat.reduceSub, Nat.reduceLeDiff, Nat.lt_irrefl, Nat.le_refl, false_and, or_false, false_or, and_false, reduceCtorEq, true_or, or_true, leL, leX, leH, leB, news, inb, inb.inbs, ln, sts, st, Bool.and_self, Bool.and_true, Bool.true_and, Nat.reduceLT, Nat.reduceAdd, decide_true, true_and, and_true, and_self, SV.agg.injEq, persL_snoc, h3]
          simp
      · refine Nx.mk (i + 1) (by show i + 1 ≤ L.length; omega) (by show L.length - (i + 1) < L.length - i; omega) (Lw_re 1 [] (Nat.zero_le _) (by simp [ln]) (by simp [ln]) rfl ?_ ?_)
        · simp only [reL, reX, reH, reB, reM, reN, newB, rn, once, gb, List.getElem?_cons_zero, List.getElem?_cons_succ, Nat.reduceSub, Nat.reduceLeDiff, Nat.lt_irrefl, Nat.le_refl, false_and, or_false, false_or, and_false, reduceCtorEq, true_or, or_true, leL, leX, leH, leB, news, inb, inb.inbs, ln, sts, st, Bool.and_self, Bool.and_true, Bool.true_and, Nat.reduceLT, Nat.reduceAdd, decide_true, true_and, and_true, and_self, SV.agg.injEq, Int.natCast_add, Int.natCast_one, implies_true]
        · simp only [reL, reX, reH, reB, reM, reN, newB, rn, once, gb, List.getElem?_cons_zero, List.getElem?_cons_succ, Nat.reduceSub, Nat.reduceLeDiff, Nat.lt_irrefl, Nat.le_refl, false_and, or_false, false_or, and_false, reduceCtorEq, true_or, or_true, leL, leX, leH, leB, news, inb, inb.inbs, ln, sts, st, Bool.and_self, Bool.and_true, Bool.true_and, Nat.reduceLT, Nat.reduceAdd, decide_true, true_and, and_true, and_self, SV.agg.injEq, persL_snoc, h3]
          simp
    · have e : i = L.length := by omega
      refine ⟨by omega, res hK ?_⟩
      subst e
      simp [leR, leR.leRs, h]
theorem p37 : PureOk Try.prog 37 C36 := by
  refine pure_of (T := [(39, .fc F39), (87, .fc F87)]) ⟨⟨p39, q39⟩, ⟨p87, q87⟩, trivial⟩ Try.func37 k37 ?_
  rintro args K ⟨L, rfl, hK⟩
  simp only [inr64, ↓reduceIte, ite_true, ite_false, List.cons.injEq, ne_eq, not_true_eq_false, not_false_eq_true, reduceCtorEq, e_skip, e_reg, e_drw, e_seq, e_cond, e_block, e_loop, e_exit, e_ret, e_shut, e_scp, scpK_n, scpK_x, scpK_r, shutH, shut1, shutB, slQ, o_nil, o_cons, gd_none, gd_some, gdK_tt, gdK_tf, gdK_ft, gdK_ff, gdK_u, gdK_bt, gdK_bf, putK_e, runK_e, skipK_e, vK_e, boxK_e, bslK_e, bldK_e, storeK3_e, storeK2_e, storeK_e, appK2_oi, appK2_or, appK_e, conK_e, callK_e, callK_m, evh_v, evh_new, evh_box, evh_bsl, evh_bld, evh_store, evh_app, evh_call, evh_inv, evh_slc, slcK_e, appC_e, appK_c, appK_l, slO, bnd, slv, od_none, od_some, invK_e, invK2_e, lkm, dX_e, dX_b, dX_l, dG_t, dG_f, d_nil, d_cons, creK_e, tlK_n, tlK_s, evc_e, loopK_n, loopK_x, loopK_r, seqK_n, seqK_x, seqK_r, condK_t, condK_f, condK_b, exitK_t, exitK_f, blockK_x, blockK_n, blockK_r, ends_r, ends_n, endK1_e, endK2_e, gam_e, gamK_f, gamK_p, gamK_c, gamq_e, gamqK_f, pc_e, pcK_e, fcC_e, fcK_e, evp, fit, InQ, nilq, nb, bin, binB, gt, gq, st, putf, X.get, gets, getp, ap, mkfr, rep, rdR, tupled, clV, clL, clS, clo, clo.clos, asB, ld, lda, lens, ixs, tk, dr, sp, sp.spl, lay, ll, cs1, one, allOne, gb, sb, pb, ln, lk, evq, gdl, crv, Value.oneCell', undef, Bool.and_true, Bool.true_and, Bool.not_true, Bool.not_false, cond_true, cond_false, Nat.reduceSub, Nat.reduceAdd, Nat.reduceMul, Nat.reduceDiv, Nat.reduceBEq, beq_self_eq_true, true_and, and_true, decide_eq_true_eq, decide_eq_false_iff_not, Bool.not_eq_eq_eq_not, sts, s37, r37, F39]
  have base : spansB L = true ↔ (1 ≤ L.length ∧ L.length ≤ 64) ∧ L.all spE = true := by
    unfold spansB; simp only [Bool.and_eq_true, decide_eq_true_eq]
  have key : ∀ (i : Nat) (ok : Bool), i ≤ L.length → (ok = true ↔ (1 ≤ L.length ∧ L.length ≤ 64) ∧ (L.take i).all spE = true) → (ok = false ∨ i = L.length) → ok = spansB L := by
    intro i ok hi h1 h2
    rcases h2 with rfl | rfl
    · symm
      rw [Bool.eq_false_iff]
      intro h3
      have h4 := base.1 h3
      exact absurd (h1.2 ⟨h4.1, allS_take h4.2 i⟩) (by simp)
    · rw [List.take_length] at h1
      cases ok
      · symm
        rw [Bool.eq_false_iff]
        exact fun h3 => absurd (h1.2 (base.1 h3)) (by simp)
      · exact (base.2 (h1.1 rfl)).symm
  refine loop_at2 (G := Nat × Bool) (fun g => [(5, .int .i64 g.1), (4, .bool g.2)]) (fun g => [])
    (fun g => g.1 ≤ L.length ∧ (g.2 = true ↔ (1 ≤ L.length ∧ L.length ≤ 64) ∧ (L.take g.1).all spE = true)) (fun g => L.length - g.1)
    (0, decide (1 ≤ L.length ∧ L.length ≤ 64)) ⟨Nat.zero_le _, by simp⟩ ?_
  (intro fr1 hf1; simp only [forget, dstC, dstO, dstD, dst1, st] at hf1; subst hf1)
  refine ⟨?_, ?_⟩
  · refine Lw_re 0 [] (Nat.zero_le _) (by simp [ln]) (by simp [ln]) rfl ?_ ?_
    · simp only [reL, reX, reH, reB, reM, reN, newB, rn, once, gb, List.getElem?_cons_zero, List.getElem?_cons_succ, Nat.reduceSub, Nat.reduceLeDiff, Nat.lt_irrefl, Nat.le_refl, false_and, or_false, false_or, and_false, reduceCtorEq, true_or, or_true, leL, leX, leH, leB, news, inb, inb.inbs, ln, sts, st, Bool.and_self, Bool.and_true, Bool.true_and, Nat.reduceLT, Nat.reduceAdd, decide_true, true_and, and_true, and_self, SV.agg.injEq, Int.natCast_zero, implies_true]
      rw [decide_eq_decide]; omega
    · simp only [reL, reX, reH, reB, reM, reN, newB, rn, once, gb, List.getElem?_cons_zero, List.getElem?_cons_succ, Nat.reduceSub, Nat.reduceLeDiff, Nat.lt_irrefl, Nat.le_refl, false_and, or_false, false_or, and_false, reduceCtorEq, true_or, or_true, leL, leX, leH, leB, news, inb, inb.inbs, ln, sts, st, Bool.and_self, Bool.and_true, Bool.true_and, Nat.reduceLT, Nat.reduceAdd, decide_true, true_and, and_true, and_self, SV.agg.injEq]
  · rintro ⟨i, ok⟩ ⟨hi1, hp⟩
    dsimp only at hi1 hp
    simp only [inr64, ↓reduceIte, ite_true, ite_false, List.cons.injEq, ne_eq, not_true_eq_false, not_false_eq_true, reduceCtorEq, e_skip, e_reg, e_drw, e_seq, e_cond, e_block, e_loop, e_exit, e_ret, e_shut, e_scp, scpK_n, scpK_x, scpK_r, shutH, shut1, shutB, slQ, o_nil, o_cons, gd_none, gd_some, gdK_tt, gdK_tf, gdK_ft, gdK_ff, gdK_u, gdK_bt, gdK_bf, putK_e, runK_e, skipK_e, vK_e, boxK_e, bslK_e, bldK_e, storeK3_e, storeK2_e, storeK_e, appK2_oi, appK2_or, appK_e, conK_e, callK_e, callK_m, evh_v, evh_new, evh_box, evh_bsl, evh_bld, evh_store, evh_app, evh_call, evh_inv, evh_slc, slcK_e, appC_e, appK_c, appK_l, slO, bnd, slv, od_none, od_some, invK_e, invK2_e, lkm, dX_e, dX_b, dX_l, dG_t, dG_f, d_nil, d_cons, creK_e, tlK_n, tlK_s, evc_e, loopK_n, loopK_x, loopK_r, seqK_n, seqK_x, seqK_r, condK_t, condK_f, condK_b, exitK_t, exitK_f, blockK_x, blockK_n, blockK_r, ends_r, ends_n, endK1_e, endK2_e, gam_e, gamK_f, gamK_p, gamK_c, gamq_e, gamqK_f, pc_e, pcK_e, fcC_e, fcK_e, evp, fit, InQ, nilq, nb, bin, binB, gt, gq, st, putf, X.get, gets, getp, ap, mkfr, rep, rdR, tupled, clV, clL, clS, clo, clo.clos, asB, ld, lda, lens, ixs, tk, dr, sp, sp.spl, lay, ll, cs1, one, allOne, gb, sb, pb, ln, lk, evq, gdl, crv, Value.oneCell', undef, Bool.and_true, Bool.true_and, Bool.not_true, Bool.not_false, cond_true, cond_false, Nat.reduceSub, Nat.reduceAdd, Nat.reduceMul, Nat.reduceDiv, Nat.reduceBEq, beq_self_eq_true, true_and, and_true, decide_eq_true_eq, decide_eq_false_iff_not, Bool.not_eq_eq_eq_not, sts, F87, Int.toNat_natCast, rowsS]
    refine ⟨fun hok => ⟨fun h => ?_, fun h => ?_⟩, fun hok => ?_⟩
    · have ha : i < L.length := by omega
      have r0 := (hp.1 hok).1
      refine ⟨by omega, by omega, ?_⟩
      refine Nx.mk (i + 1, decide (-1000000 ≤ lo L i ∧ lo L i ≤ hi L i ∧ hi L i ≤ 1000000)) ⟨by simp only; omega, ?_⟩ (by simp only; omega) (Lw_re 0 [] (Nat.zero_le _) (by simp [ln]) (by simp [ln]) rfl ?_ ?_)
      · obtain ⟨r1, r2⟩ := hp.1 hok
        have e : spE (L.getD i (0, 0)) = true ↔ lo L i ≤ hi L i ∧ -1000000 ≤ lo L i ∧ hi L i ≤ 1000000 := spE_iff
        simp only [allS_snoc ha, r2, Bool.true_and, e, decide_eq_true_eq]
        exact ⟨fun h => ⟨r1, h.2.1, h.1, h.2.2⟩, fun h => ⟨h.2.2.1, h.2.1, h.2.2.2⟩⟩
      · simp only [reL, reX, reH, reB, reM, reN, newB, rn, once, gb, List.getElem?_cons_zero, List.getElem?_cons_succ, Nat.reduceSub, Nat.reduceLeDiff, Nat.lt_irrefl, Nat.le_refl, false_and, or_false, false_or, and_false, reduceCtorEq, true_or, or_true, leL, leX, leH, leB, news, inb, inb.inbs, ln, sts, st, Bool.and_self, Bool.and_true, Bool.true_and, Nat.reduceLT, Nat.reduceAdd, decide_true, true_and, and_true, and_self, SV.agg.injEq, Int.natCast_add, Int.natCast_one, implies_true]
      · simp only [reL, reX, reH, reB, reM, reN, newB, rn, once, gb, List.getElem?_cons_zero, List.getElem?_cons_succ, Nat.reduceSub, Nat.reduceLeDiff, Nat.lt_irrefl, Nat.le_refl, false_and, or_false, false_or, and_false, reduceCtorEq, true_or, or_true, leL, leX, leH, leB, news, inb, inb.inbs, ln, sts, st, Bool.and_self, Bool.and_true, Bool.true_and, Nat.reduceLT, Nat.reduceAdd, decide_true, true_and, and_true, and_self, SV.agg.injEq]
    · have kk := key i ok hi1 hp (.inr (by omega))
      refine ⟨fun h => absurd h (by simp [hok]), fun _ => ?_⟩
      obtain ⟨⟨q1, q2⟩, _⟩ := hp.1 hok
      refine loop_at2 (G := Nat) (fun g => [(7, .int .i64 ((g : Int) + 1)), (6, .own 0)]) (fun g => [.oi .i64 3 (persL L g)]) (fun g => g ≤ L.length) (fun g => L.length - g) 0 (Nat.zero_le _) ?_
      (intro fr1 hf1; simp only [forget, dstC, dstO, dstD, dst1, st] at hf1; subst hf1)
      refine ⟨?_, ?_⟩
      · refine Lw_re 0 [none] (Nat.zero_le _) (by simp [ln]) (by simp [ln]) rfl ?_ ?_
        · simp only [reL, reX, reH, reB, reM, reN, newB, rn, once, gb, List.getElem?_cons_zero, List.getElem?_cons_succ, Nat.reduceSub, Nat.reduceLeDiff, Nat.lt_irrefl, Nat.le_refl, false_and, or_false, false_or, and_false, reduceCtorEq, true_or, or_true, leL, leX, leH, leB, news, inb, inb.inbs, ln, sts, st, Bool.and_self, Bool.and_true, Bool.true_and, Nat.reduceLT, Nat.reduceAdd, decide_true, true_and, and_true, and_self, SV.agg.injEq, Int.natCast_zero, Int.zero_add, implies_true]
        · simp only [reL, reX, reH, reB, reM, reN, newB, rn, once, gb, List.getElem?_cons_zero, List.getElem?_cons_succ, Nat.reduceSub, Nat.reduceLeDiff, Nat.lt_irrefl, Nat.le_refl, false_and, or_false, false_or, and_false, reduceCtorEq, true_or, or_true, leL, leX, leH, leB, news, inb, inb.inbs, ln, sts, st, Bool.and_self, Bool.and_true, Bool.true_and, Nat.reduceLT, Nat.reduceAdd, decide_true, true_and, and_true, and_self, SV.agg.injEq, persL, List.range_zero, List.filter_nil, List.map_nil]
      · intro g hg
        simp only [inr64, ↓reduceIte, ite_true, ite_false, List.cons.injEq, ne_eq, not_true_eq_false, not_false_eq_true, reduceCtorEq, e_skip, e_reg, e_drw, e_seq, e_cond, e_block, e_loop, e_exit, e_ret, e_shut, e_scp, scpK_n, scpK_x, scpK_r, shutH, shut1, shutB, slQ, o_nil, o_cons, gd_none, gd_some, gdK_tt, gdK_tf, gdK_ft, gdK_ff, gdK_u, gdK_bt, gdK_bf, putK_e, runK_e, skipK_e, vK_e, boxK_e, bslK_e, bldK_e, storeK3_e, storeK2_e, storeK_e, appK2_oi, appK2_or, appK_e, conK_e, callK_e, callK_m, evh_v, evh_new, evh_box, evh_bsl, evh_bld, evh_store, evh_app, evh_call, evh_inv, evh_slc, slcK_e, appC_e, appK_c, appK_l, slO, bnd, slv, od_none, od_some, invK_e, invK2_e, lkm, dX_e, dX_b, dX_l, dG_t, dG_f, d_nil, d_cons, creK_e, tlK_n, tlK_s, evc_e, loopK_n, loopK_x, loopK_r, seqK_n, seqK_x, seqK_r, condK_t, condK_f, condK_b, exitK_t, exitK_f, blockK_x, blockK_n, blockK_r, ends_r, ends_n, endK1_e, endK2_e, gam_e, gamK_f, gamK_p, gamK_c, gamq_e, gamqK_f, pc_e, pcK_e, fcC_e, fcK_e, evp, fit, InQ, nilq, nb, bin, binB, gt, gq, st, putf, X.get, gets, getp, ap, mkfr, rep, rdR, tupled, clV, clL, clS, clo, clo.clos, asB, ld, lda, lens, ixs, tk, dr, sp, sp.spl, lay, ll, cs1, one, allOne, gb, sb, pb, ln, lk, evq, gdl, crv, Value.oneCell', undef, Bool.and_true, Bool.true_and, Bool.not_true, Bool.not_false, cond_true, cond_false, Nat.reduceSub, Nat.reduceAdd, Nat.reduceMul, Nat.reduceDiv, Nat.reduceBEq, beq_self_eq_true, true_and, and_true, decide_eq_true_eq, decide_eq_false_iff_not, Bool.not_eq_eq_eq_not, sts, Int.toNat_natCast, rowsS]
        refine ⟨fun h2 => ?_, fun h2 => ?_⟩
        · refine loop_at2 (G := Nat × Bool) (fun q => [(9, .int .i64 q.1), (8, .bool q.2)]) (fun q => [.oi .i64 3 (persL L g)])
            (fun q => q.1 ≤ L.length ∧ (q.2 = true ↔ ∀ i k, i < q.1 → i ≤ k → k < L.length → i % (g + 1) = k % (g + 1) → lo L k ≤ hi L i ∧ lo L i ≤ hi L k)) (fun q => L.length - q.1) (0, true) ⟨Nat.zero_le _, by simp⟩ ?_
          (intro fr1 hf1; simp only [forget, dstC, dstO, dstD, dst1, st] at hf1; subst hf1)
          refine ⟨?_, ?_⟩
          · refine Lw_re 1 [] (Nat.zero_le _) (by simp [ln]) (by simp [ln]) rfl ?_ ?_
            · simp only [reL, reX, reH, reB, reM, reN, newB, rn, once, gb, List.getElem?_cons_zero, List.getElem?_cons_succ, Nat.reduceSub, Nat.reduceLeDiff, Nat.lt_irrefl, Nat.le_refl, false_and, or_false, false_or, and_false, reduceCtorEq, true_or, or_true, leL, leX, leH, leB, news, inb, inb.inbs, ln, sts, st, Bool.and_self, Bool.and_true, Bool.true_and, Nat.reduceLT, Nat.reduceAdd, decide_true, true_and, and_true, and_self, SV.agg.injEq, Int.natCast_zero, implies_true]
            · simp only [reL, reX, reH, reB, reM, reN, newB, rn, once, gb, List.getElem?_cons_zero, List.getElem?_cons_succ, Nat.reduceSub, Nat.reduceLeDiff, Nat.lt_irrefl, Nat.le_refl, false_and, or_false, false_or, and_false, reduceCtorEq, true_or, or_true, leL, leX, leH, leB, news, inb, inb.inbs, ln, sts, st, Bool.and_self, Bool.and_true, Bool.true_and, Nat.reduceLT, Nat.reduceAdd, decide_true, true_and, and_true, and_self, SV.agg.injEq]
          · rintro ⟨i2, ok2⟩ ⟨hi2, hp2⟩
            dsimp only at hi2 hp2
            simp only [inr64, ↓reduceIte, ite_true, ite_false, List.cons.injEq, ne_eq, not_true_eq_false, not_false_eq_true, reduceCtorEq, e_skip, e_reg, e_drw, e_seq, e_cond, e_block, e_loop, e_exit, e_ret, e_shut, e_scp, scpK_n, scpK_x, scpK_r, shutH, shut1, shutB, slQ, o_nil, o_cons, gd_none, gd_some, gdK_tt, gdK_tf, gdK_ft, gdK_ff, gdK_u, gdK_bt, gdK_bf, putK_e, runK_e, skipK_e, vK_e, boxK_e, bslK_e, bldK_e, storeK3_e, storeK2_e, storeK_e, appK2_oi, appK2_or, appK_e, conK_e, callK_e, callK_m, evh_v, evh_new, evh_box, evh_bsl, evh_bld, evh_store, evh_app, evh_call, evh_inv, evh_slc, slcK_e, appC_e, appK_c, appK_l, slO, bnd, slv, od_none, od_some, invK_e, invK2_e, lkm, dX_e, dX_b, dX_l, dG_t, dG_f, d_nil, d_cons, creK_e, tlK_n, tlK_s, evc_e, loopK_n, loopK_x, loopK_r, seqK_n, seqK_x, seqK_r, condK_t, condK_f, condK_b, exitK_t, exitK_f, blockK_x, blockK_n, blockK_r, ends_r, ends_n, endK1_e, endK2_e, gam_e, gamK_f, gamK_p, gamK_c, gamq_e, gamqK_f, pc_e, pcK_e, fcC_e, fcK_e, evp, fit, InQ, nilq, nb, bin, binB, gt, gq, st, putf, X.get, gets, getp, ap, mkfr, rep, rdR, tupled, clV, clL, clS, clo, clo.clos, asB, ld, lda, lens, ixs, tk, dr, sp, sp.spl, lay, ll, cs1, one, allOne, gb, sb, pb, ln, lk, evq, gdl, crv, Value.oneCell', undef, Bool.and_true, Bool.true_and, Bool.not_true, Bool.not_false, cond_true, cond_false, Nat.reduceSub, Nat.reduceAdd, Nat.reduceMul, Nat.reduceDiv, Nat.reduceBEq, beq_self_eq_true, true_and, and_true, decide_eq_true_eq, decide_eq_false_iff_not, Bool.not_eq_eq_eq_not, sts, Int.toNat_natCast, rowsS]
            refine ⟨fun h3 => ?_, fun h3 => ?_⟩
            · have ha2 : i2 < L.length := by omega
              refine loop_at2 (G := Nat × Bool) (fun q => [(10, .int .i64 q.1), (8, .bool q.2)]) (fun q => [.oi .i64 3 (persL L g)])
                (fun q => (i2 ≤ q.1 ∧ q.1 % (g + 1) = i2 % (g + 1) ∧ q.1 < L.length + (g + 1)) ∧ (q.2 = true ↔ ok2 = true ∧ ∀ k, i2 ≤ k → k < q.1 → k < L.length → i2 % (g + 1) = k % (g + 1) → lo L k ≤ hi L i2 ∧ lo L i2 ≤ hi L k)) (fun q => L.length + (g + 1) - q.1)
                (i2, ok2) ⟨⟨Nat.le_refl _, rfl, by omega⟩, ⟨fun h => ⟨h, fun k k1 k2 => absurd k2 (by show ¬ k < i2; omega)⟩, fun h => h.1⟩⟩ ?_
              (intro fr1 hf1; simp only [forget, dstC, dstO, dstD, dst1, st] at hf1; subst hf1)
              refine ⟨?_, ?_⟩
              · refine Lw_re 1 [] (Nat.zero_le _) (by simp [ln]) (by simp [ln]) rfl ?_ ?_
                · simp only [reL, reX, reH, reB, reM, reN, newB, rn, once, gb, List.getElem?_cons_zero, List.getElem?_cons_succ, Nat.reduceSub, Nat.reduceLeDiff, Nat.lt_irrefl, Nat.le_refl, false_and, or_false, false_or, and_false, reduceCtorEq, true_or, or_true, leL, leX, leH, leB, news, inb, inb.inbs, ln, sts, st, Bool.and_self, Bool.and_true, Bool.true_and, Nat.reduceLT, Nat.reduceAdd, decide_true, true_and, and_true, and_self, SV.agg.injEq, Int.natCast_zero, implies_true]
                · simp only [reL, reX, reH, reB, reM, reN, newB, rn, once, gb, List.getElem?_cons_zero, List.getElem?_cons_succ, Nat.reduceSub, Nat.reduceLeDiff, Nat.lt_irrefl, Nat.le_refl, false_and, or_false, false_or, and_false, reduceCtorEq, true_or, or_true, leL, leX, leH, leB, news, inb, inb.inbs, ln, sts, st, Bool.and_self, Bool.and_true, Bool.true_and, Nat.reduceLT, Nat.reduceAdd, decide_true, true_and, and_true, and_self, SV.agg.injEq]
              · rintro ⟨k, ok3⟩ ⟨⟨k1, k2, k3⟩, hp3⟩
                dsimp only at k1 k2 k3 hp3
                simp only [inr64, ↓reduceIte, ite_true, ite_false, List.cons.injEq, ne_eq, not_true_eq_false, not_false_eq_true, reduceCtorEq, e_skip, e_reg, e_drw, e_seq, e_cond, e_block, e_loop, e_exit, e_ret, e_shut, e_scp, scpK_n, scpK_x, scpK_r, shutH, shut1, shutB, slQ, o_nil, o_cons, gd_none, gd_some, gdK_tt, gdK_tf, gdK_ft, gdK_ff, gdK_u, gdK_bt, gdK_bf, putK_e, runK_e, skipK_e, vK_e, boxK_e, bslK_e, bldK_e, storeK3_e, storeK2_e, storeK_e, appK2_oi, appK2_or, appK_e, conK_e, callK_e, callK_m, evh_v, evh_new, evh_box, evh_bsl, evh_bld, evh_store, evh_app, evh_call, evh_inv, evh_slc, slcK_e, appC_e, appK_c, appK_l, slO, bnd, slv, od_none, od_some, invK_e, invK2_e, lkm, dX_e, dX_b, dX_l, dG_t, dG_f, d_nil, d_cons, creK_e, tlK_n, tlK_s, evc_e, loopK_n, loopK_x, loopK_r, seqK_n, seqK_x, seqK_r, condK_t, condK_f, condK_b, exitK_t, exitK_f, blockK_x, blockK_n, blockK_r, ends_r, ends_n, endK1_e, endK2_e, gam_e, gamK_f, gamK_p, gamK_c, gamq_e, gamqK_f, pc_e, pcK_e, fcC_e, fcK_e, evp, fit, InQ, nilq, nb, bin, binB, gt, gq, st, putf, X.get, gets, getp, ap, mkfr, rep, rdR, tupled, clV, clL, clS, clo, clo.clos, asB, ld, lda, lens, ixs, tk, dr, sp, sp.spl, lay, ll, cs1, one, allOne, gb, sb, pb, ln, lk, evq, gdl, crv, Value.oneCell', undef, Bool.and_true, Bool.true_and, Bool.not_true, Bool.not_false, cond_true, cond_false, Nat.reduceSub, Nat.reduceAdd, Nat.reduceMul, Nat.reduceDiv, Nat.reduceBEq, beq_self_eq_true, true_and, and_true, decide_eq_true_eq, decide_eq_false_iff_not, Bool.not_eq_eq_eq_not, sts, Int.toNat_natCast, rowsS]
                have ext : ∀ b3 : Bool, (b3 = true ↔ ok3 = true ∧ (lo L k ≤ hi L i2 ∧ lo L i2 ≤ hi L k)) → k < L.length →
                    (b3 = true ↔ ok2 = true ∧ ∀ j, i2 ≤ j → j < k + (g + 1) → j < L.length → i2 % (g + 1) = j % (g + 1) → lo L j ≤ hi L i2 ∧ lo L i2 ≤ hi L j) := by
                  intro b3 hb3 hkl
                  rw [hb3]
                  constructor
                  · rintro ⟨c1, c2⟩
                    obtain ⟨d1, d2⟩ := hp3.1 c1
                    refine ⟨d1, fun j j1 j2 j3 j4 => ?_⟩
                    by_cases hjk : j < k
                    · exact d2 j j1 hjk j3 j4
                    · have e : j = k := by
                        have h1 : (j - k) % (g + 1) = 0 := Nat.sub_mod_eq_zero_of_mod_eq (by rw [← j4, k2])
                        rw [Nat.mod_eq_of_lt (by omega)] at h1
                        omega
                      subst e
                      exact c2
                  · rintro ⟨d1, d2⟩
                    exact ⟨hp3.2 ⟨d1, fun j j1 j2 j3 j4 => d2 j j1 (by omega) j3 j4⟩, d2 k k1 (by omega) hkl k2.symm⟩
                refine ⟨fun h4 => ⟨fun h5 => ⟨by omega, by omega, fun h6 => ⟨by omega, by omega, by omega, ?_⟩, fun h6 => ⟨by omega, ?_⟩⟩, fun h5 => ⟨by omega, ?_⟩⟩, fun h4 => ⟨by omega, ?_⟩⟩
                · refine Nx.mk (k + (g + 1), decide (lo L i2 ≤ hi L k)) ⟨⟨by simp only; omega, by simp only; rw [Nat.add_mod_right]; exact k2, by simp only; omega⟩, ext _ (by simp [h5, h6]) (by omega)⟩ (by show L.length + (g + 1) - (k + (g + 1)) < L.length + (g + 1) - k; omega) (Lw_re 1 [] (Nat.zero_le _) (by simp [ln]) (by simp [ln]) rfl ?_ ?_)
                  · simp only [reL, reX, reH, reB, reM, reN, newB, rn, once, gb, List.getElem?_cons_zero, List.getElem?_cons_succ, Nat.reduceSub, Nat.reduceLeDiff, Nat.lt_irrefl, Nat.le_refl, false_and, or_false, false_or, and_false, reduceCtorEq, true_or, or_true, leL, leX, leH, leB, news, inb, inb.inbs, ln, sts, st, Bool.and_self, Bool.and_true, Bool.true_and, Nat.reduceLT, Nat.reduceAdd, decide_true, true_and, and_true, and_self, SV.agg.injEq, Int.natCast_add, Int.natCast_one, implies_true]
                  · simp only [reL, reX, reH, reB, reM, reN, newB, rn, once, gb, List.getElem?_cons_zero, List.getElem?_cons_succ, Nat.reduceSub, Nat.reduceLeDiff, Nat.lt_irrefl, Nat.le_refl, false_and, or_false, false_or, and_false, reduceCtorEq, true_or, or_true, leL, leX, leH, leB, news, inb, inb.inbs, ln, sts, st, Bool.and_self, Bool.and_true, Bool.true_and, Nat.reduceLT, Nat.reduceAdd, decide_true, true_and, and_true, and_self, SV.agg.injEq]
                · refine Nx.mk (k + (g + 1), false) ⟨⟨by simp only; omega, by simp only; rw [Nat.add_mod_right]; exact k2, by simp only; omega⟩, ext _ (by simp [h5, h6]) (by omega)⟩ (by show L.length + (g + 1) - (k + (g + 1)) < L.length + (g + 1) - k; omega) (Lw_re 1 [] (Nat.zero_le _) (by simp [ln]) (by simp [ln]) rfl ?_ ?_)
                  · simp only [reL, reX, reH, reB, reM, reN, newB, rn, once, gb, List.getElem?_cons_zero, List.getElem?_cons_succ, Nat.reduceSub, Nat.reduceLeDiff, Nat.lt_irrefl, Nat.le_refl, false_and, or_false, false_or, and_false, reduceCtorEq, true_or, or_true, leL, leX, leH, leB, news, inb, inb.inbs, ln, sts, st, Bool.and_self, Bool.and_true, Bool.true_and, Nat.reduceLT, Nat.reduceAdd, decide_true, true_and, and_true, and_self, SV.agg.injEq, Int.natCast_add, Int.natCast_one, implies_true]
                  · simp only [reL, reX, reH, reB, reM, reN, newB, rn, once, gb, List.getElem?_cons_zero, List.getElem?_cons_succ, Nat.reduceSub, Nat.reduceLeDiff, Nat.lt_irrefl, Nat.le_refl, false_and, or_false, false_or, and_false, reduceCtorEq, true_or, or_true, leL, leX, leH, leB, news, inb, inb.inbs, ln, sts, st, Bool.and_self, Bool.and_true, Bool.true_and, Nat.reduceLT, Nat.reduceAdd, decide_true, true_and, and_true, and_self, SV.agg.injEq]
                · refine Nx.mk (k + (g + 1), false) ⟨⟨by simp only; omega, by simp only; rw [Nat.add_mod_right]; exact k2, by simp only; omega⟩, ext _ (by simp [h5]) (by omega)⟩ (by show L.length + (g + 1) - (k + (g + 1)) < L.length + (g + 1) - k; omega) (Lw_re 1 [] (Nat.zero_le _) (by simp [ln]) (by simp [ln]) rfl ?_ ?_)
                  · simp only [reL, reX, reH, reB, reM, reN, newB, rn, once, gb, List.getElem?_cons_zero, List.getElem?_cons_succ, Nat.reduceSub, Nat.reduceLeDiff, Nat.lt_irrefl, Nat.le_refl, false_and, or_false, false_or, and_false, reduceCtorEq, true_or, or_true, leL, leX, leH, leB, news, inb, inb.inbs, ln, sts, st, Bool.and_self, Bool.and_true, Bool.true_and, Nat.reduceLT, Nat.reduceAdd, decide_true, true_and, and_true, and_self, SV.agg.injEq, Int.natCast_add, Int.natCast_one, implies_true]
                  · simp only [reL, reX, reH, reB, reM, reN, newB, rn, once, gb, List.getElem?_cons_zero, List.getElem?_cons_succ, Nat.reduceSub, Nat.reduceLeDiff, Nat.lt_irrefl, Nat.le_refl, false_and, or_false, false_or, and_false, reduceCtorEq, true_or, or_true, leL, leX, leH, leB, news, inb, inb.inbs, ln, sts, st, Bool.and_self, Bool.and_true, Bool.true_and, Nat.reduceLT, Nat.reduceAdd, decide_true, true_and, and_true, and_self, SV.agg.injEq]
                · refine Nx.mk (i2 + 1, ok3) ⟨by simp only; omega, ?_⟩ (by show L.length - (i2 + 1) < L.length - i2; omega) (Lw_re 1 [] (Nat.zero_le _) (by simp [ln]) (by simp [ln]) rfl ?_ ?_)
                  · simp only
                    rw [hp3, hp2]
                    constructor
                    · rintro ⟨d1, d2⟩ i j i1 i2' j1 ij
                      by_cases hii : i < i2
                      · exact d1 i j hii i2' j1 ij
                      · have e : i = i2 := by omega
                        subst e
                        exact d2 j i2' (by omega) j1 ij
                    · intro d
                      exact ⟨fun i j i1 i2' j1 ij => d i j (by omega) i2' j1 ij, fun j j1 j2 j3 j4 => d i2 j (by omega) j1 j3 j4⟩
                  · simp only [reL, reX, reH, reB, reM, reN, newB, rn, once, gb, List.getElem?_cons_zero, List.getElem?_cons_succ, Nat.reduceSub, Nat.reduceLeDiff, Nat.lt_irrefl, Nat.le_refl, false_and, or_false, false_or, and_false, reduceCtorEq, true_or, or_true, leL, leX, leH, leB, news, inb, inb.inbs, ln, sts, st, Bool.and_self, Bool.and_true, Bool.true_and, Nat.reduceLT, Nat.reduceAdd, decide_true, true_and, and_true, and_self, SV.agg.injEq, Int.natCast_add, Int.natCast_one, implies_true]
                  · simp only [reL, reX, reH, reB, reM, reN, newB, rn, once, gb, List.getElem?_cons_zero, List.getElem?_cons_succ, Nat.reduceSub, Nat.reduceLeDiff, Nat.lt_irrefl, Nat.le_refl, false_and, or_false, false_or, and_false, reduceCtorEq, true_or, or_true, leL, leX, leH, leB, news, inb, inb.inbs, ln, sts, st, Bool.and_self, Bool.and_true, Bool.true_and, Nat.reduceLT, Nat.reduceAdd, decide_true, true_and, and_true, and_self, SV.agg.injEq]
            · have e2 : ok2 = perB L (g + 1) := by
                rw [Bool.eq_iff_iff, hp2, perB_iff]
                constructor
                · intro d i k i1 k1 ik
                  by_cases hik : i ≤ k
                  · exact (d i k (by omega) hik k1 ik).2
                  · exact (d k i (by omega) (by omega) i1 ik.symm).1
                · intro d i k i1 ik k1 e
                  exact ⟨d k i k1 (by omega) e.symm, d i k (by omega) k1 e⟩
              have hpl := persL_len L g
              subst e2
              refine ⟨fun h5 => ⟨by omega, by omega, ?_⟩, fun h5 => ⟨by omega, ?_⟩⟩
              · refine Nx.mk (g + 1) (by show g + 1 ≤ L.length; omega) (by show L.length - (g + 1) < L.length - g; omega) (Lw_re 0 [some 2] (Nat.zero_le _) (by simp [ln]) (by simp [ln]) rfl ?_ ?_)
                · simp only [reL, reX, reH, reB, reM, reN, newB, rn, once, gb, List.getElem?_cons_zero, List.getElem?_cons_succ, Nat.reduceSub, Nat.reduceLeDiff, Nat.lt_irrefl, Nat.le_refl, false_and, or_false, false_or, and_false, reduceCtorEq, true_or, or_true, leL, leX, leH, leB, news, inb, inb.inbs, ln, sts, st, Bool.and_self, Bool.and_true, Bool.true_and, Nat.reduceLT, Nat.reduceAdd, decide_true, true_and, and_true, and_self, SV.agg.injEq, Int.natCast_add, Int.natCast_one, implies_true]
                · simp only [reL, reX, reH, reB, reM, reN, newB, rn, once, gb, List.getElem?_cons_zero, List.getElem?_cons_succ, Nat.reduceSub, Nat.reduceLeDiff, Nat.lt_irrefl, Nat.le_refl, false_and, or_false, false_or, and_false, reduceCtorEq, true_or, or_true, leL, leX, leH, leB, news, inb, inb.inbs, ln, sts, st, Bool.and_self, Bool.and_true, Bool.true_and, Nat.reduceLT, Nat.reduceAdd, decide_true, true_and, and_true, and_self, SV.agg.injEq, persL_snoc, h5]
                  simp
              · refine Nx.mk (g + 1) (by show g + 1 ≤ L.length; omega) (by show L.length - (g + 1) < L.length - g; omega) (Lw_re 1 [] (Nat.zero_le _) (by simp [ln]) (by simp [ln]) rfl ?_ ?_)
                · simp only [reL, reX, reH, reB, reM, reN, newB, rn, once, gb, List.getElem?_cons_zero, List.getElem?_cons_succ, Nat.reduceSub, Nat.reduceLeDiff, Nat.lt_irrefl, Nat.le_refl, false_and, or_false, false_or, and_false, reduceCtorEq, true_or, or_true, leL, leX, leH, leB, news, inb, inb.inbs, ln, sts, st, Bool.and_self, Bool.and_true, Bool.true_and, Nat.reduceLT, Nat.reduceAdd, decide_true, true_and, and_true, and_self, SV.agg.injEq, Int.natCast_add, Int.natCast_one, implies_true]
                · simp only [reL, reX, reH, reB, reM, reN, newB, rn, once, gb, List.getElem?_cons_zero, List.getElem?_cons_succ, Nat.reduceSub, Nat.reduceLeDiff, Nat.lt_irrefl, Nat.le_refl, false_and, or_false, false_or, and_false, reduceCtorEq, true_or, or_true, leL, leX, leH, leB, news, inb, inb.inbs, ln, sts, st, Bool.and_self, Bool.and_true, Bool.true_and, Nat.reduceLT, Nat.reduceAdd, decide_true, true_and, and_true, and_self, SV.agg.injEq, persL_snoc, h5]
                  simp
        · have e : g = L.length := by omega
          refine res hK ?_
          subst e
          simp [leR, leR.leRs, ← kk, hok]
    · have kk := key i ok hi1 hp (.inl hok)
      refine ⟨fun _ => res hK (by simp [leR, leR.leRs, ← kk, hok]), fun h => absurd h (by simp [hok])⟩
end Go.Proofs.Ytbbbpdajikblbaa
