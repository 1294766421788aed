/- Places, windows: what the program's and the specification's functions of laps return, for all lists. -/
import Derived.Test.YtbbbpdajikblbaaVgN1
namespace Go.Proofs.Ytbbbpdajikblbaa
open Go Go.Vg
set_option linter.unusedSimpArgs false
set_option linter.unusedVariables false
set_option maxRecDepth 10000
/- 79: octant/screw.arePlaces -/
def s79 : SC :=
  (.seq (.reg [⟨(some 2), none, .v (.mov (.c (.lit (.bool false))))⟩])
  (.seq (.seq (.reg [⟨(some 5), none, .v (.mov (.t 0))⟩,
    ⟨(some 6), none, .v (.len (.t 5))⟩,
    ⟨(some 7), none, .call (.c (.fn 60 [])) [(.t 6), (.c (.int .i64 (1))), (.c (.int .i64 (64)))]⟩,
    ⟨(some 8), none, .v (.not (.t 7))⟩])
  (.cond (.t 8)
    (.seq (.reg [⟨(some 2), none, .v (.mov (.c (.lit (.bool false))))⟩])
    .ret)
    .skip))
  (.seq (.seq (.reg [⟨(some 9), none, .v (.mov (.t 0))⟩,
    ⟨(some 10), none, .v (.len (.t 9))⟩,
    ⟨(some 11), none, .v (.mov (.c (.int .i64 (0))))⟩])
  (.block 0 (.loop
    (.seq (.reg [⟨(some 12), none, .v (.bin .lss (.t 11) (.t 10))⟩])
    (.seq (.cond (.t 12)
      .skip
      (.exit 0))
    (.seq (.block 1 (.seq (.reg [⟨(some 13), none, .v (.ixa (.t 9) (.t 11) 1)⟩,
      ⟨(some 14), none, .v (.load (.t 13) none)⟩,
      ⟨(some 4), none, .v (.mov (.t 14))⟩])
    (.seq (.reg [⟨(some 15), none, .v (.mov (.t 4))⟩,
      ⟨(some 16), none, .call (.c (.fn 60 [])) [(.t 15), (.c (.int .i64 (-1000000))), (.c (.int .i64 (1000000)))]⟩,
      ⟨(some 17), none, .v (.not (.t 16))⟩])
    (.cond (.t 17)
      (.seq (.reg [⟨(some 2), none, .v (.mov (.c (.lit (.bool false))))⟩])
      .ret)
      .skip))))
    (.reg [⟨(some 18), none, .v (.bin .add (.t 11) (.c (.int .i64 (1))))⟩,
      ⟨(some 11), none, .v (.mov (.t 18))⟩])))))))
  (.seq (.reg [⟨(some 2), none, .v (.mov (.c (.lit (.bool true))))⟩])
  .ret))))
def r79 : List RV := [.t 2]
def n79 : Nat := 19
theorem k79 : (Try.f79.body.bind (cC Try.prog), cR Try.prog Try.f79.results.toList, Try.f79.ntmps) = (some s79, some r79, 19) := by kernel_rfl
theorem q79 : Known Try.prog 79 := ⟨_, Try.func79, by decide, by simp [Try.f79]⟩

/- 81: octant/octantref02.places -/
def s81 : SC :=
  (.seq (.reg [⟨(some 4), none, .v (.mov (.c (.lit (.bool false))))⟩])
  (.seq (.reg [⟨(some 7), none, .v (.mov (.t 0))⟩,
    ⟨(some 8), none, .v (.len (.t 7))⟩,
    ⟨(some 9), none, .call (.c (.fn 39 [])) [(.t 8), (.c (.int .i64 (1))), (.c (.int .i64 (64)))]⟩,
    ⟨(some 10), none, .v (.mov (.t 9))⟩,
    ⟨(some 11), (some (10, true)), .v (.mov (.t 1))⟩,
    ⟨(some 12), (some (10, true)), .v (.mov (.t 0))⟩,
    ⟨(some 13), (some (10, true)), .v (.len (.t 12))⟩,
    ⟨(some 14), (some (10, true)), .call (.c (.fn 39 [])) [(.t 11), (.c (.int .i64 (1))), (.t 13)]⟩,
    ⟨(some 15), none, .v (.pick (.t 10) (.t 14) (.c (.lit (.bool false))))⟩,
    ⟨(some 5), none, .v (.mov (.t 15))⟩])
  (.seq (.seq (.reg [⟨(some 6), none, .v (.mov (.c (.int .i64 (0))))⟩])
  (.block 0 (.loop
    (.seq (.seq (.reg [⟨(some 16), none, .v (.mov (.t 5))⟩,
      ⟨(some 17), none, .v (.mov (.t 16))⟩,
      ⟨(some 18), (some (17, true)), .v (.mov (.t 6))⟩,
      ⟨(some 19), (some (17, true)), .v (.mov (.t 0))⟩,
      ⟨(some 20), (some (17, true)), .v (.len (.t 19))⟩,
      ⟨(some 21), (some (17, true)), .v (.bin .lss (.t 18) (.t 20))⟩,
      ⟨(some 22), none, .v (.pick (.t 17) (.t 21) (.c (.lit (.bool false))))⟩])
    (.cond (.t 22)
      .skip
      (.exit 0)))
    (.seq (.block 1 (.reg [⟨(some 25), none, .v (.mov (.t 0))⟩,
      ⟨(some 26), none, .v (.mov (.t 6))⟩,
      ⟨(some 27), none, .v (.ixa (.t 25) (.t 26) 1)⟩,
      ⟨(some 28), none, .v (.load (.t 27) none)⟩,
      ⟨(some 29), none, .call (.c (.fn 39 [])) [(.t 28), (.c (.int .i64 (-1000000))), (.c (.int .i64 (1000000)))]⟩,
      ⟨(some 5), none, .v (.mov (.t 29))⟩]))
    (.reg [⟨(some 23), none, .v (.mov (.t 6))⟩,
      ⟨(some 24), none, .v (.bin .add (.t 23) (.c (.int .i64 (1))))⟩,
      ⟨(some 6), none, .v (.mov (.t 24))⟩]))))))
  (.seq (.reg [⟨(some 30), none, .v (.mov (.t 5))⟩,
    ⟨(some 4), none, .v (.mov (.t 30))⟩])
  .ret))))
def r81 : List RV := [.t 4]
def n81 : Nat := 31
theorem k81 : (Try.f81.body.bind (cC Try.prog), cR Try.prog Try.f81.results.toList, Try.f81.ntmps) = (some s81, some r81, 31) := by kernel_rfl
theorem q81 : Known Try.prog 81 := ⟨_, Try.func81, by decide, by simp [Try.f81]⟩

/- 80: (octant/screw.length).lap -/
def s80 : SC :=
  (.seq (.reg [⟨(some 4), none, .v (.mov (.c (.lit (.slice none 0 0))))⟩])
  (.seq (.reg [⟨(some 5), none, .v (.mov (.c (.lit (.slice none 0 0))))⟩])
  (.seq (.seq (.reg [⟨(some 8), none, .v (.mov (.t 1))⟩,
    ⟨(some 9), none, .v (.len (.t 8))⟩,
    ⟨(some 10), none, .v (.mov (.t 0))⟩,
    ⟨(some 11), none, .v (.bin .sub (.t 9) (.t 10))⟩,
    ⟨(some 12), none, .v (.bin .add (.t 11) (.c (.int .i64 (1))))⟩,
    ⟨(some 13), none, .v (.mov (.c (.int .i64 (0))))⟩])
  (.block 0 (.loop
    (.seq (.reg [⟨(some 14), none, .v (.bin .lss (.t 13) (.t 12))⟩])
    (.seq (.cond (.t 14)
      .skip
      (.exit 0))
    (.seq (.block 1 (.seq (.reg [⟨(some 15), none, .v (.mov (.t 13))⟩,
      ⟨(some 6), none, .v (.mov (.t 15))⟩])
    (.seq (.reg [⟨(some 16), none, .v (.mov (.t 6))⟩,
      ⟨(some 17), none, .v (.mov (.t 0))⟩,
      ⟨(some 18), none, .v (.bin .add (.t 16) (.t 17))⟩,
      ⟨(some 7), none, .v (.mov (.t 18))⟩])
    (.reg [⟨(some 19), none, .v (.mov (.t 5))⟩,
      ⟨(some 20), none, .v (.mov (.t 1))⟩,
      ⟨(some 21), none, .v (.mov (.t 6))⟩,
      ⟨(some 22), none, .v (.mov (.t 7))⟩,
      ⟨(some 23), none, .v (.mov (.t 7))⟩,
      ⟨(some 24), none, .slc (.t 20) (some (.t 21)) (some (.t 22)) (some (.t 23)) 1⟩,
      ⟨(some 25), none, .call (.c (.fn 102 [])) [(.t 24)]⟩,
      ⟨(some 26), none, .bsl 3 1 [(.int .i64 (0))] [(0, 1, (.t 25))]⟩,
      ⟨(some 27), none, .app 3 1 8 (.t 19) (.t 26)⟩,
      ⟨(some 5), none, .v (.mov (.t 27))⟩]))))
    (.reg [⟨(some 28), none, .v (.bin .add (.t 13) (.c (.int .i64 (1))))⟩,
      ⟨(some 13), none, .v (.mov (.t 28))⟩])))))))
  (.seq (.reg [⟨(some 29), none, .v (.mov (.t 5))⟩,
    ⟨(some 30), none, .v (.mov (.t 5))⟩,
    ⟨(some 31), none, .v (.len (.t 30))⟩,
    ⟨(some 32), none, .v (.mov (.t 5))⟩,
    ⟨(some 33), none, .v (.len (.t 32))⟩,
    ⟨(some 34), none, .slc (.t 29) none (some (.t 31)) (some (.t 33)) 1⟩,
    ⟨(some 4), none, .v (.mov (.t 34))⟩])
  .ret))))
def r80 : List RV := [.t 4]
def n80 : Nat := 35
theorem k80 : (Try.f80.body.bind (cC Try.prog), cR Try.prog Try.f80.results.toList, Try.f80.ntmps) = (some s80, some r80, 35) := by kernel_rfl
theorem q80 : Known Try.prog 80 := ⟨_, Try.func80, by decide, by simp [Try.f80]⟩

/- 82: octant/octantref02.lapped -/
def s82 : SC :=
  (.seq (.reg [⟨(some 4), none, .v (.mov (.c (.lit (.slice none 0 0))))⟩])
  (.seq (.reg [⟨(some 5), none, .v (.mov (.c (.lit (.slice none 0 0))))⟩])
  (.seq (.seq (.reg [⟨(some 6), none, .v (.mov (.c (.int .i64 (0))))⟩])
  (.block 0 (.loop
    (.seq (.seq (.reg [⟨(some 7), none, .v (.mov (.t 6))⟩,
      ⟨(some 8), none, .v (.mov (.t 1))⟩,
      ⟨(some 9), none, .v (.bin .add (.t 7) (.t 8))⟩,
      ⟨(some 10), none, .v (.mov (.t 0))⟩,
      ⟨(some 11), none, .v (.len (.t 10))⟩,
      ⟨(some 12), none, .v (.bin .leq (.t 9) (.t 11))⟩])
    (.cond (.t 12)
      .skip
      (.exit 0)))
    (.seq (.block 1 (.reg [⟨(some 15), none, .v (.mov (.t 5))⟩,
      ⟨(some 16), none, .v (.mov (.t 0))⟩,
      ⟨(some 17), none, .v (.mov (.t 6))⟩,
      ⟨(some 18), none, .v (.mov (.t 6))⟩,
      ⟨(some 19), none, .v (.mov (.t 1))⟩,
      ⟨(some 20), none, .v (.bin .add (.t 18) (.t 19))⟩,
      ⟨(some 21), none, .slc (.t 16) (some (.t 17)) (some (.t 20)) none 1⟩,
      ⟨(some 22), none, .call (.c (.fn 49 [])) [(.t 21)]⟩,
      ⟨(some 23), none, .bsl 3 1 [(.int .i64 (0))] [(0, 1, (.t 22))]⟩,
      ⟨(some 24), none, .app 3 1 8 (.t 15) (.t 23)⟩,
      ⟨(some 5), none, .v (.mov (.t 24))⟩]))
    (.reg [⟨(some 13), none, .v (.mov (.t 6))⟩,
      ⟨(some 14), none, .v (.bin .add (.t 13) (.c (.int .i64 (1))))⟩,
      ⟨(some 6), none, .v (.mov (.t 14))⟩]))))))
  (.seq (.reg [⟨(some 25), none, .v (.mov (.t 5))⟩,
    ⟨(some 4), none, .v (.mov (.t 25))⟩])
  .ret))))
def r82 : List RV := [.t 4]
def n82 : Nat := 26
theorem k82 : (Try.f82.body.bind (cC Try.prog), cR Try.prog Try.f82.results.toList, Try.f82.ntmps) = (some s82, some r82, 26) := by kernel_rfl
theorem q82 : Known Try.prog 82 := ⟨_, Try.func82, by decide, by simp [Try.f82]⟩



def inE (x : Int) : Bool := decide (-1000000 ≤ x) && decide (x ≤ 1000000)
theorem inE_iff {x : Int} : inE x = true ↔ -1000000 ≤ x ∧ x ≤ 1000000 := by simp [inE]
/-- The errors are those of a screw's places. -/
def placesB (l : List Int) : Bool := decide (1 ≤ l.length ∧ l.length ≤ 64) && l.all inE
theorem placesB_iff {l : List Int} : placesB l = true ↔ (1 ≤ l.length ∧ l.length ≤ 64) ∧ within 1000000 l := by
  unfold placesB within
  simp only [Bool.and_eq_true, decide_eq_true_eq, List.all_eq_true, inE_iff]
theorem all_snoc {l : List Int} {i : Nat} (h : i < l.length) : (l.take (i + 1)).all inE = ((l.take i).all inE && inE (l.getD i 0)) := by
  rw [take_snoc h]; simp
theorem all_take {l : List Int} (h : l.all inE = true) (i : Nat) : (l.take i).all inE = true := by
  rw [List.all_eq_true] at h ⊢
  exact fun x hx => h x (List.mem_of_mem_take hx)
def F79 : FC := fun args => match args with
  | [.ints .i64 l] => some (True, .bool (placesB l))
  | _ => none
theorem p79 : PureOk Try.prog 79 (fcC F79) := by
  refine pure_of (T := [(60, .fc F39)]) ⟨⟨p60, q60⟩, trivial⟩ Try.func79 k79 ?_
  intro args K hC
  unfold fcC F79 at hC
  split at hC <;> first | (exact hC.elim) | skip
  rename_i h
  split at h <;> first | (cases h; done) | skip
  cases h
  rename_i l
  obtain ⟨-, hK⟩ := hC
  simp only [inr64, ↓reduceIte, ite_true, ite_false, List.cons.injEq, ne_eq, not_true_eq_false, not_false_eq_true, reduceCtorEq, e_skip, e_reg, e_drw, e_seq, e_cond, e_block, e_loop, e_exit, e_ret, e_shut, e_scp, scpK_n, scpK_x, scpK_r, shutH, shut1, shutB, slQ, o_nil, o_cons, gd_none, gd_some, gdK_tt, gdK_tf, gdK_ft, gdK_ff, gdK_u, gdK_bt, gdK_bf, putK_e, runK_e, skipK_e, vK_e, boxK_e, bslK_e, bldK_e, storeK3_e, storeK2_e, storeK_e, storeK_p, storeE_e, appK2_oi, appK2_or, appK_e, conK_e, callK_e, callK_m, evh_v, evh_new, evh_box, evh_bsl, evh_bld, evh_store, evh_app, evh_call, evh_inv, evh_slc, slcK_e, appC_e, appK_c, appK_l, slO, bnd, slv, od_none, od_some, invK_e, invK2_e, lkm, dX_e, dX_b, dX_l, dG_t, dG_f, d_nil, d_cons, creK_e, tlK_n, tlK_s, evc_e, loopK_n, loopK_x, loopK_r, seqK_n, seqK_x, seqK_r, condK_t, condK_f, condK_b, exitK_t, exitK_f, blockK_x, blockK_n, blockK_r, ends_r, ends_n, endK1_e, endK2_e, gam_e, gamK_f, gamK_p, gamK_c, gamq_e, gamqK_f, pc_e, pcK_e, fcC_e, fcK_e, evp, fit, InQ, nilq, nb, bin, binB, gt, gq, st, putf, X.get, gets, getp, ap, mkfr, rep, rdR, tupled, clV, clL, clS, clo, clo.clos, asB, ld, lda, lens, ixs, tk, dr, sp, sp.spl, lay, ll, cs1, one, allOne, gb, sb, pb, ln, lk, evq, gdl, crv, Value.oneCell', undef, Bool.and_true, Bool.true_and, Bool.not_true, Bool.not_false, cond_true, cond_false, Nat.reduceSub, Nat.reduceAdd, Nat.reduceMul, Nat.reduceDiv, Nat.reduceBEq, beq_self_eq_true, true_and, and_true, decide_eq_true_eq, decide_eq_false_iff_not, Bool.not_eq_eq_eq_not, sts, s79, r79, F39]
  refine ⟨fun h => ?_, fun h => ?_⟩
  · refine res hK ?_
    have : placesB l = false := by
      rw [Bool.eq_false_iff]
      intro h1
      have := (placesB_iff.1 h1).1
      omega
    simp [leR, this]
  · have h' : 1 ≤ l.length ∧ l.length ≤ 64 := by omega
    refine loop_at2 (G := Nat) (fun i => [(11, .int .i64 i)]) (fun i => []) (fun i => i ≤ l.length ∧ (l.take i).all inE = true) (fun i => l.length - i) 0 ⟨Nat.zero_le _, by simp⟩ ?_
    (intro fr1 hf1; simp only [forget, dstC, dstO, dstD, dst1, st] at hf1; subst hf1)
    refine ⟨?_, ?_⟩
    · refine Lw_re 0 [] (Nat.zero_le _) (by simp [ln]) (by simp [ln]) rfl ?_ ?_
      · simp only [reL, reX, reH, reB, reM, reN, newB, rn, once, gb, List.getElem?_cons_zero, List.getElem?_cons_succ, Nat.reduceSub, Nat.reduceLeDiff, Nat.lt_irrefl, Nat.le_refl, false_and, or_false, false_or, and_false, reduceCtorEq, true_or, or_true, leL, leX, leH, leB, news, inb, inb.inbs, ln, sts, st, Bool.and_self, Bool.and_true, Bool.true_and, Nat.reduceLT, Nat.reduceAdd, decide_true, true_and, and_true, and_self, SV.agg.injEq, Int.natCast_zero]
      · simp only [reL, reX, reH, reB, reM, reN, newB, rn, once, gb, List.getElem?_cons_zero, List.getElem?_cons_succ, Nat.reduceSub, Nat.reduceLeDiff, Nat.lt_irrefl, Nat.le_refl, false_and, or_false, false_or, and_false, reduceCtorEq, true_or, or_true, leL, leX, leH, leB, news, inb, inb.inbs, ln, sts, st, Bool.and_self, Bool.and_true, Bool.true_and, Nat.reduceLT, Nat.reduceAdd, decide_true, true_and, and_true, and_self, SV.agg.injEq]
    · rintro i ⟨hi, hp⟩
      simp only [inr64, ↓reduceIte, ite_true, ite_false, List.cons.injEq, ne_eq, not_true_eq_false, not_false_eq_true, reduceCtorEq, e_skip, e_reg, e_drw, e_seq, e_cond, e_block, e_loop, e_exit, e_ret, e_shut, e_scp, scpK_n, scpK_x, scpK_r, shutH, shut1, shutB, slQ, o_nil, o_cons, gd_none, gd_some, gdK_tt, gdK_tf, gdK_ft, gdK_ff, gdK_u, gdK_bt, gdK_bf, putK_e, runK_e, skipK_e, vK_e, boxK_e, bslK_e, bldK_e, storeK3_e, storeK2_e, storeK_e, storeK_p, storeE_e, appK2_oi, appK2_or, appK_e, conK_e, callK_e, callK_m, evh_v, evh_new, evh_box, evh_bsl, evh_bld, evh_store, evh_app, evh_call, evh_inv, evh_slc, slcK_e, appC_e, appK_c, appK_l, slO, bnd, slv, od_none, od_some, invK_e, invK2_e, lkm, dX_e, dX_b, dX_l, dG_t, dG_f, d_nil, d_cons, creK_e, tlK_n, tlK_s, evc_e, loopK_n, loopK_x, loopK_r, seqK_n, seqK_x, seqK_r, condK_t, condK_f, condK_b, exitK_t, exitK_f, blockK_x, blockK_n, blockK_r, ends_r, ends_n, endK1_e, endK2_e, gam_e, gamK_f, gamK_p, gamK_c, gamq_e, gamqK_f, pc_e, pcK_e, fcC_e, fcK_e, evp, fit, InQ, nilq, nb, bin, binB, gt, gq, st, putf, X.get, gets, getp, ap, mkfr, rep, rdR, tupled, clV, clL, clS, clo, clo.clos, asB, ld, lda, lens, ixs, tk, dr, sp, sp.spl, lay, ll, cs1, one, allOne, gb, sb, pb, ln, lk, evq, gdl, crv, Value.oneCell', undef, Bool.and_true, Bool.true_and, Bool.not_true, Bool.not_false, cond_true, cond_false, Nat.reduceSub, Nat.reduceAdd, Nat.reduceMul, Nat.reduceDiv, Nat.reduceBEq, beq_self_eq_true, true_and, and_true, decide_eq_true_eq, decide_eq_false_iff_not, Bool.not_eq_eq_eq_not, sts, Int.toNat_natCast, F39]
      refine ⟨fun h => ?_, fun h => ?_⟩
      · have ha : i < l.length := by omega
        refine ⟨by omega, ?_⟩
        refine ⟨fun hc => ?_, fun hc => ?_⟩
        rotate_left
        · refine ⟨by omega, Nx.mk (i + 1) ⟨by omega, by rw [all_snoc ha, hp, Bool.true_and, inE_iff]; exact hc⟩ (by omega) (Lw_re 0 [] (Nat.zero_le _) (by simp [ln]) (by simp [ln]) rfl ?_ ?_)⟩
          · simp only [reL, reX, reH, reB, reM, reN, newB, rn, once, gb, List.getElem?_cons_zero, List.getElem?_cons_succ, Nat.reduceSub, Nat.reduceLeDiff, Nat.lt_irrefl, Nat.le_refl, false_and, or_false, false_or, and_false, reduceCtorEq, true_or, or_true, leL, leX, leH, leB, news, inb, inb.inbs, ln, sts, st, Bool.and_self, Bool.and_true, Bool.true_and, Nat.reduceLT, Nat.reduceAdd, decide_true, true_and, and_true, and_self, SV.agg.injEq, Int.natCast_add, Int.natCast_one]
          · simp only [reL, reX, reH, reB, reM, reN, newB, rn, once, gb, List.getElem?_cons_zero, List.getElem?_cons_succ, Nat.reduceSub, Nat.reduceLeDiff, Nat.lt_irrefl, Nat.le_refl, false_and, or_false, false_or, and_false, reduceCtorEq, true_or, or_true, leL, leX, leH, leB, news, inb, inb.inbs, ln, sts, st, Bool.and_self, Bool.and_true, Bool.true_and, Nat.reduceLT, Nat.reduceAdd, decide_true, true_and, and_true, and_self, SV.agg.injEq]
        · refine res hK ?_
          have : placesB l = false := by
            rw [Bool.eq_false_iff]
            intro h1
            exact hc ((placesB_iff.1 h1).2 _ (getD_mem ha))
          simp [leR, this]
      · have : i = l.length := by omega
        subst this
        rw [List.take_length] at hp
        refine res hK ?_
        have : placesB l = true := by simp [placesB, hp, h']
        simp [leR, this]
def places2 (l : List Int) (n : Int) : Bool := placesB l && decide (1 ≤ n ∧ n ≤ l.length)
def F81 : FC := fun args => match args with
  | [.ints .i64 l, .int .i64 n] => some (True, .bool (places2 l n))
  | _ => none
theorem p81 : PureOk Try.prog 81 (fcC F81) := by
  refine pure_of (T := [(39, .fc F39)]) ⟨⟨p39, q39⟩, trivial⟩ Try.func81 k81 ?_
  intro args K hC
  unfold fcC F81 at hC
  split at hC <;> first | (exact hC.elim) | skip
  rename_i h
  split at h <;> first | (cases h; done) | skip
  cases h
  rename_i l n
  obtain ⟨-, hK⟩ := hC
  simp only [inr64, ↓reduceIte, ite_true, ite_false, List.cons.injEq, ne_eq, not_true_eq_false, not_false_eq_true, reduceCtorEq, e_skip, e_reg, e_drw, e_seq, e_cond, e_block, e_loop, e_exit, e_ret, e_shut, e_scp, scpK_n, scpK_x, scpK_r, shutH, shut1, shutB, slQ, o_nil, o_cons, gd_none, gd_some, gdK_tt, gdK_tf, gdK_ft, gdK_ff, gdK_u, gdK_bt, gdK_bf, putK_e, runK_e, skipK_e, vK_e, boxK_e, bslK_e, bldK_e, storeK3_e, storeK2_e, storeK_e, storeK_p, storeE_e, appK2_oi, appK2_or, appK_e, conK_e, callK_e, callK_m, evh_v, evh_new, evh_box, evh_bsl, evh_bld, evh_store, evh_app, evh_call, evh_inv, evh_slc, slcK_e, appC_e, appK_c, appK_l, slO, bnd, slv, od_none, od_some, invK_e, invK2_e, lkm, dX_e, dX_b, dX_l, dG_t, dG_f, d_nil, d_cons, creK_e, tlK_n, tlK_s, evc_e, loopK_n, loopK_x, loopK_r, seqK_n, seqK_x, seqK_r, condK_t, condK_f, condK_b, exitK_t, exitK_f, blockK_x, blockK_n, blockK_r, ends_r, ends_n, endK1_e, endK2_e, gam_e, gamK_f, gamK_p, gamK_c, gamq_e, gamqK_f, pc_e, pcK_e, fcC_e, fcK_e, evp, fit, InQ, nilq, nb, bin, binB, gt, gq, st, putf, X.get, gets, getp, ap, mkfr, rep, rdR, tupled, clV, clL, clS, clo, clo.clos, asB, ld, lda, lens, ixs, tk, dr, sp, sp.spl, lay, ll, cs1, one, allOne, gb, sb, pb, ln, lk, evq, gdl, crv, Value.oneCell', undef, Bool.and_true, Bool.true_and, Bool.not_true, Bool.not_false, cond_true, cond_false, Nat.reduceSub, Nat.reduceAdd, Nat.reduceMul, Nat.reduceDiv, Nat.reduceBEq, beq_self_eq_true, true_and, and_true, decide_eq_true_eq, decide_eq_false_iff_not, Bool.not_eq_eq_eq_not, sts, s81, r81, F39]
  have base : places2 l n = true ↔ ((1 ≤ l.length ∧ l.length ≤ 64) ∧ (1 ≤ n ∧ n ≤ l.length)) ∧ l.all inE = true := by
    unfold places2 placesB
    simp only [Bool.and_eq_true, decide_eq_true_eq]
    constructor
    · rintro ⟨⟨a, b⟩, c⟩; exact ⟨⟨a, c⟩, b⟩
    · rintro ⟨⟨a, c⟩, b⟩; exact ⟨⟨a, b⟩, c⟩
  have key : ∀ (i : Nat) (ok : Bool), i ≤ l.length → (ok = true ↔ ((1 ≤ l.length ∧ l.length ≤ 64) ∧ (1 ≤ n ∧ n ≤ l.length)) ∧ (l.take i).all inE = true) → (ok = false ∨ i = l.length) → ok = places2 l n := by
    intro i ok hi h1 h2
    rcases h2 with rfl | rfl
    · symm
      rw [Bool.eq_false_iff]
      intro h3
      have h4 := base.1 h3
      exact absurd (h1.2 ⟨h4.1, all_take h4.2 i⟩) (by simp)
    · rw [List.take_length] at h1
      cases ok
      · symm
        rw [Bool.eq_false_iff]
        exact fun h3 => absurd (h1.2 (base.1 h3)) (by simp)
      · exact (base.2 (h1.1 rfl)).symm
  refine ⟨fun h1 => ?_, fun h1 => ?_⟩
  all_goals
    refine loop_at2 (G := Nat × Bool) (fun g => [(6, .int .i64 g.1), (5, .bool g.2)]) (fun g => [])
      (fun g => g.1 ≤ l.length ∧ (g.2 = true ↔ ((1 ≤ l.length ∧ l.length ≤ 64) ∧ (1 ≤ n ∧ n ≤ l.length)) ∧ (l.take g.1).all inE = true)) (fun g => l.length - g.1)
      (0, decide ((1 ≤ l.length ∧ l.length ≤ 64) ∧ (1 ≤ n ∧ n ≤ l.length))) ⟨Nat.zero_le _, by simp⟩ ?_
    (intro fr1 hf1; simp only [forget, dstC, dstO, dstD, dst1, st] at hf1; subst hf1)
    refine ⟨?_, ?_⟩
    · refine Lw_re 0 [] (Nat.zero_le _) (by simp [ln]) (by simp [ln]) rfl ?_ ?_
      · simp only [reL, reX, reH, reB, reM, reN, newB, rn, once, gb, List.getElem?_cons_zero, List.getElem?_cons_succ, Nat.reduceSub, Nat.reduceLeDiff, Nat.lt_irrefl, Nat.le_refl, false_and, or_false, false_or, and_false, reduceCtorEq, true_or, or_true, leL, leX, leH, leB, news, inb, inb.inbs, ln, sts, st, Bool.and_self, Bool.and_true, Bool.true_and, Nat.reduceLT, Nat.reduceAdd, decide_true, true_and, and_true, and_self, SV.agg.injEq, Int.natCast_zero]
        first
          | (rw [decide_eq_decide]; omega)
          | (symm; rw [decide_eq_false_iff_not]; omega)
      · simp only [reL, reX, reH, reB, reM, reN, newB, rn, once, gb, List.getElem?_cons_zero, List.getElem?_cons_succ, Nat.reduceSub, Nat.reduceLeDiff, Nat.lt_irrefl, Nat.le_refl, false_and, or_false, false_or, and_false, reduceCtorEq, true_or, or_true, leL, leX, leH, leB, news, inb, inb.inbs, ln, sts, st, Bool.and_self, Bool.and_true, Bool.true_and, Nat.reduceLT, Nat.reduceAdd, decide_true, true_and, and_true, and_self, SV.agg.injEq]
    · rintro ⟨i, ok⟩ ⟨hi, hp⟩
      dsimp only at hi hp
      simp only [inr64, ↓reduceIte, ite_true, ite_false, List.cons.injEq, ne_eq, not_true_eq_false, not_false_eq_true, reduceCtorEq, e_skip, e_reg, e_drw, e_seq, e_cond, e_block, e_loop, e_exit, e_ret, e_shut, e_scp, scpK_n, scpK_x, scpK_r, shutH, shut1, shutB, slQ, o_nil, o_cons, gd_none, gd_some, gdK_tt, gdK_tf, gdK_ft, gdK_ff, gdK_u, gdK_bt, gdK_bf, putK_e, runK_e, skipK_e, vK_e, boxK_e, bslK_e, bldK_e, storeK3_e, storeK2_e, storeK_e, storeK_p, storeE_e, appK2_oi, appK2_or, appK_e, conK_e, callK_e, callK_m, evh_v, evh_new, evh_box, evh_bsl, evh_bld, evh_store, evh_app, evh_call, evh_inv, evh_slc, slcK_e, appC_e, appK_c, appK_l, slO, bnd, slv, od_none, od_some, invK_e, invK2_e, lkm, dX_e, dX_b, dX_l, dG_t, dG_f, d_nil, d_cons, creK_e, tlK_n, tlK_s, evc_e, loopK_n, loopK_x, loopK_r, seqK_n, seqK_x, seqK_r, condK_t, condK_f, condK_b, exitK_t, exitK_f, blockK_x, blockK_n, blockK_r, ends_r, ends_n, endK1_e, endK2_e, gam_e, gamK_f, gamK_p, gamK_c, gamq_e, gamqK_f, pc_e, pcK_e, fcC_e, fcK_e, evp, fit, InQ, nilq, nb, bin, binB, gt, gq, st, putf, X.get, gets, getp, ap, mkfr, rep, rdR, tupled, clV, clL, clS, clo, clo.clos, asB, ld, lda, lens, ixs, tk, dr, sp, sp.spl, lay, ll, cs1, one, allOne, gb, sb, pb, ln, lk, evq, gdl, crv, Value.oneCell', undef, Bool.and_true, Bool.true_and, Bool.not_true, Bool.not_false, cond_true, cond_false, Nat.reduceSub, Nat.reduceAdd, Nat.reduceMul, Nat.reduceDiv, Nat.reduceBEq, beq_self_eq_true, true_and, and_true, decide_eq_true_eq, decide_eq_false_iff_not, Bool.not_eq_eq_eq_not, sts, F39, Int.toNat_natCast]
      refine ⟨fun hok => ?_, fun hok => ?_⟩
      · obtain ⟨q1, q3⟩ := hp.1 hok
        refine ⟨fun h => ?_, fun h => ?_⟩
        · have hi' : i < l.length := by omega
          refine ⟨by omega, by omega, ?_⟩
          refine Nx.mk (i + 1, inE (l.getD i 0)) ⟨by simp only; omega, ?_⟩ (by simp only; omega) (Lw_re 0 [] (Nat.zero_le _) (by simp [ln]) (by simp [ln]) rfl ?_ ?_)
          · simp only [all_snoc hi', q3, Bool.true_and]
            exact ⟨fun h => ⟨q1, h⟩, fun h => h.2⟩
          · simp only [reL, reX, reH, reB, reM, reN, newB, rn, once, gb, List.getElem?_cons_zero, List.getElem?_cons_succ, Nat.reduceSub, Nat.reduceLeDiff, Nat.lt_irrefl, Nat.le_refl, false_and, or_false, false_or, and_false, reduceCtorEq, true_or, or_true, leL, leX, leH, leB, news, inb, inb.inbs, ln, sts, st, Bool.and_self, Bool.and_true, Bool.true_and, Nat.reduceLT, Nat.reduceAdd, decide_true, true_and, and_true, and_self, SV.agg.injEq, Int.natCast_add, Int.natCast_one, inE]
            first | trivial | (rw [Bool.decide_and])
          · simp only [reL, reX, reH, reB, reM, reN, newB, rn, once, gb, List.getElem?_cons_zero, List.getElem?_cons_succ, Nat.reduceSub, Nat.reduceLeDiff, Nat.lt_irrefl, Nat.le_refl, false_and, or_false, false_or, and_false, reduceCtorEq, true_or, or_true, leL, leX, leH, leB, news, inb, inb.inbs, ln, sts, st, Bool.and_self, Bool.and_true, Bool.true_and, Nat.reduceLT, Nat.reduceAdd, decide_true, true_and, and_true, and_self, SV.agg.injEq]
        · have kk := key i ok hi hp (.inr (by omega))
          exact res hK (by simp [leR, ← kk, hok])
      · have kk := key i ok hi hp (.inl hok)
        exact res hK (by simp [leR, ← kk, hok])

/- Windows. -/
def wins (l : List Int) (n k : Nat) : List Int := (List.range k).map fun i => ((l.drop i).take n).sum
theorem wins_snoc (l : List Int) (n k : Nat) : wins l n (k + 1) = wins l n k ++ [((l.drop k).take n).sum] := by
  simp [wins, List.range_succ]
theorem len_wins (l : List Int) (n k : Nat) : (wins l n k).length = k := by simp [wins]
/-- What a nut leaves of errors. -/
def winL (l : List Int) (n : Int) : List Int := wins l n.toNat (l.length + 1 - n.toNat)
def F80 : FC := fun args => match args with
  | [.int .i64 n, .ints .i64 l] => some ((1 ≤ n ∧ n ≤ l.length) ∧ within 100000000000000 l ∧ l.length ≤ 64, .ints .i64 (winL l n))
  | _ => none
theorem p80 : PureOk Try.prog 80 (fcC F80) := by
  refine pure_of (T := [(102, .pc (fcC F49))]) ⟨⟨p102, q102⟩, trivial⟩ Try.func80 k80 ?_
  intro args K hC
  unfold fcC F80 at hC
  split at hC <;> first | (exact hC.elim) | skip
  rename_i h
  split at h <;> first | (cases h; done) | skip
  cases h
  rename_i n l
  obtain ⟨⟨⟨hn1, hn2⟩, hb, hlen⟩, hK⟩ := hC
  simp only [inr64, ↓reduceIte, ite_true, ite_false, List.cons.injEq, ne_eq, not_true_eq_false, not_false_eq_true, reduceCtorEq, e_skip, e_reg, e_drw, e_seq, e_cond, e_block, e_loop, e_exit, e_ret, e_shut, e_scp, scpK_n, scpK_x, scpK_r, shutH, shut1, shutB, slQ, o_nil, o_cons, gd_none, gd_some, gdK_tt, gdK_tf, gdK_ft, gdK_ff, gdK_u, gdK_bt, gdK_bf, putK_e, runK_e, skipK_e, vK_e, boxK_e, bslK_e, bldK_e, storeK3_e, storeK2_e, storeK_e, storeK_p, storeE_e, appK2_oi, appK2_or, appK_e, conK_e, callK_e, callK_m, evh_v, evh_new, evh_box, evh_bsl, evh_bld, evh_store, evh_app, evh_call, evh_inv, evh_slc, slcK_e, appC_e, appK_c, appK_l, slO, bnd, slv, od_none, od_some, invK_e, invK2_e, lkm, dX_e, dX_b, dX_l, dG_t, dG_f, d_nil, d_cons, creK_e, tlK_n, tlK_s, evc_e, loopK_n, loopK_x, loopK_r, seqK_n, seqK_x, seqK_r, condK_t, condK_f, condK_b, exitK_t, exitK_f, blockK_x, blockK_n, blockK_r, ends_r, ends_n, endK1_e, endK2_e, gam_e, gamK_f, gamK_p, gamK_c, gamq_e, gamqK_f, pc_e, pcK_e, fcC_e, fcK_e, evp, fit, InQ, nilq, nb, bin, binB, gt, gq, st, putf, X.get, gets, getp, ap, mkfr, rep, rdR, tupled, clV, clL, clS, clo, clo.clos, asB, ld, lda, lens, ixs, tk, dr, sp, sp.spl, lay, ll, cs1, one, allOne, gb, sb, pb, ln, lk, evq, gdl, crv, Value.oneCell', undef, Bool.and_true, Bool.true_and, Bool.not_true, Bool.not_false, cond_true, cond_false, Nat.reduceSub, Nat.reduceAdd, Nat.reduceMul, Nat.reduceDiv, Nat.reduceBEq, beq_self_eq_true, true_and, and_true, decide_eq_true_eq, decide_eq_false_iff_not, Bool.not_eq_eq_eq_not, sts, s80, r80]
  refine ⟨by omega, by omega, ?_⟩
  obtain ⟨m, rfl⟩ : ∃ m : Nat, n = m := ⟨n.toNat, by omega⟩
  refine loop_at2 (G := Nat) (fun i => [(13, .int .i64 i), (5, .own 0)]) (fun i => [.oi .i64 3 (wins l m i)]) (fun i => i ≤ l.length + 1 - m) (fun i => l.length + 1 - m - i) 0 (Nat.zero_le _) ?_
  (intro fr1 hf1; simp only [forget, dstC, dstO, dstD, dst1, st] at hf1; subst hf1)
  refine ⟨?_, ?_⟩
  · refine Lw_re 0 [none] (Nat.zero_le _) (by simp [ln]) (by simp [ln]) rfl ?_ ?_
    · simp only [reL, reX, reH, reB, reM, reN, newB, rn, once, gb, List.getElem?_cons_zero, List.getElem?_cons_succ, Nat.reduceSub, Nat.reduceLeDiff, Nat.lt_irrefl, Nat.le_refl, false_and, or_false, false_or, and_false, reduceCtorEq, true_or, or_true, leL, leX, leH, leB, news, inb, inb.inbs, ln, sts, st, Bool.and_self, Bool.and_true, Bool.true_and, Nat.reduceLT, Nat.reduceAdd, decide_true, true_and, and_true, and_self, SV.agg.injEq, Int.natCast_zero]
    · simp only [reL, reX, reH, reB, reM, reN, newB, rn, once, gb, List.getElem?_cons_zero, List.getElem?_cons_succ, Nat.reduceSub, Nat.reduceLeDiff, Nat.lt_irrefl, Nat.le_refl, false_and, or_false, false_or, and_false, reduceCtorEq, true_or, or_true, leL, leX, leH, leB, news, inb, inb.inbs, ln, sts, st, Bool.and_self, Bool.and_true, Bool.true_and, Nat.reduceLT, Nat.reduceAdd, decide_true, true_and, and_true, and_self, SV.agg.injEq, wins, List.range_zero, List.map_nil]
  · intro i hi
    simp only [inr64, ↓reduceIte, ite_true, ite_false, List.cons.injEq, ne_eq, not_true_eq_false, not_false_eq_true, reduceCtorEq, e_skip, e_reg, e_drw, e_seq, e_cond, e_block, e_loop, e_exit, e_ret, e_shut, e_scp, scpK_n, scpK_x, scpK_r, shutH, shut1, shutB, slQ, o_nil, o_cons, gd_none, gd_some, gdK_tt, gdK_tf, gdK_ft, gdK_ff, gdK_u, gdK_bt, gdK_bf, putK_e, runK_e, skipK_e, vK_e, boxK_e, bslK_e, bldK_e, storeK3_e, storeK2_e, storeK_e, storeK_p, storeE_e, appK2_oi, appK2_or, appK_e, conK_e, callK_e, callK_m, evh_v, evh_new, evh_box, evh_bsl, evh_bld, evh_store, evh_app, evh_call, evh_inv, evh_slc, slcK_e, appC_e, appK_c, appK_l, slO, bnd, slv, od_none, od_some, invK_e, invK2_e, lkm, dX_e, dX_b, dX_l, dG_t, dG_f, d_nil, d_cons, creK_e, tlK_n, tlK_s, evc_e, loopK_n, loopK_x, loopK_r, seqK_n, seqK_x, seqK_r, condK_t, condK_f, condK_b, exitK_t, exitK_f, blockK_x, blockK_n, blockK_r, ends_r, ends_n, endK1_e, endK2_e, gam_e, gamK_f, gamK_p, gamK_c, gamq_e, gamqK_f, pc_e, pcK_e, fcC_e, fcK_e, evp, fit, InQ, nilq, nb, bin, binB, gt, gq, st, putf, X.get, gets, getp, ap, mkfr, rep, rdR, tupled, clV, clL, clS, clo, clo.clos, asB, ld, lda, lens, ixs, tk, dr, sp, sp.spl, lay, ll, cs1, one, allOne, gb, sb, pb, ln, lk, evq, gdl, crv, Value.oneCell', undef, Bool.and_true, Bool.true_and, Bool.not_true, Bool.not_false, cond_true, cond_false, Nat.reduceSub, Nat.reduceAdd, Nat.reduceMul, Nat.reduceDiv, Nat.reduceBEq, beq_self_eq_true, true_and, and_true, decide_eq_true_eq, decide_eq_false_iff_not, Bool.not_eq_eq_eq_not, sts, Int.toNat_natCast, F49]
    refine ⟨fun h => ?_, fun h => ?_⟩
    · have e1 : ((i : Int) + m - i).toNat = m := by omega
      rw [e1]
      have b1 := within_take (within_drop hb i) m
      have b2 := sum_bd b1
      have b3 : (((l.drop i).take m).length : Int) ≤ 64 := by simp; omega
      iterate 2 (refine ⟨by omega, ?_⟩)
      refine ⟨⟨b1, by omega⟩, ?_⟩
      have lw := len_wins l m i
      refine ⟨by omega, by omega, ?_⟩
      refine Nx.mk (i + 1) (by show i + 1 ≤ l.length + 1 - m; omega) (by show l.length + 1 - m - (i + 1) < l.length + 1 - m - i; omega) (Lw_re 0 [some 2] (Nat.zero_le _) (by simp [ln]) (by simp [ln]) rfl ?_ ?_)
      · simp only [reL, reX, reH, reB, reM, reN, newB, rn, once, gb, List.getElem?_cons_zero, List.getElem?_cons_succ, Nat.reduceSub, Nat.reduceLeDiff, Nat.lt_irrefl, Nat.le_refl, false_and, or_false, false_or, and_false, reduceCtorEq, true_or, or_true, leL, leX, leH, leB, news, inb, inb.inbs, ln, sts, st, Bool.and_self, Bool.and_true, Bool.true_and, Nat.reduceLT, Nat.reduceAdd, decide_true, true_and, and_true, and_self, SV.agg.injEq, Int.natCast_add, Int.natCast_one]
      · simp only [reL, reX, reH, reB, reM, reN, newB, rn, once, gb, List.getElem?_cons_zero, List.getElem?_cons_succ, Nat.reduceSub, Nat.reduceLeDiff, Nat.lt_irrefl, Nat.le_refl, false_and, or_false, false_or, and_false, reduceCtorEq, true_or, or_true, leL, leX, leH, leB, news, inb, inb.inbs, ln, sts, st, Bool.and_self, Bool.and_true, Bool.true_and, Nat.reduceLT, Nat.reduceAdd, decide_true, true_and, and_true, and_self, SV.agg.injEq, wins_snoc]
    · have e2 : i = l.length + 1 - m := by omega
      refine ⟨by omega, res hK ?_⟩
      simp [leR, winL, e2]
def F82 : FC := fun args => match args with
  | [.ints .i64 l, .int .i64 n] => some ((1 ≤ n ∧ n ≤ l.length) ∧ within 100000000000000 l ∧ l.length ≤ 64, .ints .i64 (winL l n))
  | _ => none
theorem p82 : PureOk Try.prog 82 (fcC F82) := by
  refine pure_of (T := [(49, .pc (fcC F49))]) ⟨⟨p49, q49⟩, trivial⟩ Try.func82 k82 ?_
  intro args K hC
  unfold fcC F82 at hC
  split at hC <;> first | (exact hC.elim) | skip
  rename_i h
  split at h <;> first | (cases h; done) | skip
  cases h
  rename_i l n
  obtain ⟨⟨⟨hn1, hn2⟩, hb, hlen⟩, hK⟩ := hC
  simp only [inr64, ↓reduceIte, ite_true, ite_false, List.cons.injEq, ne_eq, not_true_eq_false, not_false_eq_true, reduceCtorEq, e_skip, e_reg, e_drw, e_seq, e_cond, e_block, e_loop, e_exit, e_ret, e_shut, e_scp, scpK_n, scpK_x, scpK_r, shutH, shut1, shutB, slQ, o_nil, o_cons, gd_none, gd_some, gdK_tt, gdK_tf, gdK_ft, gdK_ff, gdK_u, gdK_bt, gdK_bf, putK_e, runK_e, skipK_e, vK_e, boxK_e, bslK_e, bldK_e, storeK3_e, storeK2_e, storeK_e, storeK_p, storeE_e, appK2_oi, appK2_or, appK_e, conK_e, callK_e, callK_m, evh_v, evh_new, evh_box, evh_bsl, evh_bld, evh_store, evh_app, evh_call, evh_inv, evh_slc, slcK_e, appC_e, appK_c, appK_l, slO, bnd, slv, od_none, od_some, invK_e, invK2_e, lkm, dX_e, dX_b, dX_l, dG_t, dG_f, d_nil, d_cons, creK_e, tlK_n, tlK_s, evc_e, loopK_n, loopK_x, loopK_r, seqK_n, seqK_x, seqK_r, condK_t, condK_f, condK_b, exitK_t, exitK_f, blockK_x, blockK_n, blockK_r, ends_r, ends_n, endK1_e, endK2_e, gam_e, gamK_f, gamK_p, gamK_c, gamq_e, gamqK_f, pc_e, pcK_e, fcC_e, fcK_e, evp, fit, InQ, nilq, nb, bin, binB, gt, gq, st, putf, X.get, gets, getp, ap, mkfr, rep, rdR, tupled, clV, clL, clS, clo, clo.clos, asB, ld, lda, lens, ixs, tk, dr, sp, sp.spl, lay, ll, cs1, one, allOne, gb, sb, pb, ln, lk, evq, gdl, crv, Value.oneCell', undef, Bool.and_true, Bool.true_and, Bool.not_true, Bool.not_false, cond_true, cond_false, Nat.reduceSub, Nat.reduceAdd, Nat.reduceMul, Nat.reduceDiv, Nat.reduceBEq, beq_self_eq_true, true_and, and_true, decide_eq_true_eq, decide_eq_false_iff_not, Bool.not_eq_eq_eq_not, sts, s82, r82]
  obtain ⟨m, rfl⟩ : ∃ m : Nat, n = m := ⟨n.toNat, by omega⟩
  refine loop_at2 (G := Nat) (fun i => [(6, .int .i64 i), (5, .own 0)]) (fun i => [.oi .i64 3 (wins l m i)]) (fun i => i ≤ l.length + 1 - m) (fun i => l.length + 1 - m - i) 0 (Nat.zero_le _) ?_
  (intro fr1 hf1; simp only [forget, dstC, dstO, dstD, dst1, st] at hf1; subst hf1)
  refine ⟨?_, ?_⟩
  · refine Lw_re 0 [none] (Nat.zero_le _) (by simp [ln]) (by simp [ln]) rfl ?_ ?_
    · simp only [reL, reX, reH, reB, reM, reN, newB, rn, once, gb, List.getElem?_cons_zero, List.getElem?_cons_succ, Nat.reduceSub, Nat.reduceLeDiff, Nat.lt_irrefl, Nat.le_refl, false_and, or_false, false_or, and_false, reduceCtorEq, true_or, or_true, leL, leX, leH, leB, news, inb, inb.inbs, ln, sts, st, Bool.and_self, Bool.and_true, Bool.true_and, Nat.reduceLT, Nat.reduceAdd, decide_true, true_and, and_true, and_self, SV.agg.injEq, Int.natCast_zero]
    · simp only [reL, reX, reH, reB, reM, reN, newB, rn, once, gb, List.getElem?_cons_zero, List.getElem?_cons_succ, Nat.reduceSub, Nat.reduceLeDiff, Nat.lt_irrefl, Nat.le_refl, false_and, or_false, false_or, and_false, reduceCtorEq, true_or, or_true, leL, leX, leH, leB, news, inb, inb.inbs, ln, sts, st, Bool.and_self, Bool.and_true, Bool.true_and, Nat.reduceLT, Nat.reduceAdd, decide_true, true_and, and_true, and_self, SV.agg.injEq, wins, List.range_zero, List.map_nil]
  · intro i hi
    simp only [inr64, ↓reduceIte, ite_true, ite_false, List.cons.injEq, ne_eq, not_true_eq_false, not_false_eq_true, reduceCtorEq, e_skip, e_reg, e_drw, e_seq, e_cond, e_block, e_loop, e_exit, e_ret, e_shut, e_scp, scpK_n, scpK_x, scpK_r, shutH, shut1, shutB, slQ, o_nil, o_cons, gd_none, gd_some, gdK_tt, gdK_tf, gdK_ft, gdK_ff, gdK_u, gdK_bt, gdK_bf, putK_e, runK_e, skipK_e, vK_e, boxK_e, bslK_e, bldK_e, storeK3_e, storeK2_e, storeK_e, storeK_p, storeE_e, appK2_oi, appK2_or, appK_e, conK_e, callK_e, callK_m, evh_v, evh_new, evh_box, evh_bsl, evh_bld, evh_store, evh_app, evh_call, evh_inv, evh_slc, slcK_e, appC_e, appK_c, appK_l, slO, bnd, slv, od_none, od_some, invK_e, invK2_e, lkm, dX_e, dX_b, dX_l, dG_t, dG_f, d_nil, d_cons, creK_e, tlK_n, tlK_s, evc_e, loopK_n, loopK_x, loopK_r, seqK_n, seqK_x, seqK_r, condK_t, condK_f, condK_b, exitK_t, exitK_f, blockK_x, blockK_n, blockK_r, ends_r, ends_n, endK1_e, endK2_e, gam_e, gamK_f, gamK_p, gamK_c, gamq_e, gamqK_f, pc_e, pcK_e, fcC_e, fcK_e, evp, fit, InQ, nilq, nb, bin, binB, gt, gq, st, putf, X.get, gets, getp, ap, mkfr, rep, rdR, tupled, clV, clL, clS, clo, clo.clos, asB, ld, lda, lens, ixs, tk, dr, sp, sp.spl, lay, ll, cs1, one, allOne, gb, sb, pb, ln, lk, evq, gdl, crv, Value.oneCell', undef, Bool.and_true, Bool.true_and, Bool.not_true, Bool.not_false, cond_true, cond_false, Nat.reduceSub, Nat.reduceAdd, Nat.reduceMul, Nat.reduceDiv, Nat.reduceBEq, beq_self_eq_true, true_and, and_true, decide_eq_true_eq, decide_eq_false_iff_not, Bool.not_eq_eq_eq_not, sts, Int.toNat_natCast, F49]
    refine ⟨by omega, ?_⟩
    refine ⟨fun h => ?_, fun h => ?_⟩
    · have e1 : ((i : Int) + m - i).toNat = m := by omega
      rw [e1]
      have b1 := within_take (within_drop hb i) m
      have b2 := sum_bd b1
      have b3 : (((l.drop i).take m).length : Int) ≤ 64 := by simp; omega
      iterate 2 (refine ⟨by omega, ?_⟩)
      refine ⟨⟨b1, by omega⟩, ?_⟩
      have lw := len_wins l m i
      refine ⟨by omega, by omega, ?_⟩
      refine Nx.mk (i + 1) (by show i + 1 ≤ l.length + 1 - m; omega) (by show l.length + 1 - m - (i + 1) < l.length + 1 - m - i; omega) (Lw_re 0 [some 2] (Nat.zero_le _) (by simp [ln]) (by simp [ln]) rfl ?_ ?_)
      · simp only [reL, reX, reH, reB, reM, reN, newB, rn, once, gb, List.getElem?_cons_zero, List.getElem?_cons_succ, Nat.reduceSub, Nat.reduceLeDiff, Nat.lt_irrefl, Nat.le_refl, false_and, or_false, false_or, and_false, reduceCtorEq, true_or, or_true, leL, leX, leH, leB, news, inb, inb.inbs, ln, sts, st, Bool.and_self, Bool.and_true, Bool.true_and, Nat.reduceLT, Nat.reduceAdd, decide_true, true_and, and_true, and_self, SV.agg.injEq, Int.natCast_add, Int.natCast_one]
      · simp only [reL, reX, reH, reB, reM, reN, newB, rn, once, gb, List.getElem?_cons_zero, List.getElem?_cons_succ, Nat.reduceSub, Nat.reduceLeDiff, Nat.lt_irrefl, Nat.le_refl, false_and, or_false, false_or, and_false, reduceCtorEq, true_or, or_true, leL, leX, leH, leB, news, inb, inb.inbs, ln, sts, st, Bool.and_self, Bool.and_true, Bool.true_and, Nat.reduceLT, Nat.reduceAdd, decide_true, true_and, and_true, and_self, SV.agg.injEq, wins_snoc]
    · have e2 : i = l.length + 1 - m := by omega
      refine res hK ?_
      simp [leR, winL, e2]
end Go.Proofs.Ytbbbpdajikblbaa
