/- Spans: whether they can have periods; periods. -/
import Derived.Test.YtbbbpdajikblbaaVgN3
namespace Go.Proofs.Ytbbbpdajikblbaa
open Go Go.Vg
set_option linter.unusedSimpArgs false
set_option linter.unusedVariables false
set_option maxRecDepth 10000
/- 85: octant/screw.areSpans -/
def s85 : SC :=
  (.seq (.reg [⟨(some 2), none, .v (.mov (.c (.lit (.bool false))))⟩])
  (.seq (.seq (.reg [⟨(some 5), none, .v (.mov (.t 0))⟩,
    ⟨(some 6), none, .v (.len (.t 5))⟩,
    ⟨(some 7), none, .call (.c (.fn 60 [])) [(.t 6), (.c (.int .i64 (1))), (.c (.int .i64 (64)))]⟩,
    ⟨(some 8), none, .v (.not (.t 7))⟩])
  (.cond (.t 8)
    (.seq (.reg [⟨(some 2), none, .v (.mov (.c (.lit (.bool false))))⟩])
    .ret)
    .skip))
  (.seq (.seq (.reg [⟨(some 9), none, .v (.mov (.t 0))⟩,
    ⟨(some 10), none, .v (.len (.t 9))⟩,
    ⟨(some 11), none, .v (.mov (.c (.int .i64 (0))))⟩])
  (.block 0 (.loop
    (.seq (.reg [⟨(some 12), none, .v (.bin .lss (.t 11) (.t 10))⟩])
    (.seq (.cond (.t 12)
      .skip
      (.exit 0))
    (.seq (.block 1 (.seq (.reg [⟨(some 13), none, .v (.ixa (.t 9) (.t 11) 2)⟩,
      ⟨(some 14), none, .v (.load (.t 13) (some 2))⟩,
      ⟨(some 4), none, .new 63 [(.int .i64 (0)), (.int .i64 (0))]⟩,
      ⟨none, none, .store 2 (.t 4) (.t 14)⟩])
    (.seq (.reg [⟨(some 15), none, .v (.off (.t 4) 0)⟩,
      ⟨(some 16), none, .v (.load (.t 15) none)⟩,
      ⟨(some 17), none, .v (.off (.t 4) 1)⟩,
      ⟨(some 18), none, .v (.load (.t 17) none)⟩,
      ⟨(some 19), none, .v (.bin .gtr (.t 16) (.t 18))⟩,
      ⟨(some 20), none, .v (.mov (.t 19))⟩,
      ⟨(some 21), (some (20, false)), .v (.off (.t 4) 0)⟩,
      ⟨(some 22), (some (20, false)), .v (.load (.t 21) none)⟩,
      ⟨(some 23), (some (20, false)), .v (.bin .lss (.t 22) (.c (.int .i64 (-1000000))))⟩,
      ⟨(some 24), none, .v (.pick (.t 20) (.c (.lit (.bool true))) (.t 23))⟩,
      ⟨(some 25), none, .v (.mov (.t 24))⟩,
      ⟨(some 26), (some (25, false)), .v (.off (.t 4) 1)⟩,
      ⟨(some 27), (some (25, false)), .v (.load (.t 26) none)⟩,
      ⟨(some 28), (some (25, false)), .v (.bin .gtr (.t 27) (.c (.int .i64 (1000000))))⟩,
      ⟨(some 29), none, .v (.pick (.t 25) (.c (.lit (.bool true))) (.t 28))⟩])
    (.cond (.t 29)
      (.seq (.reg [⟨(some 2), none, .v (.mov (.c (.lit (.bool false))))⟩])
      .ret)
      .skip))))
    (.reg [⟨(some 30), none, .v (.bin .add (.t 11) (.c (.int .i64 (1))))⟩,
      ⟨(some 11), none, .v (.mov (.t 30))⟩])))))))
  (.seq (.reg [⟨(some 2), none, .v (.mov (.c (.lit (.bool true))))⟩])
  .ret))))
def r85 : List RV := [.t 2]
def n85 : Nat := 31
theorem k85 : (Try.f85.body.bind (cC Try.prog), cR Try.prog Try.f85.results.toList, Try.f85.ntmps) = (some s85, some r85, 31) := by kernel_rfl
theorem q85 : Known Try.prog 85 := ⟨_, Try.func85, by decide, by simp [Try.f85]⟩

/- 87: octant/octantref00.Spanned -/
def s87 : SC :=
  (.seq (.reg [⟨(some 3), none, .box 63 (.t 0)⟩,
    ⟨(some 6), none, .v (.mov (.c (.lit (.bool false))))⟩])
  (.seq (.reg [⟨(some 7), none, .v (.mov (.t 1))⟩,
    ⟨(some 8), none, .v (.off (.t 3) 0)⟩,
    ⟨(some 9), none, .v (.load (.t 8) none)⟩,
    ⟨(some 10), none, .v (.bin .leq (.t 7) (.t 9))⟩,
    ⟨(some 11), none, .v (.mov (.t 10))⟩,
    ⟨(some 12), (some (11, true)), .v (.off (.t 3) 0)⟩,
    ⟨(some 13), (some (11, true)), .v (.load (.t 12) none)⟩,
    ⟨(some 14), (some (11, true)), .v (.off (.t 3) 1)⟩,
    ⟨(some 15), (some (11, true)), .v (.load (.t 14) none)⟩,
    ⟨(some 16), (some (11, true)), .v (.bin .leq (.t 13) (.t 15))⟩,
    ⟨(some 17), none, .v (.pick (.t 11) (.t 16) (.c (.lit (.bool false))))⟩,
    ⟨(some 18), none, .v (.mov (.t 17))⟩,
    ⟨(some 19), (some (18, true)), .v (.off (.t 3) 1)⟩,
    ⟨(some 20), (some (18, true)), .v (.load (.t 19) none)⟩,
    ⟨(some 21), (some (18, true)), .v (.mov (.t 2))⟩,
    ⟨(some 22), (some (18, true)), .v (.bin .leq (.t 20) (.t 21))⟩,
    ⟨(some 23), none, .v (.pick (.t 18) (.t 22) (.c (.lit (.bool false))))⟩,
    ⟨(some 6), none, .v (.mov (.t 23))⟩])
  .ret))
def r87 : List RV := [.t 6]
def n87 : Nat := 24
theorem k87 : (Try.f87.body.bind (cC Try.prog), cR Try.prog Try.f87.results.toList, Try.f87.ntmps) = (some s87, some r87, 24) := by kernel_rfl
theorem q87 : Known Try.prog 87 := ⟨_, Try.func87, by decide, by simp [Try.f87]⟩

/- 86: octant/screw.isPeriod -/
def s86 : SC :=
  (.seq (.reg [⟨(some 4), none, .v (.mov (.c (.lit (.bool false))))⟩])
  (.seq (.seq (.reg [⟨(some 8), none, .v (.mov (.t 1))⟩,
    ⟨(some 9), none, .v (.mov (.c (.int .i64 (0))))⟩])
  (.block 0 (.loop
    (.seq (.reg [⟨(some 10), none, .v (.bin .lss (.t 9) (.t 8))⟩])
    (.seq (.cond (.t 10)
      .skip
      (.exit 0))
    (.seq (.block 1 (.seq (.reg [⟨(some 11), none, .v (.mov (.t 9))⟩,
      ⟨(some 5), none, .v (.mov (.t 11))⟩])
    (.seq (.reg [⟨(some 12), none, .v (.mov (.t 0))⟩,
      ⟨(some 13), none, .v (.mov (.t 5))⟩,
      ⟨(some 14), none, .v (.ixa (.t 12) (.t 13) 2)⟩,
      ⟨(some 15), none, .v (.load (.t 14) (some 2))⟩,
      ⟨(some 6), none, .new 63 [(.int .i64 (0)), (.int .i64 (0))]⟩,
      ⟨none, none, .store 2 (.t 6) (.t 15)⟩])
    (.seq (.seq (.reg [⟨(some 16), none, .v (.mov (.t 5))⟩,
      ⟨(some 7), none, .v (.mov (.t 16))⟩])
    (.block 2 (.loop
      (.seq (.seq (.reg [⟨(some 17), none, .v (.mov (.t 7))⟩,
        ⟨(some 18), none, .v (.mov (.t 0))⟩,
        ⟨(some 19), none, .v (.len (.t 18))⟩,
        ⟨(some 20), none, .v (.bin .lss (.t 17) (.t 19))⟩])
      (.cond (.t 20)
        .skip
        (.exit 2)))
      (.seq (.block 3 (.seq (.drw [(0, ⟨(some 24), none, .v (.off (.t 6) 0)⟩, false),
        (1, ⟨(some 25), none, .v (.load (.t 24) none)⟩, false),
        (2, ⟨(some 26), none, .v (.mov (.t 0))⟩, false),
        (3, ⟨(some 27), none, .v (.mov (.t 7))⟩, false),
        (4, ⟨(some 28), none, .v (.ixa (.t 26) (.t 27) 2)⟩, false),
        (5, ⟨(some 29), none, .v (.off (.t 28) 0)⟩, false),
        (6, ⟨(some 30), none, .v (.load (.t 29) none)⟩, false)]
        (some ⟨(some 31), none, .bsl 3 1 [(.int .i64 (0))] [(0, 1, (.t 30))]⟩)
        [⟨(some 32), none, .call (.c (.fn 104 [])) [(.t 25), (.t 31)]⟩,
        ⟨(some 33), none, .v (.off (.t 6) 0)⟩,
        ⟨none, none, .store 1 (.t 33) (.t 32)⟩])
      (.drw [(0, ⟨(some 34), none, .v (.off (.t 6) 1)⟩, false),
        (1, ⟨(some 35), none, .v (.load (.t 34) none)⟩, false),
        (2, ⟨(some 36), none, .v (.mov (.t 0))⟩, false),
        (3, ⟨(some 37), none, .v (.mov (.t 7))⟩, false),
        (4, ⟨(some 38), none, .v (.ixa (.t 36) (.t 37) 2)⟩, false),
        (5, ⟨(some 39), none, .v (.off (.t 38) 1)⟩, false),
        (6, ⟨(some 40), none, .v (.load (.t 39) none)⟩, false)]
        (some ⟨(some 41), none, .bsl 3 1 [(.int .i64 (0))] [(0, 1, (.t 40))]⟩)
        [⟨(some 42), none, .call (.c (.fn 105 [])) [(.t 35), (.t 41)]⟩,
        ⟨(some 43), none, .v (.off (.t 6) 1)⟩,
        ⟨none, none, .store 1 (.t 43) (.t 42)⟩])))
      (.reg [⟨(some 21), none, .v (.mov (.t 7))⟩,
        ⟨(some 22), none, .v (.mov (.t 1))⟩,
        ⟨(some 23), none, .v (.bin .add (.t 21) (.t 22))⟩,
        ⟨(some 7), none, .v (.mov (.t 23))⟩]))))))
    (.seq (.reg [⟨(some 44), none, .v (.off (.t 6) 0)⟩,
      ⟨(some 45), none, .v (.load (.t 44) none)⟩,
      ⟨(some 46), none, .v (.off (.t 6) 1)⟩,
      ⟨(some 47), none, .v (.load (.t 46) none)⟩,
      ⟨(some 48), none, .v (.bin .gtr (.t 45) (.t 47))⟩])
    (.cond (.t 48)
      (.seq (.reg [⟨(some 4), none, .v (.mov (.c (.lit (.bool false))))⟩])
      .ret)
      .skip))))))
    (.reg [⟨(some 49), none, .v (.bin .add (.t 9) (.c (.int .i64 (1))))⟩,
      ⟨(some 9), none, .v (.mov (.t 49))⟩])))))))
  (.seq (.reg [⟨(some 4), none, .v (.mov (.c (.lit (.bool true))))⟩])
  .ret)))
def r86 : List RV := [.t 4]
def n86 : Nat := 50
theorem k86 : (Try.f86.body.bind (cC Try.prog), cR Try.prog Try.f86.results.toList, Try.f86.ntmps) = (some s86, some r86, 50) := by kernel_rfl
theorem q86 : Known Try.prog 86 := ⟨_, Try.func86, by decide, by simp [Try.f86]⟩


def lo (L : List (Int × Int)) (i : Nat) : Int := (L.getD i (0, 0)).1
def hi (L : List (Int × Int)) (i : Nat) : Int := (L.getD i (0, 0)).2
def rowsS (L : List (Int × Int)) (i : Nat) : List SV := [.int .i64 (lo L i), .int .i64 (hi L i)]
def spE (x : Int × Int) : Bool := decide (x.1 ≤ x.2) && (decide (-1000000 ≤ x.1) && decide (x.2 ≤ 1000000))
theorem spE_iff {x : Int × Int} : spE x = true ↔ x.1 ≤ x.2 ∧ -1000000 ≤ x.1 ∧ x.2 ≤ 1000000 := by simp [spE]
/-- Spans that can have periods. -/
def spansB (L : List (Int × Int)) : Bool := decide (1 ≤ L.length ∧ L.length ≤ 64) && L.all spE
theorem getD_memS {L : List (Int × Int)} {i : Nat} (h : i < L.length) : L.getD i (0, 0) ∈ L := by simp [List.getD, h]
theorem spansB_iff {L : List (Int × Int)} : spansB L = true ↔ (1 ≤ L.length ∧ L.length ≤ 64) ∧ ∀ x, x ∈ L → spE x = true := by
  unfold spansB
  simp only [Bool.and_eq_true, decide_eq_true_eq, List.all_eq_true]
theorem allS_snoc {L : List (Int × Int)} {i : Nat} (h : i < L.length) : (L.take (i + 1)).all spE = ((L.take i).all spE && spE (L.getD i (0, 0))) := by
  rw [List.take_add_one, List.getElem?_eq_getElem h, List.all_append]; simp [List.getD, h]
theorem allS_take {L : List (Int × Int)} (h : L.all spE = true) (i : Nat) : (L.take i).all spE = true := by
  rw [List.all_eq_true] at h ⊢
  exact fun x hx => h x (List.mem_of_mem_take hx)
def C85 : PC := fun args K => ∃ L : List (Int × Int), args = [.rd 2 L.length (rowsS L)] ∧ K (.bool (spansB L))
theorem p85 : PureOk Try.prog 85 C85 := by
  refine pure_of (T := [(60, .fc F39)]) ⟨⟨p60, q60⟩, trivial⟩ Try.func85 k85 ?_
  rintro args K ⟨L, rfl, hK⟩
  simp only [inr64, ↓reduceIte, ite_true, ite_false, List.cons.injEq, ne_eq, not_true_eq_false, not_false_eq_true, reduceCtorEq, e_skip, e_reg, e_drw, e_seq, e_cond, e_block, e_loop, e_exit, e_ret, e_shut, e_scp, scpK_n, scpK_x, scpK_r, shutH, shut1, shutB, slQ, o_nil, o_cons, gd_none, gd_some, gdK_tt, gdK_tf, gdK_ft, gdK_ff, gdK_u, gdK_bt, gdK_bf, putK_e, runK_e, skipK_e, vK_e, boxK_e, bslK_e, bldK_e, storeK3_e, storeK2_e, storeK_e, appK2_oi, appK2_or, appK_e, conK_e, callK_e, callK_m, evh_v, evh_new, evh_box, evh_bsl, evh_bld, evh_store, evh_app, evh_call, evh_inv, evh_slc, slcK_e, appC_e, appK_c, appK_l, slO, bnd, slv, od_none, od_some, invK_e, invK2_e, lkm, dX_e, dX_b, dX_l, dG_t, dG_f, d_nil, d_cons, creK_e, tlK_n, tlK_s, evc_e, loopK_n, loopK_x, loopK_r, seqK_n, seqK_x, seqK_r, condK_t, condK_f, condK_b, exitK_t, exitK_f, blockK_x, blockK_n, blockK_r, ends_r, ends_n, endK1_e, endK2_e, gam_e, gamK_f, gamK_p, gamK_c, gamq_e, gamqK_f, pc_e, pcK_e, fcC_e, fcK_e, evp, fit, InQ, nilq, nb, bin, binB, gt, gq, st, putf, X.get, gets, getp, ap, mkfr, rep, rdR, tupled, clV, clL, clS, clo, clo.clos, asB, ld, lda, lens, ixs, tk, dr, sp, sp.spl, lay, ll, cs1, one, allOne, gb, sb, pb, ln, lk, evq, gdl, crv, Value.oneCell', undef, Bool.and_true, Bool.true_and, Bool.not_true, Bool.not_false, cond_true, cond_false, Nat.reduceSub, Nat.reduceAdd, Nat.reduceMul, Nat.reduceDiv, Nat.reduceBEq, beq_self_eq_true, true_and, and_true, decide_eq_true_eq, decide_eq_false_iff_not, Bool.not_eq_eq_eq_not, sts, s85, r85, F39]
  refine ⟨fun h => res hK ?_, fun h => ?_⟩
  · have : spansB L = false := by
      rw [Bool.eq_false_iff]; intro h1
      have := (spansB_iff.1 h1).1
      omega
    simp [leR, this]
  · have h' : 1 ≤ L.length ∧ L.length ≤ 64 := by omega
    refine loop_at2 (G := Nat) (fun i => [(11, .int .i64 i)]) (fun i => []) (fun i => i ≤ L.length ∧ (L.take i).all spE = true) (fun i => L.length - i) 0 ⟨Nat.zero_le _, by simp⟩ ?_
    (intro fr1 hf1; simp only [forget, dstC, dstO, dstD, dst1, st] at hf1; subst hf1)
    refine ⟨?_, ?_⟩
    · refine Lw_re 0 [] (Nat.zero_le _) (by simp [ln]) (by simp [ln]) rfl ?_ ?_
      · simp only [reL, reX, reH, reB, reM, reN, newB, rn, once, gb, List.getElem?_cons_zero, List.getElem?_cons_succ, Nat.reduceSub, Nat.reduceLeDiff, Nat.lt_irrefl, Nat.le_refl, false_and, or_false, false_or, and_false, reduceCtorEq, true_or, or_true, leL, leX, leH, leB, news, inb, inb.inbs, ln, sts, st, Bool.and_self, Bool.and_true, Bool.true_and, Nat.reduceLT, Nat.reduceAdd, decide_true, true_and, and_true, and_self, SV.agg.injEq, Int.natCast_zero, implies_true]
      · simp only [reL, reX, reH, reB, reM, reN, newB, rn, once, gb, List.getElem?_cons_zero, List.getElem?_cons_succ, Nat.reduceSub, Nat.reduceLeDiff, Nat.lt_irrefl, Nat.le_refl, false_and, or_false, false_or, and_false, reduceCtorEq, true_or, or_true, leL, leX, leH, leB, news, inb, inb.inbs, ln, sts, st, Bool.and_self, Bool.and_true, Bool.true_and, Nat.reduceLT, Nat.reduceAdd, decide_true, true_and, and_true, and_self, SV.agg.injEq]
    · rintro i ⟨hi1, hp⟩
      simp only [inr64, ↓reduceIte, ite_true, ite_false, List.cons.injEq, ne_eq, not_true_eq_false, not_false_eq_true, reduceCtorEq, e_skip, e_reg, e_drw, e_seq, e_cond, e_block, e_loop, e_exit, e_ret, e_shut, e_scp, scpK_n, scpK_x, scpK_r, shutH, shut1, shutB, slQ, o_nil, o_cons, gd_none, gd_some, gdK_tt, gdK_tf, gdK_ft, gdK_ff, gdK_u, gdK_bt, gdK_bf, putK_e, runK_e, skipK_e, vK_e, boxK_e, bslK_e, bldK_e, storeK3_e, storeK2_e, storeK_e, appK2_oi, appK2_or, appK_e, conK_e, callK_e, callK_m, evh_v, evh_new, evh_box, evh_bsl, evh_bld, evh_store, evh_app, evh_call, evh_inv, evh_slc, slcK_e, appC_e, appK_c, appK_l, slO, bnd, slv, od_none, od_some, invK_e, invK2_e, lkm, dX_e, dX_b, dX_l, dG_t, dG_f, d_nil, d_cons, creK_e, tlK_n, tlK_s, evc_e, loopK_n, loopK_x, loopK_r, seqK_n, seqK_x, seqK_r, condK_t, condK_f, condK_b, exitK_t, exitK_f, blockK_x, blockK_n, blockK_r, ends_r, ends_n, endK1_e, endK2_e, gam_e, gamK_f, gamK_p, gamK_c, gamq_e, gamqK_f, pc_e, pcK_e, fcC_e, fcK_e, evp, fit, InQ, nilq, nb, bin, binB, gt, gq, st, putf, X.get, gets, getp, ap, mkfr, rep, rdR, tupled, clV, clL, clS, clo, clo.clos, asB, ld, lda, lens, ixs, tk, dr, sp, sp.spl, lay, ll, cs1, one, allOne, gb, sb, pb, ln, lk, evq, gdl, crv, Value.oneCell', undef, Bool.and_true, Bool.true_and, Bool.not_true, Bool.not_false, cond_true, cond_false, Nat.reduceSub, Nat.reduceAdd, Nat.reduceMul, Nat.reduceDiv, Nat.reduceBEq, beq_self_eq_true, true_and, and_true, decide_eq_true_eq, decide_eq_false_iff_not, Bool.not_eq_eq_eq_not, sts, Int.toNat_natCast, rowsS]
      refine ⟨fun h => ?_, fun h => ?_⟩
      · have ha : i < L.length := by omega
        have e : spE (L.getD i (0, 0)) = (decide (lo L i ≤ hi L i) && (decide (-1000000 ≤ lo L i) && decide (hi L i ≤ 1000000))) := rfl
        have kf : spE (L.getD i (0, 0)) = false → spansB L = false := fun h0 => by
          rw [Bool.eq_false_iff]; intro h1
          rw [(spansB_iff.1 h1).2 _ (getD_memS ha)] at h0; cases h0
        refine ⟨by omega, fun h1 => ⟨fun h2 => ⟨fun h3 => res hK ?_, fun h3 => ⟨by omega, ?_⟩⟩, fun h2 => res hK ?_⟩, fun h1 => res hK ?_⟩
        · have := kf (by rw [e, decide_eq_false (p := hi L i ≤ 1000000) (by omega)]; simp)
          simp [leR, this]
        · refine Nx.mk (i + 1) ⟨by omega, ?_⟩ (by show L.length - (i + 1) < L.length - i; omega) (Lw_re 0 [] (Nat.zero_le _) (by simp [ln]) (by simp [ln]) rfl ?_ ?_)
          · rw [allS_snoc ha, hp, e, decide_eq_true (p := lo L i ≤ hi L i) (by omega), decide_eq_true (p := -1000000 ≤ lo L i) (by omega), decide_eq_true (p := hi L i ≤ 1000000) (by omega)]; rfl
          · simp only [reL, reX, reH, reB, reM, reN, newB, rn, once, gb, List.getElem?_cons_zero, List.getElem?_cons_succ, Nat.reduceSub, Nat.reduceLeDiff, Nat.lt_irrefl, Nat.le_refl, false_and, or_false, false_or, and_false, reduceCtorEq, true_or, or_true, leL, leX, leH, leB, news, inb, inb.inbs, ln, sts, st, Bool.and_self, Bool.and_true, Bool.true_and, Nat.reduceLT, Nat.reduceAdd, decide_true, true_and, and_true, and_self, SV.agg.injEq, Int.natCast_add, Int.natCast_one, implies_true]
          · simp only [reL, reX, reH, reB, reM, reN, newB, rn, once, gb, List.getElem?_cons_zero, List.getElem?_cons_succ, Nat.reduceSub, Nat.reduceLeDiff, Nat.lt_irrefl, Nat.le_refl, false_and, or_false, false_or, and_false, reduceCtorEq, true_or, or_true, leL, leX, leH, leB, news, inb, inb.inbs, ln, sts, st, Bool.and_self, Bool.and_true, Bool.true_and, Nat.reduceLT, Nat.reduceAdd, decide_true, true_and, and_true, and_self, SV.agg.injEq]
        · have := kf (by rw [e, decide_eq_false (p := -1000000 ≤ lo L i) (by omega)]; simp)
          simp [leR, this]
        · have := kf (by rw [e, decide_eq_false (p := lo L i ≤ hi L i) (by omega)]; simp)
          simp [leR, this]
      · have : i = L.length := by omega
        subst this
        rw [List.take_length] at hp
        refine res hK ?_
        have : spansB L = true := by simp [spansB, hp, h']
        simp [leR, this]
def F87 : FC := fun args => match args with
  | [.agg [.int .i64 a, .int .i64 b], .int .i64 x, .int .i64 y] => some (True, .bool (decide (x ≤ a ∧ a ≤ b ∧ b ≤ y)))
  | _ => none
theorem p87 : PureOk Try.prog 87 (fcC F87) := by
  refine pure_of (T := []) trivial Try.func87 k87 ?_
  intro args K hC
  unfold fcC F87 at hC
  split at hC <;> first | (exact hC.elim) | skip
  rename_i h
  split at h <;> first | (cases h; done) | skip
  cases h
  obtain ⟨-, hK⟩ := hC
  simp only [inr64, ↓reduceIte, ite_true, ite_false, List.cons.injEq, ne_eq, not_true_eq_false, not_false_eq_true, reduceCtorEq, e_skip, e_reg, e_drw, e_seq, e_cond, e_block, e_loop, e_exit, e_ret, e_shut, e_scp, scpK_n, scpK_x, scpK_r, shutH, shut1, shutB, slQ, o_nil, o_cons, gd_none, gd_some, gdK_tt, gdK_tf, gdK_ft, gdK_ff, gdK_u, gdK_bt, gdK_bf, putK_e, runK_e, skipK_e, vK_e, boxK_e, bslK_e, bldK_e, storeK3_e, storeK2_e, storeK_e, appK2_oi, appK2_or, appK_e, conK_e, callK_e, callK_m, evh_v, evh_new, evh_box, evh_bsl, evh_bld, evh_store, evh_app, evh_call, evh_inv, evh_slc, slcK_e, appC_e, appK_c, appK_l, slO, bnd, slv, od_none, od_some, invK_e, invK2_e, lkm, dX_e, dX_b, dX_l, dG_t, dG_f, d_nil, d_cons, creK_e, tlK_n, tlK_s, evc_e, loopK_n, loopK_x, loopK_r, seqK_n, seqK_x, seqK_r, condK_t, condK_f, condK_b, exitK_t, exitK_f, blockK_x, blockK_n, blockK_r, ends_r, ends_n, endK1_e, endK2_e, gam_e, gamK_f, gamK_p, gamK_c, gamq_e, gamqK_f, pc_e, pcK_e, fcC_e, fcK_e, evp, fit, InQ, nilq, nb, bin, binB, gt, gq, st, putf, X.get, gets, getp, ap, mkfr, rep, rdR, tupled, clV, clL, clS, clo, clo.clos, asB, ld, lda, lens, ixs, tk, dr, sp, sp.spl, lay, ll, cs1, one, allOne, gb, sb, pb, ln, lk, evq, gdl, crv, Value.oneCell', undef, Bool.and_true, Bool.true_and, Bool.not_true, Bool.not_false, cond_true, cond_false, Nat.reduceSub, Nat.reduceAdd, Nat.reduceMul, Nat.reduceDiv, Nat.reduceBEq, beq_self_eq_true, true_and, and_true, decide_eq_true_eq, decide_eq_false_iff_not, Bool.not_eq_eq_eq_not, sts, s87, r87]
  exact ⟨fun h => ⟨fun h2 => res hK (by simp [leR, h, h2]), fun h2 => res hK (by simp [leR, h2])⟩, fun h => res hK (by simp [leR, h])⟩
def C86 : PC := fun args K => ∃ (L : List (Int × Int)) (p : Nat), args = [.rd 2 L.length (rowsS L), .int .i64 p] ∧ (1 ≤ p ∧ p ≤ L.length ∧ L.length ≤ 64) ∧ ∀ b : Bool, (b = true ↔ ∀ i k, i < L.length → k < L.length → i % p = k % p → lo L i ≤ hi L k) → K (.bool b)
theorem p86 : PureOk Try.prog 86 C86 := by
  refine pure_of (T := [(104, .pc (fcC F104)), (105, .pc (fcC F105))]) ⟨⟨p104, q104⟩, ⟨p105, q105⟩, trivial⟩ Try.func86 k86 ?_
  rintro args K ⟨L, p, rfl, ⟨hp1, hp2, hp3⟩, hK⟩
  simp only [inr64, ↓reduceIte, ite_true, ite_false, List.cons.injEq, ne_eq, not_true_eq_false, not_false_eq_true, reduceCtorEq, e_skip, e_reg, e_drw, e_seq, e_cond, e_block, e_loop, e_exit, e_ret, e_shut, e_scp, scpK_n, scpK_x, scpK_r, shutH, shut1, shutB, slQ, o_nil, o_cons, gd_none, gd_some, gdK_tt, gdK_tf, gdK_ft, gdK_ff, gdK_u, gdK_bt, gdK_bf, putK_e, runK_e, skipK_e, vK_e, boxK_e, bslK_e, bldK_e, storeK3_e, storeK2_e, storeK_e, appK2_oi, appK2_or, appK_e, conK_e, callK_e, callK_m, evh_v, evh_new, evh_box, evh_bsl, evh_bld, evh_store, evh_app, evh_call, evh_inv, evh_slc, slcK_e, appC_e, appK_c, appK_l, slO, bnd, slv, od_none, od_some, invK_e, invK2_e, lkm, dX_e, dX_b, dX_l, dG_t, dG_f, d_nil, d_cons, creK_e, tlK_n, tlK_s, evc_e, loopK_n, loopK_x, loopK_r, seqK_n, seqK_x, seqK_r, condK_t, condK_f, condK_b, exitK_t, exitK_f, blockK_x, blockK_n, blockK_r, ends_r, ends_n, endK1_e, endK2_e, gam_e, gamK_f, gamK_p, gamK_c, gamq_e, gamqK_f, pc_e, pcK_e, fcC_e, fcK_e, evp, fit, InQ, nilq, nb, bin, binB, gt, gq, st, putf, X.get, gets, getp, ap, mkfr, rep, rdR, tupled, clV, clL, clS, clo, clo.clos, asB, ld, lda, lens, ixs, tk, dr, sp, sp.spl, lay, ll, cs1, one, allOne, gb, sb, pb, ln, lk, evq, gdl, crv, Value.oneCell', undef, Bool.and_true, Bool.true_and, Bool.not_true, Bool.not_false, cond_true, cond_false, Nat.reduceSub, Nat.reduceAdd, Nat.reduceMul, Nat.reduceDiv, Nat.reduceBEq, beq_self_eq_true, true_and, and_true, decide_eq_true_eq, decide_eq_false_iff_not, Bool.not_eq_eq_eq_not, sts, s86, r86]
  refine loop_at2 (G := Nat) (fun f => [(9, .int .i64 f)]) (fun f => []) (fun f => f ≤ p ∧ ∀ i k, i < L.length → k < L.length → i % p = k % p → i % p < f → lo L i ≤ hi L k) (fun f => p - f) 0 ⟨Nat.zero_le _, fun i k _ _ _ h => absurd h (by omega)⟩ ?_
  (intro fr1 hf1; simp only [forget, dstC, dstO, dstD, dst1, st] at hf1; subst hf1)
  refine ⟨?_, ?_⟩
  · refine Lw_re 0 [] (Nat.zero_le _) (by simp [ln]) (by simp [ln]) rfl ?_ ?_
    · simp only [reL, reX, reH, reB, reM, reN, newB, rn, once, gb, List.getElem?_cons_zero, List.getElem?_cons_succ, Nat.reduceSub, Nat.reduceLeDiff, Nat.lt_irrefl, Nat.le_refl, false_and, or_false, false_or, and_false, reduceCtorEq, true_or, or_true, leL, leX, leH, leB, news, inb, inb.inbs, ln, sts, st, Bool.and_self, Bool.and_true, Bool.true_and, Nat.reduceLT, Nat.reduceAdd, decide_true, true_and, and_true, and_self, SV.agg.injEq, Int.natCast_zero, implies_true]
    · simp only [reL, reX, reH, reB, reM, reN, newB, rn, once, gb, List.getElem?_cons_zero, List.getElem?_cons_succ, Nat.reduceSub, Nat.reduceLeDiff, Nat.lt_irrefl, Nat.le_refl, false_and, or_false, false_or, and_false, reduceCtorEq, true_or, or_true, leL, leX, leH, leB, news, inb, inb.inbs, ln, sts, st, Bool.and_self, Bool.and_true, Bool.true_and, Nat.reduceLT, Nat.reduceAdd, decide_true, true_and, and_true, and_self, SV.agg.injEq]
  · rintro f ⟨hf1, hf2⟩
    simp only [inr64, ↓reduceIte, ite_true, ite_false, List.cons.injEq, ne_eq, not_true_eq_false, not_false_eq_true, reduceCtorEq, e_skip, e_reg, e_drw, e_seq, e_cond, e_block, e_loop, e_exit, e_ret, e_shut, e_scp, scpK_n, scpK_x, scpK_r, shutH, shut1, shutB, slQ, o_nil, o_cons, gd_none, gd_some, gdK_tt, gdK_tf, gdK_ft, gdK_ff, gdK_u, gdK_bt, gdK_bf, putK_e, runK_e, skipK_e, vK_e, boxK_e, bslK_e, bldK_e, storeK3_e, storeK2_e, storeK_e, appK2_oi, appK2_or, appK_e, conK_e, callK_e, callK_m, evh_v, evh_new, evh_box, evh_bsl, evh_bld, evh_store, evh_app, evh_call, evh_inv, evh_slc, slcK_e, appC_e, appK_c, appK_l, slO, bnd, slv, od_none, od_some, invK_e, invK2_e, lkm, dX_e, dX_b, dX_l, dG_t, dG_f, d_nil, d_cons, creK_e, tlK_n, tlK_s, evc_e, loopK_n, loopK_x, loopK_r, seqK_n, seqK_x, seqK_r, condK_t, condK_f, condK_b, exitK_t, exitK_f, blockK_x, blockK_n, blockK_r, ends_r, ends_n, endK1_e, endK2_e, gam_e, gamK_f, gamK_p, gamK_c, gamq_e, gamqK_f, pc_e, pcK_e, fcC_e, fcK_e, evp, fit, InQ, nilq, nb, bin, binB, gt, gq, st, putf, X.get, gets, getp, ap, mkfr, rep, rdR, tupled, clV, clL, clS, clo, clo.clos, asB, ld, lda, lens, ixs, tk, dr, sp, sp.spl, lay, ll, cs1, one, allOne, gb, sb, pb, ln, lk, evq, gdl, crv, Value.oneCell', undef, Bool.and_true, Bool.true_and, Bool.not_true, Bool.not_false, cond_true, cond_false, Nat.reduceSub, Nat.reduceAdd, Nat.reduceMul, Nat.reduceDiv, Nat.reduceBEq, beq_self_eq_true, true_and, and_true, decide_eq_true_eq, decide_eq_false_iff_not, Bool.not_eq_eq_eq_not, sts, Int.toNat_natCast, rowsS]
    refine ⟨fun h => ⟨by omega, ?_⟩, fun h => ?_⟩
    · have hfp : f < p := by omega
      have hfl : f < L.length := by omega
      refine loop_at2 (G := Nat × Int × Int) (fun g => [(7, .int .i64 g.1)]) (fun g => [Blk.box 63 [.int .i64 g.2.1, .int .i64 g.2.2]])
        (fun g => (f ≤ g.1 ∧ g.1 % p = f ∧ g.1 < L.length + p) ∧ (∀ j, j < g.1 → j < L.length → j % p = f → lo L j ≤ g.2.1 ∧ g.2.2 ≤ hi L j) ∧ (∃ j, j < L.length ∧ j % p = f ∧ g.2.1 = lo L j) ∧ (∃ j, j < L.length ∧ j % p = f ∧ g.2.2 = hi L j)) (fun g => L.length + p - g.1)
        (f, lo L f, hi L f) ⟨⟨Nat.le_refl _, Nat.mod_eq_of_lt hfp, by omega⟩, fun j hj _ hm => absurd hm (by show j % p ≠ f; rw [Nat.mod_eq_of_lt (by omega)]; omega), ⟨f, hfl, Nat.mod_eq_of_lt hfp, rfl⟩, ⟨f, hfl, Nat.mod_eq_of_lt hfp, rfl⟩⟩ ?_
      (intro fr1 hf1; simp only [forget, dstC, dstO, dstD, dst1, st] at hf1; subst hf1)
      refine ⟨?_, ?_⟩
      · refine Lw_re 1 [] (Nat.zero_le _) (by simp [ln]) (by simp [ln]) rfl ?_ ?_
        · simp only [reL, reX, reH, reB, reM, reN, newB, rn, once, gb, List.getElem?_cons_zero, List.getElem?_cons_succ, Nat.reduceSub, Nat.reduceLeDiff, Nat.lt_irrefl, Nat.le_refl, false_and, or_false, false_or, and_false, reduceCtorEq, true_or, or_true, leL, leX, leH, leB, news, inb, inb.inbs, ln, sts, st, Bool.and_self, Bool.and_true, Bool.true_and, Nat.reduceLT, Nat.reduceAdd, decide_true, true_and, and_true, and_self, SV.agg.injEq, Int.natCast_zero, implies_true]
        · simp only [reL, reX, reH, reB, reM, reN, newB, rn, once, gb, List.getElem?_cons_zero, List.getElem?_cons_succ, Nat.reduceSub, Nat.reduceLeDiff, Nat.lt_irrefl, Nat.le_refl, false_and, or_false, false_or, and_false, reduceCtorEq, true_or, or_true, leL, leX, leH, leB, news, inb, inb.inbs, ln, sts, st, Bool.and_self, Bool.and_true, Bool.true_and, Nat.reduceLT, Nat.reduceAdd, decide_true, true_and, and_true, and_self, SV.agg.injEq]
      · rintro ⟨k, a, b⟩ ⟨⟨g1, g2, g3⟩, g4, g5, g6⟩
        dsimp only at g1 g2 g3 g4 g5 g6
        simp only [inr64, ↓reduceIte, ite_true, ite_false, List.cons.injEq, ne_eq, not_true_eq_false, not_false_eq_true, reduceCtorEq, e_skip, e_reg, e_drw, e_seq, e_cond, e_block, e_loop, e_exit, e_ret, e_shut, e_scp, scpK_n, scpK_x, scpK_r, shutH, shut1, shutB, slQ, o_nil, o_cons, gd_none, gd_some, gdK_tt, gdK_tf, gdK_ft, gdK_ff, gdK_u, gdK_bt, gdK_bf, putK_e, runK_e, skipK_e, vK_e, boxK_e, bslK_e, bldK_e, storeK3_e, storeK2_e, storeK_e, appK2_oi, appK2_or, appK_e, conK_e, callK_e, callK_m, evh_v, evh_new, evh_box, evh_bsl, evh_bld, evh_store, evh_app, evh_call, evh_inv, evh_slc, slcK_e, appC_e, appK_c, appK_l, slO, bnd, slv, od_none, od_some, invK_e, invK2_e, lkm, dX_e, dX_b, dX_l, dG_t, dG_f, d_nil, d_cons, creK_e, tlK_n, tlK_s, evc_e, loopK_n, loopK_x, loopK_r, seqK_n, seqK_x, seqK_r, condK_t, condK_f, condK_b, exitK_t, exitK_f, blockK_x, blockK_n, blockK_r, ends_r, ends_n, endK1_e, endK2_e, gam_e, gamK_f, gamK_p, gamK_c, gamq_e, gamqK_f, pc_e, pcK_e, fcC_e, fcK_e, evp, fit, InQ, nilq, nb, bin, binB, gt, gq, st, putf, X.get, gets, getp, ap, mkfr, rep, rdR, tupled, clV, clL, clS, clo, clo.clos, asB, ld, lda, lens, ixs, tk, dr, sp, sp.spl, lay, ll, cs1, one, allOne, gb, sb, pb, ln, lk, evq, gdl, crv, Value.oneCell', undef, Bool.and_true, Bool.true_and, Bool.not_true, Bool.not_false, cond_true, cond_false, Nat.reduceSub, Nat.reduceAdd, Nat.reduceMul, Nat.reduceDiv, Nat.reduceBEq, beq_self_eq_true, true_and, and_true, decide_eq_true_eq, decide_eq_false_iff_not, Bool.not_eq_eq_eq_not, sts, Int.toNat_natCast, rowsS, F104, F105, toInts]
        refine ⟨fun h => ?_, fun h => ⟨fun h2 => ?_, fun h2 => ⟨by omega, ?_⟩⟩⟩
        · have hk' : k < L.length := by omega
          refine ⟨by omega, by simp, by omega, by simp, by omega, ?_⟩
          refine Nx.mk (k + p, max a (lo L k), min b (hi L k)) ⟨⟨by simp only; omega, by simp only; rw [Nat.add_mod_right]; exact g2, by simp only; omega⟩, fun j hj1 hj2 hj3 => ?_, ?_, ?_⟩ (by show L.length + p - (k + p) < L.length + p - k; omega) (Lw_re 1 [] (Nat.zero_le _) (by simp [ln]) (by simp [ln]) rfl ?_ ?_)
          · simp only at hj1 ⊢
            by_cases hjk : j < k
            · have := g4 j hjk hj2 hj3
              omega
            · have e : j = k := by
                have h1 : (j - k) % p = 0 := Nat.sub_mod_eq_zero_of_mod_eq (by rw [hj3, g2])
                rw [Nat.mod_eq_of_lt (by omega)] at h1
                omega
              subst e
              omega
          · obtain ⟨j, j1, j2, j3⟩ := g5
            by_cases hc : a < lo L k
            · exact ⟨k, hk', g2, by simp only; omega⟩
            · exact ⟨j, j1, j2, by simp only; omega⟩
          · obtain ⟨j, j1, j2, j3⟩ := g6
            by_cases hc : hi L k < b
            · exact ⟨k, hk', g2, by simp only; omega⟩
            · exact ⟨j, j1, j2, by simp only; omega⟩
          · simp only [reL, reX, reH, reB, reM, reN, newB, rn, once, gb, List.getElem?_cons_zero, List.getElem?_cons_succ, Nat.reduceSub, Nat.reduceLeDiff, Nat.lt_irrefl, Nat.le_refl, false_and, or_false, false_or, and_false, reduceCtorEq, true_or, or_true, leL, leX, leH, leB, news, inb, inb.inbs, ln, sts, st, Bool.and_self, Bool.and_true, Bool.true_and, Nat.reduceLT, Nat.reduceAdd, decide_true, true_and, and_true, and_self, SV.agg.injEq, Int.natCast_add, implies_true]
          · simp only [reL, reX, reH, reB, reM, reN, newB, rn, once, gb, List.getElem?_cons_zero, List.getElem?_cons_succ, Nat.reduceSub, Nat.reduceLeDiff, Nat.lt_irrefl, Nat.le_refl, false_and, or_false, false_or, and_false, reduceCtorEq, true_or, or_true, leL, leX, leH, leB, news, inb, inb.inbs, ln, sts, st, Bool.and_self, Bool.and_true, Bool.true_and, Nat.reduceLT, Nat.reduceAdd, decide_true, true_and, and_true, and_self, SV.agg.injEq, mxL, mnL, List.foldl_cons, List.foldl_nil]
        · refine res (hK false ?_) (by simp [leR])
          obtain ⟨i, i1, i2, i3⟩ := g5
          obtain ⟨j, j1, j2, j3⟩ := g6
          refine ⟨fun h0 => (by cases h0), fun h0 => ?_⟩
          have := h0 i j i1 j1 (by rw [i2, j2])
          omega
        · refine Nx.mk (f + 1) ⟨by omega, fun i j i1 j1 ij hif => ?_⟩ (by show p - (f + 1) < p - f; omega) (Lw_re 0 [] (Nat.zero_le _) (by simp [ln]) (by simp [ln]) rfl ?_ ?_)
          · by_cases hif2 : i % p < f
            · exact hf2 i j i1 j1 ij hif2
            · have e1 : i % p = f := by omega
              have := (g4 i (by omega) i1 e1).1
              have := (g4 j (by omega) j1 (by rw [← ij]; exact e1)).2
              omega
          · simp only [reL, reX, reH, reB, reM, reN, newB, rn, once, gb, List.getElem?_cons_zero, List.getElem?_cons_succ, Nat.reduceSub, Nat.reduceLeDiff, Nat.lt_irrefl, Nat.le_refl, false_and, or_false, false_or, and_false, reduceCtorEq, true_or, or_true, leL, leX, leH, leB, news, inb, inb.inbs, ln, sts, st, Bool.and_self, Bool.and_true, Bool.true_and, Nat.reduceLT, Nat.reduceAdd, decide_true, true_and, and_true, and_self, SV.agg.injEq, Int.natCast_add, Int.natCast_one, implies_true]
          · simp only [reL, reX, reH, reB, reM, reN, newB, rn, once, gb, List.getElem?_cons_zero, List.getElem?_cons_succ, Nat.reduceSub, Nat.reduceLeDiff, Nat.lt_irrefl, Nat.le_refl, false_and, or_false, false_or, and_false, reduceCtorEq, true_or, or_true, leL, leX, leH, leB, news, inb, inb.inbs, ln, sts, st, Bool.and_self, Bool.and_true, Bool.true_and, Nat.reduceLT, Nat.reduceAdd, decide_true, true_and, and_true, and_self, SV.agg.injEq]
    · refine res (hK true ⟨fun _ i j i1 j1 ij => hf2 i j i1 j1 ij ?_, fun _ => rfl⟩) (by simp [leR])
      have := Nat.mod_lt i (show p > 0 by omega)
      omega
end Go.Proofs.Ytbbbpdajikblbaa
