/- Rounds: RoundsReads, given works(). -/
import Derived.Test.YtgfoakilompbdaaVgF3
namespace Go.Proofs.Ytgfoakilompbdaa
open Go Go.Vg
set_option linter.unusedSimpArgs false
set_option linter.unusedVariables false
set_option maxRecDepth 10000
/- 3: octant/octantlaw06.RoundsReads -/
def s3 : SC :=
  (.seq (.reg [⟨(some 2), none, .box 25 (.t 0)⟩,
    ⟨(some 3), none, .box 27 (.t 1)⟩,
    ⟨(some 4), none, .v (.mov (.c (.lit (.bool false))))⟩])
  (.seq (.reg [⟨(some 14), none, .v (.load (.t 2) (some 6))⟩,
    ⟨(some 15), none, .call (.c (.fn 14 [])) [(.t 14)]⟩,
    ⟨(some 13), none, .v (.mov (.t 15))⟩,
    ⟨(some 16), none, .v (.ext (.t 13) 0)⟩,
    ⟨(some 17), none, .v (.ext (.t 13) 1)⟩,
    ⟨(some 5), none, .v (.mov (.t 16))⟩,
    ⟨(some 6), none, .v (.mov (.t 17))⟩])
  (.seq (.reg [⟨(some 19), none, .v (.load (.t 2) (some 6))⟩,
    ⟨(some 20), none, .call (.c (.fn 15 [])) [(.t 19)]⟩,
    ⟨(some 18), none, .v (.mov (.t 20))⟩,
    ⟨(some 21), none, .v (.ext (.t 18) 0)⟩,
    ⟨(some 22), none, .v (.ext (.t 18) 1)⟩,
    ⟨(some 7), none, .v (.mov (.t 21))⟩,
    ⟨(some 8), none, .v (.mov (.t 22))⟩])
  (.seq (.seq (.reg [⟨(some 23), none, .v (.mov (.t 5))⟩,
    ⟨(some 24), none, .v (.mov (.t 7))⟩,
    ⟨(some 25), none, .call (.c (.fn 16 [])) [(.t 23), (.t 24)]⟩,
    ⟨(some 26), none, .v (.not (.t 25))⟩,
    ⟨(some 27), none, .v (.mov (.t 26))⟩,
    ⟨(some 28), (some (27, false)), .v (.mov (.t 6))⟩,
    ⟨(some 29), (some (27, false)), .v (.mov (.t 8))⟩,
    ⟨(some 30), (some (27, false)), .v (.bin .neq (.t 28) (.t 29))⟩,
    ⟨(some 31), none, .v (.pick (.t 27) (.c (.lit (.bool true))) (.t 30))⟩])
  (.cond (.t 31)
    (.seq (.reg [⟨(some 4), none, .v (.mov (.c (.lit (.bool false))))⟩])
    .ret)
    .skip))
  (.seq (.reg [⟨(some 33), none, .v (.load (.t 3) (some 4))⟩,
    ⟨(some 34), none, .call (.c (.fn 17 [])) [(.t 33)]⟩,
    ⟨(some 32), none, .v (.mov (.t 34))⟩,
    ⟨(some 35), none, .v (.ext (.t 32) 0)⟩,
    ⟨(some 36), none, .v (.ext (.t 32) 1)⟩,
    ⟨(some 37), none, .v (.ext (.t 32) 2)⟩,
    ⟨(some 9), none, .new 23 [(.int .i64 (0)), (.int .i64 (0))]⟩,
    ⟨(some 10), none, .new 23 [(.int .i64 (0)), (.int .i64 (0))]⟩,
    ⟨none, none, .store 2 (.t 9) (.t 35)⟩,
    ⟨none, none, .store 2 (.t 10) (.t 36)⟩,
    ⟨(some 6), none, .v (.mov (.t 37))⟩])
  (.seq (.reg [⟨(some 39), none, .v (.load (.t 3) (some 4))⟩,
    ⟨(some 40), none, .call (.c (.fn 18 [])) [(.t 39)]⟩,
    ⟨(some 38), none, .v (.mov (.t 40))⟩,
    ⟨(some 41), none, .v (.ext (.t 38) 0)⟩,
    ⟨(some 42), none, .v (.ext (.t 38) 1)⟩,
    ⟨(some 43), none, .v (.ext (.t 38) 2)⟩,
    ⟨(some 11), none, .new 23 [(.int .i64 (0)), (.int .i64 (0))]⟩,
    ⟨(some 12), none, .new 23 [(.int .i64 (0)), (.int .i64 (0))]⟩,
    ⟨none, none, .store 2 (.t 11) (.t 41)⟩,
    ⟨none, none, .store 2 (.t 12) (.t 42)⟩,
    ⟨(some 8), none, .v (.mov (.t 43))⟩])
  (.seq (.reg [⟨(some 44), none, .v (.load (.t 9) (some 2))⟩,
    ⟨(some 45), none, .v (.load (.t 11) (some 2))⟩,
    ⟨(some 46), none, .v (.eqs [(some .i64), (some .i64)] false (.t 44) (.t 45))⟩,
    ⟨(some 47), none, .v (.mov (.t 46))⟩,
    ⟨(some 48), (some (47, true)), .v (.load (.t 10) (some 2))⟩,
    ⟨(some 49), (some (47, true)), .v (.load (.t 12) (some 2))⟩,
    ⟨(some 50), (some (47, true)), .v (.eqs [(some .i64), (some .i64)] false (.t 48) (.t 49))⟩,
    ⟨(some 51), none, .v (.pick (.t 47) (.t 50) (.c (.lit (.bool false))))⟩,
    ⟨(some 52), none, .v (.mov (.t 51))⟩,
    ⟨(some 53), (some (52, true)), .v (.mov (.t 6))⟩,
    ⟨(some 54), (some (52, true)), .v (.mov (.t 8))⟩,
    ⟨(some 55), (some (52, true)), .v (.bin .eql (.t 53) (.t 54))⟩,
    ⟨(some 56), none, .v (.pick (.t 52) (.t 55) (.c (.lit (.bool false))))⟩,
    ⟨(some 57), none, .v (.mov (.t 56))⟩,
    ⟨(some 58), (some (57, true)), .call (.c (.fn 19 [])) []⟩,
    ⟨(some 59), none, .v (.pick (.t 57) (.t 58) (.c (.lit (.bool false))))⟩,
    ⟨(some 4), none, .v (.mov (.t 59))⟩])
  .ret)))))))
def r3 : List RV := [.t 4]
def n3 : Nat := 60
theorem k3 : (Try.f3.body.bind (cC Try.prog), cR Try.prog Try.f3.results.toList, Try.f3.ntmps) = (some s3, some r3, 60) := by kernel_rfl
theorem q3 : Known Try.prog 3 := ⟨_, Try.func3, by decide, by simp [Try.f3]⟩



def bndL (L : List (Int × Int)) : Prop := ∀ i, (-1000000000 ≤ lo L i ∧ lo L i ≤ 1000000000) ∧ (-1000000000 ≤ hi L i ∧ hi L i ≤ 1000000000)
theorem ext_rows {A B : List (Int × Int)} (h : A.length = B.length) (h2 : ∀ j, j < A.length → lo A j = lo B j ∧ hi A j = hi B j) : A = B := by
  refine List.ext_getElem h fun i h3 h4 => ?_
  have := h2 i h3
  unfold lo hi at this
  simp only [List.getD, List.getElem?_eq_getElem h3, List.getElem?_eq_getElem h4, Option.getD_some] at this
  exact Prod.ext this.1 this.2
def C16 : PC := fun args K => ∃ A B : List (Int × Int), args = [.rd 2 A.length (rowsS A), .rd 2 B.length (rowsS B)] ∧ A.length ≤ 1000000 ∧ bndL A ∧ bndL B ∧ K (.bool (decide (A = B)))
theorem p16 : PureOk Try.prog 16 C16 := by
  refine pure_of (T := []) trivial Try.func16 k16 ?_
  rintro args K ⟨A, B, rfl, hAl, hA, hB, hK⟩
  simp only [e_skip, e_reg, e_seq, e_cond, e_block, e_loop, e_ret, o_nil, o_cons, gd_none, putK_e, runK_e, vK_e, evh_v, seqK_n, seqK_r, condK_b, ends_r, endK1_e, endK2_e, evp, bin, gt, st, putf, X.get, mkfr, rep, rdR, tupled, clV, clS, clo, lens, undef, Bool.not_true, Bool.not_false, Nat.reduceSub, true_and, decide_eq_true_eq, decide_eq_false_iff_not, Bool.not_eq_eq_eq_not, s16, r16]
  refine ⟨fun h => res hK ?_, fun h => ?_⟩
  · have : ¬ A = B := fun e => by subst e; omega
    simp [leR, this]
  have hl : A.length = B.length := by omega
  refine loop_at2 (G := Nat) (fun i => [(5, .int .i64 i)]) (fun i => []) (fun i => i ≤ A.length ∧ ∀ j, j < i → lo A j = lo B j ∧ hi A j = hi B j) (fun i => A.length - i) 0 ⟨Nat.zero_le _, fun j hj => by omega⟩ ?_
  (intro fr1 hf1; simp only [forget, dstC, dstO, dstD, dst1, st] at hf1; subst hf1)
  refine ⟨?_, ?_⟩
  · refine Lw_re 0 [] (Nat.zero_le _) (by simp [ln]) (by simp [ln]) rfl ?_ ?_
    · simp only [reL, reX, inb, ln, sts, st, and_self, Int.natCast_zero, implies_true]
    · simp only [reH, reN]
  · rintro i ⟨hi1, hp⟩
    have h1 := hA i
    have h2 := hB i
    simp only [inr64, List.cons.injEq, e_skip, e_reg, e_drw, e_seq, e_cond, e_block, e_exit, e_ret, o_nil, o_cons, gd_none, putK_e, runK_e, vK_e, evh_v, dX_e, dG_t, d_nil, d_cons, tlK_n, loopK_n, loopK_x, loopK_r, seqK_n, seqK_x, seqK_r, condK_b, exitK_t, blockK_x, blockK_n, blockK_r, ends_r, endK1_e, endK2_e, evp, fit, InQ, bin, gt, st, putf, X.get, rdR, tupled, clV, clS, clo, ld, lda, lens, ixs, tk, dr, evq, gdl, Bool.not_true, Bool.not_false, cond_true, beq_self_eq_true, true_and, and_true, decide_eq_true_eq, decide_eq_false_iff_not, Bool.not_eq_eq_eq_not, sts, rowsS, Int.toNat_natCast]
    refine ⟨fun h3 => ⟨by omega, by omega, by omega, fun h4 => res hK ?_, fun h4 => ⟨by omega, ?_⟩⟩, fun h3 => res hK ?_⟩
    · have : ¬ A = B := fun e => by subst e; exact h4 ⟨rfl, rfl⟩
      simp [leR, this]
    · refine Nx.mk (i + 1) ⟨by omega, fun j hj => ?_⟩ (by omega) (Lw_re 0 [] (Nat.zero_le _) (by simp [ln]) (by simp [ln]) rfl ?_ ?_)
      · by_cases h5 : j < i
        · exact hp j h5
        · have : j = i := by omega
          subst this; exact h4
      · simp only [reL, reX, inb, and_self, Int.natCast_add, Int.natCast_one, implies_true]
      · simp only [reH, reN]
    · have : A = B := ext_rows hl fun j hj => hp j (by omega)
      simp [leR, this]
theorem Rp.RB (v : Rp) : bndL v.R := by
  intro i
  unfold Rp.R
  split
  · rename_i h
    by_cases hi' : i < v.pl.length
    · have hm : v.pl.getD i (0, 0) ∈ v.pl := by simp [List.getD, hi']
      unfold lo hi
      have h2 := acc_lt hm
      obtain ⟨k, _, e⟩ := acc_mem hm
      rw [e] at h2 ⊢
      have h3 : v.a ≤ (v.pw k).1 ∧ (v.pw k).2 ≤ v.b := v.win_b _
      unfold Rp.ok at h
      omega
    · have : v.pl.getD i (0, 0) = (0, 0) := by simp [List.getD, Nat.le_of_not_lt hi']
      unfold lo hi
      rw [this]
      simp
  · simp [lo, hi, List.getD]
theorem Rp.Rlen (v : Rp) : v.R.length ≤ 1000000 := by
  unfold Rp.R
  split
  · rename_i h
    have := acc_len v.pw (v.t + 2).toNat
    unfold Rp.ok at h
    unfold Rp.pl
    omega
  · simp
theorem Fc.DB (v : Fc) : (-1000000000 ≤ v.D.1 ∧ v.D.1 ≤ 1000000000) ∧ (-1000000000 ≤ v.D.2 ∧ v.D.2 ≤ 1000000000) ∧ (-1000000000 ≤ v.L.1 ∧ v.L.1 ≤ 1000000000) ∧ (-1000000000 ≤ v.L.2 ∧ v.L.2 ≤ 1000000000) := by
  unfold Fc.D Fc.L
  by_cases h : v.ok ∧ v.lo ≤ v.hi
  · rw [if_pos h, if_pos h]
    obtain ⟨h1, h2⟩ := h
    have h3 := v.aB
    unfold Fc.ok at h1
    have hb : -100000 ≤ v.lo ∧ v.hi ≤ 100000 := by unfold Fc.lo Fc.hi; omega
    have hc : -100000 ≤ v.cl v.hi ∧ v.cl v.hi ≤ 100000 := by unfold Fc.cl; omega
    unfold Fc.d1 Fc.d2
    simp only
    omega
  · rw [if_neg h, if_neg h]; simp
def F19 : FC := fun args => match args with
  | [] => some (True, .lit (.bool true))
  | _ => none
def C3 : PC := fun args K => ∃ (v : Rp) (u : Fc), args = [v.sv, u.sv] ∧ K (.lit (.bool true))
theorem p3 (p19 : PureOk Try.prog 19 (fcC F19)) (q19 : Known Try.prog 19) : PureOk Try.prog 3 C3 := by
  refine pure_of (T := [(14, .pc C14), (15, .pc C14), (16, .pc C16), (17, .fc F17), (18, .fc F17), (19, .fc F19)]) ⟨⟨p14, q14⟩, ⟨p15, q15⟩, ⟨p16, q16⟩, ⟨p17, q17⟩, ⟨p18, q18⟩, ⟨p19, q19⟩, trivial⟩ Try.func3 k3 ?_
  rintro args K ⟨v, u, rfl, hK⟩
  simp only [Rp.sv, Fc.sv]
  have hu : (⟨u.l, u.r, u.w, u.n⟩ : Fc) = u := rfl
  simp only [e_reg, e_seq, o_nil, o_cons, gd_none, putK_e, runK_e, vK_e, boxK_e, conK_e, callK_e, evh_v, evh_box, evh_call, seqK_n, gam_e, gamK_p, pc_e, pcK_e, evp, gt, st, putf, X.get, gets, ap, mkfr, rep, clV, clL, clS, clo, ld, lda, tk, dr, cs1, gb, pb, ln, lk, undef, Nat.reduceSub, Nat.reduceAdd, beq_self_eq_true, true_and, s3, r3]
  refine ⟨v, rfl, ?_⟩
  simp only [e_reg, e_seq, o_nil, o_cons, gd_none, putK_e, runK_e, vK_e, conK_e, callK_e, evh_v, evh_call, seqK_n, gam_e, gamK_p, pc_e, pcK_e, evp, gt, gq, st, putf, X.get, gets, ap, clV, clL, clS, clo, ld, lda, tk, dr, gb, lk, Nat.reduceBEq, beq_self_eq_true, true_and]
  refine ⟨v, rfl, ?_⟩
  simp only [e_reg, e_seq, o_nil, o_cons, gd_none, putK_e, runK_e, vK_e, conK_e, callK_e, evh_v, evh_call, seqK_n, gam_e, gamK_p, pc_e, pcK_e, evp, gt, gq, st, putf, X.get, gets, ap, clV, clL, clS, clo, lk, Nat.reduceBEq, beq_self_eq_true, true_and]
  refine ⟨v.R, v.R, rfl, v.Rlen, v.RB, v.RB, ?_⟩
  simp only [not_true_eq_false, e_skip, e_reg, and_self, e_seq, e_cond, e_ret, o_nil, o_cons, gd_none, gd_some, gdK_tt, gdK_tf, gdK_ft, gdK_ff, gdK_bt, gdK_bf, putK_e, runK_e, skipK_e, vK_e, storeK3_e, storeK2_e, storeK_e, conK_e, callK_e, evh_v, evh_new, evh_store, evh_call, seqK_n, seqK_r, condK_t, condK_b, ends_r, endK1_e, endK2_e, gam_e, gamK_f, pc_e, pcK_e, fcC_e, fcK_e, evp, fit, InQ, bin, gt, gq, st, putf, X.get, gets, ap, rdR, tupled, clV, clL, clS, clo, ld, lda, tk, dr, sp, sp.spl, ll, cs1, one, allOne, gb, sb, pb, ln, lk, undef, Bool.and_true, Bool.not_true, Bool.not_false, cond_false, Nat.reduceAdd, Nat.reduceBEq, beq_self_eq_true, true_and, and_true, decide_eq_true_eq, decide_eq_false_iff_not, Bool.not_eq_eq_eq_not, F17, hu, F19]
  have h := u.DB
  exact ⟨fun _ => ⟨fun h => h.elim, fun _ => ⟨by omega, fun _ => ⟨by omega, fun _ => ⟨fun _ => res hK (by simp [leR]), fun h => h.elim⟩, fun h => h.elim⟩, fun h => h.elim⟩⟩, fun h => h.elim⟩
end Go.Proofs.Ytgfoakilompbdaa
