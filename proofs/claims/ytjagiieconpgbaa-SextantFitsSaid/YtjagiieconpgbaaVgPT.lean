import Derived.Test.YtjagiieconpgbaaVgPS
import Derived.Test.YtjagiieconpgbaaVgCS
import Derived.Deep.Strs
section
namespace Go.Proofs.Ytjagiieconpgbaa
open Go Go.Vg
set_option linter.unusedSimpArgs false
set_option linter.unusedVariables false
set_option maxRecDepth 10000
def s58 : SC :=
 (.seq (.reg [⟨(some 2), none, .box 24 (.t 0)⟩,
  ⟨(some 3), none, .box 24 (.t 1)⟩,
  ⟨(some 4), none, .new 24 [(.int .i64 (0)), (.int .i64 (0))]⟩])
 (.seq (.reg [⟨(some 5), none, .v (.off (.t 2) 0)⟩,
  ⟨(some 6), none, .v (.load (.t 5) none)⟩,
  ⟨(some 7), none, .v (.off (.t 3) 0)⟩,
  ⟨(some 8), none, .v (.load (.t 7) none)⟩,
  ⟨(some 9), none, .v (.bin .add (.t 6) (.t 8))⟩,
  ⟨(some 10), none, .v (.off (.t 2) 1)⟩,
  ⟨(some 11), none, .v (.load (.t 10) none)⟩,
  ⟨(some 12), none, .v (.off (.t 3) 1)⟩,
  ⟨(some 13), none, .v (.load (.t 12) none)⟩,
  ⟨(some 14), none, .v (.bin .add (.t 11) (.t 13))⟩,
  ⟨(some 15), none, .bld [(.int .i64 (0)), (.int .i64 (0))] [(0, 1, (.t 9)), (1, 1, (.t 14))]⟩,
  ⟨none, none, .store 2 (.t 4) (.t 15)⟩])
 .ret))
def r58 : List RV := [.c 4 (some 2)]
theorem k58 : (Try.f58.body.bind (cC Try.prog), cR Try.prog Try.f58.results.toList, Try.f58.ntmps) = (some s58, some r58, 16) := by kernel_rfl
theorem q58 : Known Try.prog 58 := ⟨_, Try.func58, by decide, by simp [Try.f58]⟩
def s83 : SC :=
 (.seq (.reg [⟨(some 4), none, .box 77 (.t 0)⟩,
  ⟨(some 5), none, .box 77 (.t 1)⟩,
  ⟨(some 6), none, .box 77 (.t 2)⟩,
  ⟨(some 8), none, .v (.mov (.c (.lit (.bool false))))⟩])
 (.seq (.seq (.reg [⟨(some 11), none, .v (.off (.t 4) 0)⟩,
  ⟨(some 12), none, .v (.load (.t 11) none)⟩,
  ⟨(some 13), none, .v (.bin .neq (.t 12) (.c (.int .i64 (0))))⟩,
  ⟨(some 14), none, .v (.mov (.t 13))⟩,
  ⟨(some 15), (some (14, false)), .v (.off (.t 5) 0)⟩,
  ⟨(some 16), (some (14, false)), .v (.load (.t 15) none)⟩,
  ⟨(some 17), (some (14, false)), .v (.bin .neq (.t 16) (.c (.int .i64 (1))))⟩,
  ⟨(some 18), none, .v (.pick (.t 14) (.c (.lit (.bool true))) (.t 17))⟩,
  ⟨(some 19), none, .v (.mov (.t 18))⟩,
  ⟨(some 20), (some (19, false)), .v (.off (.t 6) 0)⟩,
  ⟨(some 21), (some (19, false)), .v (.load (.t 20) none)⟩,
  ⟨(some 22), (some (19, false)), .v (.bin .neq (.t 21) (.c (.int .i64 (2))))⟩,
  ⟨(some 23), none, .v (.pick (.t 19) (.c (.lit (.bool true))) (.t 22))⟩])
 (.cond (.t 23)
  (.seq (.reg [⟨(some 8), none, .v (.mov (.c (.lit (.bool false))))⟩])
  .ret)
  .skip))
 (.seq (.seq (.reg [⟨(some 9), none, .v (.mov (.c (.int .i64 (0))))⟩])
 (.block 0 (.loop
  (.seq (.seq (.reg [⟨(some 24), none, .v (.mov (.t 9))⟩,
   ⟨(some 25), none, .v (.off (.t 4) 2)⟩,
   ⟨(some 26), none, .v (.load (.t 25) none)⟩,
   ⟨(some 27), none, .v (.len (.t 26))⟩,
   ⟨(some 28), none, .v (.bin .lss (.t 24) (.t 27))⟩])
  (.cond (.t 28)
   .skip
   (.exit 0)))
  (.seq (.block 1 (.seq (.drw [(0, ⟨(some 31), none, .v (.off (.t 4) 2)⟩, false),
   (1, ⟨(some 32), none, .v (.load (.t 31) none)⟩, false),
   (2, ⟨(some 33), none, .v (.mov (.t 9))⟩, false),
   (3, ⟨(some 34), none, .v (.ixa (.t 32) (.t 33) 2)⟩, false),
   (4, ⟨(some 35), none, .v (.load (.t 34) (some 2))⟩, false),
   (5, ⟨(some 36), none, .v (.off (.t 5) 2)⟩, false),
   (6, ⟨(some 37), none, .v (.load (.t 36) none)⟩, false),
   (7, ⟨(some 38), none, .v (.mov (.t 9))⟩, false),
   (8, ⟨(some 39), none, .v (.ixa (.t 37) (.t 38) 2)⟩, false),
   (9, ⟨(some 40), none, .v (.load (.t 39) (some 2))⟩, false),
   (10, ⟨(some 41), none, .call (.c (.fn 58 [])) [(.t 35), (.t 40)]⟩, false),
   (11, ⟨(some 42), none, .v (.off (.t 6) 2)⟩, false),
   (12, ⟨(some 43), none, .v (.load (.t 42) none)⟩, false),
   (13, ⟨(some 44), none, .v (.mov (.t 9))⟩, false),
   (14, ⟨(some 45), none, .v (.ixa (.t 43) (.t 44) 2)⟩, false),
   (15, ⟨(some 46), none, .v (.load (.t 45) (some 2))⟩, false),
   (16, ⟨(some 47), none, .call (.c (.fn 58 [])) [(.t 41), (.t 46)]⟩, false)]
   (some ⟨(some 10), none, .new 24 [(.int .i64 (0)), (.int .i64 (0))]⟩)
   [⟨none, none, .store 2 (.t 10) (.t 47)⟩])
  (.seq (.reg [⟨(some 48), none, .v (.off (.t 10) 0)⟩,
   ⟨(some 49), none, .v (.load (.t 48) none)⟩,
   ⟨(some 50), none, .v (.mov (.t 3))⟩,
   ⟨(some 51), none, .v (.neg (.t 50))⟩,
   ⟨(some 52), none, .v (.bin .lss (.t 49) (.t 51))⟩,
   ⟨(some 53), none, .v (.mov (.t 52))⟩,
   ⟨(some 54), (some (53, false)), .v (.off (.t 10) 1)⟩,
   ⟨(some 55), (some (53, false)), .v (.load (.t 54) none)⟩,
   ⟨(some 56), (some (53, false)), .v (.mov (.t 3))⟩,
   ⟨(some 57), (some (53, false)), .v (.bin .gtr (.t 55) (.t 56))⟩,
   ⟨(some 58), none, .v (.pick (.t 53) (.c (.lit (.bool true))) (.t 57))⟩])
  (.cond (.t 58)
   (.seq (.reg [⟨(some 8), none, .v (.mov (.c (.lit (.bool false))))⟩])
   .ret)
   .skip))))
  (.reg [⟨(some 29), none, .v (.mov (.t 9))⟩,
   ⟨(some 30), none, .v (.bin .add (.t 29) (.c (.int .i64 (1))))⟩,
   ⟨(some 9), none, .v (.mov (.t 30))⟩]))))))
 (.seq (.reg [⟨(some 8), none, .v (.mov (.c (.lit (.bool true))))⟩])
 .ret))))
def r83 : List RV := [.t 8]
theorem k83 : (Try.f83.body.bind (cC Try.prog), cR Try.prog Try.f83.results.toList, Try.f83.ntmps) = (some s83, some r83, 59) := by kernel_rfl
theorem q83 : Known Try.prog 83 := ⟨_, Try.func83, by decide, by simp [Try.f83]⟩
def F58 : FC := fun args => match args with
 | [.agg [.int .i64 a, .int .i64 b], .agg [.int .i64 c, .int .i64 d]] => some ((-9000000000 ≤ a + c ∧ a + c ≤ 9000000000) ∧ (-9000000000 ≤ b + d ∧ b + d ≤ 9000000000), .agg [.int .i64 (a + c), .int .i64 (b + d)])
 | _ => none
theorem p58 : PureOk Try.prog 58 (fcC F58) := by
 refine pure_of (T := []) trivial Try.func58 k58 ?_
 intro args K hC
 unfold fcC F58 at hC
 split at hC <;> first | (exact hC.elim) | skip
 rename_i h
 split at h <;> first | (cases h; done) | skip
 cases h
 obtain ⟨⟨h1, h2⟩, hK⟩ := hC
 simp only [inr64, ↓reduceIte, e_reg, and_self, e_seq, e_ret, o_nil, o_cons, gd_none, putK_e, runK_e, vK_e, boxK_e, bldK_e, storeK3_e, storeK2_e, storeK_e, evh_v, evh_new, evh_box, evh_bld, evh_store, seqK_n, ends_r, endK1_e, endK2_e, evp, bin, gt, gq, st, putf, X.get, getp, mkfr, rep, rdR, tupled, clV, clL, clS, clo, ld, lda, tk, dr, sp, sp.spl, lay, ll, cs1, one, allOne, gb, sb, pb, ln, undef, Bool.and_true, Nat.reduceSub, Nat.reduceAdd, beq_self_eq_true, true_and, s58, r58]
 exact ⟨by omega, by omega, res hK (by simp [leR, leR.leRs])⟩
theorem spE_le {m : Int} {L : List (Int × Int)} (h : L.all (spE m) = true) (hm : 0 ≤ m) (i : Nat) : lo L i ≤ hi L i := by
 by_cases hi' : i < L.length
 ·simp only [List.all_eq_true] at h
  have := h _ (List.getElem_mem hi')
  simp only [spE, decide_eq_true_eq] at this
  have e1 : lo L i = L[i].1 := by simp [lo, List.getD, hi']
  have e2 : hi L i = L[i].2 := by simp [hi, List.getD, hi']
  rw [e1, e2]; omega
 ·have e1 : lo L i = 0 := by simp [lo, List.getD, Nat.not_lt.1 hi']
  have e2 : hi L i = 0 := by simp [hi, List.getD, Nat.not_lt.1 hi']
  rw [e1, e2]; omega
def kindB (a b c : Pt) : Bool := decide (a.k = 0) && (decide (b.k = 1) && decide (c.k = 2))
def C83 : PC := fun args K => ∃ (a b c : Pt) (bd : Int) (n : Nat), args = [.agg a.row, .agg b.row, .agg c.row, .int .i64 bd] ∧ okF a b c bd n ∧ K (.bool (kindB a b c && fitB a b c bd n))
theorem p83 : PureOk Try.prog 83 C83 := by
 refine pure_of (T := [(58, .fc F58)]) ⟨⟨p58, q58⟩, trivial⟩ Try.func83 k83 ?_
 rintro args K ⟨a, b, c, bd, n, rfl, ⟨⟨l1, l2, l3⟩, hn, ⟨s1, s2, s3⟩, hb1, hb2⟩, hK⟩
 by_cases h0 : a.k = 0
 ·by_cases h1 : b.k = 1
  ·by_cases h2 : c.k = 2
   ·have u0 := eq_true h0
    have u1 := eq_true h1
    have u2 := eq_true h2
    have ek : kindB a b c = true := by simp [kindB, h0, h1, h2]
    rw [ek, Bool.true_and] at hK
    simp only [gdK_bff, condK_bf, decide_true, e_skip, e_reg, e_seq, e_cond, e_block, e_loop, o_nil, o_cons, gd_none, gd_some, gdK_ff, putK_e, runK_e, vK_e, boxK_e, evh_v, evh_box, seqK_n, evp, bin, gt, gq, st, putf, X.get, mkfr, rep, ld, lda, cs1, gb, pb, ln, undef, Bool.not_true, Nat.reduceSub, Nat.reduceAdd, true_and, s83, r83, Pt.row, u0, u1, u2]
    refine loop_at2 (G := Nat) (fun i => [(9, .int .i64 i)]) (fun _ => [.box 77 a.row, .box 77 b.row, .box 77 c.row]) (fun i => i ≤ n ∧ fitB a b c bd i = true) (fun i => n - i) 0 ⟨Nat.zero_le _, rfl⟩ ?_
    (intro fr1 hf1; simp only [forget, dstC, dstO, dstD, dst1, st] at hf1; subst hf1)
    refine ⟨?_, ?_⟩
    ·refine Lw_re 3 [] (Nat.zero_le _) (by simp [ln]) (by simp [ln]) rfl ?_ ?_
     ·simp only [reL, reX, inb, inb.inbs, ln, sts, st, Bool.and_self, Nat.reduceLT, Nat.reduceAdd, decide_true, and_self, Int.natCast_zero]
     ·simp only [reL, reX, reH, reB, reN, inb, ln, Nat.reduceAdd, and_self, implies_true, Pt.row]
    ·rintro i ⟨hii, hall⟩
     by_cases hlt : i < n
     ·have n0 : ((i : Int) < (a.E.length : Int)) = True := by simp; omega
      have b1 := spE_get s1 (by omega) i
      have b2 := spE_get s2 (by omega) i
      have b3 := spE_get s3 (by omega) i
      have o1 := spE_le s1 (by omega) i
      have o2 := spE_le s2 (by omega) i
      have o3 := spE_le s3 (by omega) i
      have hS1 : (sumT (thE a b c i) 3).1 = lo a.E i + lo b.E i + lo c.E i := by show 0 + lo a.E i + lo b.E i + lo c.E i = _; omega
      have hS2 : (sumT (thE a b c i) 3).2 = hi a.E i + hi b.E i + hi c.E i := by show 0 + hi a.E i + hi b.E i + hi c.E i = _; omega
      by_cases v1 : lo a.E i + lo b.E i + lo c.E i < -bd
      ·have w1 := eq_true v1
       have hf : fit1 a b c bd i = false := by
        refine decide_eq_false ?_
        rw [hS1, hS2]; omega
       rw [fitB_no hlt hf] at hK
       simp only [gdK_bft, condK_bt, decide_true, inr64, e_skip, e_reg, and_self, e_drw, e_seq, e_cond, e_block, e_ret, o_nil, o_cons, gd_none, gd_some, gdK_tf, putK_e, runK_e, skipK_e, vK_e, storeK3_e, storeK2_e, storeK_e, evh_v, evh_store, dX_e, dG_t, d_nil, d_cons, creK_e, tlK_s, evc_e, loopK_r, seqK_n, seqK_r, condK_t, blockK_r, ends_r, endK1_e, endK2_e, gamq_e, gamqK_f, evp, bin, gt, gq, st, putf, X.get, gets, ap, rdR, tupled, clV, clS, clo, clo.clos, ld, lda, lens, ixs, tk, dr, sp, sp.spl, ll, cs1, one, allOne, gb, sb, pb, ln, lk, evq, gdl, crv, undef, Bool.and_true, Nat.reduceAdd, beq_self_eq_true, true_and, and_true, sts, n0, Int.toNat_natCast, Pt.row, rowsS, F58, w1]
       exact ⟨by omega, ⟨by omega, by omega⟩, ⟨⟨by omega, by omega⟩, by omega, by omega⟩, ⟨by omega, by omega⟩, ⟨⟨by omega, by omega⟩, by omega, by omega⟩, ⟨by omega, by omega⟩, res hK (by simp [leR])⟩
      ·have w1 := eq_false v1
       by_cases v2 : hi a.E i + hi b.E i + hi c.E i > bd
       ·have w2 := eq_true v2
        have hf : fit1 a b c bd i = false := by
         refine decide_eq_false ?_
         rw [hS1, hS2]; omega
        rw [fitB_no hlt hf] at hK
        simp only [gdK_bff, condK_bt, decide_true, decide_false, inr64, e_skip, e_reg, and_self, e_drw, e_seq, e_cond, e_block, e_ret, o_nil, o_cons, gd_none, gd_some, gdK_ff, putK_e, runK_e, vK_e, storeK3_e, storeK2_e, storeK_e, evh_v, evh_store, dX_e, dG_t, d_nil, d_cons, creK_e, tlK_s, evc_e, loopK_r, seqK_n, seqK_r, blockK_r, ends_r, endK1_e, endK2_e, gamq_e, gamqK_f, evp, bin, gt, gq, st, putf, X.get, gets, ap, rdR, tupled, clV, clS, clo, clo.clos, ld, lda, lens, ixs, tk, dr, sp, sp.spl, ll, cs1, one, allOne, gb, sb, pb, ln, lk, evq, gdl, crv, Bool.and_true, Nat.reduceAdd, beq_self_eq_true, true_and, and_true, sts, n0, Int.toNat_natCast, Pt.row, rowsS, F58, w1, w2]
        exact ⟨by omega, ⟨by omega, by omega⟩, ⟨⟨by omega, by omega⟩, by omega, by omega⟩, ⟨by omega, by omega⟩, ⟨⟨by omega, by omega⟩, by omega, by omega⟩, ⟨by omega, by omega⟩, res hK (by simp [leR])⟩
       ·have w2 := eq_false v2
        have hf : fit1 a b c bd i = true := by
         refine decide_eq_true ?_
         rw [hS1, hS2]; omega
        have hall1 : fitB a b c bd (i + 1) = true := by rw [fitB_snoc, hall, hf]; rfl
        simp only [gdK_bff, condK_bt, condK_bf, decide_true, decide_false, inr64, e_skip, e_reg, and_self, e_drw, e_seq, e_cond, e_block, o_nil, o_cons, gd_none, gd_some, gdK_ff, putK_e, runK_e, vK_e, storeK3_e, storeK2_e, storeK_e, evh_v, evh_store, dX_e, dG_t, d_nil, d_cons, creK_e, tlK_s, evc_e, loopK_n, seqK_n, blockK_n, gamq_e, gamqK_f, evp, bin, gt, gq, st, putf, X.get, gets, ap, clo, clo.clos, ld, lda, lens, ixs, tk, dr, sp, sp.spl, ll, cs1, one, allOne, gb, sb, pb, ln, lk, evq, gdl, crv, Bool.and_true, Nat.reduceAdd, beq_self_eq_true, true_and, and_true, sts, n0, Int.toNat_natCast, Pt.row, rowsS, F58, w1, w2]
        repeat' (first | omega | refine And.intro ?_ ?_)
        refine Nx.mk (i + 1) ⟨by omega, hall1⟩ (by omega) (Lw_re 3 [] (Nat.zero_le _) (by simp [ln]) (by simp [ln]) rfl ?_ ?_)
        ·simp only [reL, reX, inb, inb.inbs, Bool.and_self, Nat.reduceLT, decide_true, and_self, Int.natCast_add, Int.natCast_one]
        ·simp only [reL, reX, reH, reB, reN, inb, and_self, implies_true]
     ·have n0 : ((i : Int) < (a.E.length : Int)) = False := by simp; omega
      have ei : i = n := by omega
      subst ei
      simp only [condK_bf, decide_false, e_reg, e_seq, e_cond, e_exit, e_ret, o_nil, o_cons, gd_none, putK_e, runK_e, vK_e, evh_v, loopK_x, seqK_n, seqK_x, exitK_t, blockK_x, ends_r, endK1_e, endK2_e, evp, bin, gt, gq, st, putf, X.get, rdR, tupled, clV, clS, clo, ld, lda, lens, gb, Nat.reduceAdd, beq_self_eq_true, true_and, sts, n0, Pt.row]
      exact res hK (by simp [leR, hall])
   ·have u0 := eq_true h0
    have u1 := eq_true h1
    have u2 := eq_false h2
    have ek : kindB a b c = false := by simp [kindB, h2]
    rw [ek, Bool.false_and] at hK
    simp only [gdK_bff, condK_bt, decide_true, decide_false, e_reg, e_seq, e_cond, e_ret, o_nil, o_cons, gd_none, gd_some, gdK_ff, putK_e, runK_e, vK_e, boxK_e, evh_v, evh_box, seqK_n, seqK_r, ends_r, endK1_e, endK2_e, evp, bin, gt, gq, st, putf, X.get, mkfr, rep, rdR, tupled, clV, clS, clo, ld, lda, cs1, gb, pb, ln, undef, Bool.not_true, Bool.not_false, Nat.reduceSub, Nat.reduceAdd, true_and, s83, r83, Pt.row, u0, u1, u2]
    exact res hK (by simp [leR])
  ·have u0 := eq_true h0
   have u1 := eq_false h1
   have ek : kindB a b c = false := by simp [kindB, h1]
   rw [ek, Bool.false_and] at hK
   simp only [gdK_bft, gdK_bff, decide_true, decide_false, e_reg, e_seq, e_cond, e_ret, o_nil, o_cons, gd_none, gd_some, gdK_tf, gdK_ff, putK_e, runK_e, skipK_e, vK_e, boxK_e, evh_v, evh_box, seqK_n, seqK_r, condK_t, ends_r, endK1_e, endK2_e, evp, bin, gt, gq, st, putf, X.get, mkfr, rep, rdR, tupled, clV, clS, clo, ld, lda, cs1, gb, pb, ln, undef, Bool.not_true, Bool.not_false, Nat.reduceSub, Nat.reduceAdd, true_and, s83, r83, Pt.row, u0, u1]
   exact res hK (by simp [leR])
 ·have u0 := eq_false h0
  have ek : kindB a b c = false := by simp [kindB, h0]
  rw [ek, Bool.false_and] at hK
  simp only [gdK_bft, decide_false, e_reg, e_seq, e_cond, e_ret, o_nil, o_cons, gd_none, gd_some, gdK_tf, putK_e, runK_e, skipK_e, vK_e, boxK_e, evh_v, evh_box, seqK_n, seqK_r, condK_t, ends_r, endK1_e, endK2_e, evp, bin, gt, gq, st, putf, X.get, mkfr, rep, rdR, tupled, clV, clS, clo, ld, lda, cs1, gb, pb, ln, undef, Bool.not_false, Nat.reduceSub, Nat.reduceAdd, true_and, s83, r83, Pt.row, u0]
  exact res hK (by simp [leR])
def rowE : List SV → Int × Int
 | [.int .i64 a, .int .i64 b] => (a, b)
 | _ => (0, 0)
def Tof (n : Nat) (f : Nat → List SV) : List (Int × Int) := (List.range n).map fun i => rowE (f i)
theorem Tof_rows {L : List (Int × Int)} : Tof L.length (rowsS L) = L := by
 refine List.ext_getElem (by simp [Tof]) fun i h1 h2 => ?_
 simp [Tof, rowE, rowsS, lo, hi, List.getD, h2]
def ptA (k p : Int) (n : Nat) (f : Nat → List SV) : Pt := ⟨k, p, Tof n f⟩
def F83 : FC := fun args => match args with
 | [.agg [.int .i64 k1, .int .i64 p1, .rd 2 n1 f1], .agg [.int .i64 k2, .int .i64 p2, .rd 2 n2 f2], .agg [.int .i64 k3, .int .i64 p3, .rd 2 n3 f3], .int .i64 bd] => some ((∃ (a b c : Pt) (n : Nat), (.agg [.int .i64 k1, .int .i64 p1, .rd 2 n1 f1] : SV) = .agg a.row ∧ (.agg [.int .i64 k2, .int .i64 p2, .rd 2 n2 f2] : SV) = .agg b.row ∧ (.agg [.int .i64 k3, .int .i64 p3, .rd 2 n3 f3] : SV) = .agg c.row ∧ okF a b c bd n), .bool (kindB (ptA k1 p1 n1 f1) (ptA k2 p2 n2 f2) (ptA k3 p3 n3 f3) && fitB (ptA k1 p1 n1 f1) (ptA k2 p2 n2 f2) (ptA k3 p3 n3 f3) bd n1))
 | _ => none
theorem ptA_eq (a : Pt) : ptA a.k a.p a.E.length (rowsS a.E) = a := by
 simp only [ptA, Tof_rows]
theorem p83' : PureOk Try.prog 83 (fcC F83) := by
 refine pweak p83 fun args K hC => ?_
 unfold fcC F83 at hC
 split at hC <;> first | (exact hC.elim) | skip
 rename_i h
 split at h <;> first | (cases h; done) | skip
 cases h
 obtain ⟨⟨a, b, c, n, e1, e2, e3, hok⟩, hK⟩ := hC
 simp only [Pt.row, SV.agg.injEq, List.cons.injEq, SV.int.injEq, true_and, and_true, SV.rd.injEq] at e1 e2 e3
 obtain ⟨rfl, rfl, rfl, rfl⟩ := e1
 obtain ⟨rfl, rfl, rfl, rfl⟩ := e2
 obtain ⟨rfl, rfl, rfl, rfl⟩ := e3
 rw [ptA_eq, ptA_eq, ptA_eq] at hK
 refine ⟨a, b, c, _, n, rfl, hok, ?_⟩
 rw [hok.1.1] at hK
 exact hK
end Go.Proofs.Ytjagiieconpgbaa
end
section
namespace Go.Proofs.Ytjagiieconpgbaa
open Go Go.Vg
set_option linter.unusedSimpArgs false
set_option linter.unusedVariables false
set_option maxRecDepth 10000
def s82 : SC :=
 (.seq (.reg [⟨(some 2), none, .v (.mov (.c (.lit (.bool false))))⟩])
 (.seq (.reg [⟨(some 7), none, .v (.mov (.t 0))⟩,
  ⟨(some 8), none, .v (.len (.t 7))⟩,
  ⟨(some 9), none, .call (.c (.fn 33 [])) [(.t 8), (.c (.int .i64 (3))), (.c (.int .i64 (12)))]⟩,
  ⟨(some 3), none, .v (.mov (.t 9))⟩])
 (.seq (.seq (.reg [⟨(some 4), none, .v (.mov (.c (.int .i64 (0))))⟩])
 (.block 0 (.loop
  (.seq (.seq (.reg [⟨(some 10), none, .v (.mov (.t 3))⟩,
   ⟨(some 11), none, .v (.mov (.t 10))⟩,
   ⟨(some 12), (some (11, true)), .v (.mov (.t 4))⟩,
   ⟨(some 13), (some (11, true)), .v (.mov (.t 0))⟩,
   ⟨(some 14), (some (11, true)), .v (.len (.t 13))⟩,
   ⟨(some 15), (some (11, true)), .v (.bin .lss (.t 12) (.t 14))⟩,
   ⟨(some 16), none, .v (.pick (.t 11) (.t 15) (.c (.lit (.bool false))))⟩])
  (.cond (.t 16)
   .skip
   (.exit 0)))
  (.seq (.block 1 (.seq (.reg [⟨(some 19), none, .v (.mov (.t 0))⟩,
   ⟨(some 20), none, .v (.mov (.t 4))⟩,
   ⟨(some 21), none, .v (.ixa (.t 19) (.t 20) 3)⟩,
   ⟨(some 22), none, .v (.load (.t 21) (some 3))⟩,
   ⟨(some 5), none, .new 77 [(.int .i64 (0)), (.int .i64 (0)), (.lit (.slice none 0 0))]⟩,
   ⟨none, none, .store 3 (.t 5) (.t 22)⟩])
  (.seq (.drw [(0, ⟨(some 23), none, .v (.off (.t 5) 0)⟩, false),
   (1, ⟨(some 24), none, .v (.load (.t 23) none)⟩, false),
   (2, ⟨(some 25), none, .call (.c (.fn 33 [])) [(.t 24), (.c (.int .i64 (0))), (.c (.int .i64 (2)))]⟩, false),
   (3, ⟨(some 26), none, .v (.mov (.t 25))⟩, true),
   (4, ⟨(some 27), (some (26, true)), .v (.off (.t 5) 1)⟩, false),
   (5, ⟨(some 28), (some (26, true)), .v (.load (.t 27) none)⟩, false),
   (6, ⟨(some 29), (some (26, true)), .call (.c (.fn 33 [])) [(.t 28), (.c (.int .i64 (0))), (.c (.int .i64 (1000)))]⟩, false),
   (7, ⟨(some 30), none, .v (.pick (.t 26) (.t 29) (.c (.lit (.bool false))))⟩, false),
   (8, ⟨(some 31), none, .v (.mov (.t 30))⟩, true),
   (9, ⟨(some 32), (some (31, true)), .v (.off (.t 5) 2)⟩, false),
   (10, ⟨(some 33), (some (31, true)), .v (.load (.t 32) none)⟩, false),
   (11, ⟨(some 34), (some (31, true)), .v (.len (.t 33))⟩, false),
   (12, ⟨(some 35), (some (31, true)), .call (.c (.fn 33 [])) [(.t 34), (.c (.int .i64 (2))), (.c (.int .i64 (12)))]⟩, false),
   (13, ⟨(some 36), none, .v (.pick (.t 31) (.t 35) (.c (.lit (.bool false))))⟩, false),
   (14, ⟨(some 37), none, .v (.mov (.t 36))⟩, true),
   (15, ⟨(some 38), (some (37, true)), .v (.off (.t 5) 2)⟩, false),
   (16, ⟨(some 39), (some (37, true)), .v (.load (.t 38) none)⟩, false),
   (17, ⟨(some 40), (some (37, true)), .v (.len (.t 39))⟩, false),
   (18, ⟨(some 41), (some (37, true)), .v (.mov (.t 0))⟩, false),
   (19, ⟨(some 42), (some (37, true)), .v (.ixa (.t 41) (.c (.int .i64 (0))) 3)⟩, false),
   (20, ⟨(some 43), (some (37, true)), .v (.off (.t 42) 2)⟩, false),
   (21, ⟨(some 44), (some (37, true)), .v (.load (.t 43) none)⟩, false),
   (22, ⟨(some 45), (some (37, true)), .v (.len (.t 44))⟩, false)]
   none
   [⟨(some 46), (some (37, true)), .v (.bin .eql (.t 40) (.t 45))⟩,
   ⟨(some 47), none, .v (.pick (.t 37) (.t 46) (.c (.lit (.bool false))))⟩,
   ⟨(some 3), none, .v (.mov (.t 47))⟩])
  (.seq (.reg [⟨(some 6), none, .v (.mov (.c (.int .i64 (0))))⟩])
  (.block 2 (.loop
   (.seq (.seq (.reg [⟨(some 48), none, .v (.mov (.t 3))⟩,
    ⟨(some 49), none, .v (.mov (.t 48))⟩,
    ⟨(some 50), (some (49, true)), .v (.mov (.t 6))⟩,
    ⟨(some 51), (some (49, true)), .v (.off (.t 5) 2)⟩,
    ⟨(some 52), (some (49, true)), .v (.load (.t 51) none)⟩,
    ⟨(some 53), (some (49, true)), .v (.len (.t 52))⟩,
    ⟨(some 54), (some (49, true)), .v (.bin .lss (.t 50) (.t 53))⟩,
    ⟨(some 55), none, .v (.pick (.t 49) (.t 54) (.c (.lit (.bool false))))⟩])
   (.cond (.t 55)
    .skip
    (.exit 2)))
   (.seq (.block 3 (.reg [⟨(some 58), none, .v (.off (.t 5) 2)⟩,
    ⟨(some 59), none, .v (.load (.t 58) none)⟩,
    ⟨(some 60), none, .v (.mov (.t 6))⟩,
    ⟨(some 61), none, .v (.ixa (.t 59) (.t 60) 2)⟩,
    ⟨(some 62), none, .v (.load (.t 61) (some 2))⟩,
    ⟨(some 63), none, .call (.c (.fn 41 [])) [(.t 62), (.c (.int .i64 (-1000))), (.c (.int .i64 (1000)))]⟩,
    ⟨(some 3), none, .v (.mov (.t 63))⟩]))
   (.reg [⟨(some 56), none, .v (.mov (.t 6))⟩,
    ⟨(some 57), none, .v (.bin .add (.t 56) (.c (.int .i64 (1))))⟩,
    ⟨(some 6), none, .v (.mov (.t 57))⟩])))))))))
  (.reg [⟨(some 17), none, .v (.mov (.t 4))⟩,
   ⟨(some 18), none, .v (.bin .add (.t 17) (.c (.int .i64 (1))))⟩,
   ⟨(some 4), none, .v (.mov (.t 18))⟩]))))))
 (.seq (.reg [⟨(some 64), none, .v (.mov (.t 3))⟩,
  ⟨(some 2), none, .v (.mov (.t 64))⟩])
 .ret))))
def r82 : List RV := [.t 2]
theorem k82 : (Try.f82.body.bind (cC Try.prog), cR Try.prog Try.f82.results.toList, Try.f82.ntmps) = (some s82, some r82, 65) := by kernel_rfl
theorem q82 : Known Try.prog 82 := ⟨_, Try.func82, by decide, by simp [Try.f82]⟩
def bv (r b : Bool) : SV := match r with
 | true => .bool b
 | false => .lit (.bool b)
def ok2 (n : Nat) (x : Pt) : Bool := okB n x && decide (2 ≤ (n : Int) ∧ (n : Int) ≤ 12)
theorem stk2_t {L : List Pt} (h1 : 3 ≤ (L.length : Int) ∧ (L.length : Int) ≤ 12) (h : L.all (ok2 (ptG L 0).E.length) = true) : stk L = true := by
 have h0 := allP_get (i := 0) (by omega) h
 simp only [ok2, Bool.and_eq_true, decide_eq_true_eq] at h0
 simp only [stk, Bool.and_eq_true, decide_eq_true_eq]
 refine ⟨h1, h0.2, ?_⟩
 simp only [List.all_eq_true, ok2, Bool.and_eq_true] at h ⊢
 exact fun x hx => (h x hx).1
theorem stk2_f {L : List Pt} {i : Nat} (h : (L.take i).all (ok2 (ptG L 0).E.length) = false) : stk L = false := by
 cases hs : stk L with
 | false => rfl
 | true =>
  simp only [stk, Bool.and_eq_true, decide_eq_true_eq] at hs
  have : (L.take i).all (ok2 (ptG L 0).E.length) = true := by
   simp only [List.all_eq_true, ok2, Bool.and_eq_true, decide_eq_true_eq]
   intro x hx
   have h3 := hs.2.2
   simp only [List.all_eq_true] at h3
   exact ⟨h3 x (List.mem_of_mem_take hx), hs.2.1⟩
  rw [this] at h; cases h
def C82 : PC := fun args K => ∃ L : List Pt, args = [.rd 3 L.length (ptR L)] ∧ K (.bool (stk L))
theorem p82 : PureOk Try.prog 82 C82 := by
 refine pure_of (T := [(33, .fc Fin), (41, .fc Fsp)]) ⟨⟨p33, q33⟩, ⟨p41, q41⟩, trivial⟩ Try.func82 k82 ?_
 rintro args K ⟨L, rfl, hK⟩
 by_cases h1 : 3 ≤ (L.length : Int) ∧ (L.length : Int) ≤ 12
 ·have t1 := eq_true h1
  simp only [decide_true, e_reg, e_seq, e_block, e_loop, o_nil, o_cons, gd_none, putK_e, runK_e, vK_e, conK_e, callK_e, evh_v, evh_call, seqK_n, gam_e, gamK_f, pc_e, pcK_e, fcC_e, fcK_e, evp, gt, st, putf, X.get, gets, ap, mkfr, rep, clV, clL, clS, clo, lens, lk, undef, Nat.reduceSub, beq_self_eq_true, true_and, s82, r82, Fin, t1]
  refine loop_at2 (G := Nat × Bool × Bool) (fun g => [(4, .int .i64 g.1), (3, bv g.2.1 g.2.2)]) (fun _ => []) (fun g => g.1 ≤ L.length ∧ g.2.2 = (L.take g.1).all (ok2 (ptG L 0).E.length) ∧ (g.2.2 = true → g.2.1 = true)) (fun g => L.length - g.1) (0, true, true) ⟨Nat.zero_le _, rfl, fun _ => rfl⟩ ?_
  (intro fr1 hf1; simp only [forget, dstC, dstO, dstD, dst1, st] at hf1; subst hf1)
  refine ⟨?_, ?_⟩
  ·refine Lw_re 0 [] (Nat.zero_le _) (by simp [ln]) (by simp [ln]) rfl ?_ ?_
   ·simp only [reL, reX, inb, ln, sts, st, and_self, Int.natCast_zero, implies_true, bv]
   ·simp only [reH, reN]
  ·rintro ⟨i, r, s⟩ ⟨hii, hall, hr⟩
   simp only at hii hall hr
   cases s with
   | false =>
    rw [stk2_f hall.symm] at hK
    cases r with
    | true =>
     simp only [gdK_btf, e_reg, e_seq, e_cond, e_exit, e_ret, o_nil, o_cons, gd_none, gd_some, gdK_ft, putK_e, runK_e, skipK_e, vK_e, evh_v, loopK_x, seqK_n, seqK_x, condK_f, exitK_t, blockK_x, ends_r, endK1_e, endK2_e, evp, gt, st, putf, X.get, rdR, tupled, clV, clS, clo, undef, beq_self_eq_true, true_and, sts, bv]
     exact res hK (by simp [leR])
    | false =>
     simp only [e_reg, e_seq, e_cond, e_exit, e_ret, o_nil, o_cons, gd_none, gd_some, gdK_ft, putK_e, runK_e, skipK_e, vK_e, evh_v, loopK_x, seqK_n, seqK_x, condK_f, exitK_t, blockK_x, ends_r, endK1_e, endK2_e, evp, gt, st, putf, X.get, rdR, tupled, clV, clS, clo, undef, beq_self_eq_true, true_and, sts, bv]
     exact res hK (by simp [leR])
   | true =>
    obtain rfl : r = true := hr rfl
    by_cases hlt : i < L.length
    ·have n0 : ((i : Int) < (L.length : Int)) = True := by simp; omega
     by_cases c1 : 0 ≤ (ptG L i).k ∧ (ptG L i).k ≤ 2
     ·have u1 := eq_true c1
      by_cases c2 : 0 ≤ (ptG L i).p ∧ (ptG L i).p ≤ 1000
      ·have u2 := eq_true c2
       by_cases c3 : 2 ≤ ((ptG L i).E.length : Int) ∧ ((ptG L i).E.length : Int) ≤ 12
       ·have u3 := eq_true c3
        by_cases c4 : ((ptG L i).E.length : Int) = ((ptG L 0).E.length : Int)
        ·have u4 := eq_true c4
         have et : ok2 (ptG L 0).E.length (ptG L i) = (ptG L i).E.all (spE 1000) := by
          have d1 : decide (0 ≤ (ptG L i).k ∧ (ptG L i).k ≤ 2) = true := decide_eq_true c1
          have d2 : decide (0 ≤ (ptG L i).p ∧ (ptG L i).p ≤ 1000) = true := decide_eq_true c2
          have d3 : decide ((ptG L i).E.length = (ptG L 0).E.length) = true := decide_eq_true (by omega)
          have d4 : decide (2 ≤ ((ptG L 0).E.length : Int) ∧ ((ptG L 0).E.length : Int) ≤ 12) = true := decide_eq_true (by omega)
          simp only [ok2, okB, d1, d2, d3, d4, Bool.true_and, Bool.and_true]
         simp only [dX_bt, gdK_btt, condK_bt, decide_true, e_skip, e_reg, and_self, e_drw, e_seq, e_cond, e_block, e_loop, o_nil, o_cons, gd_none, gd_some, gdK_tt, putK_e, runK_e, vK_e, storeK3_e, storeK2_e, storeK_e, evh_v, evh_new, evh_store, dX_e, dG_t, d_nil, d_cons, tlK_n, seqK_n, gamq_e, gamqK_f, evp, bin, gt, gq, st, putf, X.get, gets, ap, clo, clo.clos, ld, lda, lens, ixs, tk, dr, sp, sp.spl, ll, cs1, one, allOne, gb, sb, pb, ln, lk, evq, gdl, Bool.and_true, Nat.reduceAdd, beq_self_eq_true, true_and, and_true, sts, bv, n0, Int.toNat_natCast, Int.toNat_zero, ptR, Pt.row, Fin, u1, u2, u3, u4]
         repeat' (first | omega | refine And.intro ?_ ?_)
         refine loop_at2 (G := Nat × Bool) (fun g => [(6, .int .i64 g.1), (3, .bool g.2)]) (fun _ => [.box 77 (ptG L i).row]) (fun g => g.1 ≤ (ptG L i).E.length ∧ g.2 = ((ptG L i).E.take g.1).all (spE 1000)) (fun g => (ptG L i).E.length - g.1) (0, true) ⟨Nat.zero_le _, rfl⟩ ?_
         (intro fr1 hf1; simp only [forget, dstC, dstO, st] at hf1; subst hf1)
         refine ⟨?_, ?_⟩
         ·refine Lw_re 1 [] (Nat.zero_le _) (by simp [ln]) (by simp [ln]) rfl ?_ ?_
          ·simp only [reL, reX, inb, inb.inbs, ln, sts, st, Bool.and_self, Nat.reduceLT, Nat.reduceAdd, decide_true, and_self, Int.natCast_zero, implies_true]
          ·simp only [reL, reX, reH, reB, reN, inb, ln, Nat.reduceAdd, and_self, implies_true, Pt.row]
         ·rintro ⟨k, s⟩ ⟨hk, hs⟩
          simp only at hk hs
          cases s with
          | false =>
           have hall' : false = (L.take (i + 1)).all (ok2 (ptG L 0).E.length) := by
            have e : (ptG L i).E.all (spE 1000) = false := by
             cases he : (ptG L i).E.all (spE 1000) with
             | false => rfl
             | true =>
              have : ((ptG L i).E.take k).all (spE 1000) = true := by
               simp only [List.all_eq_true] at he ⊢
               exact fun x hx => he x (List.mem_of_mem_take hx)
              rw [this] at hs; cases hs
            rw [allP_snoc hlt, et, e, Bool.and_false]
           simp only [gdK_btf, inr64, e_reg, e_seq, e_cond, e_exit, o_nil, o_cons, gd_none, gd_some, gdK_ft, putK_e, runK_e, skipK_e, vK_e, evh_v, loopK_n, loopK_x, seqK_n, seqK_x, condK_f, exitK_t, blockK_x, blockK_n, evp, bin, gt, st, putf, X.get, undef, beq_self_eq_true, true_and, sts]
           repeat' (first | omega | refine And.intro ?_ ?_)
           refine Nx.mk (i + 1, true, false) ⟨by show i + 1 ≤ L.length; omega, hall', fun h => by cases h⟩ (by show L.length - (i + 1) < L.length - i; omega) (Lw_re 0 [] (Nat.zero_le _) (by simp [ln]) (by simp [ln]) rfl ?_ ?_)
           ·simp only [reL, reX, inb, and_self, Int.natCast_add, Int.natCast_one, implies_true]
           ·simp only [reH, reN]
          | true =>
           by_cases hkt : k < (ptG L i).E.length
           ·have m0 : ((k : Int) < ((ptG L i).E.length : Int)) = True := by simp; omega
            by_cases hv : (-1000 ≤ lo (ptG L i).E k ∧ lo (ptG L i).E k ≤ hi (ptG L i).E k) ∧ hi (ptG L i).E k ≤ 1000
            ·have v := eq_true hv
             have hs' : true = ((ptG L i).E.take (k + 1)).all (spE 1000) := by
              rw [allS_snoc hkt, ← hs, Bool.true_and]
              exact (decide_eq_true hv).symm
             simp only [gdK_btt, condK_bt, decide_true, inr64, e_skip, e_reg, e_seq, e_cond, e_block, o_nil, o_cons, gd_none, gd_some, gdK_tt, putK_e, runK_e, vK_e, conK_e, callK_e, evh_v, evh_call, loopK_n, seqK_n, blockK_n, gam_e, gamK_f, pc_e, pcK_e, fcC_e, fcK_e, evp, bin, gt, gq, st, putf, X.get, gets, ap, clV, clL, clS, clo, ld, lda, lens, ixs, tk, dr, gb, lk, Nat.reduceAdd, Nat.reduceBEq, beq_self_eq_true, true_and, and_true, sts, Int.toNat_natCast, Pt.row, m0, rowsS, Fsp, v]
             repeat' (first | omega | refine And.intro ?_ ?_)
             refine Nx.mk (k + 1, true) ⟨by show k + 1 ≤ (ptG L i).E.length; omega, hs'⟩ (by show (ptG L i).E.length - (k + 1) < (ptG L i).E.length - k; omega) (Lw_re 1 [] (Nat.zero_le _) (by simp [ln]) (by simp [ln]) rfl ?_ ?_)
             ·simp only [reL, reX, inb, inb.inbs, Bool.and_self, Nat.reduceLT, decide_true, and_self, Int.natCast_add, Int.natCast_one, implies_true]
             ·simp only [reL, reX, reH, reB, reN, inb, and_self, implies_true]
            ·have v := eq_false hv
             have hs' : false = ((ptG L i).E.take (k + 1)).all (spE 1000) := by
              rw [allS_snoc hkt, ← hs, Bool.true_and]
              exact (decide_eq_false hv).symm
             simp only [gdK_btt, condK_bt, decide_true, decide_false, inr64, e_skip, e_reg, e_seq, e_cond, e_block, o_nil, o_cons, gd_none, gd_some, gdK_tt, putK_e, runK_e, vK_e, conK_e, callK_e, evh_v, evh_call, loopK_n, seqK_n, blockK_n, gam_e, gamK_f, pc_e, pcK_e, fcC_e, fcK_e, evp, bin, gt, gq, st, putf, X.get, gets, ap, clV, clL, clS, clo, ld, lda, lens, ixs, tk, dr, gb, lk, Nat.reduceAdd, Nat.reduceBEq, beq_self_eq_true, true_and, and_true, sts, Int.toNat_natCast, Pt.row, m0, rowsS, Fsp, v]
             repeat' (first | omega | refine And.intro ?_ ?_)
             refine Nx.mk (k + 1, false) ⟨by show k + 1 ≤ (ptG L i).E.length; omega, hs'⟩ (by show (ptG L i).E.length - (k + 1) < (ptG L i).E.length - k; omega) (Lw_re 1 [] (Nat.zero_le _) (by simp [ln]) (by simp [ln]) rfl ?_ ?_)
             ·simp only [reL, reX, inb, inb.inbs, Bool.and_self, Nat.reduceLT, decide_true, and_self, Int.natCast_add, Int.natCast_one, implies_true]
             ·simp only [reL, reX, reH, reB, reN, inb, and_self, implies_true]
           ·have m0 : ((k : Int) < ((ptG L i).E.length : Int)) = False := by simp; omega
            have ek : k = (ptG L i).E.length := by omega
            subst ek
            rw [List.take_length] at hs
            have hall' : true = (L.take (i + 1)).all (ok2 (ptG L 0).E.length) := by
             rw [allP_snoc hlt, et, ← hs, ← hall]; rfl
            simp only [gdK_btt, condK_bf, decide_false, inr64, e_reg, e_seq, e_cond, e_exit, o_nil, o_cons, gd_none, gd_some, gdK_tt, putK_e, runK_e, vK_e, evh_v, loopK_n, loopK_x, seqK_n, seqK_x, exitK_t, blockK_x, blockK_n, evp, bin, gt, gq, st, putf, X.get, ld, lda, lens, gb, Nat.reduceAdd, beq_self_eq_true, true_and, sts, Pt.row, m0]
            repeat' (first | omega | refine And.intro ?_ ?_)
            refine Nx.mk (i + 1, true, true) ⟨by show i + 1 ≤ L.length; omega, hall', fun _ => rfl⟩ (by show L.length - (i + 1) < L.length - i; omega) (Lw_re 0 [] (Nat.zero_le _) (by simp [ln]) (by simp [ln]) rfl ?_ ?_)
            ·simp only [reL, reX, inb, and_self, Int.natCast_add, Int.natCast_one, implies_true]
            ·simp only [reH, reN]
        ·have u4 := eq_false c4
         have hall' : false = (L.take (i + 1)).all (ok2 (ptG L 0).E.length) := by
          have e : ok2 (ptG L 0).E.length (ptG L i) = false := by
           cases he : ok2 (ptG L 0).E.length (ptG L i) with
           | false => rfl
           | true =>
            simp only [ok2, okB, Bool.and_eq_true, decide_eq_true_eq] at he
            exfalso
            omega
          rw [allP_snoc hlt, e, Bool.and_false]
         simp only [dX_bt, gdK_btt, condK_bt, decide_true, decide_false, e_skip, e_reg, and_self, e_drw, e_seq, e_cond, e_block, e_loop, o_nil, o_cons, gd_none, gd_some, gdK_tt, putK_e, runK_e, vK_e, storeK3_e, storeK2_e, storeK_e, evh_v, evh_new, evh_store, dX_e, dG_t, d_nil, d_cons, tlK_n, seqK_n, gamq_e, gamqK_f, evp, bin, gt, gq, st, putf, X.get, gets, ap, clo, clo.clos, ld, lda, lens, ixs, tk, dr, sp, sp.spl, ll, cs1, one, allOne, gb, sb, pb, ln, lk, evq, gdl, Bool.and_true, Nat.reduceAdd, beq_self_eq_true, true_and, and_true, sts, bv, n0, Int.toNat_natCast, Int.toNat_zero, ptR, Pt.row, Fin, u1, u2, u3, u4]
         repeat' (first | omega | refine And.intro ?_ ?_)
         refine loop_once ?_
         simp only [gdK_btf, inr64, e_reg, e_seq, e_cond, e_exit, o_nil, o_cons, gd_none, gd_some, gdK_ft, putK_e, runK_e, skipK_e, vK_e, evh_v, loopK_n, loopK_x, seqK_n, seqK_x, condK_f, exitK_t, blockK_x, blockK_n, evp, bin, gt, st, putf, X.get, undef, beq_self_eq_true, true_and]
         repeat' (first | omega | refine And.intro ?_ ?_)
         refine Nx.mk (i + 1, true, false) ⟨by show i + 1 ≤ L.length; omega, hall', fun h => by cases h⟩ (by show L.length - (i + 1) < L.length - i; omega) (Lw_re 0 [] (Nat.zero_le _) (by simp [ln]) (by simp [ln]) rfl ?_ ?_)
         ·simp only [reL, reX, inb, and_self, Int.natCast_add, Int.natCast_one, implies_true]
         ·simp only [reH, reN]
       ·have u3 := eq_false c3
        have hall' : false = (L.take (i + 1)).all (ok2 (ptG L 0).E.length) := by
         have e : ok2 (ptG L 0).E.length (ptG L i) = false := by
          cases he : ok2 (ptG L 0).E.length (ptG L i) with
          | false => rfl
          | true =>
           simp only [ok2, okB, Bool.and_eq_true, decide_eq_true_eq] at he
           exfalso
           omega
         rw [allP_snoc hlt, e, Bool.and_false]
        simp only [dX_bt, dX_bf, gdK_btt, condK_bt, decide_true, decide_false, e_skip, e_reg, and_self, e_drw, e_seq, e_cond, e_block, e_loop, o_nil, o_cons, gd_none, gd_some, gdK_tt, gdK_ft, putK_e, runK_e, skipK_e, vK_e, storeK3_e, storeK2_e, storeK_e, evh_v, evh_new, evh_store, dX_e, dG_t, dG_f, d_nil, d_cons, tlK_n, seqK_n, gamq_e, gamqK_f, evp, bin, gt, gq, st, putf, X.get, gets, ap, clo, clo.clos, ld, lda, lens, ixs, tk, dr, sp, sp.spl, ll, cs1, one, allOne, gb, sb, pb, ln, lk, evq, gdl, undef, Bool.and_true, Bool.not_true, Nat.reduceAdd, beq_self_eq_true, true_and, and_true, sts, bv, n0, Int.toNat_natCast, ptR, Pt.row, Fin, u1, u2, u3]
        repeat' (first | omega | refine And.intro ?_ ?_)
        refine loop_once ?_
        simp only [inr64, e_reg, e_seq, e_cond, e_exit, o_nil, o_cons, gd_none, gd_some, gdK_ft, putK_e, runK_e, skipK_e, vK_e, evh_v, loopK_n, loopK_x, seqK_n, seqK_x, condK_f, exitK_t, blockK_x, blockK_n, evp, bin, gt, st, putf, X.get, undef, beq_self_eq_true, true_and]
        repeat' (first | omega | refine And.intro ?_ ?_)
        refine Nx.mk (i + 1, false, false) ⟨by show i + 1 ≤ L.length; omega, hall', fun h => by cases h⟩ (by show L.length - (i + 1) < L.length - i; omega) (Lw_re 0 [] (Nat.zero_le _) (by simp [ln]) (by simp [ln]) rfl ?_ ?_)
        ·simp only [reL, reX, inb, and_self, Int.natCast_add, Int.natCast_one, implies_true]
        ·simp only [reH, reN]
      ·have u2 := eq_false c2
       have hall' : false = (L.take (i + 1)).all (ok2 (ptG L 0).E.length) := by
        have e : ok2 (ptG L 0).E.length (ptG L i) = false := by
         cases he : ok2 (ptG L 0).E.length (ptG L i) with
         | false => rfl
         | true =>
          simp only [ok2, okB, Bool.and_eq_true, decide_eq_true_eq] at he
          exfalso
          omega
        rw [allP_snoc hlt, e, Bool.and_false]
       simp only [dX_bt, dX_bf, gdK_btt, condK_bt, decide_true, decide_false, e_skip, e_reg, and_self, e_drw, e_seq, e_cond, e_block, e_loop, o_nil, o_cons, gd_none, gd_some, gdK_tt, gdK_ft, putK_e, runK_e, skipK_e, vK_e, storeK3_e, storeK2_e, storeK_e, evh_v, evh_new, evh_store, dX_e, dX_l, dG_t, dG_f, d_nil, d_cons, tlK_n, seqK_n, gamq_e, gamqK_f, evp, bin, gt, gq, st, putf, X.get, gets, ap, clo, clo.clos, ld, lda, lens, ixs, tk, dr, sp, sp.spl, ll, cs1, one, allOne, gb, sb, pb, ln, lk, evq, gdl, undef, Bool.and_true, Bool.not_true, Nat.reduceAdd, beq_self_eq_true, true_and, and_true, sts, bv, n0, Int.toNat_natCast, ptR, Pt.row, Fin, u1, u2]
       repeat' (first | omega | refine And.intro ?_ ?_)
       refine loop_once ?_
       simp only [inr64, e_reg, e_seq, e_cond, e_exit, o_nil, o_cons, gd_none, gd_some, gdK_ft, putK_e, runK_e, skipK_e, vK_e, evh_v, loopK_n, loopK_x, seqK_n, seqK_x, condK_f, exitK_t, blockK_x, blockK_n, evp, bin, gt, st, putf, X.get, undef, beq_self_eq_true, true_and]
       repeat' (first | omega | refine And.intro ?_ ?_)
       refine Nx.mk (i + 1, false, false) ⟨by show i + 1 ≤ L.length; omega, hall', fun h => by cases h⟩ (by show L.length - (i + 1) < L.length - i; omega) (Lw_re 0 [] (Nat.zero_le _) (by simp [ln]) (by simp [ln]) rfl ?_ ?_)
       ·simp only [reL, reX, inb, and_self, Int.natCast_add, Int.natCast_one, implies_true]
       ·simp only [reH, reN]
     ·have u1 := eq_false c1
      have hall' : false = (L.take (i + 1)).all (ok2 (ptG L 0).E.length) := by
       have e : ok2 (ptG L 0).E.length (ptG L i) = false := by
        cases he : ok2 (ptG L 0).E.length (ptG L i) with
        | false => rfl
        | true =>
         simp only [ok2, okB, Bool.and_eq_true, decide_eq_true_eq] at he
         exfalso
         omega
       rw [allP_snoc hlt, e, Bool.and_false]
      simp only [dX_bf, gdK_btt, condK_bt, decide_true, decide_false, e_skip, e_reg, and_self, e_drw, e_seq, e_cond, e_block, e_loop, o_nil, o_cons, gd_none, gd_some, gdK_tt, gdK_ft, putK_e, runK_e, skipK_e, vK_e, storeK3_e, storeK2_e, storeK_e, evh_v, evh_new, evh_store, dX_e, dX_l, dG_t, dG_f, d_nil, d_cons, tlK_n, seqK_n, gamq_e, gamqK_f, evp, bin, gt, gq, st, putf, X.get, gets, ap, clo, clo.clos, ld, lda, lens, ixs, tk, dr, sp, sp.spl, ll, cs1, one, allOne, gb, sb, pb, ln, lk, evq, gdl, undef, Bool.and_true, Bool.not_true, Nat.reduceAdd, beq_self_eq_true, true_and, and_true, sts, bv, n0, Int.toNat_natCast, ptR, Pt.row, Fin, u1]
      repeat' (first | omega | refine And.intro ?_ ?_)
      refine loop_once ?_
      simp only [inr64, e_reg, e_seq, e_cond, e_exit, o_nil, o_cons, gd_none, gd_some, gdK_ft, putK_e, runK_e, skipK_e, vK_e, evh_v, loopK_n, loopK_x, seqK_n, seqK_x, condK_f, exitK_t, blockK_x, blockK_n, evp, bin, gt, st, putf, X.get, undef, beq_self_eq_true, true_and]
      repeat' (first | omega | refine And.intro ?_ ?_)
      refine Nx.mk (i + 1, false, false) ⟨by show i + 1 ≤ L.length; omega, hall', fun h => by cases h⟩ (by show L.length - (i + 1) < L.length - i; omega) (Lw_re 0 [] (Nat.zero_le _) (by simp [ln]) (by simp [ln]) rfl ?_ ?_)
      ·simp only [reL, reX, inb, and_self, Int.natCast_add, Int.natCast_one, implies_true]
      ·simp only [reH, reN]
    ·have n0 : ((i : Int) < (L.length : Int)) = False := by simp; omega
     have ei : i = L.length := by omega
     subst ei
     rw [List.take_length] at hall
     rw [stk2_t h1 hall.symm] at hK
     simp only [gdK_btt, condK_bf, decide_false, e_reg, e_seq, e_cond, e_exit, e_ret, o_nil, o_cons, gd_none, gd_some, gdK_tt, putK_e, runK_e, vK_e, evh_v, loopK_x, seqK_n, seqK_x, exitK_t, blockK_x, ends_r, endK1_e, endK2_e, evp, bin, gt, st, putf, X.get, rdR, tupled, clV, clS, clo, lens, beq_self_eq_true, true_and, sts, bv, n0]
     exact res hK (by simp [leR])
 ·have t1 := eq_false h1
  have e : stk L = false := by simp [stk, h1]
  rw [e] at hK
  simp only [decide_false, e_reg, e_seq, e_block, e_loop, o_nil, o_cons, gd_none, putK_e, runK_e, vK_e, conK_e, callK_e, evh_v, evh_call, seqK_n, gam_e, gamK_f, pc_e, pcK_e, fcC_e, fcK_e, evp, gt, st, putf, X.get, gets, ap, mkfr, rep, clV, clL, clS, clo, lens, lk, undef, Nat.reduceSub, beq_self_eq_true, true_and, s82, r82, Fin, t1]
  refine loop_once ?_
  simp only [gdK_btf, e_reg, e_seq, e_cond, e_exit, e_ret, o_nil, o_cons, gd_none, gd_some, gdK_ft, putK_e, runK_e, skipK_e, vK_e, evh_v, loopK_x, seqK_n, seqK_x, condK_f, exitK_t, blockK_x, ends_r, endK1_e, endK2_e, evp, gt, st, putf, X.get, rdR, tupled, clV, clS, clo, undef, beq_self_eq_true, true_and]
  exact res hK (by simp [leR])
end Go.Proofs.Ytjagiieconpgbaa
end
section
namespace Go.Proofs.Ytjagiieconpgbaa
open Go Go.Vg
set_option linter.unusedSimpArgs false
set_option linter.unusedVariables false
def ups (o : Option Th) (x : Th) : Option Th := match o with
 | none => some x
 | some b => if x.p < b.p then some x else some b
theorem fold_amg {α : Type} (q : Int) (L : List Pt) (F : α → Int → α) : ∀ (n : Nat) (o : α), (amg q L n).foldl F o = (List.range n).foldl (fun o k => if (ptG L k).k = q then F o (k : Int) else o) o
 | 0, o => rfl
 | n + 1, o => by
  have ih := fold_amg q L F n
  rw [List.range_succ, List.foldl_append]
  simp only [amg]
  split
  ·rename_i h
   rw [List.foldl_append, ih]
   simp [h]
  ·rename_i h
   rw [ih]; simp [h]
theorem take_snoc {H : List Int} {k : Nat} (h : k < H.length) : H.take (k + 1) = H.take k ++ [H.getD k 0] := by
 rw [List.take_add_one, List.getElem?_eq_getElem h]; simp [List.getD, h]
theorem fold_g3 {L : List Pt} {bd a m : Int} {H : List Int} : ∀ (k : Nat) (o : Option Th), k ≤ H.length → (g3 L bd a m H k).foldl ups o = (H.take k).foldl (fun o h => if ft L bd a m h = true then ups o (thr L a m h) else o) o
 | 0, o, _ => by simp [g3]
 | k + 1, o, h => by
  have ih := fold_g3 (L := L) (bd := bd) (a := a) (m := m) (H := H) k o (by omega)
  rw [take_snoc (by omega), List.foldl_append]
  simp only [g3, List.foldl_cons, List.foldl_nil]
  split
  ·rw [List.foldl_append, ih]; rfl
  ·rw [ih]
theorem fold_g2 {L : List Pt} {bd a : Int} {M H : List Int} : ∀ (k : Nat) (o : Option Th), k ≤ M.length → (g2 L bd a M H k).foldl ups o = (M.take k).foldl (fun o m => (g3 L bd a m H H.length).foldl ups o) o
 | 0, o, _ => by simp [g2]
 | k + 1, o, h => by
  have ih := fold_g2 (L := L) (bd := bd) (a := a) (M := M) (H := H) k o (by omega)
  rw [take_snoc (by omega), List.foldl_append]
  simp only [g2, List.foldl_append, List.foldl_cons, List.foldl_nil, ih]
theorem fold_g1 {L : List Pt} {bd : Int} {A M H : List Int} : ∀ (k : Nat) (o : Option Th), k ≤ A.length → (g1 L bd A M H k).foldl ups o = (A.take k).foldl (fun o a => (g2 L bd a M H M.length).foldl ups o) o
 | 0, o, _ => by simp [g1]
 | k + 1, o, h => by
  have ih := fold_g1 (L := L) (bd := bd) (A := A) (M := M) (H := H) k o (by omega)
  rw [take_snoc (by omega), List.foldl_append]
  simp only [g1, List.foldl_append, List.foldl_cons, List.foldl_nil, ih]
def okT (L : List Pt) (bd : Int) (i j k : Nat) : Bool := kindB (ptG L i) (ptG L j) (ptG L k) && fitB (ptG L i) (ptG L j) (ptG L k) bd (ptG L 0).E.length
def thN (L : List Pt) (i j k : Nat) : Th := ⟨i, j, k, (ptG L i).p + (ptG L j).p + (ptG L k).p⟩
def up3 (L : List Pt) (bd : Int) (i j : Nat) (o : Option Th) (k : Nat) : Option Th := if okT L bd i j k = true then ups o (thN L i j k) else o
def b3 (L : List Pt) (bd : Int) (i j : Nat) (o : Option Th) : Nat → Option Th
 | 0 => o
 | k + 1 => up3 L bd i j (b3 L bd i j o k) k
def b2 (L : List Pt) (bd : Int) (i : Nat) (o : Option Th) : Nat → Option Th
 | 0 => o
 | j + 1 => b3 L bd i j (b2 L bd i o j) L.length
def b1 (L : List Pt) (bd : Int) : Nat → Option Th
 | 0 => none
 | i + 1 => b2 L bd i (b1 L bd i) L.length
theorem b3_fold {L : List Pt} {bd : Int} {i j : Nat} {o : Option Th} : ∀ n, b3 L bd i j o n = (List.range n).foldl (up3 L bd i j) o
 | 0 => rfl
 | n + 1 => by rw [List.range_succ, List.foldl_append, ← b3_fold n]; rfl
theorem b2_fold {L : List Pt} {bd : Int} {i : Nat} {o : Option Th} : ∀ n, b2 L bd i o n = (List.range n).foldl (fun o j => b3 L bd i j o L.length) o
 | 0 => rfl
 | n + 1 => by rw [List.range_succ, List.foldl_append, ← b2_fold n]; rfl
theorem b1_fold {L : List Pt} {bd : Int} : ∀ n, b1 L bd n = (List.range n).foldl (fun o i => b2 L bd i o L.length) none
 | 0 => rfl
 | n + 1 => by rw [List.range_succ, List.foldl_append, ← b1_fold n]; rfl
theorem fold_id {α β : Type} {F : α → β → α} (h : ∀ o x, F o x = o) : ∀ (l : List β) (o : α), l.foldl F o = o
 | [], o => rfl
 | x :: t, o => by rw [List.foldl_cons, h, fold_id h t]
theorem fit_b1 (L : List Pt) (bd : Int) : (fitL L bd).foldl ups none = b1 L bd L.length := by
 unfold fitL
 rw [fold_g1 _ _ (Nat.le_refl _), List.take_length, fold_amg, b1_fold]
 congr 1
 funext o i
 rw [fold_g2 _ _ (Nat.le_refl _), List.take_length, fold_amg, b2_fold]
 have e : ∀ j, (fun o k => up3 L bd i j o k) = fun o k => if okT L bd i j k = true then ups o (thN L i j k) else o := fun j => rfl
 split
 ·rename_i hi0
  congr 1
  funext o j
  rw [fold_g3 _ _ (Nat.le_refl _), List.take_length, fold_amg, b3_fold]
  split
  ·rename_i hj1
   congr 1
   funext o k
   simp only [up3, okT, kindB, hi0, hj1, decide_true, Bool.true_and, Bool.and_eq_true, decide_eq_true_eq, ft, Int.toNat_natCast]
   by_cases hk2 : (ptG L k).k = 2
   ·simp only [hk2, true_and, if_true]; rfl
   ·simp only [hk2, false_and, if_false]
  ·rename_i hj1
   exact (fold_id (fun o k => by simp [up3, okT, kindB, hj1]) _ _).symm
 ·rename_i hi0
  refine (fold_id (fun o j => ?_) _ _).symm
  rw [b3_fold]
  exact fold_id (fun o k => by simp [up3, okT, kindB, hi0]) _ _
theorem fold_bs (x : Th) (T : List Th) : ∀ k, k ≤ T.length → (T.take k).foldl ups (some x) = some (bs x T k)
 | 0, _ => rfl
 | k + 1, h => by
  have e : T.take (k + 1) = T.take k ++ [thG T k] := by
   rw [List.take_add_one, List.getElem?_eq_getElem (by omega)]; simp [thG, List.getD, show k < T.length by omega]
  rw [e, List.foldl_append, fold_bs x T k (by omega)]
  simp only [List.foldl_cons, List.foldl_nil, ups, bs]
  split <;> rfl
def asmO : Option Th → SV
 | none => .tup [nilS, .int .i64 0, .int .i64 4]
 | some b => .tup [.ints .i64 [b.a, b.m, b.h], .int .i64 b.p, .int .i64 0]
theorem asm_fold (T : List Th) : asmT T = asmO (T.foldl ups none) := by
 cases T with
 | nil => rfl
 | cons x t =>
  rw [List.foldl_cons]
  show asmT (x :: t) = asmO (t.foldl ups (some x))
  have := fold_bs x t t.length (Nat.le_refl _)
  rw [List.take_length] at this
  rw [this]; rfl
theorem asm_b1 (L : List Pt) (bd : Int) : asmT (fitL L bd) = asmO (b1 L bd L.length) := by rw [asm_fold, fit_b1]
end Go.Proofs.Ytjagiieconpgbaa
end
section
namespace Go.Proofs.Ytjagiieconpgbaa
open Go Go.Vg
set_option linter.unusedSimpArgs false
set_option linter.unusedVariables false
set_option maxRecDepth 10000
def s31 : SC :=
 (.seq (.reg [⟨(some 4), none, .v (.mov (.c (.lit (.slice none 0 0))))⟩,
  ⟨(some 5), none, .v (.mov (.c (.int .i64 (0))))⟩,
  ⟨(some 6), none, .v (.mov (.c (.int .i64 (0))))⟩])
 (.seq (.seq (.reg [⟨(some 13), none, .v (.mov (.t 0))⟩,
  ⟨(some 14), none, .call (.c (.fn 82 [])) [(.t 13)]⟩,
  ⟨(some 15), none, .v (.not (.t 14))⟩,
  ⟨(some 16), none, .v (.mov (.t 15))⟩,
  ⟨(some 17), (some (16, false)), .v (.mov (.t 1))⟩,
  ⟨(some 18), (some (16, false)), .call (.c (.fn 33 [])) [(.t 17), (.c (.int .i64 (0))), (.c (.int .i64 (5000)))]⟩,
  ⟨(some 19), (some (16, false)), .v (.not (.t 18))⟩,
  ⟨(some 20), none, .v (.pick (.t 16) (.c (.lit (.bool true))) (.t 19))⟩])
 (.cond (.t 20)
  (.seq (.reg [⟨(some 4), none, .v (.mov (.c (.lit (.slice none 0 0))))⟩,
   ⟨(some 5), none, .v (.mov (.c (.int .i64 (0))))⟩,
   ⟨(some 6), none, .v (.mov (.c (.int .i64 (55))))⟩])
  .ret)
  .skip))
 (.seq (.reg [⟨(some 7), none, .v (.mov (.c (.lit (.slice none 0 0))))⟩])
 (.seq (.reg [⟨(some 8), none, .v (.mov (.c (.int .i64 (0))))⟩])
 (.seq (.seq (.reg [⟨(some 9), none, .v (.mov (.c (.int .i64 (0))))⟩])
 (.block 0 (.loop
  (.seq (.seq (.reg [⟨(some 21), none, .v (.mov (.t 9))⟩,
   ⟨(some 22), none, .v (.mov (.t 0))⟩,
   ⟨(some 23), none, .v (.len (.t 22))⟩,
   ⟨(some 24), none, .v (.bin .lss (.t 21) (.t 23))⟩])
  (.cond (.t 24)
   .skip
   (.exit 0)))
  (.seq (.block 1 (.seq (.reg [⟨(some 10), none, .v (.mov (.c (.int .i64 (0))))⟩])
  (.block 2 (.loop
   (.seq (.seq (.reg [⟨(some 27), none, .v (.mov (.t 10))⟩,
    ⟨(some 28), none, .v (.mov (.t 0))⟩,
    ⟨(some 29), none, .v (.len (.t 28))⟩,
    ⟨(some 30), none, .v (.bin .lss (.t 27) (.t 29))⟩])
   (.cond (.t 30)
    .skip
    (.exit 2)))
   (.seq (.block 3 (.seq (.reg [⟨(some 11), none, .v (.mov (.c (.int .i64 (0))))⟩])
   (.block 4 (.loop
    (.seq (.seq (.reg [⟨(some 33), none, .v (.mov (.t 11))⟩,
     ⟨(some 34), none, .v (.mov (.t 0))⟩,
     ⟨(some 35), none, .v (.len (.t 34))⟩,
     ⟨(some 36), none, .v (.bin .lss (.t 33) (.t 35))⟩])
    (.cond (.t 36)
     .skip
     (.exit 4)))
    (.seq (.block 5 (.seq (.drw [(0, ⟨(some 39), none, .v (.mov (.t 0))⟩, false),
     (1, ⟨(some 40), none, .v (.mov (.t 9))⟩, false),
     (2, ⟨(some 41), none, .v (.ixa (.t 39) (.t 40) 3)⟩, false),
     (3, ⟨(some 42), none, .v (.off (.t 41) 1)⟩, false),
     (4, ⟨(some 43), none, .v (.load (.t 42) none)⟩, false),
     (5, ⟨(some 44), none, .v (.mov (.t 0))⟩, false),
     (6, ⟨(some 45), none, .v (.mov (.t 10))⟩, false),
     (7, ⟨(some 46), none, .v (.ixa (.t 44) (.t 45) 3)⟩, false),
     (8, ⟨(some 47), none, .v (.off (.t 46) 1)⟩, false),
     (9, ⟨(some 48), none, .v (.load (.t 47) none)⟩, false),
     (10, ⟨(some 49), none, .v (.bin .add (.t 43) (.t 48))⟩, false),
     (11, ⟨(some 50), none, .v (.mov (.t 0))⟩, false),
     (12, ⟨(some 51), none, .v (.mov (.t 11))⟩, false),
     (13, ⟨(some 52), none, .v (.ixa (.t 50) (.t 51) 3)⟩, false),
     (14, ⟨(some 53), none, .v (.off (.t 52) 1)⟩, false),
     (15, ⟨(some 54), none, .v (.load (.t 53) none)⟩, false)]
     none
     [⟨(some 55), none, .v (.bin .add (.t 49) (.t 54))⟩,
     ⟨(some 12), none, .v (.mov (.t 55))⟩])
    (.seq (.drw [(0, ⟨(some 56), none, .v (.mov (.t 0))⟩, false),
     (1, ⟨(some 57), none, .v (.mov (.t 9))⟩, false),
     (2, ⟨(some 58), none, .v (.ixa (.t 56) (.t 57) 3)⟩, false),
     (3, ⟨(some 59), none, .v (.load (.t 58) (some 3))⟩, false),
     (4, ⟨(some 60), none, .v (.mov (.t 0))⟩, false),
     (5, ⟨(some 61), none, .v (.mov (.t 10))⟩, false),
     (6, ⟨(some 62), none, .v (.ixa (.t 60) (.t 61) 3)⟩, false),
     (7, ⟨(some 63), none, .v (.load (.t 62) (some 3))⟩, false),
     (8, ⟨(some 64), none, .v (.mov (.t 0))⟩, false),
     (9, ⟨(some 65), none, .v (.mov (.t 11))⟩, false),
     (10, ⟨(some 66), none, .v (.ixa (.t 64) (.t 65) 3)⟩, false),
     (11, ⟨(some 67), none, .v (.load (.t 66) (some 3))⟩, false),
     (12, ⟨(some 68), none, .v (.mov (.t 1))⟩, false),
     (13, ⟨(some 69), none, .call (.c (.fn 83 [])) [(.t 59), (.t 63), (.t 67), (.t 68)]⟩, false),
     (14, ⟨(some 70), none, .v (.mov (.t 69))⟩, true),
     (15, ⟨(some 71), (some (70, true)), .v (.mov (.t 7))⟩, false),
     (16, ⟨(some 72), (some (70, true)), .v (.len (.t 71))⟩, false),
     (17, ⟨(some 73), (some (70, true)), .v (.bin .eql (.t 72) (.c (.int .i64 (0))))⟩, false),
     (18, ⟨(some 74), (some (70, true)), .v (.mov (.t 73))⟩, true),
     (19, ⟨(some 75), (some (74, false)), .v (.mov (.t 12))⟩, false),
     (20, ⟨(some 76), (some (74, false)), .v (.mov (.t 8))⟩, false)]
     none
     [⟨(some 77), (some (74, false)), .v (.bin .lss (.t 75) (.t 76))⟩,
     ⟨(some 78), (some (70, true)), .v (.pick (.t 74) (.c (.lit (.bool true))) (.t 77))⟩,
     ⟨(some 79), none, .v (.pick (.t 70) (.t 78) (.c (.lit (.bool false))))⟩])
    (.cond (.t 79)
     (.reg [⟨(some 80), none, .v (.mov (.t 9))⟩,
      ⟨(some 81), none, .v (.mov (.t 10))⟩,
      ⟨(some 82), none, .v (.mov (.t 11))⟩,
      ⟨(some 83), none, .bsl 3 3 [(.int .i64 (0)), (.int .i64 (0)), (.int .i64 (0))] [(0, 1, (.t 80)), (1, 1, (.t 81)), (2, 1, (.t 82))]⟩,
      ⟨(some 84), none, .v (.mov (.t 12))⟩,
      ⟨(some 7), none, .v (.mov (.t 83))⟩,
      ⟨(some 8), none, .v (.mov (.t 84))⟩])
     .skip))))
    (.reg [⟨(some 37), none, .v (.mov (.t 11))⟩,
     ⟨(some 38), none, .v (.bin .add (.t 37) (.c (.int .i64 (1))))⟩,
     ⟨(some 11), none, .v (.mov (.t 38))⟩])))))))
   (.reg [⟨(some 31), none, .v (.mov (.t 10))⟩,
    ⟨(some 32), none, .v (.bin .add (.t 31) (.c (.int .i64 (1))))⟩,
    ⟨(some 10), none, .v (.mov (.t 32))⟩])))))))
  (.reg [⟨(some 25), none, .v (.mov (.t 9))⟩,
   ⟨(some 26), none, .v (.bin .add (.t 25) (.c (.int .i64 (1))))⟩,
   ⟨(some 9), none, .v (.mov (.t 26))⟩]))))))
 (.seq (.seq (.reg [⟨(some 85), none, .v (.mov (.t 7))⟩,
  ⟨(some 86), none, .v (.len (.t 85))⟩,
  ⟨(some 87), none, .v (.bin .eql (.t 86) (.c (.int .i64 (0))))⟩])
 (.cond (.t 87)
  (.seq (.reg [⟨(some 4), none, .v (.mov (.c (.lit (.slice none 0 0))))⟩,
   ⟨(some 5), none, .v (.mov (.c (.int .i64 (0))))⟩,
   ⟨(some 6), none, .v (.mov (.c (.int .i64 (4))))⟩])
  .ret)
  .skip))
 (.seq (.reg [⟨(some 88), none, .v (.mov (.t 7))⟩,
  ⟨(some 89), none, .v (.mov (.t 8))⟩,
  ⟨(some 4), none, .v (.mov (.t 88))⟩,
  ⟨(some 5), none, .v (.mov (.t 89))⟩,
  ⟨(some 6), none, .v (.mov (.c (.int .i64 (0))))⟩])
 .ret)))))))
def r31 : List RV := [.t 4, .t 5, .t 6]
theorem k31 : (Try.f31.body.bind (cC Try.prog), cR Try.prog Try.f31.results.toList, Try.f31.ntmps) = (some s31, some r31, 90) := by kernel_rfl
theorem q31 : Known Try.prog 31 := ⟨_, Try.func31, by decide, by simp [Try.f31]⟩
theorem Lw_clr {N : Nat} {fr : List SV} {hp hp' : List Blk} (n i : Nat) {x : SV} {s' : St} (e : clV n hp (gt fr i) = some (x, hp')) (h : Lw N ⟨st fr i x, hp'⟩ s') : Lw N ⟨fr, hp⟩ s' := by
 intro E a hN hn hr
 obtain ⟨E1, x1, w1, r1⟩ := Lw_cl (N := N) n i e E a hN hn hr
 obtain ⟨E2, x2, w2, r2⟩ := h E1 a (by have := x1.n0; omega) (by have := x1.n0; have := x1.n; omega) r1
 exact ⟨E2, x1.trans x2, w2.trans w1, r2⟩
theorem Lw_nilr {N : Nat} {fr : List SV} {hp : List Blk} (i : Nat) (k : IntKind) {s' : St} (e : gt fr i = .lit (.slice none 0 0)) (h : Lw N ⟨st fr i (.ints k []), hp⟩ s') : Lw N ⟨fr, hp⟩ s' := by
 intro E a hN hn hr
 refine h E a hN hn ⟨rvs_stx i hr.fr fun v hv => ?_, hr.hp, hr.df⟩
 have hx := hr.fr.gt i
 rw [e, show a.tmps.toList.getD i undef = v by rw [List.getD, hv]; rfl] at hx
 have := hx.litE
 subst this
 exact .ints _ _ _ (.intsNil k)
def bstL : Option Th → List Int
 | none => []
 | some b => [b.a, b.m, b.h]
def prO : Option Th → Int
 | none => 0
 | some b => b.p
theorem up3_f {L : List Pt} {bd : Int} {i j k : Nat} {o : Option Th} (h : okT L bd i j k = false) : up3 L bd i j o k = o := by simp [up3, h]
theorem up3_n {L : List Pt} {bd : Int} {i j k : Nat} (h : okT L bd i j k = true) : up3 L bd i j none k = some (thN L i j k) := by simp [up3, h, ups]
theorem up3_l {L : List Pt} {bd : Int} {i j k : Nat} {b : Th} (h : okT L bd i j k = true) (hp : (thN L i j k).p < b.p) : up3 L bd i j (some b) k = some (thN L i j k) := by simp [up3, h, ups, hp]
theorem up3_g {L : List Pt} {bd : Int} {i j k : Nat} {b : Th} (h : okT L bd i j k = true) (hp : ¬ (thN L i j k).p < b.p) : up3 L bd i j (some b) k = some b := by simp [up3, h, ups, hp]
def C31 : PC := fun args K => ∃ (L : List Pt) (bd : Int), args = [.rd 3 L.length (ptR L), .int .i64 bd] ∧ K (asm L bd)
theorem p31 : PureOk Try.prog 31 C31 := by
 refine pure_of (T := [(82, .pc C82), (33, .fc Fin), (83, .fc F83)]) ⟨⟨p82, q82⟩, ⟨p33, q33⟩, ⟨p83', q83⟩, trivial⟩ Try.func31 k31 ?_
 rintro args K ⟨L, bd, rfl, hK⟩
 simp only [e_reg, e_seq, o_nil, o_cons, gd_none, putK_e, runK_e, vK_e, conK_e, callK_e, evh_v, evh_call, seqK_n, gam_e, gamK_p, pc_e, pcK_e, evp, gt, st, putf, X.get, gets, ap, mkfr, rep, clV, clL, clS, clo, lk, undef, Nat.reduceSub, beq_self_eq_true, true_and, s31, r31]
 refine ⟨L, rfl, ?_⟩
 by_cases hs : stk L = true
 ·by_cases hb : 0 ≤ bd ∧ bd ≤ 5000
  ·have u := eq_true hb
   have ea : asm L bd = asmT (fitL L bd) := if_pos ⟨hs, hb⟩
   rw [ea, asm_b1] at hK
   have hg := fun i => @stk_get L hs i
   have hl12 : 3 ≤ L.length ∧ L.length ≤ 12 ∧ (ptG L 0).E.length ≤ 12 := by
    simp only [stk, Bool.and_eq_true, decide_eq_true_eq] at hs; omega
   simp only [gdK_bff, condK_bf, decide_true, e_skip, e_reg, e_seq, e_cond, e_block, e_loop, o_nil, o_cons, gd_none, gd_some, gdK_ff, putK_e, runK_e, vK_e, conK_e, callK_e, evh_v, evh_call, seqK_n, gam_e, gamK_f, pc_e, pcK_e, fcC_e, fcK_e, evp, gt, st, putf, X.get, gets, ap, clV, clL, clS, clo, lk, Bool.not_true, Nat.reduceBEq, beq_self_eq_true, true_and, hs, Fin, u]
   refine loop_at2 (G := Nat) (fun i => [(9, .int .i64 i), (7, .ints .i64 (bstL (b1 L bd i))), (8, .int .i64 (prO (b1 L bd i)))]) (fun _ => []) (fun i => i ≤ L.length) (fun i => L.length - i) 0 (Nat.zero_le _) ?_
   (intro fr1 hf1; simp only [forget, dstC, dstO, dstD, dst1, st] at hf1; subst hf1)
   refine ⟨?_, ?_⟩
   ·refine Lw_nilr 7 .i64 rfl (Lw_re 0 [] (Nat.zero_le _) (by simp [ln]) (by simp [ln]) rfl ?_ ?_)
    ·simp only [reL, reX, inb, ln, sts, st, and_self, b1, bstL, prO, Int.natCast_zero, implies_true]
    ·simp only [reH, reN]
   ·intro i hi1
    by_cases hi2 : i < L.length
    ·have n0 : ((i : Int) < (L.length : Int)) = True := by simp; omega
     obtain ⟨gi1, gi2, gi3⟩ := hg i hi2
     simp only [condK_bt, decide_true, e_skip, e_reg, e_seq, e_cond, e_block, e_loop, o_nil, o_cons, gd_none, putK_e, runK_e, vK_e, evh_v, seqK_n, evp, bin, gt, st, putf, X.get, lens, true_and, sts, n0]
     refine loop_at2 (G := Nat) (fun j => [(10, .int .i64 j), (7, .ints .i64 (bstL (b2 L bd i (b1 L bd i) j))), (8, .int .i64 (prO (b2 L bd i (b1 L bd i) j)))]) (fun _ => []) (fun j => j ≤ L.length) (fun j => L.length - j) 0 (Nat.zero_le _) ?_
     (intro fr1 hf1; simp only [forget, dstC, dstO, dstD, dst1, st] at hf1; subst hf1)
     refine ⟨?_, ?_⟩
     ·refine Lw_re 0 [] (Nat.zero_le _) (by simp [ln]) (by simp [ln]) rfl ?_ ?_
      ·simp only [reL, reX, inb, ln, sts, st, and_self, b2, Int.natCast_zero, implies_true]
      ·simp only [reH, reN]
     ·intro j hj1
      by_cases hj2 : j < L.length
      ·have n1 : ((j : Int) < (L.length : Int)) = True := by simp; omega
       obtain ⟨gj1, gj2, gj3⟩ := hg j hj2
       simp only [condK_bt, decide_true, e_skip, e_reg, e_seq, e_cond, e_block, e_loop, o_nil, o_cons, gd_none, putK_e, runK_e, vK_e, evh_v, seqK_n, evp, bin, gt, st, putf, X.get, lens, true_and, sts, n1]
       refine loop_at2 (G := Nat) (fun k => [(11, .int .i64 k), (7, .ints .i64 (bstL (b3 L bd i j (b2 L bd i (b1 L bd i) j) k))), (8, .int .i64 (prO (b3 L bd i j (b2 L bd i (b1 L bd i) j) k)))]) (fun _ => []) (fun k => k ≤ L.length) (fun k => L.length - k) 0 (Nat.zero_le _) ?_
       (intro fr1 hf1; simp only [forget, dstC, dstO, dstD, dst1, st] at hf1; subst hf1)
       refine ⟨?_, ?_⟩
       ·refine Lw_re 0 [] (Nat.zero_le _) (by simp [ln]) (by simp [ln]) rfl ?_ ?_
        ·simp only [reL, reX, inb, ln, sts, st, and_self, b3, Int.natCast_zero, implies_true]
        ·simp only [reH, reN]
       ·intro k hk1
        by_cases hk2 : k < L.length
        ·have n2 : ((k : Int) < (L.length : Int)) = True := by simp; omega
         obtain ⟨gk1, gk2, gk3⟩ := hg k hk2
         have e3 : b3 L bd i j (b2 L bd i (b1 L bd i) j) (k + 1) = up3 L bd i j (b3 L bd i j (b2 L bd i (b1 L bd i) j) k) k := rfl
         generalize b3 L bd i j (b2 L bd i (b1 L bd i) j) k = o at *
         have eok : (kindB (ptG L i) (ptG L j) (ptG L k) && fitB (ptG L i) (ptG L j) (ptG L k) bd (ptG L i).E.length) = okT L bd i j k := by rw [okT, gi2]
         have hex : ∃ (a b c : Pt) (n : Nat), (SV.agg [.int .i64 (ptG L i).k, .int .i64 (ptG L i).p, .rd 2 (ptG L i).E.length (rowsS (ptG L i).E)]) = .agg [.int .i64 a.k, .int .i64 a.p, .rd 2 a.E.length (rowsS a.E)] ∧ (SV.agg [.int .i64 (ptG L j).k, .int .i64 (ptG L j).p, .rd 2 (ptG L j).E.length (rowsS (ptG L j).E)]) = .agg [.int .i64 b.k, .int .i64 b.p, .rd 2 b.E.length (rowsS b.E)] ∧ (SV.agg [.int .i64 (ptG L k).k, .int .i64 (ptG L k).p, .rd 2 (ptG L k).E.length (rowsS (ptG L k).E)]) = .agg [.int .i64 c.k, .int .i64 c.p, .rd 2 c.E.length (rowsS c.E)] ∧ okF a b c bd n :=
          ⟨ptG L i, ptG L j, ptG L k, (ptG L 0).E.length, rfl, rfl, rfl, ⟨gi2, gj2, gk2⟩, by omega, ⟨gi3, gj3, gk3⟩, hb.1, hb.2⟩
         cases hok : okT L bd i j k with
         | false =>
          rw [up3_f hok] at e3
          rw [hok] at eok
          simp only [dX_bf, condK_bt, decide_true, inr64, e_skip, e_reg, e_drw, e_seq, e_cond, e_block, o_nil, o_cons, gd_none, gd_some, gdK_ft, gdK_u, putK_e, runK_e, skipK_e, vK_e, evh_v, dX_e, dG_t, dG_f, d_nil, d_cons, tlK_n, loopK_n, seqK_n, condK_f, blockK_n, gamq_e, gamqK_f, evp, bin, gt, gq, st, putf, X.get, gets, ap, clo, clo.clos, ld, lda, lens, ixs, tk, dr, lk, evq, gdl, undef, Bool.and_true, Bool.not_true, Nat.reduceAdd, Nat.reduceBEq, beq_self_eq_true, true_and, and_true, sts, n2, Int.toNat_natCast, ptR, Pt.row, F83, ptA_eq, eok]
          repeat' (first | omega | exact hex | refine And.intro ?_ ?_)
          refine Nx.mk (k + 1) (by show k + 1 ≤ L.length; omega) (by show L.length - (k + 1) < L.length - k; omega) (Lw_re 0 [] (Nat.zero_le _) (by simp [ln]) (by simp [ln]) rfl ?_ ?_)
          ·simp only [reL, reX, inb, and_self, e3, Int.natCast_add, Int.natCast_one, implies_true]
          ·simp only [reH, reN]
         | true =>
          rw [hok] at eok
          rcases o with _ | b
          ·rw [up3_n hok] at e3
           simp only [dX_bt, condK_bt, decide_true, inr64, ↓reduceIte, e_skip, e_reg, e_drw, e_seq, e_cond, e_block, o_nil, o_cons, gd_none, gd_some, gdK_tt, gdK_tf, putK_e, runK_e, skipK_e, vK_e, bslK_e, evh_v, evh_bsl, dX_e, dG_t, dG_f, d_nil, d_cons, tlK_n, loopK_n, seqK_n, condK_t, blockK_n, gamq_e, gamqK_f, evp, bin, gt, gq, st, putf, X.get, gets, getp, ap, clo, clo.clos, ld, lda, lens, ixs, tk, dr, sp, sp.spl, lay, ll, cs1, one, pb, ln, lk, evq, gdl, undef, Bool.and_true, Nat.reduceAdd, Nat.reduceBEq, beq_self_eq_true, true_and, and_true, sts, n2, Int.toNat_natCast, ptR, Pt.row, F83, ptA_eq, eok, bstL, List.length_nil, Int.natCast_zero, eq_self]
           repeat' (first | omega | exact hex | refine And.intro ?_ ?_)
           refine Nx.mk (k + 1) (by show k + 1 ≤ L.length; omega) (by show L.length - (k + 1) < L.length - k; omega) (Lw_clr 8 7 rfl (Lw_re 0 [] (Nat.zero_le _) (by simp []) (by simp [ln]) rfl ?_ ?_))
           ·simp only [reL, reX, inb, ln, st, and_self, e3, prO, thN, Int.natCast_add, Int.natCast_one, implies_true]
           ·simp only [reH, reN]
          ·have el : ((([b.a, b.m, b.h] : List Int).length : Int) = 0) = False := by simp
           by_cases hp : (ptG L i).p + (ptG L j).p + (ptG L k).p < b.p
           ·have v := eq_true hp
            rw [up3_l hok hp] at e3
            simp only [dX_bt, dX_bf, condK_bt, decide_true, decide_false, inr64, ↓reduceIte, e_skip, e_reg, e_drw, e_seq, e_cond, e_block, o_nil, o_cons, gd_none, gd_some, gdK_tt, gdK_ff, putK_e, runK_e, vK_e, bslK_e, evh_v, evh_bsl, dX_e, dG_t, d_nil, d_cons, tlK_n, loopK_n, seqK_n, blockK_n, gamq_e, gamqK_f, evp, bin, gt, gq, st, putf, X.get, gets, getp, ap, clo, clo.clos, ld, lda, lens, ixs, tk, dr, sp, sp.spl, lay, ll, cs1, one, pb, ln, lk, evq, gdl, Bool.and_true, Bool.not_false, Nat.reduceAdd, Nat.reduceBEq, beq_self_eq_true, true_and, and_true, sts, n2, Int.toNat_natCast, ptR, Pt.row, F83, ptA_eq, eok, bstL, prO, el, v]
            repeat' (first | omega | exact hex | refine And.intro ?_ ?_)
            refine Nx.mk (k + 1) (by show k + 1 ≤ L.length; omega) (by show L.length - (k + 1) < L.length - k; omega) (Lw_clr 8 7 rfl (Lw_re 0 [] (Nat.zero_le _) (by simp []) (by simp [ln]) rfl ?_ ?_))
            ·simp only [reL, reX, inb, ln, st, and_self, e3, thN, Int.natCast_add, Int.natCast_one, implies_true]
            ·simp only [reH, reN]
           ·have v := eq_false hp
            rw [up3_g hok hp] at e3
            simp only [dX_bt, dX_bf, condK_bt, condK_bf, decide_true, decide_false, inr64, e_skip, e_reg, e_drw, e_seq, e_cond, e_block, o_nil, o_cons, gd_none, gd_some, gdK_tt, gdK_ff, putK_e, runK_e, vK_e, evh_v, dX_e, dG_t, d_nil, d_cons, tlK_n, loopK_n, seqK_n, blockK_n, gamq_e, gamqK_f, evp, bin, gt, gq, st, putf, X.get, gets, ap, clo, clo.clos, ld, lda, lens, ixs, tk, dr, lk, evq, gdl, Bool.and_true, Bool.not_false, Nat.reduceAdd, Nat.reduceBEq, beq_self_eq_true, true_and, and_true, sts, n2, Int.toNat_natCast, ptR, Pt.row, F83, ptA_eq, eok, bstL, prO, el, v]
            repeat' (first | omega | exact hex | refine And.intro ?_ ?_)
            refine Nx.mk (k + 1) (by show k + 1 ≤ L.length; omega) (by show L.length - (k + 1) < L.length - k; omega) (Lw_re 0 [] (Nat.zero_le _) (by simp [ln]) (by simp [ln]) rfl ?_ ?_)
            ·simp only [reL, reX, inb, and_self, e3, Int.natCast_add, Int.natCast_one, implies_true]
            ·simp only [reH, reN]
        ·have n2 : ((k : Int) < (L.length : Int)) = False := by simp; omega
         have ek : k = L.length := by omega
         subst ek
         simp only [condK_bf, decide_false, inr64, e_reg, e_seq, e_cond, e_exit, o_nil, o_cons, gd_none, putK_e, runK_e, vK_e, evh_v, loopK_n, loopK_x, seqK_n, seqK_x, exitK_t, blockK_x, blockK_n, evp, bin, gt, st, putf, X.get, lens, beq_self_eq_true, true_and, sts, n2]
         repeat' (first | omega | refine And.intro ?_ ?_)
         refine Nx.mk (j + 1) (by show j + 1 ≤ L.length; omega) (by show L.length - (j + 1) < L.length - j; omega) (Lw_re 0 [] (Nat.zero_le _) (by simp [ln]) (by simp [ln]) rfl ?_ ?_)
         ·simp only [reL, reX, inb, and_self, b2, Int.natCast_add, Int.natCast_one, implies_true]
         ·simp only [reH, reN]
      ·have n1 : ((j : Int) < (L.length : Int)) = False := by simp; omega
       have ej : j = L.length := by omega
       subst ej
       simp only [condK_bf, decide_false, inr64, e_reg, e_seq, e_cond, e_exit, o_nil, o_cons, gd_none, putK_e, runK_e, vK_e, evh_v, loopK_n, loopK_x, seqK_n, seqK_x, exitK_t, blockK_x, blockK_n, evp, bin, gt, st, putf, X.get, lens, beq_self_eq_true, true_and, sts, n1]
       repeat' (first | omega | refine And.intro ?_ ?_)
       refine Nx.mk (i + 1) (by show i + 1 ≤ L.length; omega) (by show L.length - (i + 1) < L.length - i; omega) (Lw_re 0 [] (Nat.zero_le _) (by simp [ln]) (by simp [ln]) rfl ?_ ?_)
       ·simp only [reL, reX, inb, and_self, b1, Int.natCast_add, Int.natCast_one, implies_true]
       ·simp only [reH, reN]
    ·have n0 : ((i : Int) < (L.length : Int)) = False := by simp; omega
     have ei : i = L.length := by omega
     subst ei
     cases hbb : b1 L bd L.length with
     | none =>
      rw [hbb] at hK
      simp only [condK_bt, condK_bf, decide_true, decide_false, e_reg, e_seq, e_cond, e_exit, e_ret, o_nil, o_cons, gd_none, putK_e, runK_e, vK_e, evh_v, loopK_x, seqK_n, seqK_x, seqK_r, exitK_t, blockK_x, ends_r, endK1_e, endK2_e, evp, bin, gt, st, putf, X.get, rdR, tupled, clV, clL, clS, clo, lens, beq_self_eq_true, true_and, sts, n0, bstL, prO, List.length_nil, Int.natCast_zero, eq_self]
      exact res hK (by simp [leR, leR.leRs, asmO, nilS])
     | some b =>
      rw [hbb] at hK
      have el : ((([b.a, b.m, b.h] : List Int).length : Int) = 0) = False := by simp
      simp only [condK_bf, decide_false, e_skip, e_reg, e_seq, e_cond, e_exit, e_ret, o_nil, o_cons, gd_none, putK_e, runK_e, vK_e, evh_v, loopK_x, seqK_n, seqK_x, exitK_t, blockK_x, ends_r, endK1_e, endK2_e, evp, bin, gt, st, putf, X.get, rdR, tupled, clV, clL, clS, clo, lens, beq_self_eq_true, true_and, sts, n0, bstL, prO, el]
      exact res hK (by simp [leR, leR.leRs, asmO])
  ·have u := eq_false hb
   have ea : asm L bd = .tup [nilS, .int .i64 0, .int .i64 55] := if_neg fun h => hb h.2
   rw [ea] at hK
   simp only [gdK_bff, condK_bt, decide_false, e_reg, e_seq, e_cond, e_ret, o_nil, o_cons, gd_none, gd_some, gdK_ff, putK_e, runK_e, vK_e, conK_e, callK_e, evh_v, evh_call, seqK_n, seqK_r, ends_r, endK1_e, endK2_e, gam_e, gamK_f, pc_e, pcK_e, fcC_e, fcK_e, evp, gt, st, putf, X.get, gets, ap, rdR, tupled, clV, clL, clS, clo, lk, Bool.not_true, Bool.not_false, Nat.reduceBEq, beq_self_eq_true, true_and, hs, Fin, u]
   exact res hK (by simp [leR, leR.leRs, nilS])
 ·have hs' : stk L = false := by simpa using hs
  have ea : asm L bd = .tup [nilS, .int .i64 0, .int .i64 55] := if_neg fun h => hs h.1
  rw [ea] at hK
  simp only [gdK_bft, e_reg, e_seq, e_cond, e_ret, o_nil, o_cons, gd_none, gd_some, gdK_tf, putK_e, runK_e, skipK_e, vK_e, evh_v, seqK_n, seqK_r, condK_t, ends_r, endK1_e, endK2_e, evp, gt, st, putf, X.get, rdR, tupled, clV, clL, clS, clo, undef, Bool.not_false, true_and, hs']
  exact res hK (by simp [leR, leR.leRs, nilS])
end Go.Proofs.Ytjagiieconpgbaa
end
section
namespace Go.Proofs.Ytjagiieconpgbaa
open Go Go.Vg
set_option linter.unusedSimpArgs false
set_option linter.unusedVariables false
set_option maxRecDepth 10000
def s29 : SC :=
 (.seq (.reg [⟨(some 4), none, .v (.mov (.c (.lit (.bool false))))⟩])
 (.seq (.seq (.reg [⟨(some 6), none, .v (.mov (.t 0))⟩,
  ⟨(some 7), none, .v (.len (.t 6))⟩,
  ⟨(some 8), none, .v (.mov (.t 1))⟩,
  ⟨(some 9), none, .v (.len (.t 8))⟩,
  ⟨(some 10), none, .v (.bin .neq (.t 7) (.t 9))⟩])
 (.cond (.t 10)
  (.seq (.reg [⟨(some 4), none, .v (.mov (.c (.lit (.bool false))))⟩])
  .ret)
  .skip))
 (.seq (.seq (.reg [⟨(some 5), none, .v (.mov (.c (.int .i64 (0))))⟩])
 (.block 0 (.loop
  (.seq (.seq (.reg [⟨(some 11), none, .v (.mov (.t 5))⟩,
   ⟨(some 12), none, .v (.mov (.t 0))⟩,
   ⟨(some 13), none, .v (.len (.t 12))⟩,
   ⟨(some 14), none, .v (.bin .lss (.t 11) (.t 13))⟩])
  (.cond (.t 14)
   .skip
   (.exit 0)))
  (.seq (.block 1 (.seq (.drw [(0, ⟨(some 17), none, .v (.mov (.t 0))⟩, false),
   (1, ⟨(some 18), none, .v (.mov (.t 5))⟩, false),
   (2, ⟨(some 19), none, .v (.ixa (.t 17) (.t 18) 1)⟩, false),
   (3, ⟨(some 20), none, .v (.load (.t 19) none)⟩, false),
   (4, ⟨(some 21), none, .v (.mov (.t 1))⟩, false),
   (5, ⟨(some 22), none, .v (.mov (.t 5))⟩, false),
   (6, ⟨(some 23), none, .v (.ixa (.t 21) (.t 22) 1)⟩, false),
   (7, ⟨(some 24), none, .v (.load (.t 23) none)⟩, false)]
   none
   [⟨(some 25), none, .v (.bin .neq (.t 20) (.t 24))⟩])
  (.cond (.t 25)
   (.seq (.reg [⟨(some 4), none, .v (.mov (.c (.lit (.bool false))))⟩])
   .ret)
   .skip)))
  (.reg [⟨(some 15), none, .v (.mov (.t 5))⟩,
   ⟨(some 16), none, .v (.bin .add (.t 15) (.c (.int .i64 (1))))⟩,
   ⟨(some 5), none, .v (.mov (.t 16))⟩]))))))
 (.seq (.reg [⟨(some 4), none, .v (.mov (.c (.lit (.bool true))))⟩])
 .ret))))
def r29 : List RV := [.t 4]
theorem k29 : (Try.f29.body.bind (cC Try.prog), cR Try.prog Try.f29.results.toList, Try.f29.ntmps) = (some s29, some r29, 26) := by kernel_rfl
theorem q29 : Known Try.prog 29 := ⟨_, Try.func29, by decide, by simp [Try.f29]⟩
def s6 : SC :=
 (.seq (.reg [⟨(some 4), none, .v (.mov (.c (.lit (.bool false))))⟩])
 (.seq (.reg [⟨(some 12), none, .v (.mov (.t 0))⟩,
  ⟨(some 13), none, .v (.mov (.t 1))⟩,
  ⟨(some 14), none, .call (.c (.fn 30 [])) [(.t 12), (.t 13)]⟩,
  ⟨(some 11), none, .v (.mov (.t 14))⟩,
  ⟨(some 15), none, .v (.ext (.t 11) 0)⟩,
  ⟨(some 16), none, .v (.ext (.t 11) 1)⟩,
  ⟨(some 17), none, .v (.ext (.t 11) 2)⟩,
  ⟨(some 5), none, .v (.mov (.t 15))⟩,
  ⟨(some 6), none, .v (.mov (.t 16))⟩,
  ⟨(some 7), none, .v (.mov (.t 17))⟩])
 (.seq (.reg [⟨(some 19), none, .v (.mov (.t 0))⟩,
  ⟨(some 20), none, .v (.mov (.t 1))⟩,
  ⟨(some 21), none, .call (.c (.fn 31 [])) [(.t 19), (.t 20)]⟩,
  ⟨(some 18), none, .v (.mov (.t 21))⟩,
  ⟨(some 22), none, .v (.ext (.t 18) 0)⟩,
  ⟨(some 23), none, .v (.ext (.t 18) 1)⟩,
  ⟨(some 24), none, .v (.ext (.t 18) 2)⟩,
  ⟨(some 8), none, .v (.mov (.t 22))⟩,
  ⟨(some 9), none, .v (.mov (.t 23))⟩,
  ⟨(some 10), none, .v (.mov (.t 24))⟩])
 (.seq (.reg [⟨(some 25), none, .v (.mov (.t 5))⟩,
  ⟨(some 26), none, .v (.mov (.t 8))⟩,
  ⟨(some 27), none, .call (.c (.fn 29 [])) [(.t 25), (.t 26)]⟩,
  ⟨(some 28), none, .v (.mov (.t 27))⟩,
  ⟨(some 29), (some (28, true)), .v (.mov (.t 6))⟩,
  ⟨(some 30), (some (28, true)), .v (.mov (.t 9))⟩,
  ⟨(some 31), (some (28, true)), .v (.bin .eql (.t 29) (.t 30))⟩,
  ⟨(some 32), none, .v (.pick (.t 28) (.t 31) (.c (.lit (.bool false))))⟩,
  ⟨(some 33), none, .v (.mov (.t 32))⟩,
  ⟨(some 34), (some (33, true)), .v (.mov (.t 7))⟩,
  ⟨(some 35), (some (33, true)), .v (.mov (.t 10))⟩,
  ⟨(some 36), (some (33, true)), .v (.bin .eql (.t 34) (.t 35))⟩,
  ⟨(some 37), none, .v (.pick (.t 33) (.t 36) (.c (.lit (.bool false))))⟩,
  ⟨(some 38), none, .v (.mov (.t 37))⟩,
  ⟨(some 39), (some (38, true)), .call (.c (.fn 21 [])) []⟩,
  ⟨(some 40), none, .v (.pick (.t 38) (.t 39) (.c (.lit (.bool false))))⟩,
  ⟨(some 4), none, .v (.mov (.t 40))⟩])
 .ret))))
def r6 : List RV := [.t 4]
theorem k6 : (Try.f6.body.bind (cC Try.prog), cR Try.prog Try.f6.results.toList, Try.f6.ntmps) = (some s6, some r6, 41) := by kernel_rfl
def C29 : PC := fun args K => ∃ L : List Int, args = [.ints .i64 L, .ints .i64 L] ∧ L.length ≤ 1000 ∧ K (.bool true)
theorem p29 : PureOk Try.prog 29 C29 := by
 refine pure_of (T := []) trivial Try.func29 k29 ?_
 rintro args K ⟨L, rfl, hl, hK⟩
 have e0 : ((L.length : Int) = (L.length : Int)) = True := eq_self _
 simp only [condK_bf, decide_true, e_skip, e_reg, e_seq, e_cond, e_block, e_loop, o_nil, o_cons, gd_none, putK_e, runK_e, vK_e, evh_v, seqK_n, evp, bin, gt, st, putf, X.get, mkfr, rep, lens, undef, Bool.not_true, Nat.reduceSub, true_and, s29, r29]
 refine loop_at2 (G := Nat) (fun i => [(5, .int .i64 i)]) (fun _ => []) (fun i => i ≤ L.length) (fun i => L.length - i) 0 (Nat.zero_le _) ?_
 (intro fr1 hf1; simp only [forget, dstC, dstO, dstD, dst1, st] at hf1; subst hf1)
 refine ⟨?_, ?_⟩
 ·refine Lw_re 0 [] (Nat.zero_le _) (by simp [ln]) (by simp [ln]) rfl ?_ ?_
  ·simp only [reL, reX, inb, ln, sts, st, and_self, Int.natCast_zero]
  ·simp only [reH, reN]
 ·intro i hi1
  by_cases hi2 : i < L.length
  ·have n0 : ((i : Int) < (L.length : Int)) = True := by simp; omega
   have e1 : ∀ x : Int, (x = x) = True := fun x => eq_self x
   simp only [condK_bt, condK_bf, decide_true, inr64, e_skip, e_reg, e_drw, e_seq, e_cond, e_block, o_nil, o_cons, gd_none, putK_e, runK_e, vK_e, evh_v, dX_e, dG_t, d_nil, d_cons, tlK_n, loopK_n, seqK_n, blockK_n, evp, bin, gt, gq, st, putf, X.get, ld, lda, lens, ixs, evq, gdl, Bool.not_true, true_and, and_true, sts, n0, Int.toNat_natCast]
   repeat' (first | omega | refine And.intro ?_ ?_)
   refine Nx.mk (i + 1) (by show i + 1 ≤ L.length; omega) (by show L.length - (i + 1) < L.length - i; omega) (Lw_re 0 [] (Nat.zero_le _) (by simp [ln]) (by simp [ln]) rfl ?_ ?_)
   ·simp only [reL, reX, inb, and_self, Int.natCast_add, Int.natCast_one]
   ·simp only [reH, reN]
  ·have n0 : ((i : Int) < (L.length : Int)) = False := by simp; omega
   simp only [condK_bf, decide_false, e_reg, e_seq, e_cond, e_exit, e_ret, o_nil, o_cons, gd_none, putK_e, runK_e, vK_e, evh_v, loopK_x, seqK_n, seqK_x, exitK_t, blockK_x, ends_r, endK1_e, endK2_e, evp, bin, gt, st, putf, X.get, rdR, tupled, clV, clS, clo, lens, beq_self_eq_true, true_and, sts, n0]
   exact res hK (by simp [leR])
def C29n : PC := fun args K => ∃ x : SV, (x = nilS ∨ ∃ L : List Int, x = .ints .i64 L ∧ L.length ≤ 1000) ∧ args = [x, x] ∧ K (.bool true)
theorem p29n : PureOk Try.prog 29 C29n := by
 rintro w im args vs K him ha ⟨x, hx, rfl, hK⟩
 rcases hx with rfl | ⟨L, rfl, hl⟩
 ·cases ha with
  | cons _ v0 _ vs0 h0 hs =>
   cases hs with
   | cons _ v1 _ vs1 h1 hs1 =>
    cases hs1
    cases h0
    cases h1
    exact p29 w im _ _ K him (.cons _ _ _ _ (.intsNil .i64) (.cons _ _ _ _ (.intsNil .i64) .nil)) ⟨[], rfl, by simp, hK⟩
 ·exact p29 w im _ _ K him ha ⟨L, rfl, hl, hK⟩
def C6 : PC := fun args K => ∃ (L : List Pt) (bd : Int), args = [.rd 3 L.length (ptR L), .int .i64 bd] ∧ K (.lit (.bool true))
theorem asm_form (L : List Pt) (bd : Int) : ∃ (x : SV) (p e : Int), (x = nilS ∨ ∃ L : List Int, x = .ints .i64 L ∧ L.length ≤ 1000) ∧ asm L bd = .tup [x, .int .i64 p, .int .i64 e] := by
 unfold asm
 split
 ·cases fitL L bd with
  | nil => exact ⟨_, _, _, .inl rfl, rfl⟩
  | cons x t => exact ⟨_, _, _, .inr ⟨_, rfl, by simp⟩, rfl⟩
 ·exact ⟨_, _, _, .inl rfl, rfl⟩
theorem p6 (p21 : PureOk Try.prog 21 (fcC F21)) (q21 : Known Try.prog 21) : PureOk Try.prog 6 C6 := by
 refine pure_of (T := [(30, .pc C30), (31, .pc C31), (29, .pc C29n), (21, .fc F21)]) ⟨⟨p30, q30⟩, ⟨p31, q31⟩, ⟨p29n, q29⟩, ⟨p21, q21⟩, trivial⟩ Try.func6 k6 ?_
 rintro args K ⟨L, bd, rfl, hK⟩
 obtain ⟨x, p, e, hx, ea⟩ := asm_form L bd
 have e1 : ∀ x : Int, (x = x) = True := fun x => eq_self x
 rcases hx with rfl | ⟨M, rfl, hl⟩
 ·simp only [e_reg, e_seq, o_nil, o_cons, gd_none, putK_e, runK_e, vK_e, conK_e, callK_e, evh_v, evh_call, seqK_n, gam_e, gamK_p, pc_e, pcK_e, evp, gt, st, putf, X.get, gets, ap, mkfr, rep, clV, clL, clS, clo, lk, undef, Nat.reduceSub, beq_self_eq_true, true_and, s6, r6]
  refine ⟨L, bd, rfl, ?_⟩
  rw [ea]
  simp only [e_reg, e_seq, o_nil, o_cons, gd_none, putK_e, runK_e, vK_e, conK_e, callK_e, evh_v, evh_call, seqK_n, gam_e, gamK_p, pc_e, pcK_e, evp, gt, gq, st, putf, X.get, gets, ap, clV, clL, clS, clo, lk, Nat.reduceBEq, beq_self_eq_true, true_and, nilS]
  refine ⟨L, bd, rfl, ?_⟩
  rw [ea]
  simp only [e_reg, e_seq, o_nil, o_cons, gd_none, gd_some, putK_e, runK_e, vK_e, conK_e, callK_e, evh_v, evh_call, seqK_n, gam_e, gamK_p, pc_e, pcK_e, evp, gt, gq, st, putf, X.get, gets, ap, clV, clL, clS, clo, lk, Nat.reduceBEq, beq_self_eq_true, true_and, nilS]
  refine ⟨nilS, .inl rfl, rfl, ?_⟩
  simp only [gdK_btt, decide_true, e_ret, o_nil, o_cons, gd_none, gd_some, gdK_tt, putK_e, runK_e, vK_e, conK_e, callK_e, evh_v, evh_call, seqK_n, ends_r, endK1_e, endK2_e, gam_e, gamK_f, pc_e, pcK_e, fcC_e, fcK_e, evp, bin, gt, st, putf, X.get, gets, ap, rdR, tupled, clV, clL, clS, clo, gb, lk, Nat.reduceBEq, beq_self_eq_true, true_and, F21]
  exact res hK (by simp [leR])
 ·simp only [e_reg, e_seq, o_nil, o_cons, gd_none, putK_e, runK_e, vK_e, conK_e, callK_e, evh_v, evh_call, seqK_n, gam_e, gamK_p, pc_e, pcK_e, evp, gt, st, putf, X.get, gets, ap, mkfr, rep, clV, clL, clS, clo, lk, undef, Nat.reduceSub, beq_self_eq_true, true_and, s6, r6]
  refine ⟨L, bd, rfl, ?_⟩
  rw [ea]
  simp only [e_reg, e_seq, o_nil, o_cons, gd_none, putK_e, runK_e, vK_e, conK_e, callK_e, evh_v, evh_call, seqK_n, gam_e, gamK_p, pc_e, pcK_e, evp, gt, gq, st, putf, X.get, gets, ap, clV, clL, clS, clo, lk, Nat.reduceBEq, beq_self_eq_true, true_and]
  refine ⟨L, bd, rfl, ?_⟩
  rw [ea]
  simp only [e_reg, e_seq, o_nil, o_cons, gd_none, gd_some, putK_e, runK_e, vK_e, conK_e, callK_e, evh_v, evh_call, seqK_n, gam_e, gamK_p, pc_e, pcK_e, evp, gt, gq, st, putf, X.get, gets, ap, clV, clL, clS, clo, lk, Nat.reduceBEq, beq_self_eq_true, true_and]
  refine ⟨_, .inr ⟨M, rfl, hl⟩, rfl, ?_⟩
  simp only [gdK_btt, decide_true, e_ret, o_nil, o_cons, gd_none, gd_some, gdK_tt, putK_e, runK_e, vK_e, conK_e, callK_e, evh_v, evh_call, seqK_n, ends_r, endK1_e, endK2_e, gam_e, gamK_f, pc_e, pcK_e, fcC_e, fcK_e, evp, bin, gt, st, putf, X.get, gets, ap, rdR, tupled, clV, clL, clS, clo, gb, lk, Nat.reduceBEq, beq_self_eq_true, true_and, F21]
  exact res hK (by simp [leR])
end Go.Proofs.Ytjagiieconpgbaa
end
section
namespace Go.Vg
open Go Go.RowKit Go.ChangeShapes Go.WideShapes
set_option linter.unusedVariables false
set_option linter.unusedSimpArgs false
section
variable {H : Type} {enc : TypeId × Value → H} {P : Program} {w : World}
theorem cell_lt {a : Addr} {v : Value} (h : w.cell? a = some v) : a.block < w.heap.size := by
 rcases Nat.lt_or_ge a.block w.heap.size with h1 | h1
 ·exact h1
 ·unfold World.cell? at h
  rw [Array.getElem?_eq_none h1] at h; cases h
theorem pairs0 {t e : TypeId} {f0 f1 : Field} (ht : P.underlying t = some (.slice e)) (he : P.underlying e = some (.struct #[f0, f1])) (hc : P.cellsOf e = 2)
  (t0 : P.underlying f0.type = some (.int .i64)) (t1 : P.underlying f1.type = some (.int .i64)) (c0 : P.cellsOf f0.type = 1) (c1 : P.cellsOf f1.type = 1) (o0 : f0.offset = 0) (o1 : f1.offset = 1)
  {fuel : Nat} {cs : List Value} {x : DataW H × List MemPlace} (h : DataW.trod enc P w 0 (fun _ => true) true fuel t cs = some x) :
  ∃ (v : Value) (L : List (Int × Int)), cs = [v] ∧ Cv w (fun b => b < w.heap.size) (.rd 2 L.length (fun i => [.int .i64 (L.getD i (0, 0)).1, .int .i64 (L.getD i (0, 0)).2])) v := by
 rcases Deep.open_slice ht h with ⟨rfl, _⟩ | ⟨a', len, cap, m, n, D, Pl, rfl, _, hl, _, hmm, _, hel⟩
 ·exact ⟨_, [], rfl, .rdNil 2 _⟩
 ·simp only [if_true] at hmm
  by_cases h0 : len = 0
  ·subst h0
   exact ⟨_, [], rfl, .rdE 2 _ a' cap⟩
  ·obtain ⟨cs0, h1, _⟩ := hel 0 (by omega)
   obtain ⟨_, h2, h3⟩ := World.cells?_some h1
   have g0 := h3 0 (by omega)
   have hz : ∀ a : Addr, a.add 0 = a := fun a => by simp [Addr.add]
   rw [Nat.zero_mul, hz, hz] at g0
   match cs0, (by rw [h2, hc] : cs0.length = 2) with
   | [y0, y1], _ =>
    have hsp := World.cell?_spot g0
    have hb := cell_lt g0
    obtain ⟨b, off, spot⟩ := a'
    simp only at hsp hb
    subst hsp
    have key : ∀ i, i < m → ∃ x : Int × Int, w.cell? ⟨b, off + (i * 2 + 0), none⟩ = some (.int .i64 x.1) ∧ w.cell? ⟨b, off + (i * 2 + 1), none⟩ = some (.int .i64 x.2) := by
     intro i hi
     obtain ⟨cs', h1, h2⟩ := hel i hi
     obtain ⟨y0, y1, n', _, hlen, h3, h4⟩ := trod_struct2 he h2
     obtain ⟨z0, e0, _, _⟩ := DataW.trod_int t0 h3
     obtain ⟨z1, e1, _, _⟩ := DataW.trod_int t1 h4
     rw [hc] at hlen h1
     rw [o0, c0] at e0
     rw [o1, c1] at e1
     match cs', hlen with
     | [u0, u1], _ =>
      simp at e0 e1
      subst e0
      subst e1
      obtain ⟨_, _, h5⟩ := World.cells?_some h1
      have g0 := h5 0 (by omega)
      have g1 := h5 1 (by omega)
      rw [add_plain, add_plain] at g0 g1
      exact ⟨(z0, z1), by simpa [Nat.add_assoc] using g0, by simpa [Nat.add_assoc] using g1⟩
    obtain ⟨F, hF⟩ := Deep.choose_lt (α := Int × Int) key
    have hL : ((List.range len).map F).length = len := by simp
    have hg : ∀ i, i < len → ((List.range len).map F).getD i (0, 0) = F i := fun i hi => by simp [List.getD, hi]
    refine ⟨_, (List.range len).map F, rfl, ?_⟩
    have hcv : Cv w (fun b => b < w.heap.size) (.rd 2 ((List.range len).map F).length (fun i => [.int .i64 (((List.range len).map F).getD i (0, 0)).1, .int .i64 (((List.range len).map F).getD i (0, 0)).2])) (.slice (some ⟨b, off, none⟩) ((List.range len).map F).length cap) := by
     refine .rd 2 _ _ b off cap (fun i => [.int .i64 (F i).1, .int .i64 (F i).2]) hb (fun i hi => ?_) (fun i hi => rfl) (fun i j v hi hj => ?_) (by omega)
     ·rw [hL] at hi
      rw [hg i hi]
      exact .cons _ _ _ _ (.int _ _) (.cons _ _ _ _ (.int _ _) .nil)
     ·rw [hL] at hi
      obtain ⟨k0, k1⟩ := hF i (by omega)
      match j, hj with
      | 0, hj => simp at hj; subst hj; exact k0
      | 1, hj => simp at hj; subst hj; exact k1
    rw [hL] at hcv
    rw [hL]
    exact hcv
theorem trip_cv {t e e2 : TypeId} {f0 f1 f2 g0 g1 : Field} {base : Nat} (ht : P.underlying t = some (.slice e)) (he : P.underlying e = some (.struct #[f0, f1, f2])) (hc : P.cellsOf e = 3)
  (t0 : P.underlying f0.type = some (.int .i64)) (t1 : P.underlying f1.type = some (.int .i64)) (t2 : P.underlying f2.type = some (.slice e2)) (c0 : P.cellsOf f0.type = 1) (c1 : P.cellsOf f1.type = 1) (c2 : P.cellsOf f2.type = 1) (o0 : f0.offset = 0) (o1 : f1.offset = 1) (o2 : f2.offset = 2)
  (he2 : P.underlying e2 = some (.struct #[g0, g1])) (hc2 : P.cellsOf e2 = 2) (k0 : P.underlying g0.type = some (.int .i64)) (k1 : P.underlying g1.type = some (.int .i64)) (d0 : P.cellsOf g0.type = 1) (d1 : P.cellsOf g1.type = 1) (q0 : g0.offset = 0) (q1 : g1.offset = 1)
  {v : Value} (hval : Value.okWide P w .any base t v) {d : DataW H} {ps : List MemPlace} (h : DataW.Trod enc P w 0 (fun _ => true) true t v d ps) :
  ∃ L : List (Int × Int × List (Int × Int)), Cv w (fun b => b < w.heap.size) (.rd 3 L.length (fun i => [.int .i64 (L.getD i (0, 0, [])).1, .int .i64 (L.getD i (0, 0, [])).2.1, .rd 2 (L.getD i (0, 0, [])).2.2.length (fun j => [.int .i64 ((L.getD i (0, 0, [])).2.2.getD j (0, 0)).1, .int .i64 ((L.getD i (0, 0, [])).2.2.getD j (0, 0)).2])])) v := by
 obtain ⟨fuel, hf⟩ := h
 obtain ⟨a, len, cap, rfl⟩ := okWide_slice ht hval
 have hcs : (Value.slice a len cap).cells.toList = [.slice a len cap] := rfl
 rw [hcs] at hf
 rcases Deep.open_slice ht hf with ⟨h0, _⟩ | ⟨a', len', cap', m, n, D, Pl, h0, _, hl, _, hmm, _, hel⟩
 ·cases h0; exact ⟨[], .rdNil 3 _⟩
 ·cases h0
  simp only [Value.okWide, ht, Cell.okWide, Cell.ok, World.has] at hval
  obtain ⟨_, _, _, hspot, row, cells, hsh, _⟩ := hval
  obtain ⟨b, off, spot⟩ := a'
  simp only at hspot hsh
  subst hspot
  simp only [if_true] at hmm
  have hb : b < w.heap.size := by
   rcases Nat.lt_or_ge b w.heap.size with h1 | h1
   ·exact h1
   ·rw [World.shape?, Array.getElem?_eq_none h1] at hsh; cases hsh
  have key : ∀ i, i < m → ∃ x : (Int × Int × List (Int × Int)) × Value, w.cell? ⟨b, off + (i * 3 + 0), none⟩ = some (.int .i64 x.1.1) ∧ w.cell? ⟨b, off + (i * 3 + 1), none⟩ = some (.int .i64 x.1.2.1) ∧ w.cell? ⟨b, off + (i * 3 + 2), none⟩ = some x.2 ∧
    Cv w (fun b => b < w.heap.size) (.rd 2 x.1.2.2.length (fun j => [.int .i64 (x.1.2.2.getD j (0, 0)).1, .int .i64 (x.1.2.2.getD j (0, 0)).2])) x.2 := by
   intro i hi
   obtain ⟨cs', h1, h2⟩ := hel i hi
   obtain ⟨y0, y1, y2, n', _, hlen, h3, h4, h5⟩ := Deep.trod_struct3 he h2
   obtain ⟨z0, e0, _, _⟩ := DataW.trod_int t0 h3
   obtain ⟨z1, e1, _, _⟩ := DataW.trod_int t1 h4
   obtain ⟨z2, L2, e2', hcv⟩ := pairs0 t2 he2 hc2 k0 k1 d0 d1 q0 q1 h5
   rw [hc] at hlen h1
   rw [o0, c0] at e0
   rw [o1, c1] at e1
   rw [o2, c2] at e2'
   match cs', hlen with
   | [u0, u1, u2], _ =>
    simp at e0 e1 e2'
    subst e0
    subst e1
    subst e2'
    obtain ⟨_, _, h6⟩ := World.cells?_some h1
    have g0 := h6 0 (by omega)
    have g1 := h6 1 (by omega)
    have g2 := h6 2 (by omega)
    rw [add_plain, add_plain] at g0 g1 g2
    exact ⟨((z0, z1, L2), _), by simpa [Nat.add_assoc] using g0, by simpa [Nat.add_assoc] using g1, by simpa [Nat.add_assoc] using g2, hcv⟩
  obtain ⟨F, hF⟩ := Deep.choose_lt (α := (Int × Int × List (Int × Int)) × Value) key
  have hL : ((List.range len).map fun i => (F i).1).length = len := by simp
  have hg : ∀ i, i < len → ((List.range len).map fun i => (F i).1).getD i (0, 0, []) = (F i).1 := fun i hi => by simp [List.getD, hi]
  refine ⟨(List.range len).map fun i => (F i).1, ?_⟩
  generalize hLL : ((List.range len).map fun i => (F i).1) = LL at *
  have hcv := Cv.rd (w := w) (im := fun b => b < w.heap.size) 3 LL.length (fun i => [.int .i64 (LL.getD i (0, 0, [])).1, .int .i64 (LL.getD i (0, 0, [])).2.1, .rd 2 (LL.getD i (0, 0, [])).2.2.length (fun j => [.int .i64 ((LL.getD i (0, 0, [])).2.2.getD j (0, 0)).1, .int .i64 ((LL.getD i (0, 0, [])).2.2.getD j (0, 0)).2])]) b off cap (fun i => [.int .i64 (F i).1.1, .int .i64 (F i).1.2.1, (F i).2]) hb (fun i hi => by
    rw [hL] at hi
    simp only [hg i hi]
    exact .cons _ _ _ _ (.int _ _) (.cons _ _ _ _ (.int _ _) (.cons _ _ _ _ (hF i (by omega)).2.2.2 .nil))) (fun i hi => rfl) (fun i j v hi hj => by
    rw [hL] at hi
    obtain ⟨k0, k1, k2, _⟩ := hF i (by omega)
    match j, hj with
    | 0, hj => simp at hj; subst hj; exact k0
    | 1, hj => simp at hj; subst hj; exact k1
    | 2, hj => simp at hj; subst hj; exact k2) (by omega)
  rw [hL] at hcv
  rw [hL]
  exact hcv
end
end Go.Vg
end
section
namespace Go.Vg
open Go Go.RowKit Go.ChangeShapes Go.WideShapes
set_option linter.unusedVariables false
set_option linter.unusedSimpArgs false
section
variable {H : Type} {enc : TypeId × Value → H} {P : Program} {w : World}
theorem ints_cv {t e : TypeId} {k : IntKind} {base : Nat} (ht : P.underlying t = some (.slice e)) (he : P.underlying e = some (.int k)) (hc : P.cellsOf e = 1) {v : Value} (hval : Value.okWide P w .any base t v)
  {d : DataW H} {ps : List MemPlace} (h : DataW.Trod enc P w 0 (fun _ => true) true t v d ps) : ∃ l : List Int, Cv w (fun b => b < w.heap.size) (.ints k l) v := by
 obtain ⟨fuel, hf⟩ := h
 obtain ⟨a, len, cap, rfl⟩ := okWide_slice ht hval
 have hcs : (Value.slice a len cap).cells.toList = [.slice a len cap] := rfl
 rw [hcs] at hf
 rcases open_ints ht he hc hf with ⟨h0, _⟩ | ⟨a', len', cap', zs, h0, _, hl, _, hz, _, hcell, _⟩
 ·cases h0; exact ⟨[], .intsNil k⟩
 ·cases h0
  simp only [Value.okWide, ht, Cell.okWide, Cell.ok, World.has] at hval
  obtain ⟨_, _, _, hspot, row, cells, hsh, _⟩ := hval
  obtain ⟨b, off, spot⟩ := a'
  simp only at hspot hsh
  subst hspot
  simp only [if_true] at hz
  have hb : b < w.heap.size := by
   rcases Nat.lt_or_ge b w.heap.size with h1 | h1
   ·exact h1
   ·rw [World.shape?, Array.getElem?_eq_none h1] at hsh; cases hsh
  have hlen : (zs.take len).length = len := by rw [List.length_take]; omega
  refine ⟨zs.take len, ?_⟩
  have hcv : Cv w (fun b => b < w.heap.size) (.ints k (zs.take len)) (.slice (some ⟨b, off, none⟩) (zs.take len).length cap) := by
   refine .ints k _ b off cap hb (fun j x hx => ?_) (by omega)
   have hj : j < (zs.take len).length := (List.getElem?_eq_some_iff.1 hx).1
   have hj2 : j < zs.length := by rw [hlen] at hj; omega
   have := hcell j hj2
   rw [add_plain] at this
   rw [this]
   rw [List.getElem?_take_of_lt (by omega)] at hx
   simp [List.getD, hx]
  rw [hlen] at hcv
  exact hcv
end
theorem ints_len {P : Program} {w : World} {im : Nat → Prop} {t e : TypeId} {k : IntKind} {base : Nat} (ht : P.underlying t = some (.slice e)) {v : Value} {l : List Int}
  (hval : Value.okWide P w .any base t v) (hc : Cv w im (.ints k l) v) : (l.length : Int) ≤ 9223372036854775807 := by
 cases hc with
 | intsNil => simp
 | intsE => simp
 | ints k xs b off cap hb hcell hcap =>
  simp only [Value.okWide, ht, Cell.okWide, Cell.ok] at hval
  obtain ⟨h1, h2, _⟩ := hval
  have : (IntKind.i64.max : Int) = 9223372036854775807 := rfl
  omega
end Go.Vg
end
