import Derived.Test.YtjagiieconpgbaaVgES
import Derived.Test.YtjagiieconpgbaaVgV13
import Derived.Test.YtjagiieconpgbaaVgV14
section
namespace Go.Proofs.Ytjagiieconpgbaa
open Go Go.Vg
set_option linter.unusedSimpArgs false
set_option linter.unusedVariables false
set_option maxRecDepth 10000
def s77 : SC :=
 (.seq (.reg [⟨(some 2), none, .v (.mov (.c (.lit (.bool false))))⟩])
 (.seq (.seq (.reg [⟨(some 5), none, .v (.mov (.t 0))⟩,
  ⟨(some 6), none, .v (.len (.t 5))⟩,
  ⟨(some 7), none, .call (.c (.fn 78 [])) [(.t 6), (.c (.int .i64 (3))), (.c (.int .i64 (12)))]⟩,
  ⟨(some 8), none, .v (.not (.t 7))⟩,
  ⟨(some 9), none, .v (.mov (.t 8))⟩,
  ⟨(some 10), (some (9, false)), .v (.mov (.t 0))⟩,
  ⟨(some 11), (some (9, false)), .v (.ixa (.t 10) (.c (.int .i64 (0))) 3)⟩,
  ⟨(some 12), (some (9, false)), .v (.off (.t 11) 2)⟩,
  ⟨(some 13), (some (9, false)), .v (.load (.t 12) none)⟩,
  ⟨(some 14), (some (9, false)), .v (.len (.t 13))⟩,
  ⟨(some 15), (some (9, false)), .call (.c (.fn 78 [])) [(.t 14), (.c (.int .i64 (2))), (.c (.int .i64 (12)))]⟩,
  ⟨(some 16), (some (9, false)), .v (.not (.t 15))⟩,
  ⟨(some 17), none, .v (.pick (.t 9) (.c (.lit (.bool true))) (.t 16))⟩])
 (.cond (.t 17)
  (.seq (.reg [⟨(some 2), none, .v (.mov (.c (.lit (.bool false))))⟩])
  .ret)
  .skip))
 (.seq (.seq (.reg [⟨(some 18), none, .v (.mov (.t 0))⟩,
  ⟨(some 19), none, .v (.len (.t 18))⟩,
  ⟨(some 20), none, .v (.mov (.c (.int .i64 (0))))⟩])
 (.block 0 (.loop
  (.seq (.reg [⟨(some 21), none, .v (.bin .lss (.t 20) (.t 19))⟩])
  (.seq (.cond (.t 21)
   .skip
   (.exit 0))
  (.seq (.block 1 (.seq (.reg [⟨(some 22), none, .v (.ixa (.t 18) (.t 20) 3)⟩,
   ⟨(some 23), none, .v (.load (.t 22) (some 3))⟩,
   ⟨(some 4), none, .new 77 [(.int .i64 (0)), (.int .i64 (0)), (.lit (.slice none 0 0))]⟩,
   ⟨none, none, .store 3 (.t 4) (.t 23)⟩])
  (.seq (.seq (.reg [⟨(some 24), none, .v (.off (.t 4) 0)⟩,
   ⟨(some 25), none, .v (.load (.t 24) none)⟩,
   ⟨(some 26), none, .call (.c (.fn 78 [])) [(.t 25), (.c (.int .i64 (0))), (.c (.int .i64 (2)))]⟩,
   ⟨(some 27), none, .v (.not (.t 26))⟩,
   ⟨(some 28), none, .v (.mov (.t 27))⟩,
   ⟨(some 29), (some (28, false)), .v (.off (.t 4) 1)⟩,
   ⟨(some 30), (some (28, false)), .v (.load (.t 29) none)⟩,
   ⟨(some 31), (some (28, false)), .call (.c (.fn 78 [])) [(.t 30), (.c (.int .i64 (0))), (.c (.int .i64 (1000)))]⟩,
   ⟨(some 32), (some (28, false)), .v (.not (.t 31))⟩,
   ⟨(some 33), none, .v (.pick (.t 28) (.c (.lit (.bool true))) (.t 32))⟩])
  (.cond (.t 33)
   (.seq (.reg [⟨(some 2), none, .v (.mov (.c (.lit (.bool false))))⟩])
   .ret)
   .skip))
  (.seq (.drw [(0, ⟨(some 34), none, .v (.off (.t 4) 2)⟩, false),
   (1, ⟨(some 35), none, .v (.load (.t 34) none)⟩, false),
   (2, ⟨(some 36), none, .v (.len (.t 35))⟩, false),
   (3, ⟨(some 37), none, .v (.mov (.t 0))⟩, false),
   (4, ⟨(some 38), none, .v (.ixa (.t 37) (.c (.int .i64 (0))) 3)⟩, false),
   (5, ⟨(some 39), none, .v (.off (.t 38) 2)⟩, false),
   (6, ⟨(some 40), none, .v (.load (.t 39) none)⟩, false),
   (7, ⟨(some 41), none, .v (.len (.t 40))⟩, false)]
   none
   [⟨(some 42), none, .v (.bin .neq (.t 36) (.t 41))⟩,
   ⟨(some 43), none, .v (.mov (.t 42))⟩,
   ⟨(some 44), (some (43, false)), .v (.off (.t 4) 2)⟩,
   ⟨(some 45), (some (43, false)), .v (.load (.t 44) none)⟩,
   ⟨(some 46), (some (43, false)), .call (.c (.fn 94 [])) [(.t 45), (.c (.int .i64 (1000)))]⟩,
   ⟨(some 47), (some (43, false)), .v (.not (.t 46))⟩,
   ⟨(some 48), none, .v (.pick (.t 43) (.c (.lit (.bool true))) (.t 47))⟩])
  (.cond (.t 48)
   (.seq (.reg [⟨(some 2), none, .v (.mov (.c (.lit (.bool false))))⟩])
   .ret)
   .skip)))))
  (.reg [⟨(some 49), none, .v (.bin .add (.t 20) (.c (.int .i64 (1))))⟩,
   ⟨(some 20), none, .v (.mov (.t 49))⟩])))))))
 (.seq (.reg [⟨(some 2), none, .v (.mov (.c (.lit (.bool true))))⟩])
 .ret))))
def r77 : List RV := [.t 2]
theorem k77 : (Try.f77.body.bind (cC Try.prog), cR Try.prog Try.f77.results.toList, Try.f77.ntmps) = (some s77, some r77, 50) := by kernel_rfl
theorem q77 : Known Try.prog 77 := ⟨_, Try.func77, by decide, by simp [Try.f77]⟩
def s112 : SC :=
 (.seq (.reg [⟨(some 1), none, .box 3 (.t 0)⟩,
  ⟨(some 2), none, .new 152 [(.lit .nilFunc)]⟩])
 (.seq (.reg [⟨(some 3), none, .v (.mkfn 117 [(.t 1)])⟩,
  ⟨(some 4), none, .bld [(.lit .nilFunc)] [(0, 1, (.t 3))]⟩,
  ⟨none, none, .store 1 (.t 2) (.t 4)⟩])
 .ret))
def r112 : List RV := [.c 2 (some 1)]
theorem k112 : (Try.f112.body.bind (cC Try.prog), cR Try.prog Try.f112.results.toList, Try.f112.ntmps) = (some s112, some r112, 5) := by kernel_rfl
theorem q112 : Known Try.prog 112 := ⟨_, Try.func112, by decide, by simp [Try.f112]⟩
def s117 : SC :=
 (.seq (.reg [⟨(some 2), none, .box 77 (.t 0)⟩,
  ⟨(some 3), none, .v (.mov (.c (.lit (.bool false))))⟩])
 (.seq (.reg [⟨(some 4), none, .v (.off (.t 2) 0)⟩,
  ⟨(some 5), none, .v (.load (.t 4) none)⟩,
  ⟨(some 6), none, .v (.load (.t 1) none)⟩,
  ⟨(some 7), none, .v (.bin .eql (.t 5) (.t 6))⟩,
  ⟨(some 3), none, .v (.mov (.t 7))⟩])
 .ret))
def r117 : List RV := [.t 3]
theorem k117 : (Try.f117.body.bind (cC Try.prog), cR Try.prog Try.f117.results.toList, Try.f117.ntmps) = (some s117, some r117, 8) := by kernel_rfl
theorem q117 : Known Try.prog 117 := ⟨_, Try.func117, by decide, by simp [Try.f117]⟩
def s113 : SC :=
 (.seq (.reg [⟨(some 2), none, .box 152 (.t 0)⟩,
  ⟨(some 4), none, .v (.mov (.c (.lit (.slice none 0 0))))⟩])
 (.seq (.reg [⟨(some 5), none, .v (.mov (.c (.lit (.slice none 0 0))))⟩])
 (.seq (.seq (.reg [⟨(some 8), none, .v (.mov (.t 1))⟩,
  ⟨(some 9), none, .v (.len (.t 8))⟩,
  ⟨(some 10), none, .v (.mov (.c (.int .i64 (0))))⟩])
 (.block 0 (.loop
  (.seq (.reg [⟨(some 11), none, .v (.bin .lss (.t 10) (.t 9))⟩])
  (.seq (.cond (.t 11)
   .skip
   (.exit 0))
  (.seq (.block 1 (.seq (.reg [⟨(some 12), none, .v (.mov (.t 10))⟩,
   ⟨(some 13), none, .v (.ixa (.t 8) (.t 10) 3)⟩,
   ⟨(some 14), none, .v (.load (.t 13) (some 3))⟩,
   ⟨(some 7), none, .new 77 [(.int .i64 (0)), (.int .i64 (0)), (.lit (.slice none 0 0))]⟩,
   ⟨(some 6), none, .v (.mov (.t 12))⟩,
   ⟨none, none, .store 3 (.t 7) (.t 14)⟩])
  (.seq (.reg [⟨(some 15), none, .v (.off (.t 2) 0)⟩,
   ⟨(some 16), none, .v (.load (.t 15) none)⟩,
   ⟨(some 17), none, .v (.load (.t 7) (some 3))⟩,
   ⟨(some 18), none, .call (.t 16) [(.t 17)]⟩])
  (.cond (.t 18)
   (.reg [⟨(some 19), none, .v (.mov (.t 5))⟩,
    ⟨(some 20), none, .v (.mov (.t 6))⟩,
    ⟨(some 21), none, .bsl 3 1 [(.int .i64 (0))] [(0, 1, (.t 20))]⟩,
    ⟨(some 22), none, .app 3 1 8 (.t 19) (.t 21)⟩,
    ⟨(some 5), none, .v (.mov (.t 22))⟩])
   .skip))))
  (.reg [⟨(some 23), none, .v (.bin .add (.t 10) (.c (.int .i64 (1))))⟩,
   ⟨(some 10), none, .v (.mov (.t 23))⟩])))))))
 (.seq (.reg [⟨(some 24), none, .v (.mov (.t 5))⟩,
  ⟨(some 4), none, .v (.mov (.t 24))⟩])
 .ret))))
def r113 : List RV := [.t 4]
theorem k113 : (Try.f113.body.bind (cC Try.prog), cR Try.prog Try.f113.results.toList, Try.f113.ntmps) = (some s113, some r113, 25) := by kernel_rfl
theorem q113 : Known Try.prog 113 := ⟨_, Try.func113, by decide, by simp [Try.f113]⟩
structure Pt where
 (k p : Int) (E : List (Int × Int))
def Pt.row (x : Pt) : List SV := [.int .i64 x.k, .int .i64 x.p, .rd 2 x.E.length (rowsS x.E)]
def ptG (L : List Pt) (i : Nat) : Pt := L.getD i ⟨0, 0, []⟩
def ptR (L : List Pt) (i : Nat) : List SV := (ptG L i).row
def okB (n : Nat) (x : Pt) : Bool := decide (0 ≤ x.k ∧ x.k ≤ 2) && (decide (0 ≤ x.p ∧ x.p ≤ 1000) && (decide (x.E.length = n) && x.E.all (spE 1000)))
def stk (L : List Pt) : Bool := decide (3 ≤ (L.length : Int) ∧ (L.length : Int) ≤ 12) && (decide (2 ≤ ((ptG L 0).E.length : Int) ∧ ((ptG L 0).E.length : Int) ≤ 12) && L.all (okB (ptG L 0).E.length))
def C77 : PC := fun args K => ∃ L : List Pt, args = [.rd 3 L.length (ptR L)] ∧ K (.bool (stk L))
theorem allP_snoc {q : Pt → Bool} {L : List Pt} {i : Nat} (h : i < L.length) : (L.take (i + 1)).all q = ((L.take i).all q && q (ptG L i)) := by
 rw [List.take_add_one, List.getElem?_eq_getElem h, List.all_append]; simp [ptG, List.getD, h]
theorem allP_get {q : Pt → Bool} {L : List Pt} {i : Nat} (h : i < L.length) (ha : L.all q = true) : q (ptG L i) = true := by
 simp only [List.all_eq_true] at ha
 have : ptG L i = L[i] := by simp [ptG, List.getD, h]
 rw [this]; exact ha _ (List.getElem_mem h)
theorem stk_no {L : List Pt} {i : Nat} (h : i < L.length) (hx : okB (ptG L 0).E.length (ptG L i) = false) : stk L = false := by
 cases hs : stk L with
 | false => rfl
 | true =>
  simp only [stk, Bool.and_eq_true] at hs
  rw [allP_get h hs.2.2] at hx; cases hx
theorem p77 : PureOk Try.prog 77 C77 := by
 refine pure_of (T := [(78, .fc Fin), (94, .pc C94)]) ⟨⟨p78, q78⟩, ⟨p94, q94⟩, trivial⟩ Try.func77 k77 ?_
 rintro args K ⟨L, rfl, hK⟩
 by_cases h1 : 3 ≤ (L.length : Int) ∧ (L.length : Int) ≤ 12
 ·have t1 := eq_true h1
  by_cases h2 : 2 ≤ ((ptG L 0).E.length : Int) ∧ ((ptG L 0).E.length : Int) ≤ 12
  ·have t2 := eq_true h2
   simp only [gdK_bff, condK_bf, decide_true, e_skip, e_reg, e_seq, e_cond, e_block, e_loop, o_nil, o_cons, gd_none, gd_some, gdK_ff, putK_e, runK_e, vK_e, conK_e, callK_e, evh_v, evh_call, seqK_n, gam_e, gamK_f, pc_e, pcK_e, fcC_e, fcK_e, evp, gt, gq, st, putf, X.get, gets, ap, mkfr, rep, clV, clL, clS, clo, ld, lda, lens, ixs, lk, undef, Bool.not_true, Nat.reduceSub, Nat.reduceAdd, beq_self_eq_true, true_and, s77, r77, Fin, t1, ptR, Pt.row, Int.toNat_zero, t2]
   refine ⟨⟨by omega, by omega⟩, ?_⟩
   refine loop_at2 (G := Nat) (fun i => [(20, .int .i64 i)]) (fun _ => []) (fun i => i ≤ L.length ∧ (L.take i).all (okB (ptG L 0).E.length) = true) (fun i => L.length - i) 0 ⟨Nat.zero_le _, rfl⟩ ?_
   (intro fr1 hf1; simp only [forget, dstC, dstO, dstD, dst1, st] at hf1; subst hf1)
   refine ⟨?_, ?_⟩
   ·refine Lw_re 0 [] (Nat.zero_le _) (by simp [ln]) (by simp [ln]) rfl ?_ ?_
    ·simp only [reL, reX, inb, ln, sts, st, and_self, Int.natCast_zero, implies_true]
    ·simp only [reH, reN]
   ·rintro i ⟨hii, hall⟩
    by_cases hlt : i < L.length
    ·have n0 : ((i : Int) < (L.length : Int)) = True := by simp; omega
     have hx := allP_snoc (q := okB (ptG L 0).E.length) hlt
     by_cases g1 : 0 ≤ (ptG L i).k ∧ (ptG L i).k ≤ 2
     ·have u1 := eq_true g1
      by_cases g2 : 0 ≤ (ptG L i).p ∧ (ptG L i).p ≤ 1000
      ·have u2 := eq_true g2
       by_cases g3 : (ptG L i).E.length = (ptG L 0).E.length
       ·have u3 : (((ptG L i).E.length : Int) = ((ptG L 0).E.length : Int)) = True := by simp [g3]
        simp only [gdK_bff, condK_bt, condK_bf, decide_true, e_skip, e_reg, and_self, e_drw, e_seq, e_cond, e_block, o_nil, o_cons, gd_none, gd_some, gdK_ff, putK_e, runK_e, vK_e, storeK3_e, storeK2_e, storeK_e, conK_e, callK_e, evh_v, evh_new, evh_store, evh_call, dX_e, dG_t, d_nil, d_cons, tlK_n, seqK_n, gam_e, gamK_f, gamK_p, pc_e, pcK_e, fcC_e, fcK_e, evp, bin, gt, gq, st, putf, X.get, gets, ap, clV, clL, clS, clo, ld, lda, lens, ixs, tk, dr, sp, sp.spl, ll, cs1, one, allOne, gb, sb, pb, ln, lk, evq, gdl, Bool.and_true, Bool.not_true, Nat.reduceAdd, Nat.reduceBEq, beq_self_eq_true, true_and, and_true, sts, n0, Fin, ptR, Pt.row, Int.toNat_natCast, Int.toNat_zero, u1, u2, u3]
        refine ⟨by omega, by omega, (ptG L i).E, 1000, rfl, ⟨by omega, by omega, by omega⟩, ?_⟩
        cases g4 : (ptG L i).E.all (spE 1000) with
        | true =>
         have hk : okB (ptG L 0).E.length (ptG L i) = true := by simp [okB, g1, g2, g3, g4]
         have hall1 : (L.take (i + 1)).all (okB (ptG L 0).E.length) = true := by rw [hx, hall, hk]; rfl
         simp only [condK_bf, inr64, e_skip, e_reg, e_cond, o_nil, o_cons, gd_none, putK_e, runK_e, vK_e, evh_v, loopK_n, seqK_n, blockK_n, evp, bin, gt, st, putf, X.get, Bool.not_true, true_and]
         repeat' (first | omega | refine And.intro ?_ ?_)
         refine Nx.mk (i + 1) ⟨by omega, hall1⟩ (by omega) (Lw_re 0 [] (Nat.zero_le _) (by simp [ln]) (by simp [ln]) rfl ?_ ?_)
         ·simp only [reL, reX, inb, and_self, Int.natCast_add, Int.natCast_one, implies_true]
         ·simp only [reH, reN]
        | false =>
         have hk : okB (ptG L 0).E.length (ptG L i) = false := by simp [okB, g4]
         rw [stk_no hlt hk] at hK
         simp only [condK_bt, e_reg, e_seq, e_cond, e_ret, o_nil, o_cons, gd_none, putK_e, runK_e, vK_e, evh_v, loopK_r, seqK_n, seqK_r, blockK_r, ends_r, endK1_e, endK2_e, evp, gt, st, putf, X.get, rdR, tupled, clV, clS, clo, Bool.not_false, true_and]
         exact res hK (by simp [leR])
       ·have u3 : (((ptG L i).E.length : Int) = ((ptG L 0).E.length : Int)) = False := by simp; omega
        have hk : okB (ptG L 0).E.length (ptG L i) = false := by simp [okB, g3]
        rw [stk_no hlt hk] at hK
        simp only [gdK_bft, gdK_bff, condK_bt, condK_bf, decide_true, decide_false, e_skip, e_reg, and_self, e_drw, e_seq, e_cond, e_block, e_ret, o_nil, o_cons, gd_none, gd_some, gdK_tf, gdK_ff, putK_e, runK_e, skipK_e, vK_e, storeK3_e, storeK2_e, storeK_e, conK_e, callK_e, evh_v, evh_new, evh_store, evh_call, dX_e, dG_t, d_nil, d_cons, tlK_n, loopK_r, seqK_n, seqK_r, condK_t, blockK_r, ends_r, endK1_e, endK2_e, gam_e, gamK_f, pc_e, pcK_e, fcC_e, fcK_e, evp, bin, gt, gq, st, putf, X.get, gets, ap, rdR, tupled, clV, clL, clS, clo, ld, lda, lens, ixs, tk, dr, sp, sp.spl, ll, cs1, one, allOne, gb, sb, pb, ln, lk, evq, gdl, undef, Bool.and_true, Bool.not_true, Bool.not_false, Nat.reduceAdd, beq_self_eq_true, true_and, and_true, sts, n0, Fin, ptR, Pt.row, Int.toNat_natCast, Int.toNat_zero, u1, u2, u3]
        exact ⟨by omega, by omega, res hK (by simp [leR])⟩
      ·have u2 := eq_false g2
       have hk : okB (ptG L 0).E.length (ptG L i) = false := by simp [okB, g2]
       rw [stk_no hlt hk] at hK
       simp only [gdK_bff, condK_bt, decide_true, decide_false, e_skip, e_reg, and_self, e_seq, e_cond, e_block, e_ret, o_nil, o_cons, gd_none, gd_some, gdK_ff, putK_e, runK_e, vK_e, storeK3_e, storeK2_e, storeK_e, conK_e, callK_e, evh_v, evh_new, evh_store, evh_call, loopK_r, seqK_n, seqK_r, blockK_r, ends_r, endK1_e, endK2_e, gam_e, gamK_f, pc_e, pcK_e, fcC_e, fcK_e, evp, bin, gt, gq, st, putf, X.get, gets, ap, rdR, tupled, clV, clL, clS, clo, ld, lda, ixs, tk, dr, sp, sp.spl, ll, cs1, one, allOne, gb, sb, pb, ln, lk, Bool.and_true, Bool.not_true, Bool.not_false, Nat.reduceAdd, beq_self_eq_true, true_and, and_true, sts, n0, Fin, ptR, Pt.row, Int.toNat_natCast, u1, u2]
       exact ⟨by omega, res hK (by simp [leR])⟩
     ·have u1 := eq_false g1
      have hk : okB (ptG L 0).E.length (ptG L i) = false := by simp [okB, g1]
      rw [stk_no hlt hk] at hK
      simp only [gdK_bft, condK_bt, decide_true, decide_false, e_skip, e_reg, and_self, e_seq, e_cond, e_block, e_ret, o_nil, o_cons, gd_none, gd_some, gdK_tf, putK_e, runK_e, skipK_e, vK_e, storeK3_e, storeK2_e, storeK_e, conK_e, callK_e, evh_v, evh_new, evh_store, evh_call, loopK_r, seqK_n, seqK_r, condK_t, blockK_r, ends_r, endK1_e, endK2_e, gam_e, gamK_f, pc_e, pcK_e, fcC_e, fcK_e, evp, bin, gt, gq, st, putf, X.get, gets, ap, rdR, tupled, clV, clL, clS, clo, ld, lda, ixs, tk, dr, sp, sp.spl, ll, cs1, one, allOne, gb, sb, pb, ln, lk, undef, Bool.and_true, Bool.not_false, Nat.reduceAdd, beq_self_eq_true, true_and, and_true, sts, n0, Fin, ptR, Pt.row, Int.toNat_natCast, u1]
      exact ⟨by omega, res hK (by simp [leR])⟩
    ·have n0 : ((i : Int) < (L.length : Int)) = False := by simp; omega
     have ei : i = L.length := by omega
     subst ei
     rw [List.take_length] at hall
     have e : stk L = true := by simp [stk, h1, h2, hall]
     rw [e] at hK
     simp only [condK_bf, decide_false, e_reg, e_seq, e_cond, e_exit, e_ret, o_nil, o_cons, gd_none, putK_e, runK_e, vK_e, evh_v, loopK_x, seqK_n, seqK_x, exitK_t, blockK_x, ends_r, endK1_e, endK2_e, evp, bin, gt, st, putf, X.get, rdR, tupled, clV, clS, clo, beq_self_eq_true, true_and, sts, n0]
     exact res hK (by simp [leR])
  ·have t2 := eq_false h2
   have e : stk L = false := by simp [stk, h2]
   rw [e] at hK
   simp only [gdK_bff, condK_bt, decide_true, decide_false, e_reg, e_seq, e_cond, e_ret, o_nil, o_cons, gd_none, gd_some, gdK_ff, putK_e, runK_e, vK_e, conK_e, callK_e, evh_v, evh_call, seqK_n, seqK_r, ends_r, endK1_e, endK2_e, gam_e, gamK_f, pc_e, pcK_e, fcC_e, fcK_e, evp, gt, gq, st, putf, X.get, gets, ap, mkfr, rep, rdR, tupled, clV, clL, clS, clo, ld, lda, lens, ixs, lk, undef, Bool.not_true, Bool.not_false, Nat.reduceSub, Nat.reduceAdd, beq_self_eq_true, true_and, s77, r77, Fin, t1, ptR, Pt.row, Int.toNat_zero, t2]
   exact ⟨⟨by omega, by omega⟩, res hK (by simp [leR])⟩
 ·have t1 := eq_false h1
  have e : stk L = false := by simp [stk, h1]
  rw [e] at hK
  simp only [gdK_bft, decide_false, e_reg, e_seq, e_cond, e_ret, o_nil, o_cons, gd_none, gd_some, gdK_tf, putK_e, runK_e, skipK_e, vK_e, conK_e, callK_e, evh_v, evh_call, seqK_n, seqK_r, condK_t, ends_r, endK1_e, endK2_e, gam_e, gamK_f, pc_e, pcK_e, fcC_e, fcK_e, evp, gt, st, putf, X.get, gets, ap, mkfr, rep, rdR, tupled, clV, clL, clS, clo, lens, lk, undef, Bool.not_false, Nat.reduceSub, beq_self_eq_true, true_and, s77, r77, Fin, t1]
  exact res hK (by simp [leR])
def F112 : FC := fun args => match args with
 | [.int .i64 q] => some (True, .agg [.fn 117 [.rp [.int .i64 q] 0]])
 | _ => none
theorem p112 : PureOk Try.prog 112 (fcC F112) := by
 refine pure_of (T := []) trivial Try.func112 k112 ?_
 intro args K hC
 unfold fcC F112 at hC
 split at hC <;> first | (exact hC.elim) | skip
 rename_i h
 split at h <;> first | (cases h; done) | skip
 cases h
 simp only [↓reduceIte, e_reg, and_self, e_seq, e_ret, o_nil, o_cons, gd_none, putK_e, runK_e, vK_e, boxK_e, bldK_e, storeK3_e, storeK2_e, storeK_e, evh_v, evh_new, evh_box, evh_bld, evh_store, seqK_n, ends_r, endK1_e, endK2_e, evp, gt, st, putf, X.get, gets, getp, mkfr, rep, rdR, tupled, clV, clL, clS, clo, ld, tk, dr, sp, sp.spl, lay, ll, cs1, one, allOne, gb, sb, pb, ln, undef, Bool.and_true, Nat.reduceSub, Nat.reduceAdd, beq_self_eq_true, true_and, s112, r112]
 exact res hC.2 (by simp [leR, leR.leRs])
def F117 : FC := fun args => match args with
 | [.agg [.int .i64 k, .int .i64 p, .rd 2 n f], .rp [.int .i64 q] 0] => some (True, .bool (decide (k = q)))
 | _ => none
theorem p117 : PureOk Try.prog 117 (fcC F117) := by
 refine pure_of (T := []) trivial Try.func117 k117 ?_
 intro args K hC
 unfold fcC F117 at hC
 split at hC <;> first | (exact hC.elim) | skip
 rename_i h
 split at h <;> first | (cases h; done) | skip
 cases h
 simp only [e_reg, e_seq, e_ret, o_nil, o_cons, gd_none, putK_e, runK_e, vK_e, boxK_e, evh_v, evh_box, seqK_n, ends_r, endK1_e, endK2_e, evp, bin, gt, gq, st, putf, X.get, mkfr, rep, rdR, tupled, clV, clS, clo, ld, lda, cs1, gb, pb, ln, undef, Nat.reduceSub, Nat.reduceAdd, true_and, s117, r117]
 exact res hC.2 (by simp [leR])
def amg (q : Int) (L : List Pt) : Nat → List Int
 | 0 => []
 | n + 1 => if (ptG L n).k = q then amg q L n ++ [(n : Int)] else amg q L n
theorem amg_len {q : Int} {L : List Pt} : ∀ n, (amg q L n).length ≤ n
 | 0 => Nat.le_refl _
 | n + 1 => by simp only [amg]; have := amg_len (q := q) (L := L) n; split <;> simp <;> omega
def C113 : PC := fun args K => ∃ (q : Int) (L : List Pt), args = [.agg [.fn 117 [.rp [.int .i64 q] 0]], .rd 3 L.length (ptR L)] ∧ L.length ≤ 1000 ∧ K (.ints .i64 (amg q L L.length))
theorem p113 : PureOk Try.prog 113 C113 := by
 refine pure_of (T := [(117, .fc F117)]) ⟨⟨p117, q117⟩, trivial⟩ Try.func113 k113 ?_
 rintro args K ⟨q, L, rfl, hl, hK⟩
 simp only [e_reg, e_seq, e_block, e_loop, o_nil, o_cons, gd_none, putK_e, runK_e, vK_e, boxK_e, evh_v, evh_box, seqK_n, evp, gt, st, putf, X.get, mkfr, rep, lens, cs1, pb, ln, undef, Nat.reduceSub, true_and, s113, r113]
 refine loop_at2 (G := Nat) (fun i => [(10, .int .i64 i), (5, .own 1)]) (fun i => [.box 152 [.fn 117 [.rp [.int .i64 q] 0]], .oi .i64 3 (amg q L i)]) (fun i => i ≤ L.length) (fun i => L.length - i) 0 (Nat.zero_le _) ?_
 (intro fr1 hf1; simp only [forget, dstC, dstO, st] at hf1; subst hf1)
 refine ⟨?_, ?_⟩
 ·refine Lw_re 1 [none] (Nat.zero_le _) (by simp [ln]) (by simp [ln]) rfl ?_ ?_
  ·simp only [reL, reX, rn, List.getElem?_cons_zero, Nat.reduceSub, Nat.lt_irrefl, Nat.le_refl, reduceCtorEq, or_true, inb, inb.inbs, ln, sts, st, Bool.and_self, Nat.reduceLT, Nat.reduceAdd, decide_true, and_self, Int.natCast_zero, implies_true]
  ·simp only [reL, reX, reH, reB, reN, newB, inb, inb.inbs, Bool.and_self, and_self, amg]
 ·intro i hii
  have hl2 := amg_len (q := q) (L := L) i
  by_cases hlt : i < L.length
  ·have n0 : ((i : Int) < (L.length : Int)) = True := by simp; omega
   by_cases g : (ptG L i).k = q
   ·have u := eq_true g
    have e : amg q L (i + 1) = amg q L i ++ [(i : Int)] := if_pos g
    simp only [condK_bt, decide_true, inr64, ↓reduceIte, e_skip, e_reg, and_self, e_seq, e_cond, e_block, o_nil, o_cons, gd_none, putK_e, runK_e, vK_e, bslK_e, storeK3_e, storeK2_e, storeK_e, appK2_oi, appK_e, conK_e, callK_e, evh_v, evh_new, evh_bsl, evh_store, evh_app, evh_call, loopK_n, seqK_n, blockK_n, gam_e, gamK_f, pc_e, pcK_e, fcC_e, fcK_e, evp, bin, gt, gq, st, putf, X.get, gets, getp, ap, clV, clL, clS, clo, ld, lda, ixs, tk, dr, sp, sp.spl, lay, ll, cs1, one, allOne, gb, sb, pb, ln, lk, Bool.and_true, Nat.reduceAdd, beq_self_eq_true, true_and, and_true, sts, n0, F117, ptR, Pt.row, Int.toNat_natCast, u]
    repeat' (first | omega | refine And.intro ?_ ?_)
    refine Nx.mk (i + 1) (by omega) (by omega) (Lw_re 1 [some 4] (Nat.zero_le _) (by simp [ln]) (by simp [ln]) rfl ?_ ?_)
    ·simp only [reL, reX, rn, List.getElem?_cons_zero, Nat.reduceSub, Nat.lt_irrefl, Nat.le_refl, and_false, or_true, inb, inb.inbs, ln, Bool.and_self, Nat.reduceLT, Nat.reduceAdd, decide_true, and_self, Int.natCast_add, Int.natCast_one, implies_true]
    ·simp only [reL, reX, reH, reB, reM, reN, gb, Nat.reduceLeDiff, inb, inb.inbs, ln, Bool.and_self, Nat.reduceLT, Nat.reduceAdd, and_self, e]
   ·have u := eq_false g
    have e : amg q L (i + 1) = amg q L i := if_neg g
    simp only [condK_bt, condK_bf, decide_true, decide_false, inr64, e_skip, e_reg, and_self, e_seq, e_cond, e_block, o_nil, o_cons, gd_none, putK_e, runK_e, vK_e, storeK3_e, storeK2_e, storeK_e, conK_e, callK_e, evh_v, evh_new, evh_store, evh_call, loopK_n, seqK_n, blockK_n, gam_e, gamK_f, pc_e, pcK_e, fcC_e, fcK_e, evp, bin, gt, gq, st, putf, X.get, gets, ap, clV, clL, clS, clo, ld, lda, ixs, tk, dr, sp, sp.spl, ll, cs1, one, allOne, gb, sb, pb, ln, lk, Bool.and_true, Nat.reduceAdd, beq_self_eq_true, true_and, and_true, sts, n0, F117, ptR, Pt.row, Int.toNat_natCast, u]
    repeat' (first | omega | refine And.intro ?_ ?_)
    refine Nx.mk (i + 1) (by omega) (by omega) (Lw_re 1 [some 1] (Nat.zero_le _) (by simp [ln]) (by simp [ln]) rfl ?_ ?_)
    ·simp only [reL, reX, rn, List.getElem?_cons_zero, Nat.reduceSub, Nat.lt_irrefl, Nat.le_refl, and_false, or_true, inb, inb.inbs, ln, Bool.and_self, Nat.reduceLT, Nat.reduceAdd, decide_true, and_self, Int.natCast_add, Int.natCast_one, implies_true]
    ·simp only [reL, reX, reH, reB, reM, reN, gb, Nat.le_refl, inb, inb.inbs, ln, Bool.and_self, Nat.reduceLT, Nat.reduceAdd, and_self, e]
  ·have n0 : ((i : Int) < (L.length : Int)) = False := by simp; omega
   have ei : i = L.length := by omega
   subst ei
   simp only [condK_bf, decide_false, e_reg, e_seq, e_cond, e_exit, e_ret, o_nil, o_cons, gd_none, putK_e, runK_e, vK_e, evh_v, loopK_x, seqK_n, seqK_x, exitK_t, blockK_x, ends_r, endK1_e, endK2_e, evp, bin, gt, st, putf, X.get, rdR, tupled, clV, gb, sb, beq_self_eq_true, true_and, sts, n0]
   exact res hK (by simp [leR])
end Go.Proofs.Ytjagiieconpgbaa
end
section
namespace Go.Proofs.Ytjagiieconpgbaa
open Go Go.Vg
set_option linter.unusedSimpArgs false
set_option linter.unusedVariables false
set_option maxRecDepth 10000
def tn (o : Opr) (a : DT) : DT := .op o a .stop
def s114 : SC :=
 (.seq (.reg [⟨(some 4), none, .box 77 (.t 0)⟩,
  ⟨(some 5), none, .box 77 (.t 1)⟩,
  ⟨(some 6), none, .box 77 (.t 2)⟩,
  ⟨(some 8), none, .v (.mov (.c (.lit (.bool false))))⟩])
 (.seq (.seq (.reg [⟨(some 10), none, .v (.off (.t 4) 2)⟩,
  ⟨(some 11), none, .v (.load (.t 10) none)⟩,
  ⟨(some 12), none, .v (.len (.t 11))⟩,
  ⟨(some 13), none, .v (.mov (.c (.int .i64 (0))))⟩])
 (.block 0 (.loop
  (.seq (.reg [⟨(some 14), none, .v (.bin .lss (.t 13) (.t 12))⟩])
  (.seq (.cond (.t 14)
   .skip
   (.exit 0))
  (.seq (.block 1 (.seq (.reg [⟨(some 15), none, .v (.mov (.t 13))⟩,
   ⟨(some 9), none, .v (.mov (.t 15))⟩])
  (.seq (.tre (tn ⟨(some 16), none, .v (.off (.t 4) 2)⟩ (tn ⟨(some 17), none, .v (.load (.t 16) none)⟩ (tn ⟨(some 18), none, .v (.mov (.t 9))⟩ (tn ⟨(some 19),
 none, .v (.ixa (.t 17) (.t 18) 2)⟩ (tn ⟨(some 20), none, .v (.load (.t 19) (some 2))⟩ (tn ⟨(some 21), none, .v (.off (.t 5) 2)⟩ (tn ⟨(some 22), none, .v
 (.load (.t 21) none)⟩ (tn ⟨(some 23), none, .v (.mov (.t 9))⟩ (tn ⟨(some 24), none, .v (.ixa (.t 22) (.t 23) 2)⟩ (tn ⟨(some 25), none, .v (.load (.t 24)
 (some 2))⟩ (tn ⟨(some 26), none, .v (.off (.t 6) 2)⟩ (tn ⟨(some 27), none, .v (.load (.t 26) none)⟩ (tn ⟨(some 28), none, .v (.mov (.t 9))⟩ (tn ⟨(some
 29), none, .v (.ixa (.t 27) (.t 28) 2)⟩ (tn ⟨(some 30), none, .v (.load (.t 29) (some 2))⟩ (tn ⟨(some 33), none, .v (.mov (.t 3))⟩ (tn ⟨(some 34), none,
 .v (.neg (.t 33))⟩ (tn ⟨(some 35), none, .v (.mov (.t 3))⟩ (tn ⟨(some 31), none, .bsl 24 3 [(.int .i64 (0)), (.int .i64 (0)), (.int .i64 (0)), (.int .i64
 (0)), (.int .i64 (0)), (.int .i64 (0))] [(0, 2, (.t 20)), (2, 2, (.t 25)), (4, 2, (.t 30))]⟩ (tn ⟨(some 32), none, .call (.c (.fn 89 [])) [(.t 31)]⟩ (tn
 ⟨(some 36), none, .call (.c (.fn 65 [])) [(.t 32), (.t 34), (.t 35)]⟩ (tn ⟨(some 37), none, .v (.not (.t 36))⟩ .leaf)))))))))))))))))))))))
  (.cond (.t 37)
   (.seq (.reg [⟨(some 8), none, .v (.mov (.c (.lit (.bool false))))⟩])
   .ret)
   .skip))))
  (.reg [⟨(some 38), none, .v (.bin .add (.t 13) (.c (.int .i64 (1))))⟩,
   ⟨(some 13), none, .v (.mov (.t 38))⟩])))))))
 (.seq (.reg [⟨(some 8), none, .v (.mov (.c (.lit (.bool true))))⟩])
 .ret)))
def r114 : List RV := [.t 8]
theorem k114 : (Try.f114.body.bind (cC Try.prog), cR Try.prog Try.f114.results.toList, Try.f114.ntmps) = (some s114, some r114, 39) := by kernel_rfl
theorem q114 : Known Try.prog 114 := ⟨_, Try.func114, by decide, by simp [Try.f114]⟩
def s81 : SC :=
 (.seq (.reg [⟨(some 2), none, .box 119 (.t 0)⟩,
  ⟨(some 3), none, .box 119 (.t 1)⟩,
  ⟨(some 4), none, .v (.mov (.c (.lit (.bool false))))⟩])
 (.seq (.reg [⟨(some 5), none, .v (.off (.t 2) 3)⟩,
  ⟨(some 6), none, .v (.load (.t 5) none)⟩,
  ⟨(some 7), none, .v (.off (.t 3) 3)⟩,
  ⟨(some 8), none, .v (.load (.t 7) none)⟩,
  ⟨(some 9), none, .v (.bin .lss (.t 6) (.t 8))⟩,
  ⟨(some 4), none, .v (.mov (.t 9))⟩])
 .ret))
def r81 : List RV := [.t 4]
theorem k81 : (Try.f81.body.bind (cC Try.prog), cR Try.prog Try.f81.results.toList, Try.f81.ntmps) = (some s81, some r81, 10) := by kernel_rfl
theorem q81 : Known Try.prog 81 := ⟨_, Try.func81, by decide, by simp [Try.f81]⟩
def s79 : SC :=
 (.seq (.reg [⟨(some 4), none, .v (.mov (.c (.lit (.slice none 0 0))))⟩])
 (.seq (.reg [⟨(some 15), none, .call (.c (.fn 112 [])) [(.c (.int .i64 (0)))]⟩,
  ⟨(some 16), none, .v (.mov (.t 0))⟩,
  ⟨(some 17), none, .call (.c (.fn 113 [])) [(.t 15), (.t 16)]⟩,
  ⟨(some 5), none, .v (.mov (.t 17))⟩])
 (.seq (.reg [⟨(some 18), none, .call (.c (.fn 112 [])) [(.c (.int .i64 (1)))]⟩,
  ⟨(some 19), none, .v (.mov (.t 0))⟩,
  ⟨(some 20), none, .call (.c (.fn 113 [])) [(.t 18), (.t 19)]⟩,
  ⟨(some 6), none, .v (.mov (.t 20))⟩])
 (.seq (.reg [⟨(some 21), none, .call (.c (.fn 112 [])) [(.c (.int .i64 (2)))]⟩,
  ⟨(some 22), none, .v (.mov (.t 0))⟩,
  ⟨(some 23), none, .call (.c (.fn 113 [])) [(.t 21), (.t 22)]⟩,
  ⟨(some 7), none, .v (.mov (.t 23))⟩])
 (.seq (.reg [⟨(some 8), none, .v (.mov (.c (.lit (.slice none 0 0))))⟩])
 (.seq (.seq (.reg [⟨(some 24), none, .v (.mov (.t 5))⟩,
  ⟨(some 25), none, .v (.len (.t 24))⟩,
  ⟨(some 26), none, .v (.mov (.c (.int .i64 (0))))⟩])
 (.block 0 (.loop
  (.seq (.reg [⟨(some 27), none, .v (.bin .lss (.t 26) (.t 25))⟩])
  (.seq (.cond (.t 27)
   .skip
   (.exit 0))
  (.seq (.block 1 (.seq (.reg [⟨(some 28), none, .v (.ixa (.t 24) (.t 26) 1)⟩,
   ⟨(some 29), none, .v (.load (.t 28) none)⟩,
   ⟨(some 10), none, .v (.mov (.t 29))⟩])
  (.seq (.reg [⟨(some 30), none, .v (.mov (.t 6))⟩,
   ⟨(some 31), none, .v (.len (.t 30))⟩,
   ⟨(some 32), none, .v (.mov (.c (.int .i64 (0))))⟩])
  (.block 2 (.loop
   (.seq (.reg [⟨(some 33), none, .v (.bin .lss (.t 32) (.t 31))⟩])
   (.seq (.cond (.t 33)
    .skip
    (.exit 2))
   (.seq (.block 3 (.seq (.reg [⟨(some 34), none, .v (.ixa (.t 30) (.t 32) 1)⟩,
    ⟨(some 35), none, .v (.load (.t 34) none)⟩,
    ⟨(some 12), none, .v (.mov (.t 35))⟩])
   (.seq (.reg [⟨(some 36), none, .v (.mov (.t 7))⟩,
    ⟨(some 37), none, .v (.len (.t 36))⟩,
    ⟨(some 38), none, .v (.mov (.c (.int .i64 (0))))⟩])
   (.block 4 (.loop
    (.seq (.reg [⟨(some 39), none, .v (.bin .lss (.t 38) (.t 37))⟩])
    (.seq (.cond (.t 39)
     .skip
     (.exit 4))
    (.seq (.block 5 (.seq (.reg [⟨(some 40), none, .v (.ixa (.t 36) (.t 38) 1)⟩,
     ⟨(some 41), none, .v (.load (.t 40) none)⟩,
     ⟨(some 14), none, .v (.mov (.t 41))⟩])
    (.seq (.drw [(0, ⟨(some 42), none, .v (.mov (.t 0))⟩, false),
     (1, ⟨(some 43), none, .v (.mov (.t 10))⟩, false),
     (2, ⟨(some 44), none, .v (.ixa (.t 42) (.t 43) 3)⟩, false),
     (3, ⟨(some 45), none, .v (.load (.t 44) (some 3))⟩, false),
     (4, ⟨(some 46), none, .v (.mov (.t 0))⟩, false),
     (5, ⟨(some 47), none, .v (.mov (.t 12))⟩, false),
     (6, ⟨(some 48), none, .v (.ixa (.t 46) (.t 47) 3)⟩, false),
     (7, ⟨(some 49), none, .v (.load (.t 48) (some 3))⟩, false),
     (8, ⟨(some 50), none, .v (.mov (.t 0))⟩, false),
     (9, ⟨(some 51), none, .v (.mov (.t 14))⟩, false),
     (10, ⟨(some 52), none, .v (.ixa (.t 50) (.t 51) 3)⟩, false),
     (11, ⟨(some 53), none, .v (.load (.t 52) (some 3))⟩, false),
     (12, ⟨(some 54), none, .v (.mov (.t 1))⟩, false)]
     none
     [⟨(some 55), none, .call (.c (.fn 114 [])) [(.t 45), (.t 49), (.t 53), (.t 54)]⟩])
    (.cond (.t 55)
     (.drw [(0, ⟨(some 56), none, .v (.mov (.t 8))⟩, false),
      (1, ⟨(some 57), none, .v (.mov (.t 10))⟩, false),
      (2, ⟨(some 58), none, .v (.mov (.t 12))⟩, false),
      (3, ⟨(some 59), none, .v (.mov (.t 14))⟩, false),
      (4, ⟨(some 60), none, .bld [(.int .i64 (0)), (.int .i64 (0)), (.int .i64 (0))] [(0, 1, (.t 57)), (1, 1, (.t 58)), (2, 1, (.t 59))]⟩, false),
      (5, ⟨(some 61), none, .v (.mov (.t 0))⟩, false),
      (6, ⟨(some 62), none, .v (.mov (.t 10))⟩, false),
      (7, ⟨(some 63), none, .v (.ixa (.t 61) (.t 62) 3)⟩, false),
      (8, ⟨(some 64), none, .v (.off (.t 63) 1)⟩, false),
      (9, ⟨(some 65), none, .v (.load (.t 64) none)⟩, false),
      (10, ⟨(some 66), none, .v (.mov (.t 0))⟩, false),
      (11, ⟨(some 67), none, .v (.mov (.t 12))⟩, false),
      (12, ⟨(some 68), none, .v (.ixa (.t 66) (.t 67) 3)⟩, false),
      (13, ⟨(some 69), none, .v (.off (.t 68) 1)⟩, false),
      (14, ⟨(some 70), none, .v (.load (.t 69) none)⟩, false),
      (15, ⟨(some 71), none, .v (.bin .add (.t 65) (.t 70))⟩, false),
      (16, ⟨(some 72), none, .v (.mov (.t 0))⟩, false),
      (17, ⟨(some 73), none, .v (.mov (.t 14))⟩, false),
      (18, ⟨(some 74), none, .v (.ixa (.t 72) (.t 73) 3)⟩, false),
      (19, ⟨(some 75), none, .v (.off (.t 74) 1)⟩, false),
      (20, ⟨(some 76), none, .v (.load (.t 75) none)⟩, false),
      (21, ⟨(some 77), none, .v (.bin .add (.t 71) (.t 76))⟩, false),
      (22, ⟨(some 78), none, .bld [(.int .i64 (0)), (.int .i64 (0)), (.int .i64 (0)), (.int .i64 (0))] [(0, 3, (.t 60)), (3, 1, (.t 77))]⟩, false)]
      (some ⟨(some 79), none, .bsl 119 1 [(.int .i64 (0)), (.int .i64 (0)), (.int .i64 (0)), (.int .i64 (0))] [(0, 4, (.t 78))]⟩)
      [⟨(some 80), none, .app 119 4 32 (.t 56) (.t 79)⟩,
      ⟨(some 8), none, .v (.mov (.t 80))⟩])
     .skip))))
    (.reg [⟨(some 81), none, .v (.bin .add (.t 38) (.c (.int .i64 (1))))⟩,
     ⟨(some 38), none, .v (.mov (.t 81))⟩])))))))))
   (.reg [⟨(some 82), none, .v (.bin .add (.t 32) (.c (.int .i64 (1))))⟩,
    ⟨(some 32), none, .v (.mov (.t 82))⟩])))))))))
  (.reg [⟨(some 83), none, .v (.bin .add (.t 26) (.c (.int .i64 (1))))⟩,
   ⟨(some 26), none, .v (.mov (.t 83))⟩])))))))
 (.seq (.reg [⟨(some 84), none, .v (.mov (.t 8))⟩,
  ⟨(some 4), none, .v (.mov (.t 84))⟩])
 .ret)))))))
def r79 : List RV := [.t 4]
theorem k79 : (Try.f79.body.bind (cC Try.prog), cR Try.prog Try.f79.results.toList, Try.f79.ntmps) = (some s79, some r79, 85) := by kernel_rfl
theorem q79 : Known Try.prog 79 := ⟨_, Try.func79, by decide, by simp [Try.f79]⟩
def thE (a b c : Pt) (k : Nat) : List (Int × Int) := [(lo a.E k, hi a.E k), (lo b.E k, hi b.E k), (lo c.E k, hi c.E k)]
theorem thE_len {a b c : Pt} {k : Nat} : (thE a b c k).length = 3 := rfl
def fit1 (a b c : Pt) (bd : Int) (k : Nat) : Bool := decide ((-bd ≤ (sumT (thE a b c k) 3).1 ∧ (sumT (thE a b c k) 3).1 ≤ (sumT (thE a b c k) 3).2) ∧ (sumT (thE a b c k) 3).2 ≤ bd)
def fitB (a b c : Pt) (bd : Int) (n : Nat) : Bool := (List.range n).all (fit1 a b c bd)
theorem fitB_snoc {a b c : Pt} {bd : Int} {n : Nat} : fitB a b c bd (n + 1) = (fitB a b c bd n && fit1 a b c bd n) := by simp [fitB, List.range_succ]
theorem fitB_no {a b c : Pt} {bd : Int} {n k : Nat} (hk : k < n) (h : fit1 a b c bd k = false) : fitB a b c bd n = false := by
 cases hf : fitB a b c bd n with
 | false => rfl
 | true => simp only [fitB, List.all_eq_true, List.mem_range] at hf; rw [hf k hk] at h; cases h
theorem spE_get {m : Int} {L : List (Int × Int)} (h : L.all (spE m) = true) (hm : 0 ≤ m) (i : Nat) : (-m ≤ lo L i ∧ lo L i ≤ m) ∧ (-m ≤ hi L i ∧ hi L i ≤ m) := by
 by_cases hi' : i < L.length
 ·simp only [List.all_eq_true] at h
  have := h _ (List.getElem_mem hi')
  simp only [spE, decide_eq_true_eq] at this
  have e1 : lo L i = L[i].1 := by simp [lo, List.getD, hi']
  have e2 : hi L i = L[i].2 := by simp [hi, List.getD, hi']
  rw [e1, e2]; omega
 ·have e1 : lo L i = 0 := by simp [lo, List.getD, Nat.not_lt.1 hi']
  have e2 : hi L i = 0 := by simp [hi, List.getD, Nat.not_lt.1 hi']
  rw [e1, e2]; omega
def okF (a b c : Pt) (bd : Int) (n : Nat) : Prop := (a.E.length = n ∧ b.E.length = n ∧ c.E.length = n) ∧ n ≤ 12 ∧ (a.E.all (spE 1000) = true ∧ b.E.all (spE 1000) = true ∧ c.E.all (spE 1000) = true) ∧ 0 ≤ bd ∧ bd ≤ 5000
def C114 : PC := fun args K => ∃ (a b c : Pt) (bd : Int) (n : Nat), args = [.agg a.row, .agg b.row, .agg c.row, .int .i64 bd] ∧ okF a b c bd n ∧ K (.bool (fitB a b c bd n))
theorem p114 : PureOk Try.prog 114 C114 := by
 refine pure_of (T := [(89, .pc C89), (65, .fc Fsp)]) ⟨⟨p89, q89⟩, ⟨p65, q65⟩, trivial⟩ Try.func114 k114 ?_
 rintro args K ⟨a, b, c, bd, n, rfl, ⟨⟨l1, l2, l3⟩, hn, ⟨s1, s2, s3⟩, hb1, hb2⟩, hK⟩
 simp only [e_reg, e_seq, e_block, e_loop, o_nil, o_cons, gd_none, putK_e, runK_e, vK_e, boxK_e, evh_v, evh_box, seqK_n, evp, gt, gq, st, putf, X.get, mkfr, rep, ld, lda, lens, cs1, gb, pb, ln, undef, Nat.reduceSub, Nat.reduceAdd, true_and, s114, r114, tn, Pt.row]
 refine loop_at2 (G := Nat) (fun i => [(13, .int .i64 i)]) (fun _ => [.box 77 a.row, .box 77 b.row, .box 77 c.row]) (fun i => i ≤ n ∧ fitB a b c bd i = true) (fun i => n - i) 0 ⟨Nat.zero_le _, rfl⟩ ?_
 (intro fr1 hf1; simp only [forget, dstC, dstT, dstO, dst1, st] at hf1; subst hf1)
 refine ⟨?_, ?_⟩
 ·refine Lw_re 3 [] (Nat.zero_le _) (by simp [ln]) (by simp [ln]) rfl ?_ ?_
  ·simp only [reL, reX, inb, inb.inbs, ln, sts, st, Bool.and_self, Nat.reduceLT, Nat.reduceAdd, decide_true, and_self, Int.natCast_zero, implies_true]
  ·simp only [reL, reX, reH, reB, reN, inb, ln, Nat.reduceAdd, and_self, implies_true, Pt.row]
 ·rintro i ⟨hii, hall⟩
  by_cases hlt : i < n
  ·have n0 : ((i : Int) < (a.E.length : Int)) = True := by simp; omega
   have b1 := spE_get s1 (by omega) i
   have b2 := spE_get s2 (by omega) i
   have b3 := spE_get s3 (by omega) i
   simp only [condK_bt, decide_true, inr64, e_skip, e_reg, e_tre, t_stop, t_op, e_seq, e_cond, e_block, o_nil, o_cons, gd_none, putK_e, runK_e, vK_e, bslK_e, conK_e, callK_e, evh_v, evh_bsl, evh_call, seqK_n, gam_e, gamK_f, gamK_p, pc_e, pcK_e, evp, bin, gt, gq, st, putf, X.get, gets, getp, ap, clV, clL, clS, clo, ld, lda, ixs, tk, dr, sp, sp.spl, lay, ll, cs1, gb, sb, pb, ln, lk, Nat.reduceAdd, Nat.reduceMul, Nat.reduceDiv, Nat.reduceBEq, beq_self_eq_true, true_and, and_true, sts, n0, Int.toNat_natCast, Pt.row, rowsS, toInts]
   have hbn : bnd9 (thE a b c i) := fun k => by
    rcases k with _ | _ | _ | k
    ·show (-1000000000 ≤ lo a.E i ∧ lo a.E i ≤ 1000000000) ∧ (-1000000000 ≤ hi a.E i ∧ hi a.E i ≤ 1000000000); omega
    ·show (-1000000000 ≤ lo b.E i ∧ lo b.E i ≤ 1000000000) ∧ (-1000000000 ≤ hi b.E i ∧ hi b.E i ≤ 1000000000); omega
    ·show (-1000000000 ≤ lo c.E i ∧ lo c.E i ≤ 1000000000) ∧ (-1000000000 ≤ hi c.E i ∧ hi c.E i ≤ 1000000000); omega
    ·show (-1000000000 ≤ (0 : Int) ∧ (0 : Int) ≤ 1000000000) ∧ (-1000000000 ≤ (0 : Int) ∧ (0 : Int) ≤ 1000000000); omega
   refine ⟨by omega, ⟨by omega, by omega⟩, ⟨by omega, by omega⟩, ⟨by omega, by omega⟩, thE a b c i, _, rfl, fun k hk => ?_, hbn, by simp [thE], ?_⟩
   ·simp only [thE, List.length_cons, List.length_nil] at hk
    rcases k with _ | _ | _ | k
    ·rfl
    ·rfl
    ·rfl
    ·omega
   by_cases u' : ((-bd ≤ (sumT (thE a b c i) 3).1 ∧ (sumT (thE a b c i) 3).1 ≤ (sumT (thE a b c i) 3).2) ∧ (sumT (thE a b c i) 3).2 ≤ bd)
   ·have u := eq_true u'
    have hf : fit1 a b c bd i = true := decide_eq_true u'
    simp only [condK_bf, decide_true, inr64, e_skip, e_reg, t_leaf, t_stop, t_op, e_cond, o_nil, o_cons, gd_none, putK_e, runK_e, vK_e, evh_v, loopK_n, seqK_n, blockK_n, pcK_e, fcC_e, fcK_e, evp, bin, gt, st, putf, X.get, clL, clo, Bool.not_true, true_and, and_true, thE_len, Fsp, u, decide_true]
    have hall1 : fitB a b c bd (i + 1) = true := by rw [fitB_snoc, hall, hf]; rfl
    refine ⟨by omega, Nx.mk (i + 1) ⟨by omega, hall1⟩ (by omega) (Lw_re 3 [] (Nat.zero_le _) (by simp [ln]) (by simp [ln]) rfl ?_ ?_)⟩
    ·simp only [reL, reX, inb, inb.inbs, Bool.and_self, Nat.reduceLT, decide_true, and_self, Int.natCast_add, Int.natCast_one, implies_true]
    ·simp only [reL, reX, reH, reB, reN, inb, and_self, implies_true]
   ·have u := eq_false u'
    have hf : fit1 a b c bd i = false := decide_eq_false u'
    rw [fitB_no hlt hf] at hK
    simp only [condK_bt, decide_false, e_reg, t_leaf, t_stop, t_op, e_seq, e_cond, e_ret, o_nil, o_cons, gd_none, putK_e, runK_e, vK_e, evh_v, loopK_r, seqK_n, seqK_r, blockK_r, ends_r, endK1_e, endK2_e, pcK_e, fcC_e, fcK_e, evp, gt, st, putf, X.get, rdR, tupled, clV, clL, clS, clo, Bool.not_false, true_and, and_true, thE_len, Fsp, u, decide_false]
    exact res hK (by simp [leR])
  ·have n0 : ((i : Int) < (a.E.length : Int)) = False := by simp; omega
   have ei : i = n := by omega
   subst ei
   simp only [condK_bf, decide_false, e_reg, e_seq, e_cond, e_exit, e_ret, o_nil, o_cons, gd_none, putK_e, runK_e, vK_e, evh_v, loopK_x, seqK_n, seqK_x, exitK_t, blockK_x, ends_r, endK1_e, endK2_e, evp, bin, gt, st, putf, X.get, rdR, tupled, clV, clS, clo, beq_self_eq_true, true_and, sts, n0, Pt.row]
   exact res hK (by simp [leR, hall])
end Go.Proofs.Ytjagiieconpgbaa
end
section
namespace Go.Proofs.Ytjagiieconpgbaa
open Go Go.Vg
set_option linter.unusedSimpArgs false
set_option linter.unusedVariables false
set_option maxRecDepth 10000
structure Th where
 (a m h p : Int)
def Th.row (x : Th) : List SV := [.int .i64 x.a, .int .i64 x.m, .int .i64 x.h, .int .i64 x.p]
def thG (T : List Th) (i : Nat) : Th := T.getD i ⟨0, 0, 0, 0⟩
def thR (T : List Th) (i : Nat) : List SV := (thG T i).row
theorem thR_snoc (T : List Th) (x : Th) (j : Nat) (hj : j < T.length + 1) : (if j < T.length then thR T j else x.row) = thR (T ++ [x]) j := by
 by_cases h : j < T.length
 ·rw [if_pos h]; simp [thR, thG, List.getD, List.getElem?_append, h]
 ·have : j = T.length := by omega
  subst this
  rw [if_neg h]; simp [thR, thG, List.getD]
def thr (L : List Pt) (a m h : Int) : Th := ⟨a, m, h, (ptG L a.toNat).p + (ptG L m.toNat).p + (ptG L h.toNat).p⟩
def ft (L : List Pt) (bd a m h : Int) : Bool := fitB (ptG L a.toNat) (ptG L m.toNat) (ptG L h.toNat) bd (ptG L 0).E.length
def g3 (L : List Pt) (bd a m : Int) (H : List Int) : Nat → List Th
 | 0 => []
 | k + 1 => if ft L bd a m (H.getD k 0) = true then g3 L bd a m H k ++ [thr L a m (H.getD k 0)] else g3 L bd a m H k
def g2 (L : List Pt) (bd a : Int) (M H : List Int) : Nat → List Th
 | 0 => []
 | k + 1 => g2 L bd a M H k ++ g3 L bd a (M.getD k 0) H H.length
def g1 (L : List Pt) (bd : Int) (A M H : List Int) : Nat → List Th
 | 0 => []
 | k + 1 => g1 L bd A M H k ++ g2 L bd (A.getD k 0) M H M.length
def fitL (L : List Pt) (bd : Int) : List Th := g1 L bd (amg 0 L L.length) (amg 1 L L.length) (amg 2 L L.length) (amg 0 L L.length).length
theorem g3_len {L : List Pt} {bd a m : Int} {H : List Int} : ∀ k, (g3 L bd a m H k).length ≤ k
 | 0 => Nat.le_refl _
 | k + 1 => by
  have := g3_len (L := L) (bd := bd) (a := a) (m := m) (H := H) k
  simp only [g3]; split <;> simp <;> omega
theorem g2_len {L : List Pt} {bd a : Int} {M H : List Int} (hh : H.length ≤ 12) : ∀ k, (g2 L bd a M H k).length ≤ k * 12
 | 0 => Nat.zero_le _
 | k + 1 => by
  have := g2_len (L := L) (bd := bd) (a := a) (M := M) hh k
  have := g3_len (L := L) (bd := bd) (a := a) (m := M.getD k 0) (H := H) H.length
  simp only [g2, List.length_append]; omega
theorem g1_len {L : List Pt} {bd : Int} {A M H : List Int} (hm : M.length ≤ 12) (hh : H.length ≤ 12) : ∀ k, (g1 L bd A M H k).length ≤ k * 144
 | 0 => Nat.zero_le _
 | k + 1 => by
  have := g1_len (L := L) (bd := bd) (A := A) hm hh k
  have := g2_len (L := L) (bd := bd) (a := A.getD k 0) (M := M) hh M.length
  simp only [g1, List.length_append]; omega
theorem amg_in {q : Int} {L : List Pt} : ∀ n, ∀ x, x ∈ amg q L n → 0 ≤ x ∧ x < n
 | 0, x, h => by simp [amg] at h
 | n + 1, x, h => by
  simp only [amg] at h
  have ih := amg_in (q := q) (L := L) n x
  split at h
  ·rcases List.mem_append.1 h with h | h
   ·have := ih h; omega
   ·simp at h; omega
  ·have := ih h; omega
theorem amg_get {q : Int} {L : List Pt} {n i : Nat} (h : i < (amg q L n).length) : 0 ≤ (amg q L n).getD i 0 ∧ (amg q L n).getD i 0 < n := by
 have e : (amg q L n).getD i 0 = (amg q L n)[i] := by simp [List.getD, h]
 rw [e]; exact amg_in n _ (List.getElem_mem h)
theorem stk_get {L : List Pt} (h : stk L = true) {i : Nat} (hi : i < L.length) : (0 ≤ (ptG L i).p ∧ (ptG L i).p ≤ 1000) ∧ (ptG L i).E.length = (ptG L 0).E.length ∧ (ptG L i).E.all (spE 1000) = true := by
 simp only [stk, Bool.and_eq_true] at h
 have := allP_get hi h.2.2
 simp only [okB, Bool.and_eq_true, decide_eq_true_eq] at this
 exact ⟨this.2.1, this.2.2.1, this.2.2.2⟩
def C79 : PC := fun args K => ∃ (L : List Pt) (bd : Int), args = [.rd 3 L.length (ptR L), .int .i64 bd] ∧ stk L = true ∧ (0 ≤ bd ∧ bd ≤ 5000) ∧ K (.rd 4 (fitL L bd).length (thR (fitL L bd)))
theorem p79 : PureOk Try.prog 79 C79 := by
 refine pure_of (T := [(112, .fc F112), (113, .pc C113), (114, .pc C114)]) ⟨⟨p112, q112⟩, ⟨p113, q113⟩, ⟨p114, q114⟩, trivial⟩ Try.func79 k79 ?_
 rintro args K ⟨L, bd, rfl, hs, hb, hK⟩
 have hg := fun i => @stk_get L hs i
 have hl12 : 3 ≤ L.length ∧ L.length ≤ 12 ∧ (ptG L 0).E.length ≤ 12 := by
  simp only [stk, Bool.and_eq_true, decide_eq_true_eq] at hs; omega
 simp only [e_reg, e_seq, o_nil, o_cons, gd_none, putK_e, runK_e, vK_e, conK_e, callK_e, evh_v, evh_call, seqK_n, gam_e, gamK_f, gamK_p, pc_e, pcK_e, fcC_e, fcK_e, evp, gt, st, putf, X.get, gets, ap, mkfr, rep, clV, clL, clS, clo, lens, gb, lk, undef, Nat.reduceSub, Nat.reduceBEq, beq_self_eq_true, true_and, s79, r79, F112]
 refine ⟨0, L, rfl, by omega, ?_⟩
 simp only [e_block, e_loop, o_nil, o_cons, gd_none, putK_e, runK_e, vK_e, evh_v, seqK_n, evp, st, putf, X.get, true_and]
 refine ⟨1, L, rfl, by omega, ?_⟩
 simp only []
 refine ⟨2, L, rfl, by omega, ?_⟩
 simp only []
 unfold fitL at hK
 have lA := amg_len (q := 0) (L := L) L.length
 have lM := amg_len (q := 1) (L := L) L.length
 have lH := amg_len (q := 2) (L := L) L.length
 have gA := fun i => @amg_get 0 L L.length i
 have gM := fun i => @amg_get 1 L L.length i
 have gH := fun i => @amg_get 2 L L.length i
 generalize amg 0 L L.length = A at *
 generalize amg 1 L L.length = M at *
 generalize amg 2 L L.length = H at *
 refine loop_at2 (G := Nat) (fun i => [(26, .int .i64 i), (8, .own 0)]) (fun i => [.orw 119 4 (g1 L bd A M H i).length (thR (g1 L bd A M H i))]) (fun i => i ≤ A.length) (fun i => A.length - i) 0 (Nat.zero_le _) ?_
 (intro fr1 hf1; simp only [forget, dstC, dstO, dstD, dst1, st] at hf1; subst hf1)
 refine ⟨?_, ?_⟩
 ·refine Lw_re 0 [none] (Nat.zero_le _) (by simp [ln]) (by simp [ln]) rfl ?_ ?_
  ·simp only [reL, reX, rn, List.getElem?_cons_zero, Nat.reduceSub, Nat.lt_irrefl, Nat.le_refl, reduceCtorEq, or_true, inb, inb.inbs, ln, sts, st, Bool.and_self, Nat.reduceLT, Nat.reduceAdd, and_self, Int.natCast_zero, implies_true]
  ·simp only [reH, reN, newB, and_self, g1, List.length_nil]
 ·intro i hi1
  by_cases hlt : i < A.length
  ·have n0 : ((i : Int) < (A.length : Int)) = True := by simp; omega
   have ga := gA i hlt
   simp only [condK_bt, decide_true, e_skip, e_reg, e_seq, e_cond, e_block, e_loop, o_nil, o_cons, gd_none, putK_e, runK_e, vK_e, evh_v, seqK_n, evp, bin, gt, gq, st, putf, X.get, ld, lda, lens, ixs, true_and, and_true, sts, n0, Int.toNat_natCast]
   refine ⟨by omega, ?_⟩
   generalize hP : g1 L bd A M H i = P at *
   generalize ea : A.getD i 0 = a at *
   have lP : P.length ≤ 1728 := by rw [← hP]; have := g1_len (L := L) (bd := bd) (A := A) (show M.length ≤ 12 by omega) (show H.length ≤ 12 by omega) i; omega
   refine loop_at2 (G := Nat) (fun j => [(32, .int .i64 j), (8, .own 0)]) (fun j => [.orw 119 4 (P ++ g2 L bd a M H j).length (thR (P ++ g2 L bd a M H j))]) (fun j => j ≤ M.length) (fun j => M.length - j) 0 (Nat.zero_le _) ?_
   (intro fr1 hf1; simp only [forget, dstC, dstO, dstD, dst1, st] at hf1; subst hf1)
   refine ⟨?_, ?_⟩
   ·refine Lw_re 0 [some 0] (Nat.zero_le _) (by simp [ln]) (by simp [ln]) rfl ?_ ?_
    ·simp only [reL, reX, rn, List.getElem?_cons_zero, Nat.reduceSub, Nat.lt_irrefl, Nat.le_refl, and_false, or_true, inb, inb.inbs, ln, sts, st, Bool.and_self, Nat.reduceLT, Nat.reduceAdd, and_self, Int.natCast_zero, implies_true]
    ·simp only [reH, reM, reN, gb, Nat.le_refl, ln, Nat.reduceLT, Nat.reduceAdd, and_self, implies_true, g2, List.append_nil]
   ·intro j hj1
    by_cases hjt : j < M.length
    ·have m0 : ((j : Int) < (M.length : Int)) = True := by simp; omega
     have gm := gM j hjt
     simp only [condK_bt, decide_true, e_skip, e_reg, e_seq, e_cond, e_block, e_loop, o_nil, o_cons, gd_none, putK_e, runK_e, vK_e, evh_v, seqK_n, evp, bin, gt, gq, st, putf, X.get, ld, lda, lens, ixs, true_and, and_true, sts, m0, Int.toNat_natCast]
     refine ⟨by omega, ?_⟩
     generalize hQ : P ++ g2 L bd a M H j = Q at *
     generalize em : M.getD j 0 = m at *
     have lQ : Q.length ≤ 3456 := by rw [← hQ, List.length_append]; have := g2_len (L := L) (bd := bd) (a := a) (M := M) (show H.length ≤ 12 by omega) j; omega
     refine loop_at2 (G := Nat) (fun k => [(38, .int .i64 k), (8, .own 0)]) (fun k => [.orw 119 4 (Q ++ g3 L bd a m H k).length (thR (Q ++ g3 L bd a m H k))]) (fun k => k ≤ H.length) (fun k => H.length - k) 0 (Nat.zero_le _) ?_
     (intro fr1 hf1; simp only [forget, dstC, dstO, dstD, dst1, st] at hf1; subst hf1)
     refine ⟨?_, ?_⟩
     ·refine Lw_re 0 [some 0] (Nat.zero_le _) (by simp [ln]) (by simp [ln]) rfl ?_ ?_
      ·simp only [reL, reX, rn, List.getElem?_cons_zero, Nat.reduceSub, Nat.lt_irrefl, Nat.le_refl, and_false, or_true, inb, inb.inbs, ln, sts, st, Bool.and_self, Nat.reduceLT, Nat.reduceAdd, and_self, Int.natCast_zero, implies_true]
      ·simp only [reH, reM, reN, gb, Nat.le_refl, ln, Nat.reduceLT, Nat.reduceAdd, and_self, implies_true, g3, List.append_nil]
     ·intro k hk1
      by_cases hkt : k < H.length
      ·have h0 : ((k : Int) < (H.length : Int)) = True := by simp; omega
       have gh := gH k hkt
       simp only [condK_bt, decide_true, e_skip, e_reg, e_drw, e_seq, e_cond, e_block, o_nil, o_cons, gd_none, putK_e, runK_e, vK_e, conK_e, callK_e, evh_v, evh_call, dX_e, dG_t, d_nil, d_cons, tlK_n, seqK_n, gam_e, gamK_p, pc_e, pcK_e, evp, bin, gt, gq, st, putf, X.get, gets, ap, clV, clL, clS, clo, ld, lda, ixs, tk, dr, lk, evq, gdl, Nat.reduceBEq, beq_self_eq_true, true_and, and_true, sts, h0, Int.toNat_natCast, ptR, Pt.row]
       generalize eh : H.getD k 0 = h at *
       have pa := hg a.toNat (by omega)
       have pm := hg m.toNat (by omega)
       have ph := hg h.toNat (by omega)
       refine ⟨by omega, ga, gm, gh, ptG L a.toNat, ptG L m.toNat, ptG L h.toNat, bd, (ptG L 0).E.length, rfl, ⟨⟨pa.2.1, pm.2.1, ph.2.1⟩, hl12.2.2, ⟨pa.2.2, pm.2.2, ph.2.2⟩, hb⟩, ?_⟩
       have lg := g3_len (L := L) (bd := bd) (a := a) (m := m) (H := H) k
       by_cases hf : fitB (ptG L a.toNat) (ptG L m.toNat) (ptG L h.toNat) bd (ptG L 0).E.length = true
       ·have e : Q ++ g3 L bd a m H (k + 1) = (Q ++ g3 L bd a m H k) ++ [thr L a m h] := by
         rw [List.append_assoc]; congr 1; subst eh; exact if_pos hf
        have lR : (Q ++ g3 L bd a m H k).length ≤ 4000 := by rw [List.length_append]; omega
        have hrow := thR_snoc (Q ++ g3 L bd a m H k) (thr L a m h)
        generalize Q ++ g3 L bd a m H k = R at *
        simp only [condK_bt, inr64, ↓reduceIte, e_reg, e_drw, o_nil, o_cons, gd_none, putK_e, runK_e, vK_e, appK2_or, appK_e, evh_v, evh_app, dX_e, dG_t, d_nil, d_cons, creK_e, tlK_s, evc_e, loopK_n, seqK_n, blockK_n, evp, bin, gt, gq, st, putf, X.get, getp, clo, clo.clos, ld, lda, ixs, sp, sp.spl, lay, ll, cs1, one, allOne, gb, sb, pb, ln, evq, gdl, crv, Bool.and_true, Nat.reduceAdd, beq_self_eq_true, true_and, hf, ptR, Pt.row]
        repeat' (first | omega | refine And.intro ?_ ?_)
        refine Nx.mk (k + 1) (by show k + 1 ≤ H.length; omega) (by show H.length - (k + 1) < H.length - k; omega) (Lw_re 0 [some 2] (Nat.zero_le _) (by simp [ln]) (by simp [ln]) rfl ?_ ?_)
        ·simp only [reL, reX, rn, List.getElem?_cons_zero, Nat.reduceSub, Nat.lt_irrefl, Nat.le_refl, and_false, or_true, inb, inb.inbs, ln, Bool.and_self, Nat.reduceLT, Nat.reduceAdd, and_self, Int.natCast_add, Int.natCast_one, implies_true]
        ·simp only [reH, reM, reN, gb, Nat.reduceLeDiff, ln, Nat.reduceLT, Nat.reduceAdd, true_and, and_true, and_self, e, List.length_append, List.length_cons, List.length_nil, Nat.zero_add]
         exact hrow
       ·have hf' : fitB (ptG L a.toNat) (ptG L m.toNat) (ptG L h.toNat) bd (ptG L 0).E.length = false := by simpa using hf
        have e : Q ++ g3 L bd a m H (k + 1) = Q ++ g3 L bd a m H k := by
         congr 1; subst eh; exact if_neg hf
        simp only [condK_bf, inr64, e_skip, e_reg, o_nil, o_cons, gd_none, putK_e, runK_e, vK_e, evh_v, loopK_n, seqK_n, blockK_n, evp, bin, gt, st, putf, X.get, true_and, hf']
        repeat' (first | omega | refine And.intro ?_ ?_)
        refine Nx.mk (k + 1) (by show k + 1 ≤ H.length; omega) (by show H.length - (k + 1) < H.length - k; omega) (Lw_re 0 [some 0] (Nat.zero_le _) (by simp [ln]) (by simp [ln]) rfl ?_ ?_)
        ·simp only [reL, reX, rn, List.getElem?_cons_zero, Nat.reduceSub, Nat.lt_irrefl, Nat.le_refl, and_false, or_true, inb, inb.inbs, ln, Bool.and_self, Nat.reduceLT, Nat.reduceAdd, and_self, Int.natCast_add, Int.natCast_one, implies_true]
        ·simp only [reH, reM, reN, gb, Nat.le_refl, ln, Nat.reduceLT, Nat.reduceAdd, and_self, implies_true, e]
      ·have h0 : ((k : Int) < (H.length : Int)) = False := by simp; omega
       have ek : k = H.length := by omega
       subst ek
       have e : Q ++ g3 L bd a m H H.length = P ++ g2 L bd a M H (j + 1) := by rw [← hQ, ← em, List.append_assoc]; rfl
       simp only [condK_bf, decide_false, inr64, e_reg, e_seq, e_cond, e_exit, o_nil, o_cons, gd_none, putK_e, runK_e, vK_e, evh_v, loopK_n, loopK_x, seqK_n, seqK_x, exitK_t, blockK_x, blockK_n, evp, bin, gt, st, putf, X.get, beq_self_eq_true, true_and, sts, h0]
       refine ⟨by omega, Nx.mk (j + 1) (by show j + 1 ≤ M.length; omega) (by show M.length - (j + 1) < M.length - j; omega) (Lw_re 0 [some 0] (Nat.zero_le _) (by simp [ln]) (by simp [ln]) rfl ?_ ?_)⟩
       ·simp only [reL, reX, rn, List.getElem?_cons_zero, Nat.reduceSub, Nat.lt_irrefl, Nat.le_refl, and_false, or_true, inb, inb.inbs, ln, Bool.and_self, Nat.reduceLT, Nat.reduceAdd, and_self, Int.natCast_add, Int.natCast_one, implies_true]
       ·simp only [reH, reM, reN, gb, Nat.le_refl, ln, Nat.reduceLT, Nat.reduceAdd, and_self, implies_true, e]
    ·have m0 : ((j : Int) < (M.length : Int)) = False := by simp; omega
     have ej : j = M.length := by omega
     subst ej
     have e : P ++ g2 L bd a M H M.length = g1 L bd A M H (i + 1) := by rw [← hP, ← ea]; rfl
     simp only [condK_bf, decide_false, inr64, e_reg, e_seq, e_cond, e_exit, o_nil, o_cons, gd_none, putK_e, runK_e, vK_e, evh_v, loopK_n, loopK_x, seqK_n, seqK_x, exitK_t, blockK_x, blockK_n, evp, bin, gt, st, putf, X.get, beq_self_eq_true, true_and, sts, m0]
     refine ⟨by omega, Nx.mk (i + 1) (by show i + 1 ≤ A.length; omega) (by show A.length - (i + 1) < A.length - i; omega) (Lw_re 0 [some 0] (Nat.zero_le _) (by simp [ln]) (by simp [ln]) rfl ?_ ?_)⟩
     ·simp only [reL, reX, rn, List.getElem?_cons_zero, Nat.reduceSub, Nat.lt_irrefl, Nat.le_refl, and_false, or_true, inb, inb.inbs, ln, Bool.and_self, Nat.reduceLT, Nat.reduceAdd, and_self, Int.natCast_add, Int.natCast_one, implies_true]
     ·simp only [reH, reM, reN, gb, Nat.le_refl, ln, Nat.reduceLT, Nat.reduceAdd, and_self, implies_true, e]
  ·have n0 : ((i : Int) < (A.length : Int)) = False := by simp; omega
   have ei : i = A.length := by omega
   subst ei
   simp only [condK_bf, decide_false, e_reg, e_seq, e_cond, e_exit, e_ret, o_nil, o_cons, gd_none, putK_e, runK_e, vK_e, evh_v, loopK_x, seqK_n, seqK_x, exitK_t, blockK_x, ends_r, endK1_e, endK2_e, evp, bin, gt, st, putf, X.get, rdR, tupled, clV, gb, sb, beq_self_eq_true, true_and, sts, n0]
   exact res hK (by simp [leR])
end Go.Proofs.Ytjagiieconpgbaa
end
section
namespace Go.Proofs.Ytjagiieconpgbaa
open Go Go.Vg
set_option linter.unusedSimpArgs false
set_option linter.unusedVariables false
set_option maxRecDepth 10000
def s80 : SC :=
 (.seq (.reg [⟨(some 4), none, .box 119 (.t 1)⟩,
  ⟨(some 6), none, .new 119 [(.int .i64 (0)), (.int .i64 (0)), (.int .i64 (0)), (.int .i64 (0))]⟩])
 (.seq (.seq (.reg [⟨(some 9), none, .v (.mov (.t 2))⟩,
  ⟨(some 10), none, .v (.len (.t 9))⟩,
  ⟨(some 11), none, .v (.mov (.c (.int .i64 (0))))⟩])
 (.block 0 (.loop
  (.seq (.reg [⟨(some 12), none, .v (.bin .lss (.t 11) (.t 10))⟩])
  (.seq (.cond (.t 12)
   .skip
   (.exit 0))
  (.seq (.block 1 (.seq (.reg [⟨(some 13), none, .v (.ixa (.t 9) (.t 11) 4)⟩,
   ⟨(some 14), none, .v (.load (.t 13) (some 4))⟩,
   ⟨(some 8), none, .new 119 [(.int .i64 (0)), (.int .i64 (0)), (.int .i64 (0)), (.int .i64 (0))]⟩,
   ⟨none, none, .store 4 (.t 8) (.t 14)⟩])
  (.seq (.reg [⟨(some 15), none, .v (.mov (.t 0))⟩,
   ⟨(some 16), none, .v (.load (.t 8) (some 4))⟩,
   ⟨(some 17), none, .v (.load (.t 4) (some 4))⟩,
   ⟨(some 18), none, .call (.t 15) [(.t 16), (.t 17)]⟩])
  (.cond (.t 18)
   (.reg [⟨(some 19), none, .v (.load (.t 8) (some 4))⟩,
    ⟨none, none, .store 4 (.t 4) (.t 19)⟩])
   .skip))))
  (.reg [⟨(some 20), none, .v (.bin .add (.t 11) (.c (.int .i64 (1))))⟩,
   ⟨(some 11), none, .v (.mov (.t 20))⟩])))))))
 (.seq (.reg [⟨(some 21), none, .v (.load (.t 4) (some 4))⟩,
  ⟨none, none, .store 4 (.t 6) (.t 21)⟩])
 .ret)))
def r80 : List RV := [.c 6 (some 4)]
theorem k80 : (Try.f80.body.bind (cC Try.prog), cR Try.prog Try.f80.results.toList, Try.f80.ntmps) = (some s80, some r80, 22) := by kernel_rfl
theorem q80 : Known Try.prog 80 := ⟨_, Try.func80, by decide, by simp [Try.f80]⟩
def F81 : FC := fun args => match args with
 | [.agg [.int .i64 a, .int .i64 m, .int .i64 h, .int .i64 p], .agg [.int .i64 a', .int .i64 m', .int .i64 h', .int .i64 p']] => some (True, .bool (decide (p < p')))
 | _ => none
theorem p81 : PureOk Try.prog 81 (fcC F81) := by
 refine pure_of (T := []) trivial Try.func81 k81 ?_
 intro args K hC
 unfold fcC F81 at hC
 split at hC <;> first | (exact hC.elim) | skip
 rename_i h
 split at h <;> first | (cases h; done) | skip
 cases h
 simp only [e_reg, e_seq, e_ret, o_nil, o_cons, gd_none, putK_e, runK_e, vK_e, boxK_e, evh_v, evh_box, seqK_n, ends_r, endK1_e, endK2_e, evp, bin, gt, gq, st, putf, X.get, mkfr, rep, rdR, tupled, clV, clS, clo, ld, lda, cs1, gb, pb, ln, undef, Nat.reduceSub, Nat.reduceAdd, true_and, s81, r81]
 exact res hC.2 (by simp [leR])
def bs (x : Th) (T : List Th) : Nat → Th
 | 0 => x
 | i + 1 => if (thG T i).p < (bs x T i).p then thG T i else bs x T i
def C80 : PC := fun args K => ∃ (x : Th) (T : List Th) (f : Nat → List SV), args = [.fn 81 [], .agg x.row, .rd 4 T.length f] ∧ (∀ i, i < T.length → f i = thR T i) ∧ T.length ≤ 10000 ∧ K (.agg (bs x T T.length).row)
theorem p80 : PureOk Try.prog 80 C80 := by
 refine pure_of (T := [(81, .fc F81)]) ⟨⟨p81, q81⟩, trivial⟩ Try.func80 k80 ?_
 rintro args K ⟨x, T, f, rfl, hf, hl, hK⟩
 simp only [e_reg, e_seq, e_block, e_loop, o_nil, o_cons, gd_none, putK_e, runK_e, vK_e, boxK_e, evh_v, evh_new, evh_box, seqK_n, evp, gt, st, putf, X.get, mkfr, rep, lens, cs1, pb, ln, undef, Nat.reduceSub, Nat.reduceAdd, true_and, s80, r80, Th.row]
 refine loop_at2 (G := Nat) (fun i => [(11, .int .i64 i)]) (fun i => [.box 119 (bs x T i).row, .box 119 [.int .i64 0, .int .i64 0, .int .i64 0, .int .i64 0]]) (fun i => i ≤ T.length) (fun i => T.length - i) 0 (Nat.zero_le _) ?_
 (intro fr1 hf1; simp only [forget, dstC, dstO, st] at hf1; subst hf1)
 refine ⟨?_, ?_⟩
 ·refine Lw_re 2 [] (Nat.zero_le _) (by simp [ln]) (by simp [ln]) rfl ?_ ?_
  ·simp only [reL, reX, inb, inb.inbs, ln, sts, st, Bool.and_self, Nat.reduceLT, Nat.reduceAdd, decide_true, and_self, Int.natCast_zero, implies_true]
  ·simp only [reL, reX, reH, reB, reN, inb, ln, Nat.reduceAdd, and_self, bs, Th.row]
 ·intro i hi1
  by_cases hlt : i < T.length
  ·have n0 : ((i : Int) < (T.length : Int)) = True := by simp; omega
   have ef := hf i hlt
   by_cases hp : (thG T i).p < (bs x T i).p
   ·have u := eq_true hp
    have e : bs x T (i + 1) = thG T i := if_pos hp
    simp only [condK_bt, decide_true, inr64, e_skip, e_reg, and_self, e_seq, e_cond, e_block, o_nil, o_cons, gd_none, putK_e, runK_e, vK_e, storeK3_e, storeK2_e, storeK_e, conK_e, callK_e, evh_v, evh_new, evh_store, evh_call, loopK_n, seqK_n, blockK_n, gam_e, gamK_f, pc_e, pcK_e, fcC_e, fcK_e, evp, bin, gt, st, putf, X.get, gets, ap, clV, clL, clS, clo, ld, lda, ixs, tk, dr, sp, sp.spl, ll, cs1, one, allOne, gb, sb, pb, ln, lk, Bool.and_true, Nat.reduceAdd, beq_self_eq_true, true_and, and_true, sts, n0, Int.toNat_natCast, ef, thR, Th.row, F81, u]
    repeat' (first | omega | refine And.intro ?_ ?_)
    refine Nx.mk (i + 1) (by show i + 1 ≤ T.length; omega) (by show T.length - (i + 1) < T.length - i; omega) (Lw_re 2 [] (Nat.zero_le _) (by simp [ln]) (by simp [ln]) rfl ?_ ?_)
    ·simp only [reL, reX, inb, inb.inbs, Bool.and_self, Nat.reduceLT, decide_true, and_self, Int.natCast_add, Int.natCast_one, implies_true]
    ·simp only [reL, reX, reH, reB, reN, inb, and_self, e]
   ·have u := eq_false hp
    have e : bs x T (i + 1) = bs x T i := if_neg hp
    simp only [condK_bt, condK_bf, decide_true, decide_false, inr64, e_skip, e_reg, and_self, e_seq, e_cond, e_block, o_nil, o_cons, gd_none, putK_e, runK_e, vK_e, storeK3_e, storeK2_e, storeK_e, conK_e, callK_e, evh_v, evh_new, evh_store, evh_call, loopK_n, seqK_n, blockK_n, gam_e, gamK_f, pc_e, pcK_e, fcC_e, fcK_e, evp, bin, gt, st, putf, X.get, gets, ap, clV, clL, clS, clo, ld, lda, ixs, tk, dr, sp, sp.spl, ll, cs1, one, allOne, gb, sb, pb, ln, lk, Bool.and_true, Nat.reduceAdd, beq_self_eq_true, true_and, and_true, sts, n0, Int.toNat_natCast, ef, thR, Th.row, F81, u]
    repeat' (first | omega | refine And.intro ?_ ?_)
    refine Nx.mk (i + 1) (by show i + 1 ≤ T.length; omega) (by show T.length - (i + 1) < T.length - i; omega) (Lw_re 2 [] (Nat.zero_le _) (by simp [ln]) (by simp [ln]) rfl ?_ ?_)
    ·simp only [reL, reX, inb, inb.inbs, Bool.and_self, Nat.reduceLT, decide_true, and_self, Int.natCast_add, Int.natCast_one, implies_true]
    ·simp only [reL, reX, reH, reB, reN, inb, and_self, e]
  ·have n0 : ((i : Int) < (T.length : Int)) = False := by simp; omega
   have ei : i = T.length := by omega
   subst ei
   simp only [condK_bf, decide_false, e_reg, and_self, e_seq, e_cond, e_exit, e_ret, o_nil, o_cons, gd_none, putK_e, runK_e, vK_e, storeK3_e, storeK2_e, storeK_e, evh_v, evh_store, loopK_x, seqK_n, seqK_x, exitK_t, blockK_x, ends_r, endK1_e, endK2_e, evp, bin, gt, st, putf, X.get, rdR, tupled, clV, clL, clS, clo, ld, lda, tk, dr, sp, sp.spl, ll, cs1, one, allOne, gb, sb, Bool.and_true, Nat.reduceAdd, beq_self_eq_true, true_and, sts, n0, Th.row]
   exact res hK (by simp [leR, leR.leRs, Th.row])
end Go.Proofs.Ytjagiieconpgbaa
end
section
namespace Go.Proofs.Ytjagiieconpgbaa
open Go Go.Vg
set_option linter.unusedSimpArgs false
set_option linter.unusedVariables false
set_option maxRecDepth 10000
noncomputable def s30 : SC :=
 (.seq (.reg [⟨(some 4), none, .v (.mov (.c (.lit (.slice none 0 0))))⟩,
  ⟨(some 5), none, .v (.mov (.c (.int .i64 (0))))⟩,
  ⟨(some 6), none, .v (.mov (.c (.int .i64 (0))))⟩])
 (.seq (.seq (.reg [⟨(some 9), none, .v (.mov (.t 0))⟩,
  ⟨(some 10), none, .call (.c (.fn 77 [])) [(.t 9)]⟩,
  ⟨(some 11), none, .v (.not (.t 10))⟩,
  ⟨(some 12), none, .v (.mov (.t 11))⟩,
  ⟨(some 13), (some (12, false)), .v (.mov (.t 1))⟩,
  ⟨(some 14), (some (12, false)), .call (.c (.fn 78 [])) [(.t 13), (.c (.int .i64 (0))), (.c (.int .i64 (5000)))]⟩,
  ⟨(some 15), (some (12, false)), .v (.not (.t 14))⟩,
  ⟨(some 16), none, .v (.pick (.t 12) (.c (.lit (.bool true))) (.t 15))⟩])
 (.cond (.t 16)
  (.seq (.reg [⟨(some 4), none, .v (.mov (.c (.lit (.slice none 0 0))))⟩,
   ⟨(some 5), none, .v (.mov (.c (.int .i64 (0))))⟩,
   ⟨(some 6), none, .v (.mov (.c (.int .i64 (55))))⟩])
  .ret)
  .skip))
 (.seq (.reg [⟨(some 17), none, .v (.mov (.t 0))⟩,
  ⟨(some 18), none, .v (.mov (.t 1))⟩,
  ⟨(some 19), none, .call (.c (.fn 79 [])) [(.t 17), (.t 18)]⟩,
  ⟨(some 7), none, .v (.mov (.t 19))⟩])
 (.seq (.seq (.reg [⟨(some 20), none, .v (.mov (.t 7))⟩,
  ⟨(some 21), none, .v (.len (.t 20))⟩,
  ⟨(some 22), none, .v (.bin .eql (.t 21) (.c (.int .i64 (0))))⟩])
 (.cond (.t 22)
  (.seq (.reg [⟨(some 4), none, .v (.mov (.c (.lit (.slice none 0 0))))⟩,
   ⟨(some 5), none, .v (.mov (.c (.int .i64 (0))))⟩,
   ⟨(some 6), none, .v (.mov (.c (.int .i64 (4))))⟩])
  .ret)
  .skip))
 (.seq (.shut [7, 23, 24, 26, 25, 27, 8, 28]
  (.drw [(0, ⟨(some 23), none, .v (.mov (.t 7))⟩, false),
   (1, ⟨(some 24), none, .v (.ixa (.t 23) (.c (.int .i64 (0))) 4)⟩, false),
   (2, ⟨(some 25), none, .v (.load (.t 24) (some 4))⟩, false),
   (3, ⟨(some 26), none, .v (.mov (.t 7))⟩, false),
   (4, ⟨(some 27), none, .slc (.t 26) (some (.c (.int .i64 (1)))) none none 4⟩, false),
   (5, ⟨(some 28), none, .call (.c (.fn 80 [])) [(.c (.fn 81 [])), (.t 25), (.t 27)]⟩, false)]
   (some ⟨(some 8), none, .new 119 [(.int .i64 (0)), (.int .i64 (0)), (.int .i64 (0)), (.int .i64 (0))]⟩)
   [⟨none, none, .store 4 (.t 8) (.t 28)⟩]))
 (.seq (.sem (rq Try.f30 7))
 .ret))))))
def r30 : List RV := [.t 4, .t 5, .t 6]
theorem k30 : (Try.f30.body.bind (cC Try.prog), cR Try.prog Try.f30.results.toList, Try.f30.ntmps) = (some s30, some r30, 33) := by kernel_rfl
theorem q30 : Known Try.prog 30 := ⟨_, Try.func30, by decide, by simp [Try.f30]⟩
def rowT : List SV → Th
 | [.int .i64 a, .int .i64 m, .int .i64 h, .int .i64 p] => ⟨a, m, h, p⟩
 | _ => ⟨0, 0, 0, 0⟩
def TofN (n : Nat) (f : Nat → List SV) : List Th := (List.range n).map fun i => rowT (f i)
theorem TofN_len {n : Nat} {f : Nat → List SV} : (TofN n f).length = n := by simp [TofN]
theorem TofN_get {n i : Nat} {f : Nat → List SV} (h : i < n) : thG (TofN n f) i = rowT (f i) := by simp [thG, TofN, List.getD, h]
theorem TofN_rows {T : List Th} {f : Nat → List SV} (h : ∀ i, i < T.length → f i = thR T i) : TofN T.length f = T := by
 refine List.ext_getElem (by simp [TofN]) fun i h1 h2 => ?_
 have e := TofN_get (n := T.length) (f := f) h2
 rw [h i h2] at e
 have e1 : thG (TofN T.length f) i = (TofN T.length f)[i] := by simp [thG, List.getD, h1]
 have e2 : rowT (thR T i) = T[i] := by simp [thR, thG, List.getD, h2, rowT, Th.row]
 rw [← e1, e, e2]
def F80 : FC := fun args => match args with
 | [.fn 81 [], .agg [.int .i64 a, .int .i64 m, .int .i64 h, .int .i64 p], .rd 4 n f] => some (n ≤ 10000 ∧ ∀ i, i < n → f i = (rowT (f i)).row, .agg (bs ⟨a, m, h, p⟩ (TofN n f) n).row)
 | _ => none
theorem p80' : PureOk Try.prog 80 (fcC F80) := by
 refine pweak p80 fun args K hC => ?_
 unfold fcC F80 at hC
 split at hC <;> first | (exact hC.elim) | skip
 rename_i h
 split at h <;> first | (cases h; done) | skip
 cases h
 rename_i a m h p n f
 obtain ⟨⟨hn, hf⟩, hK⟩ := hC
 exact ⟨⟨a, m, h, p⟩, TofN n f, f, by rw [TofN_len]; rfl, fun i hi => by rw [TofN_len] at hi; rw [hf i hi, thR, TofN_get hi], by rw [TofN_len]; exact hn, by rw [TofN_len]; exact hK⟩
def nilS : SV := .lit (.slice none 0 0)
def asmT : List Th → SV
 | [] => .tup [nilS, .int .i64 0, .int .i64 4]
 | x :: t => .tup [.ints .i64 [(bs x t t.length).a, (bs x t t.length).m, (bs x t t.length).h], .int .i64 (bs x t t.length).p, .int .i64 0]
def asm (L : List Pt) (bd : Int) : SV := if stk L = true ∧ (0 ≤ bd ∧ bd ≤ 5000) then asmT (fitL L bd) else .tup [nilS, .int .i64 0, .int .i64 55]
theorem fitL_len {L : List Pt} {bd : Int} (hl : L.length ≤ 12) : (fitL L bd).length ≤ 1728 := by
 have lA := amg_len (q := 0) (L := L) L.length
 have lM := amg_len (q := 1) (L := L) L.length
 have lH := amg_len (q := 2) (L := L) L.length
 have := g1_len (L := L) (bd := bd) (A := amg 0 L L.length) (M := amg 1 L L.length) (H := amg 2 L L.length) (by omega) (by omega) (amg 0 L L.length).length
 unfold fitL; omega
def frx (x b : Th) (bd : Int) (l1 n' m' : Nat) (f1 f2 f3 : Nat → List SV) : List SV := [SV.rd 3 l1 f3, SV.int IntKind.i64 bd, SV.lit (Value.tuple #[]), SV.lit (Value.tuple #[]),
     SV.lit (Value.slice none 0 0), SV.int IntKind.i64 0, SV.int IntKind.i64 0,
     SV.rd 4 n' f2, SV.ptr 0 0, SV.rd 3 l1 f3, SV.bool true, SV.bool false,
     SV.lit (Value.bool false), SV.int IntKind.i64 bd, SV.bool true, SV.bool false, SV.bool false,
     SV.rd 3 l1 f3, SV.int IntKind.i64 bd, SV.rd 4 n' f2,
     SV.rd 4 n' f2, SV.int IntKind.i64 n', SV.bool false,
     SV.rd 4 n' f2,
     SV.rp [SV.int IntKind.i64 x.a, SV.int IntKind.i64 x.m, SV.int IntKind.i64 x.h, SV.int IntKind.i64 x.p] 0,
     SV.agg [SV.int IntKind.i64 x.a, SV.int IntKind.i64 x.m, SV.int IntKind.i64 x.h, SV.int IntKind.i64 x.p],
     SV.rd 4 n' f2, SV.rd 4 m' f1,
     SV.agg [SV.int IntKind.i64 b.a, SV.int IntKind.i64 b.m, SV.int IntKind.i64 b.h, SV.int IntKind.i64 b.p],
     SV.lit (Value.tuple #[]), SV.lit (Value.tuple #[]), SV.lit (Value.tuple #[]), SV.lit (Value.tuple #[])]
def D30 : List Drp := [⟨[], 0, 0,
   [(⟨some 29, none, Op2.o (Op1.v (VOp.off (X.t 8) 0))⟩, Kd.val 0 []),
    (⟨some 30, none, Op2.e1 (E1.sla 3 1) (X.t 29)⟩, Kd.val 0 []),
    (⟨some 31, none, Op2.o (Op1.v (VOp.off (X.t 8) 3))⟩, Kd.val 0 []),
    (⟨some 32, none, Op2.o (Op1.v (VOp.load (X.t 31) none))⟩, Kd.val 0 []),
    (⟨some 4, none, Op2.o (Op1.v (VOp.mov (X.t 30)))⟩, Kd.val 0 [])],
  [],
   [⟨some 5, none, Op2.o (Op1.v (VOp.mov (X.t 32)))⟩,
    ⟨some 6, none, Op2.o (Op1.v (VOp.mov (X.c (SV.int IntKind.i64 0))))⟩],
  none⟩]
theorem d30 : rgnD Try.prog (rq Try.f30 7) = some D30 := by kernel_rfl
theorem w30 (x b : Th) (bd : Int) (l1 n' m' : Nat) (f1 f2 f3 : Nat → List SV) : (drwW (frx x b bd l1 n' m' f1 f2 f3) (HT.of [.box 119 [.int .i64 b.a, .int .i64 b.m, .int .i64 b.h, .int .i64 b.p]] .nil) D30).map (fun r => (r.1, r.2.toL r.2.n)) = some (puts (frx x b bd l1 n' m' f1 f2 f3) [(4, .ints .i64 [b.a, b.m, b.h]), (5, .int .i64 b.p), (6, .int .i64 0), (29, .ptr 0 0), (30, .ints .i64 [b.a, b.m, b.h]), (31, .ptr 0 3), (32, .int .i64 b.p)], [.fbox 119 [.int .i64 b.a, .int .i64 b.m, .int .i64 b.h, .int .i64 b.p]]) := by
 simp only [D30, drwW, drwA, drwR, blK, shB, resv, hdB, gdl, nthH, fill, frcV_eq, putB_eq, putf, opsB, evX]
 kernel_rfl
def C30 : PC := fun args K => ∃ (L : List Pt) (bd : Int), args = [.rd 3 L.length (ptR L), .int .i64 bd] ∧ K (asm L bd)
theorem p30 : PureOk Try.prog 30 C30 := by
 refine pure_of (T := [(77, .pc C77), (78, .fc Fin), (79, .pc C79), (80, .fc F80)]) ⟨⟨p77, q77⟩, ⟨p78, q78⟩, ⟨p79, q79⟩, ⟨p80', q80⟩, trivial⟩ Try.func30 k30 ?_
 rintro args K ⟨L, bd, rfl, hK⟩
 simp only [e_reg, e_seq, o_nil, o_cons, gd_none, putK_e, runK_e, vK_e, conK_e, callK_e, evh_v, evh_call, seqK_n, gam_e, gamK_p, pc_e, pcK_e, evp, gt, st, putf, X.get, gets, ap, mkfr, rep, clV, clL, clS, clo, lk, undef, Nat.reduceSub, beq_self_eq_true, true_and, s30, r30]
 refine ⟨L, rfl, ?_⟩
 by_cases hs : stk L = true
 ·by_cases hb : 0 ≤ bd ∧ bd ≤ 5000
  ·have u := eq_true hb
   have ea : asm L bd = asmT (fitL L bd) := if_pos ⟨hs, hb⟩
   rw [ea] at hK
   have hl12 : L.length ≤ 12 := by
    simp only [stk, Bool.and_eq_true, decide_eq_true_eq] at hs; omega
   have lT := fitL_len (bd := bd) hl12
   simp only [gdK_bff, condK_bf, decide_true, e_skip, e_reg, e_seq, e_cond, o_nil, o_cons, gd_none, gd_some, gdK_ff, putK_e, runK_e, vK_e, conK_e, callK_e, evh_v, evh_call, seqK_n, gam_e, gamK_f, gamK_p, pc_e, pcK_e, fcC_e, fcK_e, evp, gt, st, putf, X.get, gets, ap, clV, clL, clS, clo, lens, gb, lk, Bool.not_true, Nat.reduceBEq, beq_self_eq_true, true_and, hs, Fin, u]
   refine ⟨L, bd, rfl, hs, hb, ?_⟩
   generalize fitL L bd = T at *
   rcases T with _ | ⟨x, t⟩
   ·simp only [condK_bt, decide_true, e_reg, e_seq, e_cond, e_ret, o_nil, o_cons, gd_none, putK_e, runK_e, vK_e, evh_v, seqK_n, seqK_r, ends_r, endK1_e, endK2_e, evp, bin, gt, st, putf, X.get, rdR, tupled, clV, clL, clS, clo, true_and, List.length_nil, Int.natCast_zero]
    exact res hK (by simp [leR, leR.leRs, asmT, nilS])
   ·have z0 : (((x :: t).length : Int) = 0) = False := by simp; omega
    have e0 : thR (x :: t) 0 = [.int .i64 x.a, .int .i64 x.m, .int .i64 x.h, .int .i64 x.p] := rfl
    have n1 : (((x :: t).length : Int) - 1).toNat = t.length := by simp
    have hr : ∀ i, i < t.length → thR (x :: t) (Int.toNat 1 + i) = thR t i := fun i hi => by
     show thR (x :: t) (1 + i) = _
     rw [Nat.add_comm]; rfl
    have hT : TofN t.length (fun i => thR (x :: t) (Int.toNat 1 + i)) = t := TofN_rows hr
    have ex : (⟨x.a, x.m, x.h, x.p⟩ : Th) = x := rfl
    simp only [condK_bf, decide_false, e_skip, and_self, e_drw, e_seq, e_cond, e_shut, shutH, shut1, slQ, o_nil, o_cons, gd_none, putK_e, runK_e, vK_e, storeK3_e, storeK2_e, storeK_e, evh_v, evh_store, bnd, slv, od_none, od_some, dX_e, dG_t, d_nil, d_cons, creK_e, tlK_s, evc_e, seqK_n, gamq_e, gamqK_f, evp, bin, gt, st, putf, X.get, gets, ap, clo, clo.clos, ld, lda, ixs, tk, dr, sp, sp.spl, ll, cs1, one, allOne, gb, sb, pb, ln, lk, evq, gdl, crv, Bool.and_true, Nat.reduceAdd, Nat.reduceBEq, beq_self_eq_true, true_and, z0, Int.toNat_zero, e0, F80, n1, hT, ex, Th.row]
    simp only [List.length_cons] at lT
    refine ⟨⟨by omega, by simp only [List.length_cons]; omega⟩, ⟨by omega, by simp only [List.length_cons]; omega, Int.le_refl _⟩, ⟨by omega, fun i hi => by rw [hr i hi]; rfl⟩, ?_⟩
    simp only [asmT] at hK
    generalize bs x t t.length = b at *
    rw [e_sem]
    refine sem_rgnP [(4, .ints .i64 [b.a, b.m, b.h]), (5, .int .i64 b.p), (6, .int .i64 0), (29, .ptr 0 0), (30, .ints .i64 [b.a, b.m, b.h]), (31, .ptr 0 3), (32, .int .i64 b.p)] [.fbox 119 [.int .i64 b.a, .int .i64 b.m, .int .i64 b.h, .int .i64 b.p]] rfl rfl (rgnW_of d30 (w30 x b bd _ _ _ _ _ _)) ?_
    simp only [e_ret, seqK_n, ends_r, endK1_e, endK2_e, gt, st, rdR, tupled, clV, clL, clS, clo, puts_n, puts_c]
    exact res hK (by simp [leR, leR.leRs])
  ·have u := eq_false hb
   have ea : asm L bd = .tup [nilS, .int .i64 0, .int .i64 55] := if_neg fun h => hb h.2
   rw [ea] at hK
   simp only [gdK_bff, condK_bt, decide_false, e_reg, e_seq, e_cond, e_ret, o_nil, o_cons, gd_none, gd_some, gdK_ff, putK_e, runK_e, vK_e, conK_e, callK_e, evh_v, evh_call, seqK_n, seqK_r, ends_r, endK1_e, endK2_e, gam_e, gamK_f, pc_e, pcK_e, fcC_e, fcK_e, evp, gt, st, putf, X.get, gets, ap, rdR, tupled, clV, clL, clS, clo, lk, Bool.not_true, Bool.not_false, Nat.reduceBEq, beq_self_eq_true, true_and, hs, Fin, u]
   exact res hK (by simp [leR, leR.leRs, nilS])
 ·have hs' : stk L = false := by simpa using hs
  have ea : asm L bd = .tup [nilS, .int .i64 0, .int .i64 55] := if_neg fun h => hs h.1
  rw [ea] at hK
  simp only [gdK_bft, e_reg, e_seq, e_cond, e_ret, o_nil, o_cons, gd_none, gd_some, gdK_tf, putK_e, runK_e, skipK_e, vK_e, evh_v, seqK_n, seqK_r, condK_t, ends_r, endK1_e, endK2_e, evp, gt, st, putf, X.get, rdR, tupled, clV, clL, clS, clo, undef, Bool.not_false, true_and, hs']
  exact res hK (by simp [leR, leR.leRs, nilS])
end Go.Proofs.Ytjagiieconpgbaa
end
