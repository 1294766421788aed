import Derived.Test.YtgdihdiadlmjiaaVgLM1
import Derived.Test.YtgdihdiadlmjiaaVgY12
namespace Go.Proofs.Ytgdihdiadlmjiaa
open Go Go.Vg
set_option linter.unusedSimpArgs false
set_option linter.unusedVariables false
set_option maxRecDepth 10000
noncomputable def s78 : SC :=
 (.seq (.reg [⟨(some 2), none, .v (.mov (.c (.lit (.slice none 0 0))))⟩])
 (.seq (.reg [⟨(some 3), none, .v (.mov (.c (.lit (.slice none 0 0))))⟩])
 (.seq (.seq (.reg [⟨(some 8), none, .call (.c (.fn 87 [])) []⟩,
  ⟨(some 9), none, .v (.mov (.c (.int .i64 (0))))⟩])
 (.block 0 (.loop
  (.seq (.reg [⟨(some 10), none, .v (.bin .lss (.t 9) (.c (.int .i64 (2))))⟩])
  (.seq (.cond (.t 10)
   .skip
   (.exit 0))
  (.seq (.block 1 (.seq (.reg [⟨(some 11), none, .v (.ixv (.t 8) (.t 9) 2 2 (some 2))⟩,
   ⟨(some 5), none, .new 133 [(.lit (.bool false)), (.lit .nilFunc)]⟩,
   ⟨none, none, .store 2 (.t 5) (.t 11)⟩])
  (.seq (.sem (rq Try.f78 5))
  (.seq (.reg [⟨(some 19), none, .v (.mov (.t 7))⟩])
  (.cond (.t 19)
   (.reg [⟨(some 20), none, .v (.mov (.t 3))⟩,
    ⟨(some 21), none, .v (.off (.t 5) 1)⟩,
    ⟨(some 22), none, .v (.load (.t 21) none)⟩,
    ⟨(some 23), none, .v (.load (.t 6) (some 2))⟩,
    ⟨(some 24), none, .call (.t 22) [(.t 23)]⟩,
    ⟨(some 25), none, .bsl 118 1 [(.lit .nilIface)] [(0, 1, (.t 24))]⟩,
    ⟨(some 26), none, .app 118 1 16 (.t 20) (.t 25)⟩,
    ⟨(some 3), none, .v (.mov (.t 26))⟩])
   .skip)))))
  (.reg [⟨(some 27), none, .v (.bin .add (.t 9) (.c (.int .i64 (1))))⟩,
   ⟨(some 9), none, .v (.mov (.t 27))⟩])))))))
 (.seq (.reg [⟨(some 28), none, .v (.mov (.t 3))⟩,
  ⟨(some 2), none, .v (.mov (.t 28))⟩])
 .ret))))
def r78 : List RV := [.t 2]
theorem k78 : (Try.f78.body.bind (cC Try.prog), cR Try.prog Try.f78.results.toList, Try.f78.ntmps) = (some s78, some r78, 29) := by kernel_rfl
theorem q78 : Known Try.prog 78 := ⟨_, Try.func78, by decide, by simp [Try.f78]⟩
def Mp.ev : Mp → List (Nat × Int × Int)
 | .e0 => []
 | .d1 a b => [(145, a, b)]
 | .t1 a b => [(146, a, b)]
 | .dt a b c e => [(145, a, b), (146, c, e)]
 | .td a b c e => [(145, a, b), (146, c, e)]
def evR (L : List (Nat × Int × Int)) (i : Nat) : List SV := [.ifc (L.getD i (0, 0, 0)).1 (.agg [.int .i64 (L.getD i (0, 0, 0)).2.1, .int .i64 (L.getD i (0, 0, 0)).2.2])]
def Mp.evN (M : Mp) (n : Nat) : List (Nat × Int × Int) := M.ev.filter fun x => decide (x.1 < 145 + n)
def C78 : PC := fun args K => ∃ (M : Mp), args = [M.sv] ∧ K (.rd 1 M.ev.length (evR M.ev))
set_option maxHeartbeats 4000000 in
theorem p78 : PureOk Try.prog 78 C78 := by
 refine pure_of (T := [(87, .fc F87), (96, .fc (Fevi 145)), (97, .fc (Fevi 146))]) ⟨⟨p87, q87⟩, ⟨p96, q96⟩, ⟨p97, q97⟩, trivial⟩ Try.func78 k78 ?_
 rintro args K ⟨M, rfl, hK⟩
 simp only [e_reg, e_seq, e_block, e_loop, o_nil, o_cons, gd_none, putK_e, runK_e, vK_e, conK_e, callK_e, evh_v, evh_call, seqK_n, gam_e, gamK_f, pc_e, pcK_e, fcC_e, fcK_e, evp, st, putf, X.get, gets, ap, mkfr, rep, clL, lk, undef, Nat.reduceSub, beq_self_eq_true, true_and, s78, r78, F87]
 refine loop_at2 (G := Nat) (fun i => [(9, .int .i64 i), (3, .own 0), (6, .any), (7, .any), (12, .any), (13, .any), (14, .any), (15, .any), (16, .any), (17, .any), (18, .any)]) (fun i => [.orw 118 1 (M.evN i).length (evR (M.evN i))]) (fun i => i ≤ 2) (fun i => 2 - i) 0 (Nat.zero_le _) ?_
 (intro fr1 hf1; simp only [forget, dstC, dstO, st] at hf1; subst hf1)
 refine ⟨?_, ?_⟩
 ·have e0 : (M.evN 0).length = 0 := by cases M <;> rfl
  refine Lw_re 0 [none] (Nat.zero_le _) (by simp [ln]) (by simp [ln]) rfl ?_ ?_
  ·simp only [reL, reX, rn, List.getElem?_cons_zero, Nat.reduceSub, Nat.lt_irrefl, Nat.le_refl, reduceCtorEq, or_true, inb, inb.inbs, ln, sts, st, Bool.and_self, Nat.reduceLT, Nat.reduceAdd, and_self, Int.natCast_zero, Mp.sv]
  ·simp only [reH, reN, newB, and_self, e0]
   try (intro i hi; omega)
 ·intro i hi1
  rcases (show i = 0 ∨ i = 1 ∨ i = 2 by omega) with rfl | rfl | rfl
  ·have n0 : (((0 : Nat) : Int) < 2) = True := eq_true (by omega)
   have cS : ((0 : Nat) : Int) + 1 = ((1 : Nat) : Int) := rfl
   cases M
   case e0 =>
    have hl : (Mp.e0.evN 0).length = 0 := rfl
    simp only [condK_bt, decide_true, e_skip, e_reg, and_self, e_seq, e_cond, e_block, o_nil, o_cons, gd_none, putK_e, runK_e, vK_e, storeK3_e, storeK2_e, storeK_e, evh_v, evh_new, evh_store, seqK_n, evp, bin, gt, st, putf, X.get, ld, tk, dr, sp, sp.spl, ll, cs1, one, allOne, gb, sb, pb, ln, Bool.and_true, Nat.reduceSub, Nat.reduceAdd, Nat.reduceMul, true_and, sts, n0, Int.toNat_natCast, e_sem]
    refine And.intro (by omega) ?_
    refine sem_rgnQ [(13, Mp.e0.sv), (14, .ptr 1 0), (15, .lit (.bool false)), (16, .tup [.agg [.int .i64 0, .int .i64 0], .lit (.bool false)]), (12, .tup [.agg [.int .i64 0, .int .i64 0], .lit (.bool false)]), (17, .agg [.int .i64 0, .int .i64 0]), (18, .lit (.bool false)), (6, .ptr 2 0), (7, .lit (.bool false))] [.orw 118 1 (Mp.e0.evN 0).length (evR (Mp.e0.evN 0)), .box 133 [.bool false, .fn 96 []], .box 23 [.int .i64 0, .int .i64 0]] rfl rfl (by kernel_rfl) ?_
    simp only [puts_n, puts_c]
    simp only [inr64, e_skip, e_reg, e_seq, e_cond, o_nil, o_cons, gd_none, putK_e, runK_e, vK_e, evh_v, loopK_n, seqK_n, condK_f, blockK_n, evp, bin, gt, st, putf, X.get, true_and]
    repeat' (first | omega | (with_reducible refine And.intro ?_ ?_))
    refine Nx.mk 1 (by omega) (by omega) (Lw_re 1 [] (Nat.zero_le _) (by simp [ln]) (by simp [ln]) rfl ?_ ?_)
    ·simp only [reL, reX, rn, Nat.reduceSub, Nat.reduceLeDiff, false_and, or_false, reduceCtorEq, inb, inb.inbs, ln, Bool.and_self, Nat.reduceLT, Nat.reduceAdd, and_true, and_self, cS, Mp.sv]
    ·simp only [reH, reB, reN, true_and, and_true]
     exact ⟨rfl, fun i hi => by have h2 : i < 0 := hi; rcases (show i = 0 ∨ i = 1 by omega) with rfl | rfl <;> first | rfl | (exfalso; omega)⟩
   case d1 a b =>
    have hl : ((Mp.d1 a b).evN 0).length = 0 := rfl
    simp only [condK_bt, decide_true, e_skip, e_reg, and_self, e_seq, e_cond, e_block, o_nil, o_cons, gd_none, putK_e, runK_e, vK_e, storeK3_e, storeK2_e, storeK_e, evh_v, evh_new, evh_store, seqK_n, evp, bin, gt, st, putf, X.get, ld, tk, dr, sp, sp.spl, ll, cs1, one, allOne, gb, sb, pb, ln, Bool.and_true, Nat.reduceSub, Nat.reduceAdd, Nat.reduceMul, true_and, sts, n0, Int.toNat_natCast, e_sem]
    refine And.intro (by omega) ?_
    refine sem_rgnQ [(13, (Mp.d1 a b).sv), (14, .ptr 1 0), (15, .lit (.bool false)), (16, .tup [.agg [.int .i64 a, .int .i64 b], .lit (.bool true)]), (12, .tup [.agg [.int .i64 a, .int .i64 b], .lit (.bool true)]), (17, .agg [.int .i64 a, .int .i64 b]), (18, .lit (.bool true)), (6, .ptr 2 0), (7, .lit (.bool true))] [.orw 118 1 ((Mp.d1 a b).evN 0).length (evR ((Mp.d1 a b).evN 0)), .box 133 [.bool false, .fn 96 []], .box 23 [.int .i64 a, .int .i64 b]] rfl rfl (by kernel_rfl) ?_
    simp only [puts_n, puts_c]
    simp only [inr64, ↓reduceIte, e_reg, e_seq, e_cond, o_nil, o_cons, gd_none, putK_e, runK_e, vK_e, bslK_e, appK2_or, appK_e, conK_e, callK_e, evh_v, evh_bsl, evh_app, evh_call, loopK_n, seqK_n, condK_t, blockK_n, gam_e, gamK_f, pc_e, pcK_e, fcC_e, fcK_e, evp, bin, gt, gq, st, putf, X.get, gets, getp, ap, clV, clL, clS, clo, clo.clos, ld, lda, tk, dr, sp, sp.spl, lay, ll, cs1, one, allOne, gb, sb, pb, ln, lk, Value.oneCell', Bool.and_true, Nat.reduceAdd, Nat.reduceBEq, beq_self_eq_true, true_and, Fevi]
    repeat' (first | omega | (with_reducible refine And.intro ?_ ?_))
    refine Nx.mk 1 (by omega) (by omega) (Lw_re 0 [some 4] (Nat.zero_le _) (by simp [ln]) (by simp [ln]) rfl ?_ ?_)
    ·simp only [reL, reX, rn, List.getElem?_cons_zero, Nat.reduceSub, Nat.lt_irrefl, Nat.le_refl, and_false, or_true, inb, inb.inbs, ln, Bool.and_self, Nat.reduceLT, Nat.reduceAdd, and_self, cS, Mp.sv]
    ·simp only [reH, reM, reN, gb, Nat.reduceLeDiff, ln, Nat.reduceLT, Nat.reduceAdd, true_and, and_true, and_self]
     exact ⟨rfl, fun i hi => by have h2 : i < 1 := hi; rcases (show i = 0 ∨ i = 1 by omega) with rfl | rfl <;> first | rfl | (exfalso; omega)⟩
   case t1 a b =>
    have hl : ((Mp.t1 a b).evN 0).length = 0 := rfl
    simp only [condK_bt, decide_true, e_skip, e_reg, and_self, e_seq, e_cond, e_block, o_nil, o_cons, gd_none, putK_e, runK_e, vK_e, storeK3_e, storeK2_e, storeK_e, evh_v, evh_new, evh_store, seqK_n, evp, bin, gt, st, putf, X.get, ld, tk, dr, sp, sp.spl, ll, cs1, one, allOne, gb, sb, pb, ln, Bool.and_true, Nat.reduceSub, Nat.reduceAdd, Nat.reduceMul, true_and, sts, n0, Int.toNat_natCast, e_sem]
    refine And.intro (by omega) ?_
    refine sem_rgnQ [(13, (Mp.t1 a b).sv), (14, .ptr 1 0), (15, .lit (.bool false)), (16, .tup [.agg [.int .i64 0, .int .i64 0], .lit (.bool false)]), (12, .tup [.agg [.int .i64 0, .int .i64 0], .lit (.bool false)]), (17, .agg [.int .i64 0, .int .i64 0]), (18, .lit (.bool false)), (6, .ptr 2 0), (7, .lit (.bool false))] [.orw 118 1 ((Mp.t1 a b).evN 0).length (evR ((Mp.t1 a b).evN 0)), .box 133 [.bool false, .fn 96 []], .box 23 [.int .i64 0, .int .i64 0]] rfl rfl (by kernel_rfl) ?_
    simp only [puts_n, puts_c]
    simp only [inr64, e_skip, e_reg, e_seq, e_cond, o_nil, o_cons, gd_none, putK_e, runK_e, vK_e, evh_v, loopK_n, seqK_n, condK_f, blockK_n, evp, bin, gt, st, putf, X.get, true_and]
    repeat' (first | omega | (with_reducible refine And.intro ?_ ?_))
    refine Nx.mk 1 (by omega) (by omega) (Lw_re 1 [] (Nat.zero_le _) (by simp [ln]) (by simp [ln]) rfl ?_ ?_)
    ·simp only [reL, reX, rn, Nat.reduceSub, Nat.reduceLeDiff, false_and, or_false, reduceCtorEq, inb, inb.inbs, ln, Bool.and_self, Nat.reduceLT, Nat.reduceAdd, and_true, and_self, cS, Mp.sv]
    ·simp only [reH, reB, reN, true_and, and_true]
     exact ⟨rfl, fun i hi => by have h2 : i < 0 := hi; rcases (show i = 0 ∨ i = 1 by omega) with rfl | rfl <;> first | rfl | (exfalso; omega)⟩
   case dt a b c e =>
    have hl : ((Mp.dt a b c e).evN 0).length = 0 := rfl
    simp only [condK_bt, decide_true, e_skip, e_reg, and_self, e_seq, e_cond, e_block, o_nil, o_cons, gd_none, putK_e, runK_e, vK_e, storeK3_e, storeK2_e, storeK_e, evh_v, evh_new, evh_store, seqK_n, evp, bin, gt, st, putf, X.get, ld, tk, dr, sp, sp.spl, ll, cs1, one, allOne, gb, sb, pb, ln, Bool.and_true, Nat.reduceSub, Nat.reduceAdd, Nat.reduceMul, true_and, sts, n0, Int.toNat_natCast, e_sem]
    refine And.intro (by omega) ?_
    refine sem_rgnQ [(13, (Mp.dt a b c e).sv), (14, .ptr 1 0), (15, .lit (.bool false)), (16, .tup [.agg [.int .i64 a, .int .i64 b], .lit (.bool true)]), (12, .tup [.agg [.int .i64 a, .int .i64 b], .lit (.bool true)]), (17, .agg [.int .i64 a, .int .i64 b]), (18, .lit (.bool true)), (6, .ptr 2 0), (7, .lit (.bool true))] [.orw 118 1 ((Mp.dt a b c e).evN 0).length (evR ((Mp.dt a b c e).evN 0)), .box 133 [.bool false, .fn 96 []], .box 23 [.int .i64 a, .int .i64 b]] rfl rfl (by kernel_rfl) ?_
    simp only [puts_n, puts_c]
    simp only [inr64, ↓reduceIte, e_reg, e_seq, e_cond, o_nil, o_cons, gd_none, putK_e, runK_e, vK_e, bslK_e, appK2_or, appK_e, conK_e, callK_e, evh_v, evh_bsl, evh_app, evh_call, loopK_n, seqK_n, condK_t, blockK_n, gam_e, gamK_f, pc_e, pcK_e, fcC_e, fcK_e, evp, bin, gt, gq, st, putf, X.get, gets, getp, ap, clV, clL, clS, clo, clo.clos, ld, lda, tk, dr, sp, sp.spl, lay, ll, cs1, one, allOne, gb, sb, pb, ln, lk, Value.oneCell', Bool.and_true, Nat.reduceAdd, Nat.reduceBEq, beq_self_eq_true, true_and, Fevi]
    repeat' (first | omega | (with_reducible refine And.intro ?_ ?_))
    refine Nx.mk 1 (by omega) (by omega) (Lw_re 0 [some 4] (Nat.zero_le _) (by simp [ln]) (by simp [ln]) rfl ?_ ?_)
    ·simp only [reL, reX, rn, List.getElem?_cons_zero, Nat.reduceSub, Nat.lt_irrefl, Nat.le_refl, and_false, or_true, inb, inb.inbs, ln, Bool.and_self, Nat.reduceLT, Nat.reduceAdd, and_self, cS, Mp.sv]
    ·simp only [reH, reM, reN, gb, Nat.reduceLeDiff, ln, Nat.reduceLT, Nat.reduceAdd, true_and, and_true, and_self]
     exact ⟨rfl, fun i hi => by have h2 : i < 1 := hi; rcases (show i = 0 ∨ i = 1 by omega) with rfl | rfl <;> first | rfl | (exfalso; omega)⟩
   case td a b c e =>
    have hl : ((Mp.td a b c e).evN 0).length = 0 := rfl
    simp only [condK_bt, decide_true, e_skip, e_reg, and_self, e_seq, e_cond, e_block, o_nil, o_cons, gd_none, putK_e, runK_e, vK_e, storeK3_e, storeK2_e, storeK_e, evh_v, evh_new, evh_store, seqK_n, evp, bin, gt, st, putf, X.get, ld, tk, dr, sp, sp.spl, ll, cs1, one, allOne, gb, sb, pb, ln, Bool.and_true, Nat.reduceSub, Nat.reduceAdd, Nat.reduceMul, true_and, sts, n0, Int.toNat_natCast, e_sem]
    refine And.intro (by omega) ?_
    refine sem_rgnQ [(13, (Mp.td a b c e).sv), (14, .ptr 1 0), (15, .lit (.bool false)), (16, .tup [.agg [.int .i64 a, .int .i64 b], .lit (.bool true)]), (12, .tup [.agg [.int .i64 a, .int .i64 b], .lit (.bool true)]), (17, .agg [.int .i64 a, .int .i64 b]), (18, .lit (.bool true)), (6, .ptr 2 0), (7, .lit (.bool true))] [.orw 118 1 ((Mp.td a b c e).evN 0).length (evR ((Mp.td a b c e).evN 0)), .box 133 [.bool false, .fn 96 []], .box 23 [.int .i64 a, .int .i64 b]] rfl rfl (by kernel_rfl) ?_
    simp only [puts_n, puts_c]
    simp only [inr64, ↓reduceIte, e_reg, e_seq, e_cond, o_nil, o_cons, gd_none, putK_e, runK_e, vK_e, bslK_e, appK2_or, appK_e, conK_e, callK_e, evh_v, evh_bsl, evh_app, evh_call, loopK_n, seqK_n, condK_t, blockK_n, gam_e, gamK_f, pc_e, pcK_e, fcC_e, fcK_e, evp, bin, gt, gq, st, putf, X.get, gets, getp, ap, clV, clL, clS, clo, clo.clos, ld, lda, tk, dr, sp, sp.spl, lay, ll, cs1, one, allOne, gb, sb, pb, ln, lk, Value.oneCell', Bool.and_true, Nat.reduceAdd, Nat.reduceBEq, beq_self_eq_true, true_and, Fevi]
    repeat' (first | omega | (with_reducible refine And.intro ?_ ?_))
    refine Nx.mk 1 (by omega) (by omega) (Lw_re 0 [some 4] (Nat.zero_le _) (by simp [ln]) (by simp [ln]) rfl ?_ ?_)
    ·simp only [reL, reX, rn, List.getElem?_cons_zero, Nat.reduceSub, Nat.lt_irrefl, Nat.le_refl, and_false, or_true, inb, inb.inbs, ln, Bool.and_self, Nat.reduceLT, Nat.reduceAdd, and_self, cS, Mp.sv]
    ·simp only [reH, reM, reN, gb, Nat.reduceLeDiff, ln, Nat.reduceLT, Nat.reduceAdd, true_and, and_true, and_self]
     exact ⟨rfl, fun i hi => by have h2 : i < 1 := hi; rcases (show i = 0 ∨ i = 1 by omega) with rfl | rfl <;> first | rfl | (exfalso; omega)⟩
  ·have n0 : (((1 : Nat) : Int) < 2) = True := eq_true (by omega)
   have cS : ((1 : Nat) : Int) + 1 = ((2 : Nat) : Int) := rfl
   cases M
   case e0 =>
    have hl : (Mp.e0.evN 1).length = 0 := rfl
    simp only [condK_bt, decide_true, e_skip, e_reg, and_self, e_seq, e_cond, e_block, o_nil, o_cons, gd_none, putK_e, runK_e, vK_e, storeK3_e, storeK2_e, storeK_e, evh_v, evh_new, evh_store, seqK_n, evp, bin, gt, st, putf, X.get, ld, tk, dr, sp, sp.spl, ll, cs1, one, allOne, gb, sb, pb, ln, Bool.and_true, Nat.reduceSub, Nat.reduceAdd, Nat.reduceMul, true_and, sts, n0, Int.toNat_natCast, e_sem]
    refine And.intro (by omega) ?_
    refine sem_rgnQ [(13, Mp.e0.sv), (14, .ptr 1 0), (15, .lit (.bool true)), (16, .tup [.agg [.int .i64 0, .int .i64 0], .lit (.bool false)]), (12, .tup [.agg [.int .i64 0, .int .i64 0], .lit (.bool false)]), (17, .agg [.int .i64 0, .int .i64 0]), (18, .lit (.bool false)), (6, .ptr 2 0), (7, .lit (.bool false))] [.orw 118 1 (Mp.e0.evN 1).length (evR (Mp.e0.evN 1)), .box 133 [.bool true, .fn 97 []], .box 23 [.int .i64 0, .int .i64 0]] rfl rfl (by kernel_rfl) ?_
    simp only [puts_n, puts_c]
    simp only [inr64, e_skip, e_reg, e_seq, e_cond, o_nil, o_cons, gd_none, putK_e, runK_e, vK_e, evh_v, loopK_n, seqK_n, condK_f, blockK_n, evp, bin, gt, st, putf, X.get, true_and]
    repeat' (first | omega | (with_reducible refine And.intro ?_ ?_))
    refine Nx.mk 2 (by omega) (by omega) (Lw_re 1 [] (Nat.zero_le _) (by simp [ln]) (by simp [ln]) rfl ?_ ?_)
    ·simp only [reL, reX, rn, Nat.reduceSub, Nat.reduceLeDiff, false_and, or_false, reduceCtorEq, inb, inb.inbs, ln, Bool.and_self, Nat.reduceLT, Nat.reduceAdd, and_true, and_self, cS, Mp.sv]
    ·simp only [reH, reB, reN, true_and, and_true]
     exact ⟨rfl, fun i hi => by have h2 : i < 0 := hi; rcases (show i = 0 ∨ i = 1 by omega) with rfl | rfl <;> first | rfl | (exfalso; omega)⟩
   case d1 a b =>
    have hl : ((Mp.d1 a b).evN 1).length = 1 := rfl
    simp only [condK_bt, decide_true, e_skip, e_reg, and_self, e_seq, e_cond, e_block, o_nil, o_cons, gd_none, putK_e, runK_e, vK_e, storeK3_e, storeK2_e, storeK_e, evh_v, evh_new, evh_store, seqK_n, evp, bin, gt, st, putf, X.get, ld, tk, dr, sp, sp.spl, ll, cs1, one, allOne, gb, sb, pb, ln, Bool.and_true, Nat.reduceSub, Nat.reduceAdd, Nat.reduceMul, true_and, sts, n0, Int.toNat_natCast, e_sem]
    refine And.intro (by omega) ?_
    refine sem_rgnQ [(13, (Mp.d1 a b).sv), (14, .ptr 1 0), (15, .lit (.bool true)), (16, .tup [.agg [.int .i64 0, .int .i64 0], .lit (.bool false)]), (12, .tup [.agg [.int .i64 0, .int .i64 0], .lit (.bool false)]), (17, .agg [.int .i64 0, .int .i64 0]), (18, .lit (.bool false)), (6, .ptr 2 0), (7, .lit (.bool false))] [.orw 118 1 ((Mp.d1 a b).evN 1).length (evR ((Mp.d1 a b).evN 1)), .box 133 [.bool true, .fn 97 []], .box 23 [.int .i64 0, .int .i64 0]] rfl rfl (by kernel_rfl) ?_
    simp only [puts_n, puts_c]
    simp only [inr64, e_skip, e_reg, e_seq, e_cond, o_nil, o_cons, gd_none, putK_e, runK_e, vK_e, evh_v, loopK_n, seqK_n, condK_f, blockK_n, evp, bin, gt, st, putf, X.get, true_and]
    repeat' (first | omega | (with_reducible refine And.intro ?_ ?_))
    refine Nx.mk 2 (by omega) (by omega) (Lw_re 1 [] (Nat.zero_le _) (by simp [ln]) (by simp [ln]) rfl ?_ ?_)
    ·simp only [reL, reX, rn, Nat.reduceSub, Nat.reduceLeDiff, false_and, or_false, reduceCtorEq, inb, inb.inbs, ln, Bool.and_self, Nat.reduceLT, Nat.reduceAdd, and_true, and_self, cS, Mp.sv]
    ·simp only [reH, reB, reN, true_and, and_true]
     exact ⟨rfl, fun i hi => by have h2 : i < 1 := hi; rcases (show i = 0 ∨ i = 1 by omega) with rfl | rfl <;> first | rfl | (exfalso; omega)⟩
   case t1 a b =>
    have hl : ((Mp.t1 a b).evN 1).length = 0 := rfl
    simp only [condK_bt, decide_true, e_skip, e_reg, and_self, e_seq, e_cond, e_block, o_nil, o_cons, gd_none, putK_e, runK_e, vK_e, storeK3_e, storeK2_e, storeK_e, evh_v, evh_new, evh_store, seqK_n, evp, bin, gt, st, putf, X.get, ld, tk, dr, sp, sp.spl, ll, cs1, one, allOne, gb, sb, pb, ln, Bool.and_true, Nat.reduceSub, Nat.reduceAdd, Nat.reduceMul, true_and, sts, n0, Int.toNat_natCast, e_sem]
    refine And.intro (by omega) ?_
    refine sem_rgnQ [(13, (Mp.t1 a b).sv), (14, .ptr 1 0), (15, .lit (.bool true)), (16, .tup [.agg [.int .i64 a, .int .i64 b], .lit (.bool true)]), (12, .tup [.agg [.int .i64 a, .int .i64 b], .lit (.bool true)]), (17, .agg [.int .i64 a, .int .i64 b]), (18, .lit (.bool true)), (6, .ptr 2 0), (7, .lit (.bool true))] [.orw 118 1 ((Mp.t1 a b).evN 1).length (evR ((Mp.t1 a b).evN 1)), .box 133 [.bool true, .fn 97 []], .box 23 [.int .i64 a, .int .i64 b]] rfl rfl (by kernel_rfl) ?_
    simp only [puts_n, puts_c]
    simp only [inr64, ↓reduceIte, e_reg, e_seq, e_cond, o_nil, o_cons, gd_none, putK_e, runK_e, vK_e, bslK_e, appK2_or, appK_e, conK_e, callK_e, evh_v, evh_bsl, evh_app, evh_call, loopK_n, seqK_n, condK_t, blockK_n, gam_e, gamK_f, pc_e, pcK_e, fcC_e, fcK_e, evp, bin, gt, gq, st, putf, X.get, gets, getp, ap, clV, clL, clS, clo, clo.clos, ld, lda, tk, dr, sp, sp.spl, lay, ll, cs1, one, allOne, gb, sb, pb, ln, lk, Value.oneCell', Bool.and_true, Nat.reduceAdd, Nat.reduceBEq, beq_self_eq_true, true_and, Fevi]
    repeat' (first | omega | (with_reducible refine And.intro ?_ ?_))
    refine Nx.mk 2 (by omega) (by omega) (Lw_re 0 [some 4] (Nat.zero_le _) (by simp [ln]) (by simp [ln]) rfl ?_ ?_)
    ·simp only [reL, reX, rn, List.getElem?_cons_zero, Nat.reduceSub, Nat.lt_irrefl, Nat.le_refl, and_false, or_true, inb, inb.inbs, ln, Bool.and_self, Nat.reduceLT, Nat.reduceAdd, and_self, cS, Mp.sv]
    ·simp only [reH, reM, reN, gb, Nat.reduceLeDiff, ln, Nat.reduceLT, Nat.reduceAdd, true_and, and_true, and_self]
     exact ⟨rfl, fun i hi => by have h2 : i < 1 := hi; rcases (show i = 0 ∨ i = 1 by omega) with rfl | rfl <;> first | rfl | (exfalso; omega)⟩
   case dt a b c e =>
    have hl : ((Mp.dt a b c e).evN 1).length = 1 := rfl
    simp only [condK_bt, decide_true, e_skip, e_reg, and_self, e_seq, e_cond, e_block, o_nil, o_cons, gd_none, putK_e, runK_e, vK_e, storeK3_e, storeK2_e, storeK_e, evh_v, evh_new, evh_store, seqK_n, evp, bin, gt, st, putf, X.get, ld, tk, dr, sp, sp.spl, ll, cs1, one, allOne, gb, sb, pb, ln, Bool.and_true, Nat.reduceSub, Nat.reduceAdd, Nat.reduceMul, true_and, sts, n0, Int.toNat_natCast, e_sem]
    refine And.intro (by omega) ?_
    refine sem_rgnQ [(13, (Mp.dt a b c e).sv), (14, .ptr 1 0), (15, .lit (.bool true)), (16, .tup [.agg [.int .i64 c, .int .i64 e], .lit (.bool true)]), (12, .tup [.agg [.int .i64 c, .int .i64 e], .lit (.bool true)]), (17, .agg [.int .i64 c, .int .i64 e]), (18, .lit (.bool true)), (6, .ptr 2 0), (7, .lit (.bool true))] [.orw 118 1 ((Mp.dt a b c e).evN 1).length (evR ((Mp.dt a b c e).evN 1)), .box 133 [.bool true, .fn 97 []], .box 23 [.int .i64 c, .int .i64 e]] rfl rfl (by kernel_rfl) ?_
    simp only [puts_n, puts_c]
    simp only [inr64, ↓reduceIte, e_reg, e_seq, e_cond, o_nil, o_cons, gd_none, putK_e, runK_e, vK_e, bslK_e, appK2_or, appK_e, conK_e, callK_e, evh_v, evh_bsl, evh_app, evh_call, loopK_n, seqK_n, condK_t, blockK_n, gam_e, gamK_f, pc_e, pcK_e, fcC_e, fcK_e, evp, bin, gt, gq, st, putf, X.get, gets, getp, ap, clV, clL, clS, clo, clo.clos, ld, lda, tk, dr, sp, sp.spl, lay, ll, cs1, one, allOne, gb, sb, pb, ln, lk, Value.oneCell', Bool.and_true, Nat.reduceAdd, Nat.reduceBEq, beq_self_eq_true, true_and, Fevi]
    repeat' (first | omega | (with_reducible refine And.intro ?_ ?_))
    refine Nx.mk 2 (by omega) (by omega) (Lw_re 0 [some 4] (Nat.zero_le _) (by simp [ln]) (by simp [ln]) rfl ?_ ?_)
    ·simp only [reL, reX, rn, List.getElem?_cons_zero, Nat.reduceSub, Nat.lt_irrefl, Nat.le_refl, and_false, or_true, inb, inb.inbs, ln, Bool.and_self, Nat.reduceLT, Nat.reduceAdd, and_self, cS, Mp.sv]
    ·simp only [reH, reM, reN, gb, Nat.reduceLeDiff, ln, Nat.reduceLT, Nat.reduceAdd, true_and, and_true, and_self]
     exact ⟨rfl, fun i hi => by have h2 : i < 2 := hi; rcases (show i = 0 ∨ i = 1 by omega) with rfl | rfl <;> first | rfl | (exfalso; omega)⟩
   case td a b c e =>
    have hl : ((Mp.td a b c e).evN 1).length = 1 := rfl
    simp only [condK_bt, decide_true, e_skip, e_reg, and_self, e_seq, e_cond, e_block, o_nil, o_cons, gd_none, putK_e, runK_e, vK_e, storeK3_e, storeK2_e, storeK_e, evh_v, evh_new, evh_store, seqK_n, evp, bin, gt, st, putf, X.get, ld, tk, dr, sp, sp.spl, ll, cs1, one, allOne, gb, sb, pb, ln, Bool.and_true, Nat.reduceSub, Nat.reduceAdd, Nat.reduceMul, true_and, sts, n0, Int.toNat_natCast, e_sem]
    refine And.intro (by omega) ?_
    refine sem_rgnQ [(13, (Mp.td a b c e).sv), (14, .ptr 1 0), (15, .lit (.bool true)), (16, .tup [.agg [.int .i64 c, .int .i64 e], .lit (.bool true)]), (12, .tup [.agg [.int .i64 c, .int .i64 e], .lit (.bool true)]), (17, .agg [.int .i64 c, .int .i64 e]), (18, .lit (.bool true)), (6, .ptr 2 0), (7, .lit (.bool true))] [.orw 118 1 ((Mp.td a b c e).evN 1).length (evR ((Mp.td a b c e).evN 1)), .box 133 [.bool true, .fn 97 []], .box 23 [.int .i64 c, .int .i64 e]] rfl rfl (by kernel_rfl) ?_
    simp only [puts_n, puts_c]
    simp only [inr64, ↓reduceIte, e_reg, e_seq, e_cond, o_nil, o_cons, gd_none, putK_e, runK_e, vK_e, bslK_e, appK2_or, appK_e, conK_e, callK_e, evh_v, evh_bsl, evh_app, evh_call, loopK_n, seqK_n, condK_t, blockK_n, gam_e, gamK_f, pc_e, pcK_e, fcC_e, fcK_e, evp, bin, gt, gq, st, putf, X.get, gets, getp, ap, clV, clL, clS, clo, clo.clos, ld, lda, tk, dr, sp, sp.spl, lay, ll, cs1, one, allOne, gb, sb, pb, ln, lk, Value.oneCell', Bool.and_true, Nat.reduceAdd, Nat.reduceBEq, beq_self_eq_true, true_and, Fevi]
    repeat' (first | omega | (with_reducible refine And.intro ?_ ?_))
    refine Nx.mk 2 (by omega) (by omega) (Lw_re 0 [some 4] (Nat.zero_le _) (by simp [ln]) (by simp [ln]) rfl ?_ ?_)
    ·simp only [reL, reX, rn, List.getElem?_cons_zero, Nat.reduceSub, Nat.lt_irrefl, Nat.le_refl, and_false, or_true, inb, inb.inbs, ln, Bool.and_self, Nat.reduceLT, Nat.reduceAdd, and_self, cS, Mp.sv]
    ·simp only [reH, reM, reN, gb, Nat.reduceLeDiff, ln, Nat.reduceLT, Nat.reduceAdd, true_and, and_true, and_self]
     exact ⟨rfl, fun i hi => by have h2 : i < 2 := hi; rcases (show i = 0 ∨ i = 1 by omega) with rfl | rfl <;> first | rfl | (exfalso; omega)⟩
  ·have n2 : (((2 : Nat) : Int) < 2) = False := eq_false (by omega)
   have e2 : M.evN 2 = M.ev := by cases M <;> rfl
   simp only [condK_bf, decide_false, e_reg, e_seq, e_cond, e_exit, e_ret, o_nil, o_cons, gd_none, putK_e, runK_e, vK_e, evh_v, loopK_x, seqK_n, seqK_x, exitK_t, blockK_x, ends_r, endK1_e, endK2_e, evp, bin, gt, st, putf, X.get, rdR, tupled, clV, gb, sb, Nat.reduceSub, beq_self_eq_true, true_and, sts, n2]
   rw [e2]
   exact res hK ⟨rfl, rfl, fun _ _ => rfl⟩
end Go.Proofs.Ytgdihdiadlmjiaa
