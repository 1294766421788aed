import Derived.Test.YtgdihdiadlmjiaaVgLM4
set_option linter.all false
namespace Go.Proofs.Ytgdihdiadlmjiaa
open Go Go.Vg
set_option maxRecDepth 10000
def s50 : SC :=
 (.seq (.reg [⟨(some 3),none,.box 28 (.t 1)⟩,.w5 4 false]) (.seq (.seq (.reg [.u0 8 0,(.w1 9 78 [(.t 8)]),.w2 10 9,.u1 11 (0)]) (.block 0 (.loop (.seq (.reg [.u6 12 .lss 11 10]) (.seq (.cond (.t 12) .skip (.exit 0)) (.seq (.block 1 (.seq (.reg [(.w6 13 (.ixa (.t 9) (.t 11) 1)),.u3 14 13,.u0 6 14]) (.seq (.reg [.u0 15 6,.u2 16 3 1,.u3 17 16,⟨(some 18),none,.inv [(145,118),(146,119)] (.t 15) [(.t 17)]⟩,.w4 7,.w3 2 7 18]) (.seq (.reg [.u2 19 3 2,.u3 20 19,.u2 21 3 0,.u3 22 21,.u2 23 7 0,.u3 24 23,.u6 25 .mul 22 24,.u2 26 3 0,.u3 27 26,.u2 28 7 1,.u3 29 28,.u6 30 .mul 27 29,(.w1 31 65 [(.t 20),(.t 25),(.t 30)]),(.w6 32 (.not (.t 31)))]) (.cond (.t 32) (.seq (.reg [.w5 4 false]) .ret) .skip))))) (.reg [.u7 33 .add 11 (1),.u0 11 33]))))))) (.seq (.reg [.w5 4 true]) .ret)))
def r50 : List RV := [.t 4]
theorem k50 : (Try.f50.body.bind (cC Try.prog), cR Try.prog Try.f50.results.toList, Try.f50.ntmps) = (some s50, some r50, 34) := by kernel_rfl
theorem q50 : Known Try.prog 50 := ⟨_, Try.func50, by decide, by simp [Try.f50]⟩
def s16 : SC :=
 (.seq (.reg [⟨(some 3),none,.box 25 (.t 0)⟩,⟨(some 5),none,.box 28 (.t 2)⟩,.w5 6 false,.u1 7 (0)]) (.seq (.seq (.reg [.u4 10 3 8,.u0 11 1,(.w1 12 47 [(.t 10),(.t 11)]),.u0 8 12]) (.seq (.reg [.u0 13 8,.u7 14 .neq 13 (0)]) (.cond (.t 14) (.seq (.reg [.u0 15 8,.w5 6 false,.u0 7 15]) .ret) .skip))) (.seq (.reg [.u4 16 3 8,⟨(some 17),none,.bld [(.int .i64 (0)),(.int .i64 (0)),(.int .i64 (0)),(.int .i64 (0)),(.int .i64 (0)),(.int .i64 (0)),(.int .i64 (0)),(.int .i64 (0))] [(0,8,(.t 16))]⟩,⟨(some 9),none,.new 78 [(.int .i64 (0)),(.int .i64 (0)),(.int .i64 (0)),(.int .i64 (0)),(.int .i64 (0)),(.int .i64 (0)),(.int .i64 (0)),(.int .i64 (0))]⟩,.w3 8 9 17]) (.seq (.seq (.reg [.u4 18 9 8,.u4 19 5 3,(.w1 20 48 [(.t 18),(.t 19)]),(.w6 21 (.not (.t 20)))]) (.cond (.t 21) (.seq (.reg [.w5 6 false,.u1 7 (32)]) .ret) .skip)) (.seq (.drw [(0,.u4 22 9 8,false),(1,.u0 23 1,false),(2,(.w1 24 49 [(.t 22),(.t 23)]),false),(3,.u4 25 5 3,false)] none [(.w1 26 50 [(.t 24),(.t 25)]),.u0 6 26,.u1 7 (0)]) .ret)))))
def r16 : List RV := [.t 6, .t 7]
theorem k16 : (Try.f16.body.bind (cC Try.prog), cR Try.prog Try.f16.results.toList, Try.f16.ntmps) = (some s16, some r16, 27) := by kernel_rfl
theorem q16 : Known Try.prog 16 := ⟨_, Try.func16, by decide, by simp [Try.f16]⟩
def s20 : SC :=
 (.seq (.reg [⟨(some 2),none,.box 25 (.t 0)⟩,.w4 4,.w4 5,.u1 6 (0)]) (.seq (.seq (.reg [.u4 10 2 8,.u0 11 1,(.w1 12 47 [(.t 10),(.t 11)]),.u0 7 12]) (.seq (.reg [.u0 13 7,.u7 14 .neq 13 (0)]) (.cond (.t 14) (.seq (.reg [⟨(some 15),none,.bld [(.int .i64 (0)),(.int .i64 (0))] []⟩,⟨(some 16),none,.bld [(.int .i64 (0)),(.int .i64 (0))] []⟩,.u0 17 7,.w3 2 4 15,.w3 2 5 16,.u0 6 17]) .ret) .skip))) (.seq (.reg [.u4 18 2 8,⟨(some 19),none,.bld [(.int .i64 (0)),(.int .i64 (0)),(.int .i64 (0)),(.int .i64 (0)),(.int .i64 (0)),(.int .i64 (0)),(.int .i64 (0)),(.int .i64 (0))] [(0,8,(.t 18))]⟩,⟨(some 8),none,.new 78 [(.int .i64 (0)),(.int .i64 (0)),(.int .i64 (0)),(.int .i64 (0)),(.int .i64 (0)),(.int .i64 (0)),(.int .i64 (0)),(.int .i64 (0))]⟩,.w3 8 8 19]) (.seq (.drw [(0,.u4 20 8 8,false),(1,.u4 21 8 8,false),(2,.u0 22 1,false),(3,(.w1 23 49 [(.t 21),(.t 22)]),false),(4,(.w1 24 56 [(.t 20),(.t 23)]),false)] (some ⟨(some 9),none,.new 88 [(.int .i64 (0)),(.int .i64 (0)),(.int .i64 (0)),(.int .i64 (0))]⟩) [.w3 4 9 24]) (.seq (.seq (.drw [(0,.u4 25 9 4,false),(1,(.w1 26 57 []),false)] none [(.w6 27 (.eqs [(some .i64),(some .i64),(some .i64),(some .i64)] false (.t 25) (.t 26)))]) (.cond (.t 27) (.seq (.reg [⟨(some 28),none,.bld [(.int .i64 (0)),(.int .i64 (0))] []⟩,⟨(some 29),none,.bld [(.int .i64 (0)),(.int .i64 (0))] []⟩,.w3 2 4 28,.w3 2 5 29,.u1 6 (33)]) .ret) .skip)) (.seq (.tre (.op (.u2 30 9 0) (.op (.u4 31 30 2) (.op (.u2 32 9 2) (.op (.u4 33 32 2) (.op (.w3 2 4 31) (.op (.w3 2 5 33) (.op (.u1 6 (0)) .leaf .stop) .stop) .stop) (.op (.w3 2 4 31) (.op (.u4 33 32 2) (.op (.w3 2 5 33) (.op (.u1 6 (0)) .leaf .stop) .stop) .stop) .stop)) (.op (.w3 2 4 31) (.op (.u2 32 9 2) (.op (.u4 33 32 2) (.op (.w3 2 5 33) (.op (.u1 6 (0)) .leaf .stop) .stop) .stop) .stop) .stop)) (.op (.u2 32 9 2) (.op (.u4 31 30 2) (.op (.u4 33 32 2) (.op (.w3 2 4 31) (.op (.w3 2 5 33) (.op (.u1 6 (0)) .leaf .stop) .stop) .stop) (.op (.w3 2 4 31) (.op (.u4 33 32 2) (.op (.w3 2 5 33) (.op (.u1 6 (0)) .leaf .stop) .stop) .stop) .stop)) (.op (.u4 33 32 2) (.op (.u4 31 30 2) (.op (.w3 2 4 31) (.op (.w3 2 5 33) (.op (.u1 6 (0)) .leaf .stop) .stop) .stop) .stop) .stop)) .stop)) (.op (.u2 32 9 2) (.op (.u2 30 9 0) (.op (.u4 31 30 2) (.op (.u4 33 32 2) (.op (.w3 2 4 31) (.op (.w3 2 5 33) (.op (.u1 6 (0)) .leaf .stop) .stop) .stop) (.op (.w3 2 4 31) (.op (.u4 33 32 2) (.op (.w3 2 5 33) (.op (.u1 6 (0)) .leaf .stop) .stop) .stop) .stop)) (.op (.u4 33 32 2) (.op (.u4 31 30 2) (.op (.w3 2 4 31) (.op (.w3 2 5 33) (.op (.u1 6 (0)) .leaf .stop) .stop) .stop) .stop) .stop)) (.op (.u4 33 32 2) (.op (.u2 30 9 0) (.op (.u4 31 30 2) (.op (.w3 2 4 31) (.op (.w3 2 5 33) (.op (.u1 6 (0)) .leaf .stop) .stop) .stop) .stop) .stop) .stop)) .stop))) .ret))))))
def r20 : List RV := [.c 4 (some 2), .c 5 (some 2), .t 6]
theorem k20 : (Try.f20.body.bind (cC Try.prog), cR Try.prog Try.f20.results.toList, Try.f20.ntmps) = (some s20, some r20, 34) := by kernel_rfl
theorem q20 : Known Try.prog 20 := ⟨_, Try.func20, by decide, by simp [Try.f20]⟩
def agrJ (L : Evs) (a z t : Int) (j : Nat) : Prop := a * (mvE (ev0 L j) z).1 ≤ t ∧ t ≤ a * (mvE (ev0 L j) z).2
instance (L : Evs) (a z t : Int) (j : Nat) : Decidable (agrJ L a z t j) := by unfold agrJ; infer_instance
def agrB (L : Evs) (a z t : Int) : Bool := (List.range L.length).all fun j => decide (agrJ L a z t j)
theorem agr_t {L : Evs} {a z t : Int} (h : ∀ j, j < L.length → agrJ L a z t j) : agrB L a z t = true := by
 unfold agrB
 rw [List.all_eq_true]
 intro j hj
 exact decide_eq_true (h j (List.mem_range.1 hj))
theorem agr_f {L : Evs} {a z t : Int} {j : Nat} (hj : j < L.length) (h : ¬ agrJ L a z t j) : agrB L a z t = false := by
 rw [← Bool.not_eq_true]
 intro h2
 unfold agrB at h2
 rw [List.all_eq_true] at h2
 exact h (of_decide_eq_true (h2 j (List.mem_range.2 hj)))
theorem agr_all {L : Evs} {a z t : Int} (h : agrB L a z t = true) : ∀ j, j < L.length → agrJ L a z t j := by
 intro j hj
 unfold agrB at h
 rw [List.all_eq_true] at h
 exact of_decide_eq_true (h j (List.mem_range.2 hj))
theorem mul_b {a x : Int} (h1 : 1 ≤ a) (h2 : a ≤ 500) (h3 : -20000 ≤ x) (h4 : x ≤ 20000) : -20000000 ≤ a * x ∧ a * x ≤ 20000000 := by
 have e1 := Int.mul_le_mul_of_nonneg_left h4 (show 0 ≤ a by omega)
 have e2 := Int.mul_le_mul_of_nonneg_left h3 (show 0 ≤ a by omega)
 omega
def C50 : PC := fun args K => ∃ (M : Mp) (a z t : Int), args = [M.sv, .agg [.int .i64 a, .int .i64 z, .int .i64 t]] ∧ (M.ok ∧ (1 ≤ a ∧ a ≤ 500) ∧ 0 ≤ z ∧ z ≤ 400) ∧ K (.bool (agrB M.ev a z t))
theorem p50 : PureOk Try.prog 50 C50 := by
 refine pure_of (T := [(78, .pc C78), (118, .fc F118), (119, .fc F119), (65, .fc F42)]) ⟨⟨p78, q78⟩, ⟨p118, q118⟩, ⟨p119, q119⟩, ⟨p65, q65⟩, trivial⟩ Try.func50 k50 ?_
 rintro args K ⟨M, a, z, t, rfl, ⟨hM, ha, hz⟩, hK⟩
 simp only [e_reg, e_seq, o_nil, o_cons, gd_none, putK_e, runK_e, vK_e, boxK_e, conK_e, callK_e, evh_v, evh_box, evh_call, seqK_n, gam_e, gamK_p, pc_e, evp, gt, st, putf, X.get, gets, ap, mkfr, rep, clV, clL, clS, cs1, pb, ln, lk, undef, Nat.reduceSub, beq_self_eq_true, true_and, s50, r50]
 refine ⟨M, rfl, ?_⟩
 simp only [e_block, e_loop, o_nil, o_cons, gd_none, putK_e, runK_e, vK_e, evh_v, seqK_n, evp, gt, st, putf, X.get, lens, true_and]
 refine loop_at2 (G := Nat) (fun k => [(11, .int .i64 k), (6, .any), (7, .any)]) (fun k => [.box 28 [.int .i64 a, .int .i64 z, .int .i64 t]]) (fun k => k ≤ M.ev.length ∧ ∀ j, j < k → agrJ M.ev a z t j) (fun k => M.ev.length - k) 0 ⟨Nat.zero_le _, fun _ h => absurd h (Nat.not_lt_zero _)⟩ ?_
 (intro fr1 hf1; simp only [forget, dstC, dstO, st] at hf1; subst hf1)
 refine ⟨?_, ?_⟩
 ·refine Lw_re 1 [] (Nat.zero_le _) (by simp [ln]) (by simp [ln]) rfl ?_ ?_
  ·simp only [reL, reX, inb, inb.inbs, ln, sts, st, Bool.and_self, Nat.reduceLT, Nat.reduceAdd, decide_true, and_self, Int.natCast_zero, implies_true, Mp.sv]
  ·simp only [reL, reX, reH, reB, reN, inb, and_self]
 ·rintro k ⟨hk1, hk2⟩
  have hok := hM.2
  have hln := hM.1
  by_cases hk : k < M.ev.length
  ·have hkT : ((k : Int) < (M.ev.length : Int)) = True := by simp [hk]
   have hek := hok k hk
   have hmv := mvE_bnd hM hk hz
   have hj : agrJ M.ev a z t k ↔ a * (mvE (ev0 M.ev k) z).1 ≤ t ∧ t ≤ a * (mvE (ev0 M.ev k) z).2 := Iff.rfl
   have he0 : M.ev.getD k (0, 0, 0) = ev0 M.ev k := rfl
   generalize ev0 M.ev k = e at hek hj he0 hmv
   obtain ⟨y, x1, x2⟩ := e
   simp only at hek
   have b1 := mul_b ha.1 ha.2 hmv.1.1 hmv.1.2
   have b2 := mul_b ha.1 ha.2 hmv.2.1 hmv.2.2
   have hex : ∀ (h : ¬ agrJ M.ev a z t k), K (.bool false) := fun h => by rw [← agr_f hk h]; exact hK
   have hnx : agrJ M.ev a z t k → ∀ j, j < k + 1 → agrJ M.ev a z t j := fun h j hj => by
    rcases Nat.lt_or_eq_of_le (Nat.le_of_lt_succ hj) with h2 | rfl
    ·exact hk2 j h2
    ·exact h
   rcases hek.1 with rfl | rfl
   ·simp only [mvE, if_true] at hj b1 b2
    by_cases hd : a * (x1 - z) ≤ t ∧ t ≤ a * (x2 - z)
    ·have hd1 : (a * (x1 - z) ≤ t ∧ t ≤ a * (x2 - z)) = True := by simp [hd]
     simp only [condK_bt, condK_bf, decide_true, inr64, e_skip, e_reg, and_self, e_seq, e_cond, e_block, o_nil, o_cons, gd_none, putK_e, runK_e, vK_e, storeK3_e, storeK2_e, storeK_e, conK_e, callK_e, evh_v, evh_new, evh_store, evh_call, evh_inv, invK_e, invK2_e, lkm, loopK_n, seqK_n, blockK_n, gam_e, gamK_f, pc_e, pcK_e, fcC_e, fcK_e, evp, bin, gt, gq, st, putf, X.get, gets, ap, clV, clL, clS, clo, ld, lda, ixs, sp, sp.spl, ll, cs1, one, allOne, gb, sb, pb, ln, lk, Value.oneCell', Bool.and_true, Bool.not_true, Nat.reduceAdd, Nat.reduceBEq, beq_self_eq_true, true_and, and_true, sts, Int.toNat_natCast, evR, hkT, he0, F118, F42, hd1]
     unfold sml
     repeat' (first | omega | (with_reducible refine And.intro ?_ ?_))
     refine Nx.mk (k + 1) ⟨by show k + 1 ≤ M.ev.length; omega, hnx (hj.2 hd)⟩ (by show M.ev.length - (k + 1) < M.ev.length - k; omega) (Lw_re 1 [] (Nat.zero_le _) (by simp [ln]) (by simp [ln]) rfl ?_ ?_)
     ·simp only [reL, reX, inb, inb.inbs, Bool.and_self, Nat.reduceLT, decide_true, and_self, Int.natCast_add, Int.natCast_one, implies_true, Mp.sv]
     ·simp only [reL, reX, reH, reB, reN, inb, and_self]
    ·have hd1 : (a * (x1 - z) ≤ t ∧ t ≤ a * (x2 - z)) = False := by simp [hd]
     simp only [condK_bt, decide_true, decide_false, inr64, e_skip, e_reg, and_self, e_seq, e_cond, e_block, e_ret, o_nil, o_cons, gd_none, putK_e, runK_e, vK_e, storeK3_e, storeK2_e, storeK_e, conK_e, callK_e, evh_v, evh_new, evh_store, evh_call, evh_inv, invK_e, invK2_e, lkm, loopK_r, seqK_n, seqK_r, blockK_r, ends_r, endK1_e, endK2_e, gam_e, gamK_f, pc_e, pcK_e, fcC_e, fcK_e, evp, bin, gt, gq, st, putf, X.get, gets, ap, rdR, tupled, clV, clL, clS, clo, ld, lda, ixs, sp, sp.spl, ll, cs1, one, allOne, gb, sb, pb, ln, lk, Value.oneCell', Bool.and_true, Bool.not_false, Nat.reduceAdd, Nat.reduceBEq, beq_self_eq_true, true_and, and_true, sts, Int.toNat_natCast, evR, hkT, he0, F118, F42, hd1]
     unfold sml
     repeat' (first | omega | (with_reducible refine And.intro ?_ ?_))
     exact res (hex fun h => hd (hj.1 h)) (by simp [leR])
   ·simp only [mvE, show ¬ ((146 : Nat) = 145) by decide, if_false] at hj b1 b2
    by_cases hd : a * (z - x2) ≤ t ∧ t ≤ a * (z - x1)
    ·have hd1 : (a * (z - x2) ≤ t ∧ t ≤ a * (z - x1)) = True := by simp [hd]
     simp only [condK_bt, condK_bf, decide_true, inr64, e_skip, e_reg, and_self, e_seq, e_cond, e_block, o_nil, o_cons, gd_none, putK_e, runK_e, vK_e, storeK3_e, storeK2_e, storeK_e, conK_e, callK_e, evh_v, evh_new, evh_store, evh_call, evh_inv, invK_e, invK2_e, lkm, loopK_n, seqK_n, blockK_n, gam_e, gamK_f, pc_e, pcK_e, fcC_e, fcK_e, evp, bin, gt, gq, st, putf, X.get, gets, ap, clV, clL, clS, clo, ld, lda, ixs, sp, sp.spl, ll, cs1, one, allOne, gb, sb, pb, ln, lk, Value.oneCell', Bool.and_true, Bool.not_true, Nat.reduceAdd, Nat.reduceBEq, beq_self_eq_true, true_and, and_true, sts, Int.toNat_natCast, evR, hkT, he0, F119, F42, hd1]
     unfold sml
     repeat' (first | omega | (with_reducible refine And.intro ?_ ?_))
     refine Nx.mk (k + 1) ⟨by show k + 1 ≤ M.ev.length; omega, hnx (hj.2 hd)⟩ (by show M.ev.length - (k + 1) < M.ev.length - k; omega) (Lw_re 1 [] (Nat.zero_le _) (by simp [ln]) (by simp [ln]) rfl ?_ ?_)
     ·simp only [reL, reX, inb, inb.inbs, Bool.and_self, Nat.reduceLT, decide_true, and_self, Int.natCast_add, Int.natCast_one, implies_true, Mp.sv]
     ·simp only [reL, reX, reH, reB, reN, inb, and_self]
    ·have hd1 : (a * (z - x2) ≤ t ∧ t ≤ a * (z - x1)) = False := by simp [hd]
     simp only [condK_bt, decide_true, decide_false, inr64, e_skip, e_reg, and_self, e_seq, e_cond, e_block, e_ret, o_nil, o_cons, gd_none, putK_e, runK_e, vK_e, storeK3_e, storeK2_e, storeK_e, conK_e, callK_e, evh_v, evh_new, evh_store, evh_call, evh_inv, invK_e, invK2_e, lkm, loopK_r, seqK_n, seqK_r, blockK_r, ends_r, endK1_e, endK2_e, gam_e, gamK_f, pc_e, pcK_e, fcC_e, fcK_e, evp, bin, gt, gq, st, putf, X.get, gets, ap, rdR, tupled, clV, clL, clS, clo, ld, lda, ixs, sp, sp.spl, ll, cs1, one, allOne, gb, sb, pb, ln, lk, Value.oneCell', Bool.and_true, Bool.not_false, Nat.reduceAdd, Nat.reduceBEq, beq_self_eq_true, true_and, and_true, sts, Int.toNat_natCast, evR, hkT, he0, F119, F42, hd1]
     unfold sml
     repeat' (first | omega | (with_reducible refine And.intro ?_ ?_))
     exact res (hex fun h => hd (hj.1 h)) (by simp [leR])
  ·have hkF : ((k : Int) < (M.ev.length : Int)) = False := by simp; omega
   have hkl : k = M.ev.length := by omega
   subst hkl
   have hK2 : K (.bool true) := by rw [← agr_t hk2]; exact hK
   simp only [condK_bf, decide_false, e_reg, e_seq, e_cond, e_exit, e_ret, o_nil, o_cons, gd_none, putK_e, runK_e, vK_e, evh_v, loopK_x, seqK_n, seqK_x, exitK_t, blockK_x, ends_r, endK1_e, endK2_e, evp, bin, gt, st, putf, X.get, rdR, tupled, clV, clS, clo, beq_self_eq_true, true_and, sts, hkF]
   exact res hK2 (by simp [leR])
def decMp : SV → Mp
 | .cm [.lit (.bool false)] [.agg [.int .i64 a, .int .i64 b]] => .d1 a b
 | .cm [.lit (.bool true)] [.agg [.int .i64 a, .int .i64 b]] => .t1 a b
 | .cm [.lit (.bool false), .lit (.bool true)] [.agg [.int .i64 a, .int .i64 b], .agg [.int .i64 c, .int .i64 e]] => .dt a b c e
 | .cm [.lit (.bool true), .lit (.bool false)] [.agg [.int .i64 c, .int .i64 e], .agg [.int .i64 a, .int .i64 b]] => .td a b c e
 | _ => .e0
theorem decMp_ks (M : Mp) : decMp (.cm M.ks M.vs) = M := by cases M <;> rfl
def F56 : FC := fun args => match args with
 | [.agg [.int .i64 m, .int .i64 l1, .int .i64 l2, .int .i64 v1, .int .i64 v2, .int .i64 z1, .int .i64 z2, .int .i64 w], .cm ks vs] => some ((Vl.ok ⟨m, l1, l2, v1, v2, z1, z2, w⟩ ∧ (decMp (.cm ks vs)).ok) ∧ SV.cm ks vs = (decMp (.cm ks vs)).sv,
   .agg [.int .i64 (trA ⟨m, l1, l2, v1, v2, z1, z2, w⟩ (decMp (.cm ks vs)).ev).1.1, .int .i64 (trA ⟨m, l1, l2, v1, v2, z1, z2, w⟩ (decMp (.cm ks vs)).ev).1.2, .int .i64 (trA ⟨m, l1, l2, v1, v2, z1, z2, w⟩ (decMp (.cm ks vs)).ev).2.1, .int .i64 (trA ⟨m, l1, l2, v1, v2, z1, z2, w⟩ (decMp (.cm ks vs)).ev).2.2])
 | _ => none
theorem p56f : PureOk Try.prog 56 (fcC F56) := by
 intro w im args vs K him ha hC
 unfold fcC F56 at hC
 split at hC <;> first | (exact hC.elim) | skip
 rename_i h
 split at h <;> first | (cases h; done) | skip
 cases h
 refine p56 w im _ vs K him ha ⟨⟨_, _, _, _, _, _, _, _⟩, _, ?_, hC.1.1, hC.2⟩
 rw [← hC.1.2]; rfl
def F49 : FC := fun args => match args with
 | [.agg [.int .i64 m, .int .i64 l1, .int .i64 l2, .int .i64 v1, .int .i64 v2, .int .i64 z1, .int .i64 z2, .int .i64 w], .rd 3 n f] => some ((Vl.ok ⟨m, l1, l2, v1, v2, z1, z2, w⟩ ∧ okRs ⟨m, l1, l2, v1, v2, z1, z2, w⟩ (decR n f)) ∧ ∀ j, j < n → f j = rowR (decR n f) j, .cm (Mp.mid w (decR n f)).ks (Mp.mid w (decR n f)).vs)
 | _ => none
theorem p49f : PureOk Try.prog 49 (fcC F49) := by
 intro w im args vs K hb hv hC
 refine p49.le w im args vs K hb hv ?_
 unfold fcC F49 at hC
 split at hC <;> first | (exact hC.elim) | skip
 rename_i h
 split at h <;> first | (cases h; done) | skip
 rename_i m l1 l2 v1 v2 z1 z2 w n f
 cases h
 refine ⟨[Vl.sv ⟨m, l1, l2, v1, v2, z1, z2, w⟩, .rd 3 (decR n f).length (rowR (decR n f))], ⟨.inl (by simp [Vl.sv, leR, leR.leRs]), .inl ?_, trivial⟩, ⟨m, l1, l2, v1, v2, z1, z2, w⟩, _, rfl, hC.1.1, hC.2⟩
 rw [decR_len]
 exact ⟨rfl, rfl, hC.1.2⟩
def sm4 (x : Int) : Prop := -10000 ≤ x ∧ x ≤ 10000
def Mp.bd : Mp → Prop
 | .e0 => True
 | .d1 a b => sm4 a ∧ sm4 b
 | .t1 a b => sm4 a ∧ sm4 b
 | .dt a b c e => (sm4 a ∧ sm4 b) ∧ sm4 c ∧ sm4 e
 | .td a b c e => (sm4 a ∧ sm4 b) ∧ sm4 c ∧ sm4 e
theorem cm_4 {a b c d : Int} (hc : sm4 c) (hd : sm4 d) (ha : sm4 a) (hb : sm4 b) : sm4 (cmL a b c d) ∧ sm4 (cmH a b c d) := by
 unfold sm4 at *
 unfold cmL cmH
 by_cases h : max a c ≤ min b d
 ·rw [if_pos h, if_pos h]; omega
 ·rw [if_neg h, if_neg h]; omega
theorem bd_wth {M : Mp} (h : M.bd) {t : Bool} {x y : Int} (hx : sm4 x) (hy : sm4 y) : (M.wth t x y).bd := by
 cases M <;> cases t <;> simp only [Mp.wth, Mp.bd] at h ⊢
 ·exact ⟨hx, hy⟩
 ·exact ⟨hx, hy⟩
 ·exact cm_4 hx hy h.1 h.2
 ·exact ⟨h, hx, hy⟩
 ·exact ⟨⟨hx, hy⟩, h⟩
 ·exact cm_4 hx hy h.1 h.2
 ·exact ⟨cm_4 hx hy h.1.1 h.1.2, h.2⟩
 ·exact ⟨h.1, cm_4 hx hy h.2.1 h.2.2⟩
 ·exact ⟨cm_4 hx hy h.1.1 h.1.2, h.2⟩
 ·exact ⟨h.1, cm_4 hx hy h.2.1 h.2.2⟩
theorem wth_ne {M : Mp} {t : Bool} {x y : Int} : M.wth t x y ≠ .e0 := by
 cases M <;> cases t <;> simp [Mp.wth]
theorem mid_bd {v : Vl} (hv : v.ok) {R : List Rg} (hR : ∀ e ∈ R, okR v e) : (Mp.mid v.w R).bd := by
 suffices h : ∀ M : Mp, M.bd → (R.foldl (fun M e => M.rd v.w e) M).bd from h .e0 trivial
 induction R with
 | nil => exact fun M h => h
 | cons e R ih =>
  intro M h
  refine ih (fun e he => hR e (List.mem_cons_of_mem _ he)) _ ?_
  have h1 := hR e List.mem_cons_self
  unfold okR at h1
  unfold Vl.ok at hv
  exact bd_wth h (by unfold sm4; omega) (by unfold sm4; omega)
theorem fold_ne {w : Int} {R : List Rg} : ∀ M : Mp, M ≠ .e0 → R.foldl (fun M e => M.rd w e) M ≠ .e0 := by
 induction R with
 | nil => exact fun M h => h
 | cons e R ih => exact fun M h => ih _ wth_ne
theorem mid_ne {w : Int} {R : List Rg} (h : R ≠ []) : Mp.mid w R ≠ .e0 := by
 cases R with
 | nil => exact absurd rfl h
 | cons e R => exact fold_ne (w := w) (R := R) (Mp.e0.rd w e) wth_ne
theorem ok_of {M : Mp} (h : M.bd) (h0 : M ≠ .e0) : M.ok := by
 cases M
 ·exact absurd rfl h0
 all_goals
  unfold Mp.ok okE Mp.ev ev0
  simp only [Mp.bd, sm4] at h
  refine ⟨by simp, fun k hk => ?_⟩
  simp only [List.length_cons, List.length_nil] at hk
 ·obtain rfl : k = 0 := by omega
  exact ⟨.inl rfl, h⟩
 ·obtain rfl : k = 0 := by omega
  exact ⟨.inr rfl, h⟩
 ·rcases (show k = 0 ∨ k = 1 by omega) with rfl | rfl
  ·exact ⟨.inl rfl, h.1⟩
  ·exact ⟨.inr rfl, h.2⟩
 ·rcases (show k = 0 ∨ k = 1 by omega) with rfl | rfl
  ·exact ⟨.inl rfl, h.1⟩
  ·exact ⟨.inr rfl, h.2⟩
theorem mid_ok {v : Vl} (hv : v.ok) {R : List Rg} (hR : okRs v R) : (Mp.mid v.w R).ok :=
 ok_of (mid_bd hv hR.2) (mid_ne fun h => by have := hR.1; rw [h] at this; simp at this)
def trM (v : Vl) (R : List Rg) : (Int × Int) × (Int × Int) := trA v (Mp.mid v.w R).ev
def C16 : PC := fun args K => ∃ (v : Vl) (R : List Rg) (a z t : Int), args = [v.sv, .rd 3 R.length (rowR R), .agg [.int .i64 a, .int .i64 z, .int .i64 t]] ∧
 (askI v R ≠ 0 → K (.tup [.bool false, .int .i64 (askI v R)])) ∧
 (askI v R = 0 → ¬ truP v a z → K (.tup [.bool false, .int .i64 32])) ∧
 (askI v R = 0 → truP v a z → K (.tup [.bool (agrB (Mp.mid v.w R).ev a z t), .int .i64 0]))
theorem p16 : PureOk Try.prog 16 C16 := by
 refine pure_of (T := [(47, .pc C47), (48, .fc F48), (49, .fc F49), (50, .pc C50)]) ⟨⟨p47, q47⟩, ⟨p48, q48⟩, ⟨p49f, q49⟩, ⟨p50, q50⟩, trivial⟩ Try.func16 k16 ?_
 rintro args K ⟨v, R, a, z, t, rfl, hK1, hK2, hK3⟩
 simp only [Vl.sv]
 simp only [e_reg, e_seq, o_nil, o_cons, gd_none, putK_e, runK_e, vK_e, boxK_e, conK_e, callK_e, evh_v, evh_box, evh_call, seqK_n, gam_e, gamK_p, pc_e, pcK_e, evp, bin, gt, st, putf, X.get, gets, ap, mkfr, rep, clV, clL, clS, clo, ld, lda, tk, dr, cs1, gb, pb, ln, lk, undef, Nat.reduceSub, Nat.reduceAdd, beq_self_eq_true, true_and, s16, r16]
 refine ⟨v, R, rfl, ?_⟩
 by_cases h : askI v R = 0
 ·have hF : (askI v R = 0) = True := eq_true h
  obtain ⟨hv, hR⟩ := ask0 h
  have hv' := hv
  simp only [Vl.ok] at hv'
  by_cases hd : (v.v1 ≤ a ∧ a ≤ v.v2) ∧ v.z1 ≤ z ∧ z ≤ v.z2
  ·have hd1 : ((v.v1 ≤ a ∧ a ≤ v.v2) ∧ v.z1 ≤ z ∧ z ≤ v.z2) = True := eq_true hd
   have hK := hK3 h hd
   simp only [condK_bf, decide_true, e_skip, e_reg, and_self, e_drw, e_seq, e_cond, e_ret, o_nil, o_cons, gd_none, putK_e, runK_e, vK_e, bldK_e, storeK3_e, storeK2_e, storeK_e, conK_e, callK_e, evh_v, evh_new, evh_bld, evh_store, evh_call, dX_e, dG_t, d_nil, d_cons, tlK_n, seqK_n, ends_r, endK1_e, gam_e, gamK_f, gamK_p, gamq_e, gamqK_f, pc_e, pcK_e, fcC_e, fcK_e, evp, gt, st, putf, X.get, gets, getp, ap, rdR, tupled, clV, clL, clS, clo, clo.clos, ld, lda, tk, dr, sp, sp.spl, lay, ll, cs1, one, allOne, gb, sb, pb, ln, lk, evq, gdl, Bool.and_true, Bool.not_true, Nat.reduceAdd, Nat.reduceBEq, beq_self_eq_true, true_and, hF, hd1, F48, F49, decR_row]
   refine ⟨⟨⟨hv, hR⟩, fun _ _ => trivial⟩, ?_⟩
   refine ⟨Mp.mid v.w R, a, z, t, rfl, ⟨mid_ok hv hR, by omega, by omega⟩, ?_⟩
   simp only [endK2_e, clo]
   exact res hK (by simp [leR, leR.leRs])
  ·have hd1 : ((v.v1 ≤ a ∧ a ≤ v.v2) ∧ v.z1 ≤ z ∧ z ≤ v.z2) = False := eq_false hd
   have hK := hK2 h hd
   simp only [condK_bt, condK_bf, decide_true, decide_false, e_skip, e_reg, and_self, e_seq, e_cond, e_ret, o_nil, o_cons, gd_none, putK_e, runK_e, vK_e, bldK_e, storeK3_e, storeK2_e, storeK_e, conK_e, callK_e, evh_v, evh_new, evh_bld, evh_store, evh_call, seqK_n, seqK_r, ends_r, endK1_e, endK2_e, gam_e, gamK_f, pc_e, pcK_e, fcC_e, fcK_e, evp, gt, st, putf, X.get, gets, getp, ap, rdR, tupled, clV, clL, clS, clo, ld, lda, tk, dr, sp, sp.spl, lay, ll, cs1, one, allOne, gb, sb, pb, ln, lk, Bool.and_true, Bool.not_true, Bool.not_false, Nat.reduceAdd, Nat.reduceBEq, beq_self_eq_true, true_and, hF, hd1, F48]
   exact res hK (by simp [leR, leR.leRs])
 ·have hF : (askI v R = 0) = False := eq_false h
  have hK := hK1 h
  simp only [condK_bt, decide_false, e_reg, e_seq, e_cond, e_ret, o_nil, o_cons, gd_none, putK_e, runK_e, vK_e, evh_v, seqK_n, seqK_r, ends_r, endK1_e, endK2_e, evp, gt, st, putf, X.get, rdR, tupled, clV, clL, clS, clo, Bool.not_false, true_and, hF]
  exact res hK (by simp [leR, leR.leRs])
theorem trM_bnd {v : Vl} (hv : v.ok) {R : List Rg} (hR : okRs v R) : ((-20000000 ≤ (trM v R).1.1 ∧ (trM v R).1.1 ≤ 20000000) ∧ (-20000000 ≤ (trM v R).1.2 ∧ (trM v R).1.2 ≤ 20000000)) ∧ ((-20000000 ≤ (trM v R).2.1 ∧ (trM v R).2.1 ≤ 20000000) ∧ (-20000000 ≤ (trM v R).2.2 ∧ (trM v R).2.2 ≤ 20000000)) :=
 accM_bnd hv (mid_ok hv hR) (n := nzV v) (by unfold Vl.ok at hv; unfold nzV; omega)
def noT : (Int × Int) × (Int × Int) := ((1, 0), (1, 0))
def C20 : PC := fun args K => ∃ (v : Vl) (R : List Rg), args = [v.sv, .rd 3 R.length (rowR R)] ∧
 (askI v R ≠ 0 → K (.tup [.agg [.int .i64 0, .int .i64 0], .agg [.int .i64 0, .int .i64 0], .int .i64 (askI v R)])) ∧
 (askI v R = 0 → trM v R = noT → K (.tup [.agg [.int .i64 0, .int .i64 0], .agg [.int .i64 0, .int .i64 0], .int .i64 33])) ∧
 (askI v R = 0 → trM v R ≠ noT → K (.tup [.agg [.int .i64 (trM v R).1.1, .int .i64 (trM v R).1.2], .agg [.int .i64 (trM v R).2.1, .int .i64 (trM v R).2.2], .int .i64 0]))
theorem p20 : PureOk Try.prog 20 C20 := by
 refine pure_of (T := [(47, .pc C47), (49, .fc F49), (56, .fc F56), (57, .fc F57)]) ⟨⟨p47, q47⟩, ⟨p49f, q49⟩, ⟨p56f, q56⟩, ⟨p57, q57⟩, trivial⟩ Try.func20 k20 ?_
 rintro args K ⟨v, R, rfl, hK1, hK2, hK3⟩
 simp only [Vl.sv]
 simp only [e_reg, e_seq, o_nil, o_cons, gd_none, putK_e, runK_e, vK_e, boxK_e, conK_e, callK_e, evh_v, evh_new, evh_box, evh_call, seqK_n, gam_e, gamK_p, pc_e, pcK_e, evp, bin, gt, st, putf, X.get, gets, ap, mkfr, rep, clV, clL, clS, clo, ld, lda, tk, dr, cs1, gb, pb, ln, lk, undef, Nat.reduceSub, Nat.reduceAdd, beq_self_eq_true, true_and, s20, r20]
 refine ⟨v, R, rfl, ?_⟩
 by_cases h : askI v R = 0
 ·have hF : (askI v R = 0) = True := eq_true h
  obtain ⟨hv, hR⟩ := ask0 h
  have hok := mid_ok hv hR
  by_cases hn : trM v R = noT
  ·have hK := hK2 h hn
   have hn1 : trA v (Mp.mid v.w R).ev = noT := hn
   simp only [condK_bt, condK_bf, decide_true, e_skip, e_reg, and_self, e_drw, e_seq, e_cond, e_ret, o_nil, o_cons, gd_none, putK_e, runK_e, vK_e, bldK_e, storeK3_e, storeK2_e, storeK_e, evh_v, evh_new, evh_bld, evh_store, dX_e, dG_t, d_nil, d_cons, creK_e, tlK_n, tlK_s, evc_e, seqK_n, seqK_r, ends_r, endK1_e, endK2_e, gamq_e, gamqK_f, evp, fit, InQ, gt, st, putf, X.get, gets, getp, ap, rdR, tupled, clV, clL, clS, clo, clo.clos, ld, lda, tk, dr, sp, sp.spl, lay, ll, cs1, one, allOne, gb, sb, pb, ln, lk, evq, gdl, crv, Bool.and_true, Bool.not_true, cond_false, Nat.reduceAdd, Nat.reduceBEq, beq_self_eq_true, true_and, and_true, hF, F49, F56, F57, decR_row, decMp_ks, hn1, noT]
   exact ⟨⟨⟨hv, hR⟩, fun _ _ => trivial⟩, ⟨⟨hv, hok⟩, rfl⟩, by omega, res hK (by simp [leR, leR.leRs])⟩
  ·have hK := hK3 h hn
   have hT : trA ⟨v.m, v.l1, v.l2, v.v1, v.v2, v.z1, v.z2, v.w⟩ (Mp.mid v.w R).ev = trM v R := rfl
   have hb := trM_bnd hv hR
   have he1 : ((trM v R).1.1 = 1 ∧ (trM v R).1.2 = 0 ∧ (trM v R).2.1 = 1 ∧ (trM v R).2.2 = 0) = False := by
    simp only [eq_iff_iff, iff_false]
    intro h2
    exact hn (Prod.ext (Prod.ext h2.1 h2.2.1) (Prod.ext h2.2.2.1 h2.2.2.2))
   simp only [condK_bf, decide_true, decide_false, List.cons.injEq, e_skip, e_reg, e_tre, t_leaf, t_stop, t_op, and_self, e_drw, e_seq, e_cond, e_ret, o_nil, o_cons, gd_none, putK_e, runK_e, vK_e, bldK_e, storeK3_e, storeK2_e, storeK_e, evh_v, evh_new, evh_bld, evh_store, dX_e, dG_t, d_nil, d_cons, creK_e, tlK_n, tlK_s, evc_e, seqK_n, ends_r, endK1_e, endK2_e, gamq_e, gamqK_f, evp, fit, InQ, gt, st, putf, X.get, gets, getp, ap, rdR, tupled, clV, clL, clS, clo, clo.clos, ld, lda, tk, dr, sp, sp.spl, lay, ll, cs1, one, allOne, gb, sb, pb, ln, lk, evq, gdl, crv, Bool.and_true, Bool.not_true, Bool.not_false, cond_false, Nat.reduceAdd, Nat.reduceBEq, beq_self_eq_true, true_and, and_true, hF, F49, F56, F57, decR_row, decMp_ks, hT, he1]
   exact ⟨⟨⟨hv, hR⟩, fun _ _ => trivial⟩, ⟨⟨hv, hok⟩, rfl⟩, by omega, res hK (by simp [leR, leR.leRs])⟩
 ·have hF : (askI v R = 0) = False := eq_false h
  have hK := hK1 h
  simp only [condK_bt, decide_false, e_reg, and_self, e_seq, e_cond, e_ret, o_nil, o_cons, gd_none, putK_e, runK_e, vK_e, bldK_e, storeK3_e, storeK2_e, storeK_e, evh_v, evh_bld, evh_store, seqK_n, seqK_r, ends_r, endK1_e, endK2_e, evp, gt, st, putf, X.get, getp, rdR, tupled, clV, clL, clS, clo, ld, tk, dr, sp, sp.spl, lay, ll, cs1, one, allOne, gb, sb, Bool.and_true, Bool.not_false, Nat.reduceAdd, true_and, hF]
  exact res hK (by simp [leR, leR.leRs])
end Go.Proofs.Ytgdihdiadlmjiaa
