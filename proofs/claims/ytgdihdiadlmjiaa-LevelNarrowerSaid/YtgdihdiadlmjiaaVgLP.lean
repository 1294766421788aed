import Derived.Test.YtgdihdiadlmjiaaVgLJ
import Derived.Test.YtgdihdiadlmjiaaVgV17
set_option linter.all false
namespace Go.Proofs.Ytgdihdiadlmjiaa
open Go Go.Vg
set_option maxRecDepth 10000
def s88 : SC :=
 (.seq (.reg [⟨(some 3),none,.box 78 (.t 0)⟩,.u1 6 (0),.w5 7 false]) (.seq (.seq (.reg [.u2 10 3 0,.u2 11 10 0,.u3 12 11,(.w6 13 (.bin .mul (.c (.int .i64 (2))) (.t 12))),.u7 14 .add 13 (1),.u1 15 (0)]) (.block 0 (.loop (.seq (.reg [.u6 16 .lss 15 14]) (.seq (.cond (.t 16) .skip (.exit 0)) (.seq (.block 1 (.seq (.reg [.u0 17 15,.u0 8 17]) (.seq (.drw [(0,.u4 18 3 8,false),(1,.u0 19 1,false),(2,.u0 20 2,false),(3,.u4 21 3 8,false),(4,.u0 22 8,false),(5,(.w1 23 94 [(.t 21),(.t 22)]),false),(6,(.w1 24 93 [(.t 19),(.t 20),(.t 23)]),false),(7,(.w1 25 56 [(.t 18),(.t 24)]),false)] (some ⟨(some 9),none,.new 88 [(.int .i64 (0)),(.int .i64 (0)),(.int .i64 (0)),(.int .i64 (0))]⟩) [.w3 4 9 25]) (.seq (.drw [(0,.u4 26 9 4,false),(1,(.w1 27 57 []),false)] none [(.w6 28 (.eqs [(some .i64),(some .i64),(some .i64),(some .i64)] true (.t 26) (.t 27)))]) (.cond (.t 28) (.reg [.u0 29 6,.u2 30 9 0,.u4 31 30 2,(.w1 32 98 [(.t 31)]),(.w6 33 (.max2 (.t 29) (.t 32))),.u0 6 33,.w5 7 true]) .skip))))) (.reg [.u7 34 .add 15 (1),.u0 15 34]))))))) (.seq (.reg [.u0 35 6,.u0 36 7,.u0 6 35,.u0 7 36]) .ret)))
def r88 : List RV := [.t 6, .t 7]
theorem k88 : (Try.f88.body.bind (cC Try.prog), cR Try.prog Try.f88.results.toList, Try.f88.ntmps) = (some s88, some r88, 37) := by kernel_rfl
theorem q88 : Known Try.prog 88 := ⟨_, Try.func88, by decide, by simp [Try.f88]⟩
def F93 : FC := fun args => match args with
 | [.cm ks vs, .bool t, .agg [.int .i64 x, .int .i64 y]] => some (SV.cm ks vs = (decMp (.cm ks vs)).sv, .cm ((decMp (.cm ks vs)).wth t x y).ks ((decMp (.cm ks vs)).wth t x y).vs)
 | _ => none
theorem p93f : PureOk Try.prog 93 (fcC F93) := by
 intro w im args vs K him ha hC
 unfold fcC F93 at hC
 split at hC <;> first | (exact hC.elim) | skip
 rename_i h
 split at h <;> first | (cases h; done) | skip
 cases h
 exact p93 w im _ vs K him ha ⟨_, _, _, _, congrArg (fun z => [z, _, _]) hC.1, hC.2⟩
def gnI (v : Vl) (L : List Md) (t : Bool) : Int := max 0 (gn v L t)
def gnB (v : Vl) (L : List Md) (t : Bool) : Bool := decide (0 <= gn v L t)
def C88 : PC := fun args K => ∃ (v : Vl) (L : List Md) (t : Bool), args = [v.sv, (midL v.w L).sv, .bool t] /\ (v.ok /\ okL L) /\ K (.tup [.int .i64 (gnI v L t), .bool (gnB v L t)])
theorem tz_bL {v : Vl} (hv : v.ok) {L : List Md} (hL : okL L) : ((-20000000 <= (tzA v L).t1 /\ (tzA v L).t1 <= 20000000 /\ -20000000 <= (tzA v L).t2 /\ (tzA v L).t2 <= 20000000) /\ -20000000 <= (tzA v L).u1 /\ (tzA v L).u1 <= 20000000 /\ -20000000 <= (tzA v L).u2 /\ (tzA v L).u2 <= 20000000) \/ (tzA v L).f = false := by
 cases hf : (tzA v L).f with
 | false => exact .inr rfl
 | true =>
  have h := ((tz_trL hv hL).1 hf).1
  have hb := accM_bnd hv (midL_ok hv hL) (n := nzV v) (by unfold Vl.ok at hv; unfold nzV; omega)
  change ((-20000000 <= (trA v (midL v.w L).ev).1.1 /\ (trA v (midL v.w L).ev).1.1 <= 20000000) /\ (-20000000 <= (trA v (midL v.w L).ev).1.2 /\ (trA v (midL v.w L).ev).1.2 <= 20000000)) /\ ((-20000000 <= (trA v (midL v.w L).ev).2.1 /\ (trA v (midL v.w L).ev).2.1 <= 20000000) /\ (-20000000 <= (trA v (midL v.w L).ev).2.2 /\ (trA v (midL v.w L).ev).2.2 <= 20000000)) at hb
  rw [h] at hb
  simp only [tzP] at hb
  exact .inl ⟨⟨hb.1.1.1, hb.1.1.2, hb.1.2.1, hb.1.2.2⟩, hb.2.1.1, hb.2.1.2, hb.2.2.1, hb.2.2.2⟩
set_option maxHeartbeats 8000000 in
theorem p88 : PureOk Try.prog 88 C88 := by
 refine pure_of (T := [(94, .fc F94), (93, .fc F93), (56, .fc F56), (57, .fc F57), (98, .fc F98)]) ⟨⟨p94f, q94⟩, ⟨p93f, q93⟩, ⟨p56f, q56⟩, ⟨p57, q57⟩, ⟨p98, q98⟩, trivial⟩ Try.func88 k88 ?_
 rintro args K ⟨v, L, t, rfl, ⟨hv, hL⟩, hK⟩
 have hv2 := hv
 unfold Vl.ok at hv2
 simp only [Vl.sv, Mp.sv]
 simp only [inr64, e_reg, e_seq, e_block, e_loop, o_nil, o_cons, gd_none, putK_e, runK_e, vK_e, boxK_e, evh_v, evh_box, seqK_n, evp, bin, gt, gq, st, putf, X.get, mkfr, rep, ld, lda, cs1, gb, pb, ln, undef, Nat.reduceSub, Nat.reduceAdd, true_and, s88, r88]
 refine ⟨by omega, by omega, ?_⟩
 refine loop_at2 (G := Nat) (fun k => [(15, .int .i64 k), (6, .int .i64 (max 0 (gnN v L t k))), (7, .bool (decide (0 <= gnN v L t k)))]) (fun _ => [Blk.box 78 [.int .i64 v.m, .int .i64 v.l1, .int .i64 v.l2, .int .i64 v.v1, .int .i64 v.v2, .int .i64 v.z1, .int .i64 v.z2, .int .i64 v.w]]) (fun k => (k : Int) <= 2 * v.m + 1) (fun k => (2 * v.m + 1 - k).toNat) 0 (by omega) ?_
 (intro fr1 hf1; simp only [forget, dstC, dstO, dstD, dst1, st] at hf1; subst hf1)
 refine ⟨?_, ?_⟩
 ·refine Lw_re 1 [] (Nat.zero_le _) (by simp [ln]) (by simp [ln]) rfl ?_ ?_
  ·simp only [reL, reX, inb, inb.inbs, ln, sts, st, Bool.and_self, Nat.reduceLT, Nat.reduceAdd, decide_true, true_and, and_true, and_self, Int.natCast_zero, gnN]
   exact ⟨rfl, rfl⟩
  ·simp only [reL, reX, reH, reB, reN, inb, and_self]
 ·intro k hk
  by_cases hz : (k : Int) < 2 * v.m + 1
  ·have hzT : ((k : Int) < 2 * v.m + 1) = True := eq_true hz
   have hL2 := okL_app hL (k := (k : Int)) (t := t) (by omega)
   have hs := midL_s v.w L ((k : Int), t)
   simp only at hs
   have htz := tz_trL hv hL2
   rw [hs] at htz
   have hMo := midL_ok hv hL2
   rw [hs] at hMo
   have hb := tz_bL hv hL2
   have hge := (gn_ge hv hL (t := t) (k + 1) (by omega)).2 k (by omega)
   have hg : gnN v L t (k + 1) = if (tzA v (L ++ [((k : Int), t)])).f = true then max (gnN v L t k) ((tzA v (L ++ [((k : Int), t)])).t2 - (tzA v (L ++ [((k : Int), t)])).t1) else gnN v L t k := rfl
   generalize tzA v (L ++ [((k : Int), t)]) = T at *
   cases hf : T.f with
   | true =>
    have h1 := htz.1 hf
    have hb := hb.resolve_right (by rw [hf]; simp)
    have he : (T.t1 = 1 /\ T.t2 = 0 /\ T.u1 = 1 /\ T.u2 = 0) = False := eq_false (by omega)
    rw [if_pos hf] at hg
    have hgd : decide (0 <= gnN v L t (k + 1)) = true := by
     have := (hge hf).1
     exact decide_eq_true this
    have hgm : (if max 0 (gnN v L t k) < T.t2 - T.t1 then T.t2 - T.t1 else max 0 (gnN v L t k)) = max 0 (gnN v L t (k + 1)) := by
     rw [hg]; split <;> omega
    simp only [condK_bt, decide_true, decide_false, inr64, List.cons.injEq, e_skip, e_reg, and_self, e_drw, e_seq, e_cond, e_block, o_nil, o_cons, gd_none, putK_e, runK_e, vK_e, storeK3_e, storeK2_e, storeK_e, conK_e, callK_e, evh_v, evh_store, evh_call, dX_e, dG_t, d_nil, d_cons, creK_e, tlK_n, tlK_s, evc_e, loopK_n, seqK_n, blockK_n, gam_e, gamK_f, gamq_e, gamqK_f, pc_e, pcK_e, fcC_e, fcK_e, evp, fit, InQ, bin, gt, st, putf, X.get, gets, ap, clV, clL, clS, clo, clo.clos, ld, lda, tk, dr, sp, sp.spl, ll, cs1, one, allOne, gb, sb, pb, ln, lk, evq, gdl, crv, Bool.and_true, Bool.not_false, cond_true, Nat.reduceAdd, Nat.reduceBEq, beq_self_eq_true, true_and, and_true, sts, hzT, F94, F93, F56, F57, F98, decMp_ks, h1.1, tzP, he]
    refine ⟨⟨hv, by omega, by omega⟩, rfl, ⟨⟨hv, hMo⟩, rfl⟩, by omega, by omega, by omega, Nx.mk (k + 1) (by omega) (by omega) (Lw_re 1 [] (Nat.zero_le _) (by simp [ln]) (by simp [ln]) rfl ?_ ?_)⟩
    ·simp only [reL, reX, inb, inb.inbs, Bool.and_self, Nat.reduceLT, decide_true, and_self, hgm, hgd, Int.natCast_add, Int.natCast_one]
    ·simp only [reL, reX, reH, reB, reN, inb, and_self]
   | false =>
    have h1 := htz.2 hf
    rw [if_neg (by rw [hf]; simp)] at hg
    simp only [condK_bt, condK_bf, decide_true, inr64, e_skip, e_reg, and_self, e_drw, e_seq, e_cond, e_block, o_nil, o_cons, gd_none, putK_e, runK_e, vK_e, storeK3_e, storeK2_e, storeK_e, evh_v, evh_store, dX_e, dG_t, d_nil, d_cons, creK_e, tlK_n, tlK_s, evc_e, loopK_n, seqK_n, blockK_n, gamq_e, gamqK_f, evp, fit, InQ, bin, gt, st, putf, X.get, gets, ap, clo, clo.clos, ld, lda, tk, dr, sp, sp.spl, ll, cs1, one, allOne, gb, sb, pb, ln, lk, evq, gdl, crv, Bool.and_true, Bool.not_true, cond_true, Nat.reduceAdd, Nat.reduceBEq, beq_self_eq_true, true_and, and_true, sts, hzT, F94, F93, F56, F57, decMp_ks, h1, noT]
    refine ⟨⟨hv, by omega, by omega⟩, rfl, ⟨⟨hv, hMo⟩, rfl⟩, by omega, by omega, Nx.mk (k + 1) (by omega) (by omega) (Lw_re 1 [] (Nat.zero_le _) (by simp [ln]) (by simp [ln]) rfl ?_ ?_)⟩
    ·simp only [reL, reX, inb, inb.inbs, Bool.and_self, Nat.reduceLT, decide_true, and_self, hg, Int.natCast_add, Int.natCast_one]
    ·simp only [reL, reX, reH, reB, reN, inb, and_self]
  ·have hzF : ((k : Int) < 2 * v.m + 1) = False := eq_false hz
   have hk2 : k = (2 * v.m + 1).toNat := by omega
   have hK2 : K (.tup [.int .i64 (max 0 (gnN v L t k)), .bool (decide (0 <= gnN v L t k))]) := by rw [hk2]; exact hK
   simp only [condK_bf, decide_false, e_reg, e_seq, e_cond, e_exit, e_ret, o_nil, o_cons, gd_none, putK_e, runK_e, vK_e, evh_v, loopK_x, seqK_n, seqK_x, exitK_t, blockK_x, ends_r, endK1_e, endK2_e, evp, bin, gt, st, putf, X.get, rdR, tupled, clV, clL, clS, clo, beq_self_eq_true, true_and, sts, hzF]
   exact res hK2 (by simp [leR, leR.leRs])
end Go.Proofs.Ytgdihdiadlmjiaa
