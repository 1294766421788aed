import Derived.Test.YtgdihdiadlmjiaaVgLP
import Derived.Test.YtgdihdiadlmjiaaVgLJ
import Derived.Test.YtgdihdiadlmjiaaVgV17
set_option linter.all false
section
namespace Go.Proofs.Ytgdihdiadlmjiaa
open Go Go.Vg
set_option maxRecDepth 10000
def s90 : SC :=
 (.seq (.reg [⟨(some 2),none,.box 99 (.t 0)⟩,⟨(some 3),none,.box 99 (.t 1)⟩,.w5 4 false]) (.seq (.reg [.u2 5 2 1,.u3 6 5,.u2 7 3 1,.u3 8 7,.u6 9 .lss 6 8,.u0 4 9]) .ret))
def r90 : List RV := [.t 4]
theorem k90 : (Try.f90.body.bind (cC Try.prog), cR Try.prog Try.f90.results.toList, Try.f90.ntmps) = (some s90, some r90, 10) := by kernel_rfl
theorem q90 : Known Try.prog 90 := ⟨_, Try.func90, by decide, by simp [Try.f90]⟩
def s89 : SC :=
 (.seq (.reg [⟨(some 4),none,.box 99 (.t 1)⟩,⟨(some 6),none,.new 99 [(.lit (.bool false)),(.int .i64 (0))]⟩]) (.seq (.seq (.reg [.u0 9 2,.w2 10 9,.u1 11 (0)]) (.block 0 (.loop (.seq (.reg [.u6 12 .lss 11 10]) (.seq (.cond (.t 12) .skip (.exit 0)) (.seq (.block 1 (.seq (.reg [(.w6 13 (.ixa (.t 9) (.t 11) 2)),.u4 14 13 2,⟨(some 8),none,.new 99 [(.lit (.bool false)),(.int .i64 (0))]⟩,.w3 2 8 14]) (.seq (.reg [.u0 15 0,.u4 16 8 2,.u4 17 4 2,⟨(some 18),none,.call (.t 15) [(.t 16),(.t 17)]⟩]) (.cond (.t 18) (.reg [.u4 19 8 2,.w3 2 4 19]) .skip)))) (.reg [.u7 20 .add 11 (1),.u0 11 20]))))))) (.seq (.reg [.u4 21 4 2,.w3 2 6 21]) .ret)))
def r89 : List RV := [.c 6 (some 2)]
theorem k89 : (Try.f89.body.bind (cC Try.prog), cR Try.prog Try.f89.results.toList, Try.f89.ntmps) = (some s89, some r89, 22) := by kernel_rfl
theorem q89 : Known Try.prog 89 := ⟨_, Try.func89, by decide, by simp [Try.f89]⟩
def s62 : SC :=
 (.seq (.reg [⟨(some 2),none,.box 78 (.t 0)⟩,⟨(some 4),none,.new 99 [(.lit (.bool false)),(.int .i64 (0))]⟩]) (.seq (.reg [(.w6 5 (.mov (.c (.lit (.slice none 0 0)))))]) (.seq (.seq (.reg [(.w1 10 87 []),.u1 11 (0)]) (.block 0 (.loop (.seq (.reg [.u7 12 .lss 11 (2)]) (.seq (.cond (.t 12) .skip (.exit 0)) (.seq (.block 1 (.seq (.reg [(.w6 13 (.ixv (.t 10) (.t 11) 2 2 (some 2))),⟨(some 7),none,.new 133 [(.lit (.bool false)),(.lit .nilFunc)]⟩,.w3 2 7 13]) (.seq (.reg [.u4 15 2 8,.u0 16 1,.u2 17 7 0,.u3 18 17,(.w1 19 88 [(.t 15),(.t 16),(.t 18)]),.u0 14 19,.u5 20 14 0,.u5 21 14 1,.u0 8 20,.u0 9 21]) (.seq (.reg [.u0 22 9]) (.cond (.t 22) (.reg [.u0 23 5,.u2 24 7 0,.u3 25 24,.u0 26 8,⟨(some 27),none,.bld [(.lit (.bool false)),(.int .i64 (0))] [(0,1,(.t 25)),(1,1,(.t 26))]⟩,⟨(some 28),none,.bsl 99 1 [(.lit (.bool false)),(.int .i64 (0))] [(0,2,(.t 27))]⟩,⟨(some 29),none,.app 99 2 16 (.t 23) (.t 28)⟩,.u0 5 29]) .skip))))) (.reg [.u7 30 .add 11 (1),.u0 11 30]))))))) (.seq (.shut [5,31,32,34,33,35,4,36] (.drw [(0,.u0 31 5,false),(1,(.w6 32 (.ixa (.t 31) (.c (.int .i64 (0))) 2)),false),(2,.u4 33 32 2,false),(3,.u0 34 5,false),(4,⟨(some 35),none,.slc (.t 34) (some (.c (.int .i64 (1)))) none none 2⟩,false)] none [(.w1 36 89 [(.c (.fn 90 [])),(.t 33),(.t 35)]),.w3 2 4 36])) .ret))))
def r62 : List RV := [.c 4 (some 2)]
theorem k62 : (Try.f62.body.bind (cC Try.prog), cR Try.prog Try.f62.results.toList, Try.f62.ntmps) = (some s62, some r62, 37) := by kernel_rfl
theorem q62 : Known Try.prog 62 := ⟨_, Try.func62, by decide, by simp [Try.f62]⟩
def s26 : SC :=
 (.seq (.reg [⟨(some 2),none,.box 25 (.t 0)⟩,.w5 4 false,.u1 5 (0),.u1 6 (0)]) (.seq (.seq (.reg [.u4 11 2 8,.u0 12 1,(.w1 13 47 [(.t 11),(.t 12)]),.u0 7 13]) (.seq (.reg [.u0 14 7,.u7 15 .neq 14 (0)]) (.cond (.t 15) (.seq (.reg [.u0 16 7,.w5 4 false,.u1 5 (0),.u0 6 16]) .ret) .skip))) (.seq (.seq (.reg [.u0 17 1,.w2 18 17,.u7 19 .eql 18 (8)]) (.cond (.t 19) (.seq (.reg [.w5 4 false,.u1 5 (0),.u1 6 (6)]) .ret) .skip)) (.seq (.reg [.u4 20 2 8,⟨(some 21),none,.bld [(.int .i64 (0)),(.int .i64 (0)),(.int .i64 (0)),(.int .i64 (0)),(.int .i64 (0)),(.int .i64 (0)),(.int .i64 (0)),(.int .i64 (0))] [(0,8,(.t 20))]⟩,⟨(some 8),none,.new 78 [(.int .i64 (0)),(.int .i64 (0)),(.int .i64 (0)),(.int .i64 (0)),(.int .i64 (0)),(.int .i64 (0)),(.int .i64 (0)),(.int .i64 (0))]⟩,.w3 8 8 21]) (.seq (.reg [.u4 22 8 8,.u0 23 1,(.w1 24 49 [(.t 22),(.t 23)]),.u0 9 24]) (.seq (.seq (.reg [.u4 25 8 8,.u0 26 9,(.w1 27 56 [(.t 25),(.t 26)]),(.w1 28 57 []),(.w6 29 (.eqs [(some .i64),(some .i64),(some .i64),(some .i64)] false (.t 27) (.t 28)))]) (.cond (.t 29) (.seq (.reg [.w5 4 false,.u1 5 (0),.u1 6 (33)]) .ret) .skip)) (.seq (.reg [.u4 30 8 8,.u0 31 9,(.w1 32 62 [(.t 30),(.t 31)]),⟨(some 10),none,.new 99 [(.lit (.bool false)),(.int .i64 (0))]⟩,.w3 2 10 32]) (.seq (.drw [(0,.u2 33 10 0,false),(1,.u3 34 33,false),(2,.u2 35 10 1,false),(3,.u3 36 35,false),(4,.u0 4 34,false)] none [.u0 5 36,.u1 6 (0)]) .ret))))))))
def r26 : List RV := [.t 4, .t 5, .t 6]
theorem k26 : (Try.f26.body.bind (cC Try.prog), cR Try.prog Try.f26.results.toList, Try.f26.ntmps) = (some s26, some r26, 37) := by kernel_rfl
theorem q26 : Known Try.prog 26 := ⟨_, Try.func26, by decide, by simp [Try.f26]⟩
def F90 : FC := fun args => match args with
 | [.agg [.bool a, .int .i64 x], .agg [.bool b, .int .i64 y]] => some (True, .bool (decide (x < y)))
 | _ => none
theorem p90 : PureOk Try.prog 90 (fcC F90) := by
 refine pure_of (T := []) trivial Try.func90 k90 ?_
 intro args K hC
 unfold fcC F90 at hC
 split at hC <;> first | (exact hC.elim) | skip
 rename_i h
 split at h <;> first | (cases h; done) | skip
 cases h
 obtain ⟨-, hK⟩ := hC
 simp only [e_reg, e_seq, e_ret, o_nil, o_cons, gd_none, putK_e, runK_e, vK_e, boxK_e, evh_v, evh_box, seqK_n, ends_r, endK1_e, endK2_e, evp, bin, gt, gq, st, putf, X.get, mkfr, rep, rdR, tupled, clV, clS, clo, ld, lda, cs1, gb, pb, ln, undef, Nat.reduceSub, Nat.reduceAdd, true_and, s90, r90]
 exact res hK (by simp [leR])
def pickF (n : Nat) (b : Nat -> Bool) (y : Nat -> Int) (b0 : Bool) (y0 : Int) : Nat -> Bool × Int
 | 0 => (b0, y0)
 | j + 1 => if y j < (pickF n b y b0 y0 j).2 then (b j, y j) else pickF n b y b0 y0 j
def C89 : PC := fun args K => ∃ (n : Nat) (b : Nat -> Bool) (y : Nat -> Int) (b0 : Bool) (y0 : Int), args = [.fn 90 [], .agg [.bool b0, .int .i64 y0], .rd 2 n fun j => [.bool (b j), .int .i64 (y j)]] /\ n <= 100 /\
 K (.agg [.bool (pickF n b y b0 y0 n).1, .int .i64 (pickF n b y b0 y0 n).2])
theorem p89 : PureOk Try.prog 89 C89 := by
 refine pure_of (T := [(90, .fc F90)]) ⟨⟨p90, q90⟩, trivial⟩ Try.func89 k89 ?_
 rintro args K ⟨n, b, y, b0, y0, rfl, hn, hK⟩
 simp only [e_reg, e_seq, e_block, e_loop, o_nil, o_cons, gd_none, putK_e, runK_e, vK_e, boxK_e, evh_v, evh_new, evh_box, seqK_n, evp, gt, st, putf, X.get, mkfr, rep, lens, cs1, pb, ln, undef, Nat.reduceSub, Nat.reduceAdd, true_and, s89, r89]
 refine loop_at2 (G := Nat) (fun i => [(11, .int .i64 i)]) (fun i => [Blk.box 99 [.bool (pickF n b y b0 y0 i).1, .int .i64 (pickF n b y b0 y0 i).2], Blk.box 99 [.lit (.bool false), .int .i64 0]]) (fun i => i <= n) (fun i => n - i) 0 (Nat.zero_le _) ?_
 (intro fr1 hf1; simp only [forget, dstC, dstO, st] at hf1; subst hf1)
 refine ⟨?_, ?_⟩
 ·refine Lw_re 2 [] (Nat.zero_le _) (by simp [ln]) (by simp [ln]) rfl ?_ ?_
  ·simp only [reL, reX, inb, inb.inbs, ln, sts, st, Bool.and_self, Nat.reduceLT, Nat.reduceAdd, decide_true, and_self, Int.natCast_zero, implies_true]
  ·simp only [reL, reX, reH, reB, reN, inb, and_self, pickF]
 ·intro i hi
  simp only [inr64, e_skip, e_reg, and_self, e_seq, e_cond, e_block, e_exit, e_ret, o_nil, o_cons, gd_none, putK_e, runK_e, vK_e, storeK3_e, storeK2_e, storeK_e, conK_e, callK_e, evh_v, evh_new, evh_store, evh_call, loopK_n, loopK_x, seqK_n, seqK_x, xNz, exitK_t, blockK_x, blockK_n, ends_r, endK1_e, endK2_e, gam_e, gamK_f, pc_e, pcK_e, fcC_e, fcK_e, evp, bin, gt, st, putf, X.get, gets, ap, rdR, tupled, clV, clL, clS, clo, ld, lda, ixs, tk, dr, sp, sp.spl, ll, cs1, one, allOne, gb, sb, pb, ln, lk, Bool.and_true, Nat.reduceAdd, beq_self_eq_true, true_and, decide_eq_true_eq, decide_eq_false_iff_not, sts, F90, Int.toNat_natCast]
  refine ⟨fun h => ?_, fun h => ?_⟩
  ·refine ⟨by omega, fun c => ⟨by omega, ?_⟩, fun c => ⟨by omega, ?_⟩⟩
   ·have e : pickF n b y b0 y0 (i + 1) = (b i, y i) := by rw [pickF, if_pos c]
    refine Nx.mk (i + 1) (by show i + 1 <= n; omega) (by show n - (i + 1) < n - i; omega) (Lw_re 2 [] (Nat.zero_le _) (by simp [ln]) (by simp [ln]) rfl ?_ ?_)
    ·simp only [reL, reX, inb, inb.inbs, Bool.and_self, Nat.reduceLT, decide_true, and_self, Int.natCast_add, Int.natCast_one, implies_true]
    ·simp only [reL, reX, reH, reB, reN, inb, and_self, e]
   ·have e : pickF n b y b0 y0 (i + 1) = pickF n b y b0 y0 i := by rw [pickF, if_neg c]
    refine Nx.mk (i + 1) (by show i + 1 <= n; omega) (by show n - (i + 1) < n - i; omega) (Lw_re 2 [] (Nat.zero_le _) (by simp [ln]) (by simp [ln]) rfl ?_ ?_)
    ·simp only [reL, reX, inb, inb.inbs, Bool.and_self, Nat.reduceLT, decide_true, and_self, Int.natCast_add, Int.natCast_one, implies_true]
    ·simp only [reL, reX, reH, reB, reN, inb, and_self, e]
  ·have e : i = n := by omega
   subst e
   exact res hK (by simp [leR, leR.leRs])
theorem loop_once {N : Nat} {body : (Exit -> St -> Prop) -> St -> Prop} {K : Exit -> St -> Prop} {s : St} (h : body (loopK K fun _ => False) s) : LoopP N body K s := by
 refine ⟨fun n s' => n = 0 /\ s' = s, ⟨0, s, fun E a _ hn hr => ⟨E, Env.Le.xt (.refl E) hn, rfl, hr⟩, rfl, rfl⟩, ?_⟩
 rintro n s' ⟨rfl, rfl⟩
 have e : (fun s'' : St => ∃ m s3, m < 0 /\ Lw N s'' s3 /\ (m = 0 /\ s3 = s')) = fun _ => False := by
  funext x
  exact propext ⟨fun ⟨m, _, h, _⟩ => by omega, fun h => h.elim⟩
 rw [e]; exact h
theorem loop_first {N : Nat} {body : (Exit -> St -> Prop) -> St -> Prop} {K : Exit -> St -> Prop} {s0 s1 : St} (h : ∀ R : St -> Prop, R s1 -> body (loopK K R) s0) (h1 : LoopP N body K s1) : LoopP N body K s0 := by
 obtain ⟨I, ⟨n, s', hl, hI⟩, hb⟩ := h1
 refine ⟨fun m s => (m = n + 1 /\ s = s0) \/ (m <= n /\ I m s), ⟨n + 1, s0, fun E a _ hn hr => ⟨E, Env.Le.xt (.refl E) hn, rfl, hr⟩, .inl ⟨rfl, rfl⟩⟩, ?_⟩
 rintro m s (⟨rfl, rfl⟩ | ⟨hm, hs⟩)
 ·exact h _ ⟨n, s', Nat.lt_succ_self n, hl, .inr ⟨Nat.le_refl n, hI⟩⟩
 ·have e : (fun s' : St => ∃ m' s'', m' < m /\ Lw N s' s'' /\ ((m' = n + 1 /\ s'' = s0) \/ (m' <= n /\ I m' s''))) = fun s' => ∃ m' s'', m' < m /\ Lw N s' s'' /\ I m' s'' := by
   funext x
   refine propext ⟨?_, ?_⟩
   ·rintro ⟨m', s'', a, b, c⟩
    refine ⟨m', s'', a, b, ?_⟩
    rcases c with ⟨c, _⟩ | ⟨_, c⟩
    ·omega
    ·exact c
   ·rintro ⟨m', s'', a, b, c⟩
    exact ⟨m', s'', a, b, .inr ⟨by omega, c⟩⟩
  rw [e]; exact hb m s hs
def C62 : PC := fun args K => ∃ (v : Vl) (L : List Md), args = [v.sv, (midL v.w L).sv] /\ (v.ok /\ okL L /\ (∀ e ∈ L, e.1 <= 2 * v.m) /\ (tzA v L).f = true) /\ K (.agg [.bool (nxt v L).1, .int .i64 (nxt v L).2])
set_option maxHeartbeats 8000000 in
theorem p62 : PureOk Try.prog 62 C62 := by
 refine pure_of (T := [(87, .fc F87), (88, .pc C88), (89, .pc C89.le)]) ⟨⟨p87, q87⟩, ⟨p88, q88⟩, ⟨p89.le, q89⟩, trivial⟩ Try.func62 k62 ?_
 rintro args K ⟨v, L, rfl, ⟨hv, hL, hm, hf⟩, hK⟩
 have hsome := gn_some hv hL hm hf
 simp only [Vl.sv, Mp.sv]
 have n0 : ((0 : Int) < 2) = True := eq_true (by decide)
 have n1 : ((1 : Int) < 2) = True := eq_true (by decide)
 have n2 : ((2 : Int) < 2) = False := eq_false (by decide)
 simp only [e_reg, e_seq, e_block, e_loop, o_nil, o_cons, gd_none, putK_e, runK_e, vK_e, boxK_e, conK_e, callK_e, evh_v, evh_new, evh_box, evh_call, seqK_n, gam_e, gamK_f, pc_e, pcK_e, fcC_e, fcK_e, evp, gt, st, putf, X.get, gets, ap, mkfr, rep, clL, cs1, pb, ln, lk, undef, Nat.reduceSub, Nat.reduceAdd, beq_self_eq_true, true_and, s62, r62, F87]
 cases hb0 : gnB v L false <;> cases hb1 : gnB v L true
 ·unfold gnB at hb0 hb1
  simp only [decide_eq_false_iff_not] at hb0 hb1
  omega
 ·refine loop_first (s1 := ?s1a) (fun R hR => ?h1a) ?h2a
  case h1a =>
   simp only [condK_bt, decide_true, e_skip, e_reg, and_self, e_seq, e_cond, e_block, o_nil, o_cons, gd_none, putK_e, runK_e, vK_e, storeK3_e, storeK2_e, storeK_e, conK_e, callK_e, evh_v, evh_new, evh_store, evh_call, seqK_n, gam_e, gamK_p, pc_e, pcK_e, evp, bin, gt, gq, st, putf, X.get, gets, ap, clV, clL, clS, clo, ld, lda, tk, dr, sp, sp.spl, ll, cs1, one, allOne, gb, sb, pb, ln, lk, Bool.and_true, Nat.reduceAdd, Nat.reduceMul, Nat.reduceBEq, beq_self_eq_true, true_and, n0, Int.toNat_zero]
   refine ⟨by decide, v, L, false, rfl, ⟨hv, hL⟩, ?_⟩
   simp only [condK_bf, inr64, e_skip, e_reg, e_seq, e_cond, o_nil, o_cons, gd_none, putK_e, runK_e, vK_e, evh_v, loopK_n, seqK_n, blockK_n, evp, bin, gt, gq, st, putf, X.get, true_and, hb0, Int.reduceAdd]
   repeat (with_reducible refine And.intro (by decide) ?_)
   exact hR
  case h2a =>
   refine loop_first (s1 := ?s3a) (fun R hR => ?h3a) ?h4a
   case h3a =>
    simp only [condK_bt, decide_true, e_skip, e_reg, and_self, e_seq, e_cond, e_block, o_nil, o_cons, gd_none, putK_e, runK_e, vK_e, storeK3_e, storeK2_e, storeK_e, conK_e, callK_e, evh_v, evh_new, evh_store, evh_call, seqK_n, gam_e, gamK_p, pc_e, pcK_e, evp, bin, gt, gq, st, putf, X.get, gets, ap, clV, clL, clS, clo, ld, lda, tk, dr, sp, sp.spl, ll, cs1, one, allOne, gb, sb, pb, ln, lk, Bool.and_true, Nat.reduceAdd, Nat.reduceMul, Nat.reduceBEq, beq_self_eq_true, true_and, n1, Int.toNat_one]
    refine ⟨by decide, v, L, true, rfl, ⟨hv, hL⟩, ?_⟩
    simp only [condK_bt, inr64, ↓reduceIte, e_reg, e_seq, e_cond, o_nil, o_cons, gd_none, putK_e, runK_e, vK_e, bslK_e, bldK_e, evh_v, evh_bsl, evh_bld, evh_app, appK_l, appD_e, appL_2, loopK_n, seqK_n, blockK_n, evp, bin, gt, gq, st, putf, X.get, getp, clo, clo.clos, ld, lda, sp, sp.spl, lay, ll, cs1, one, gb, pb, ln, Bool.and_true, Nat.reduceAdd, Nat.reduceMul, beq_self_eq_true, true_and, hb1, Int.reduceAdd]
    repeat (with_reducible refine And.intro (by decide) ?_)
    exact hR
   case h4a =>
    refine loop_once ?_
    simp only [condK_bf, decide_false, ↓reduceIte, e_reg, e_drw, e_seq, e_cond, e_exit, e_shut, shutG, shutQ, shut2, shutH, shut1, shutB, slQ, o_nil, o_cons, gd_none, putK_e, runK_e, vK_e, conK_e, callK_e, evh_v, evh_store, evh_call, bnd, slv, xAg, xAi, dX_e, dG_t, d_nil, d_cons, tlK_n, loopK_x, seqK_n, seqK_x, exitK_t, blockK_x, gam_e, gamK_p, pc_e, pcK_e, evp, bin, gt, st, putf, X.get, gets, ap, clV, clL, clS, clo, ld, lda, ixs, tk, dr, cs1, one, gb, sb, lk, evq, gdl, Value.oneCell', Nat.reduceBEq, beq_self_eq_true, true_and, n2, Int.toNat_zero, Int.toNat_one, Nat.lt_irrefl]
    refine ⟨by decide, by decide, [.fn 90 [], .agg [.bool true, .int .i64 (gnI v L true)], .rd 2 0 fun j => [.bool true, .int .i64 (gnI v L true)]], ⟨.inl (by simp [leR, leR.leRs]), .inl (by simp [leR, leR.leRs]), .inr ⟨2, 0, _, _, rfl, rfl, fun i hi => ?_⟩, trivial⟩, 0, fun _ => true, fun _ => gnI v L true, true, gnI v L true, rfl, by decide, ?_⟩
    ·omega
    ·have e : nxt v L = (true, gnI v L true) := by
      unfold gnB at hb0 hb1
      simp only [decide_eq_false_iff_not, decide_eq_true_eq] at hb0 hb1
      unfold nxt gnI
      rw [if_pos (.inl (by omega))]
      exact Prod.ext rfl (by simp only; omega)
     rw [e] at hK
     simp only [and_self, e_ret, o_nil, putK_e, storeK3_e, storeK2_e, storeK_e, seqK_n, ends_r, endK1_e, endK2_e, gt, putf, rdR, tupled, clV, clL, clS, clo, ld, tk, dr, sp, sp.spl, ll, one, allOne, gb, sb, Bool.and_true, Nat.reduceAdd, true_and]
     exact res hK (by simp [leR, leR.leRs, pickF])
 ·refine loop_first (s1 := ?s1b) (fun R hR => ?h1b) ?h2b
  case h1b =>
   simp only [condK_bt, decide_true, e_skip, e_reg, and_self, e_seq, e_cond, e_block, o_nil, o_cons, gd_none, putK_e, runK_e, vK_e, storeK3_e, storeK2_e, storeK_e, conK_e, callK_e, evh_v, evh_new, evh_store, evh_call, seqK_n, gam_e, gamK_p, pc_e, pcK_e, evp, bin, gt, gq, st, putf, X.get, gets, ap, clV, clL, clS, clo, ld, lda, tk, dr, sp, sp.spl, ll, cs1, one, allOne, gb, sb, pb, ln, lk, Bool.and_true, Nat.reduceAdd, Nat.reduceMul, Nat.reduceBEq, beq_self_eq_true, true_and, n0, Int.toNat_zero]
   refine ⟨by decide, v, L, false, rfl, ⟨hv, hL⟩, ?_⟩
   simp only [condK_bt, inr64, ↓reduceIte, e_reg, e_seq, e_cond, o_nil, o_cons, gd_none, putK_e, runK_e, vK_e, bslK_e, bldK_e, evh_v, evh_bsl, evh_bld, evh_app, appK_l, appD_e, appL_2, loopK_n, seqK_n, blockK_n, evp, bin, gt, gq, st, putf, X.get, getp, clo, clo.clos, ld, lda, sp, sp.spl, lay, ll, cs1, one, gb, pb, ln, Bool.and_true, Nat.reduceAdd, Nat.reduceMul, beq_self_eq_true, true_and, hb0, Int.reduceAdd]
   repeat (with_reducible refine And.intro (by decide) ?_)
   exact hR
  case h2b =>
   refine loop_first (s1 := ?s3b) (fun R hR => ?h3b) ?h4b
   case h3b =>
    simp only [condK_bt, decide_true, e_skip, e_reg, and_self, e_seq, e_cond, e_block, o_nil, o_cons, gd_none, putK_e, runK_e, vK_e, storeK3_e, storeK2_e, storeK_e, conK_e, callK_e, evh_v, evh_new, evh_store, evh_call, seqK_n, gam_e, gamK_p, pc_e, pcK_e, evp, bin, gt, gq, st, putf, X.get, gets, ap, clV, clL, clS, clo, ld, lda, tk, dr, sp, sp.spl, ll, cs1, one, allOne, gb, sb, pb, ln, lk, Bool.and_true, Nat.reduceAdd, Nat.reduceMul, Nat.reduceBEq, beq_self_eq_true, true_and, n1, Int.toNat_one]
    refine ⟨by decide, v, L, true, rfl, ⟨hv, hL⟩, ?_⟩
    simp only [condK_bf, inr64, e_skip, e_reg, e_seq, e_cond, o_nil, o_cons, gd_none, putK_e, runK_e, vK_e, evh_v, loopK_n, seqK_n, blockK_n, evp, bin, gt, gq, st, putf, X.get, true_and, hb1, Int.reduceAdd]
    repeat (with_reducible refine And.intro (by decide) ?_)
    exact hR
   case h4b =>
    refine loop_once ?_
    simp only [condK_bf, decide_false, ↓reduceIte, e_reg, e_drw, e_seq, e_cond, e_exit, e_shut, shutG, shutQ, shut2, shutH, shut1, shutB, slQ, o_nil, o_cons, gd_none, putK_e, runK_e, vK_e, conK_e, callK_e, evh_v, evh_store, evh_call, bnd, slv, xAg, xAi, dX_e, dG_t, d_nil, d_cons, tlK_n, loopK_x, seqK_n, seqK_x, exitK_t, blockK_x, gam_e, gamK_p, pc_e, pcK_e, evp, bin, gt, st, putf, X.get, gets, ap, clV, clL, clS, clo, ld, lda, ixs, tk, dr, cs1, one, gb, sb, lk, evq, gdl, Value.oneCell', Nat.reduceBEq, beq_self_eq_true, true_and, n2, Int.toNat_zero, Int.toNat_one, Nat.lt_irrefl]
    refine ⟨by decide, by decide, [.fn 90 [], .agg [.bool false, .int .i64 (gnI v L false)], .rd 2 0 fun j => [.bool true, .int .i64 (gnI v L true)]], ⟨.inl (by simp [leR, leR.leRs]), .inl (by simp [leR, leR.leRs]), .inr ⟨2, 0, _, _, rfl, rfl, fun i hi => ?_⟩, trivial⟩, 0, fun _ => true, fun _ => gnI v L true, false, gnI v L false, rfl, by decide, ?_⟩
    ·omega
    ·have e : nxt v L = (false, gnI v L false) := by
      unfold gnB at hb0 hb1
      simp only [decide_eq_false_iff_not, decide_eq_true_eq] at hb0 hb1
      unfold nxt gnI
      rw [if_neg (by omega)]
      exact Prod.ext rfl (by simp only; omega)
     rw [e] at hK
     simp only [and_self, e_ret, o_nil, putK_e, storeK3_e, storeK2_e, storeK_e, seqK_n, ends_r, endK1_e, endK2_e, gt, putf, rdR, tupled, clV, clL, clS, clo, ld, tk, dr, sp, sp.spl, ll, one, allOne, gb, sb, Bool.and_true, Nat.reduceAdd, true_and]
     exact res hK (by simp [leR, leR.leRs, pickF])
 ·refine loop_first (s1 := ?s1c) (fun R hR => ?h1c) ?h2c
  case h1c =>
   simp only [condK_bt, decide_true, e_skip, e_reg, and_self, e_seq, e_cond, e_block, o_nil, o_cons, gd_none, putK_e, runK_e, vK_e, storeK3_e, storeK2_e, storeK_e, conK_e, callK_e, evh_v, evh_new, evh_store, evh_call, seqK_n, gam_e, gamK_p, pc_e, pcK_e, evp, bin, gt, gq, st, putf, X.get, gets, ap, clV, clL, clS, clo, ld, lda, tk, dr, sp, sp.spl, ll, cs1, one, allOne, gb, sb, pb, ln, lk, Bool.and_true, Nat.reduceAdd, Nat.reduceMul, Nat.reduceBEq, beq_self_eq_true, true_and, n0, Int.toNat_zero]
   refine ⟨by decide, v, L, false, rfl, ⟨hv, hL⟩, ?_⟩
   simp only [condK_bt, inr64, ↓reduceIte, e_reg, e_seq, e_cond, o_nil, o_cons, gd_none, putK_e, runK_e, vK_e, bslK_e, bldK_e, evh_v, evh_bsl, evh_bld, evh_app, appK_l, appD_e, appL_2, loopK_n, seqK_n, blockK_n, evp, bin, gt, gq, st, putf, X.get, getp, clo, clo.clos, ld, lda, sp, sp.spl, lay, ll, cs1, one, gb, pb, ln, Bool.and_true, Nat.reduceAdd, Nat.reduceMul, beq_self_eq_true, true_and, hb0, Int.reduceAdd]
   repeat (with_reducible refine And.intro (by decide) ?_)
   exact hR
  case h2c =>
   refine loop_first (s1 := ?s3c) (fun R hR => ?h3c) ?h4c
   case h3c =>
    simp only [condK_bt, decide_true, e_skip, e_reg, and_self, e_seq, e_cond, e_block, o_nil, o_cons, gd_none, putK_e, runK_e, vK_e, storeK3_e, storeK2_e, storeK_e, conK_e, callK_e, evh_v, evh_new, evh_store, evh_call, seqK_n, gam_e, gamK_p, pc_e, pcK_e, evp, bin, gt, gq, st, putf, X.get, gets, ap, clV, clL, clS, clo, ld, lda, tk, dr, sp, sp.spl, ll, cs1, one, allOne, gb, sb, pb, ln, lk, Bool.and_true, Nat.reduceAdd, Nat.reduceMul, Nat.reduceBEq, beq_self_eq_true, true_and, n1, Int.toNat_one]
    refine ⟨by decide, v, L, true, rfl, ⟨hv, hL⟩, ?_⟩
    simp only [condK_bt, inr64, ↓reduceIte, e_reg, e_seq, e_cond, o_nil, o_cons, gd_none, putK_e, runK_e, vK_e, bslK_e, bldK_e, appK2_or, appK_e, evh_v, evh_bsl, evh_bld, evh_app, loopK_n, seqK_n, blockK_n, evp, bin, gt, gq, st, putf, X.get, getp, clo, clo.clos, ld, lda, sp, sp.spl, lay, ll, cs1, one, allOne, gb, sb, pb, ln, Bool.and_true, Nat.reduceAdd, Nat.reduceMul, beq_self_eq_true, true_and, hb1, Int.reduceAdd]
    repeat (with_reducible refine And.intro (by decide) ?_)
    exact hR
   case h4c =>
    refine loop_once ?_
    simp only [condK_bf, decide_false, ↓reduceIte, e_reg, e_drw, e_seq, e_cond, e_exit, e_shut, shutG, shutQ, shut2, shutH, shut1, shutB, slQ, o_nil, o_cons, gd_none, putK_e, runK_e, vK_e, conK_e, callK_e, evh_v, evh_store, evh_call, bnd, slv, xAg, xAi, dX_e, dG_t, d_nil, d_cons, tlK_n, loopK_x, seqK_n, seqK_x, exitK_t, blockK_x, gam_e, gamK_p, pc_e, pcK_e, evp, bin, gt, st, putf, X.get, gets, ap, clV, clL, clS, clo, ld, lda, ixs, tk, dr, cs1, one, gb, sb, lk, evq, gdl, Value.oneCell', Nat.reduceBEq, beq_self_eq_true, true_and, n2, Int.toNat_zero, Int.toNat_one, Nat.lt_irrefl, Nat.zero_lt_one]
    refine ⟨by decide, by decide, [.fn 90 [], .agg [.bool false, .int .i64 (gnI v L false)], .rd 2 1 fun j => [.bool true, .int .i64 (gnI v L true)]], ⟨.inl (by simp [leR, leR.leRs]), .inl (by simp [leR, leR.leRs]), .inr ⟨2, 1, _, _, rfl, rfl, fun i hi => ?_⟩, trivial⟩, 1, fun _ => true, fun _ => gnI v L true, false, gnI v L false, rfl, by decide, ?_⟩
    ·obtain rfl : i = 0 := by omega
     simp [leR, leR.leRs]
    ·have e0 : nxt v L = if gnI v L true < gnI v L false then (true, gnI v L true) else (false, gnI v L false) := by
      unfold gnB at hb0 hb1
      simp only [decide_eq_true_eq] at hb0 hb1
      unfold nxt gnI
      by_cases h : gn v L true < gn v L false
      ·rw [if_pos (.inr ⟨by omega, h⟩), if_pos (by omega)]
       exact Prod.ext rfl (by simp only; omega)
      ·rw [if_neg (by omega), if_neg (by omega)]
       exact Prod.ext rfl (by simp only; omega)
     have e : nxt v L = pickF 1 (fun _ => true) (fun _ => gnI v L true) false (gnI v L false) 1 := e0
     rw [e] at hK
     simp only [and_self, e_ret, o_nil, putK_e, storeK3_e, storeK2_e, storeK_e, seqK_n, ends_r, endK1_e, endK2_e, gt, putf, rdR, tupled, clV, clL, clS, clo, ld, tk, dr, sp, sp.spl, ll, one, allOne, gb, sb, Bool.and_true, Nat.reduceAdd, true_and]
     exact res hK (by simp [leR, leR.leRs, pickF])
theorem midM_le {v : Vl} {R : List Rg} (hR : okRs v R) : ∀ e ∈ R.map midR, e.1 <= 2 * v.m := by
 intro e he
 obtain ⟨r, hr, rfl⟩ := List.mem_map.1 he
 have := hR.2 r hr
 unfold okR at this
 simp only [midR]
 omega
def nxE (v : Vl) (R : List Rg) : Int := if askI v R ≠ 0 then askI v R else if R.length = 8 then 6 else if trM v R = noT then 33 else 0
def C26 : PC := fun args K => ∃ (v : Vl) (R : List Rg), args = [v.sv, .rd 3 R.length (rowR R)] /\
 (nxE v R ≠ 0 -> K (.tup [.bool false, .int .i64 0, .int .i64 (nxE v R)])) /\
 (nxE v R = 0 -> K (.tup [.bool (nxt v (R.map midR)).1, .int .i64 (nxt v (R.map midR)).2, .int .i64 0]))
set_option maxHeartbeats 8000000 in
theorem p26 : PureOk Try.prog 26 C26 := by
 refine pure_of (T := [(47, .pc C47), (49, .fc F49), (56, .fc F56), (57, .fc F57), (62, .pc C62)]) ⟨⟨p47, q47⟩, ⟨p49f, q49⟩, ⟨p56f, q56⟩, ⟨p57, q57⟩, ⟨p62, q62⟩, trivial⟩ Try.func26 k26 ?_
 rintro args K ⟨v, R, rfl, hK1, hK2⟩
 simp only [Vl.sv]
 simp only [e_reg, e_seq, o_nil, o_cons, gd_none, putK_e, runK_e, vK_e, boxK_e, conK_e, callK_e, evh_v, evh_box, evh_call, seqK_n, gam_e, gamK_p, pc_e, pcK_e, evp, bin, gt, st, putf, X.get, gets, ap, mkfr, rep, clV, clL, clS, clo, ld, lda, tk, dr, cs1, gb, pb, ln, lk, undef, Nat.reduceSub, beq_self_eq_true, true_and, s26, r26]
 refine ⟨v, R, rfl, ?_⟩
 by_cases h : askI v R = 0
 ·have hF : (askI v R = 0) = True := eq_true h
  obtain ⟨hv, hR⟩ := ask0 h
  have hok := mid_ok hv hR
  by_cases h8 : R.length = 8
  ·have h8T : ((R.length : Int) = 8) = True := eq_true (by omega)
   have e : nxE v R = 6 := by unfold nxE; rw [if_neg (by omega), if_pos h8]
   have hK := hK1 (by omega)
   rw [e] at hK
   simp only [condK_bt, condK_bf, decide_true, e_skip, e_reg, e_seq, e_cond, e_ret, o_nil, o_cons, gd_none, putK_e, runK_e, vK_e, evh_v, seqK_n, seqK_r, ends_r, endK1_e, endK2_e, evp, bin, gt, st, putf, X.get, rdR, tupled, clV, clL, clS, clo, lens, Bool.not_true, true_and, hF, h8T]
   exact res hK (by simp [leR, leR.leRs])
  ·have h8F : ((R.length : Int) = 8) = False := eq_false (by omega)
   by_cases hn : trM v R = noT
   ·have e : nxE v R = 33 := by unfold nxE; rw [if_neg (by omega), if_neg h8, if_pos hn]
    have hK := hK1 (by omega)
    rw [e] at hK
    have hn1 : trA v (Mp.mid v.w R).ev = noT := hn
    simp only [condK_bt, condK_bf, decide_true, decide_false, e_skip, e_reg, and_self, e_seq, e_cond, e_ret, o_nil, o_cons, gd_none, putK_e, runK_e, vK_e, bldK_e, storeK3_e, storeK2_e, storeK_e, conK_e, callK_e, evh_v, evh_new, evh_bld, evh_store, evh_call, seqK_n, seqK_r, ends_r, endK1_e, endK2_e, gam_e, gamK_f, pc_e, pcK_e, fcC_e, fcK_e, evp, fit, InQ, bin, gt, st, putf, X.get, gets, getp, ap, rdR, tupled, clV, clL, clS, clo, ld, lda, lens, tk, dr, sp, sp.spl, lay, ll, cs1, one, allOne, gb, sb, pb, ln, lk, Bool.and_true, Bool.not_true, cond_false, Nat.reduceAdd, Nat.reduceBEq, beq_self_eq_true, true_and, and_true, hF, h8F, F49, F56, F57, decR_row, decMp_ks, hn1, noT]
    exact ⟨⟨⟨hv, hR⟩, fun _ _ => trivial⟩, ⟨⟨hv, hok⟩, rfl⟩, by omega, res hK (by simp [leR, leR.leRs])⟩
   ·have e : nxE v R = 0 := by unfold nxE; rw [if_neg (by omega), if_neg h8, if_neg hn]
    have hK := hK2 e
    have hT : trA ⟨v.m, v.l1, v.l2, v.v1, v.v2, v.z1, v.z2, v.w⟩ (Mp.mid v.w R).ev = trM v R := rfl
    have hb := trM_bnd hv hR
    have he1 : ((trM v R).1.1 = 1 /\ (trM v R).1.2 = 0 /\ (trM v R).2.1 = 1 /\ (trM v R).2.2 = 0) = False := by
     simp only [eq_iff_iff, iff_false]
     intro h2
     exact hn (Prod.ext (Prod.ext h2.1 h2.2.1) (Prod.ext h2.2.2.1 h2.2.2.2))
    have hf : (tzA v (R.map midR)).f = true := by
     rw [<- Bool.not_eq_false]
     intro h3
     exact hn ((tz_tr hv hR).2 h3)
    simp only [condK_bf, decide_true, decide_false, List.cons.injEq, e_skip, e_reg, and_self, e_seq, e_cond, o_nil, o_cons, gd_none, putK_e, runK_e, vK_e, bldK_e, storeK3_e, storeK2_e, storeK_e, conK_e, callK_e, evh_v, evh_new, evh_bld, evh_store, evh_call, seqK_n, gam_e, gamK_f, gamK_p, pc_e, pcK_e, fcC_e, fcK_e, evp, fit, InQ, bin, gt, st, putf, X.get, gets, getp, ap, clV, clL, clS, clo, ld, lda, lens, tk, dr, sp, sp.spl, lay, ll, cs1, one, allOne, gb, sb, pb, ln, lk, Value.oneCell', Bool.and_true, Bool.not_true, cond_false, Nat.reduceAdd, Nat.reduceBEq, beq_self_eq_true, true_and, and_true, hF, h8F, F49, F56, F57, decR_row, decMp_ks, hT, he1]
    refine ⟨⟨⟨hv, hR⟩, fun _ _ => trivial⟩, ⟨⟨hv, hok⟩, rfl⟩, by omega, v, R.map midR, ?_, ⟨hv, okL_mid hv hR, midM_le hR, hf⟩, ?_⟩
    ·rw [<- mid_eq]; rfl
    ·simp only [and_self, e_drw, e_seq, e_ret, o_nil, o_cons, gd_none, putK_e, runK_e, vK_e, storeK3_e, storeK2_e, storeK_e, evh_v, dX_e, dG_t, d_nil, d_cons, tlK_n, seqK_n, ends_r, endK1_e, endK2_e, evp, gt, gq, st, putf, X.get, rdR, tupled, clV, clL, clS, clo, ld, lda, sp, sp.spl, ll, one, allOne, gb, sb, evq, gdl, Bool.and_true, Nat.reduceAdd, true_and]
     exact res hK (by simp [leR, leR.leRs])
 ·have hF : (askI v R = 0) = False := eq_false h
  have e : nxE v R = askI v R := by unfold nxE; rw [if_pos h]
  have hK := hK1 (by omega)
  rw [e] at hK
  simp only [condK_bt, decide_false, e_reg, e_seq, e_cond, e_ret, o_nil, o_cons, gd_none, putK_e, runK_e, vK_e, evh_v, seqK_n, seqK_r, ends_r, endK1_e, endK2_e, evp, gt, st, putf, X.get, rdR, tupled, clV, clL, clS, clo, Bool.not_false, true_and, hF]
  exact res hK (by simp [leR, leR.leRs])
end Go.Proofs.Ytgdihdiadlmjiaa
end
section
namespace Go.Proofs.Ytgdihdiadlmjiaa
open Go Go.Vg
set_option maxRecDepth 10000
noncomputable def s12 : SC :=
 (.seq (.reg [⟨(some 3),none,.box 25 (.t 0)⟩,⟨(some 5),none,.box 57 (.t 2)⟩,.w5 6 false]) (.seq (.reg [.u4 17 3 8,.u0 18 1,(.w1 19 20 [(.t 17),(.t 18)]),.u0 16 19,.u5 20 16 0,.u5 21 16 1,.u5 22 16 2,.w4 7,.w4 8,.w3 2 7 20,.w3 2 8 21,.u0 9 22]) (.seq (.sem (rq Try.f12 2)) (.seq (.reg [.u4 36 3 8,.u0 37 1,(.w1 38 26 [(.t 36),(.t 37)]),.u0 35 38,.u5 39 35 0,.u5 40 35 1,.u5 41 35 2,.u0 13 39,.u0 14 40,.u0 15 41]) (.seq (.seq (.reg [.u0 42 9,.u7 43 .neq 42 (0),.u0 44 43,(.w0 45 44 false (.mov (.t 12))),(.w0 46 44 false (.bin .neq (.t 45) (.c (.int .i64 (0))))),.u9 47 44 46]) (.cond (.t 47) (.seq (.reg [.u0 48 12,.u7 49 .neq 48 (30),.u0 50 49,(.w0 51 50 false (.mov (.t 9))),(.w0 52 50 false (.mov (.t 12))),(.w0 53 50 false (.bin .eql (.t 51) (.t 52))),.u9 54 50 53,.u0 55 54,⟨(some 56),(some (55,true)),.call (.c (.fn 22 [])) []⟩,.u8 57 55 56,.u0 6 57]) .ret) .skip)) (.seq (.seq (.reg [.u2 58 10 0,.u3 59 58,.u2 60 7 0,.u3 61 60,.u6 62 .lss 59 61,.u0 63 62,(.w0 64 63 false (.off (.t 10) 1)),(.w0 65 63 false (.load (.t 64) none)),(.w0 66 63 false (.off (.t 7) 1)),(.w0 67 63 false (.load (.t 66) none)),(.w0 68 63 false (.bin .gtr (.t 65) (.t 67))),.u9 69 63 68,.u0 70 69,(.w0 71 70 false (.off (.t 11) 0)),(.w0 72 70 false (.load (.t 71) none)),(.w0 73 70 false (.off (.t 8) 0)),(.w0 74 70 false (.load (.t 73) none)),(.w0 75 70 false (.bin .lss (.t 72) (.t 74))),.u9 76 70 75,.u0 77 76,(.w0 78 77 false (.off (.t 11) 1)),(.w0 79 77 false (.load (.t 78) none)),(.w0 80 77 false (.off (.t 8) 1)),(.w0 81 77 false (.load (.t 80) none)),(.w0 82 77 false (.bin .gtr (.t 79) (.t 81))),.u9 83 77 82]) (.cond (.t 83) (.seq (.reg [.w5 6 false]) .ret) .skip)) (.seq (.reg [.u0 84 15,.u7 85 .eql 84 (0),.u0 86 85,(.w0 87 86 true (.mov (.t 14))),(.w0 88 86 true (.off (.t 7) 1)),(.w0 89 86 true (.load (.t 88) none)),(.w0 90 86 true (.off (.t 7) 0)),(.w0 91 86 true (.load (.t 90) none)),(.w0 92 86 true (.bin .sub (.t 89) (.t 91))),(.w0 93 86 true (.bin .leq (.t 87) (.t 92))),.u8 94 86 93,.u0 95 94,(.w0 96 95 true (.off (.t 5) 2)),(.w0 97 95 true (.load (.t 96) none)),(.w0 98 95 true (.mov (.t 13))),(.w0 99 95 true (.binb .neq (.t 97) (.t 98))),(.w0 100 95 true (.mov (.t 99))),(.w0 101 100 false (.off (.t 10) 1)),(.w0 102 100 false (.load (.t 101) none)),(.w0 103 100 false (.off (.t 10) 0)),(.w0 104 100 false (.load (.t 103) none)),(.w0 105 100 false (.bin .sub (.t 102) (.t 104))),(.w0 106 100 false (.mov (.t 14))),(.w0 107 100 false (.bin .leq (.t 105) (.t 106))),(.w0 108 95 true (.pick (.t 100) (.c (.lit (.bool true))) (.t 107))),.u8 109 95 108,.u0 110 109,⟨(some 111),(some (110,true)),.call (.c (.fn 22 [])) []⟩,.u8 112 110 111,.u0 6 112]) .ret)))))))
def r12 : List RV := [.t 6]
theorem k12 : (Try.f12.body.bind (cC Try.prog), cR Try.prog Try.f12.results.toList, Try.f12.ntmps) = (some s12, some r12, 113) := by kernel_rfl
abbrev Q0 : Opr := ⟨(some 26), none, .v (.mov (.t 1))⟩
abbrev Q1 : Opr := ⟨(some 24), none, .v (.load (.t 3) (some 8))⟩
abbrev Q2 : Opr := ⟨(some 25), none, .emp 3⟩
abbrev Q3 : Opr := ⟨(some 27), none, .app 57 3 24 (.t 25) (.t 26)⟩
abbrev Q4 : Opr := ⟨(some 28), none, .v (.load (.t 5) (some 3))⟩
abbrev Q5 : Opr := ⟨(some 29), none, .bsl 57 1 [.int .i64 0, .int .i64 0, .lit (.bool false)] [(0, 3, .t 28)]⟩
abbrev Q6 : Opr := ⟨(some 30), none, .app 57 3 24 (.t 27) (.t 29)⟩
abbrev Q7 : Opr := ⟨(some 31), none, .call (.c (.fn 20 [])) [.t 24, .t 30]⟩
abbrev Q8 : Opr := ⟨(some 23), none, .v (.mov (.t 31))⟩
abbrev Q9 : Opr := ⟨(some 32), none, .v (.ext (.t 23) 0)⟩
abbrev Q10 : Opr := ⟨(some 33), none, .v (.ext (.t 23) 1)⟩
abbrev Q11 : Opr := ⟨(some 34), none, .v (.ext (.t 23) 2)⟩
abbrev Q12 : Opr := ⟨(some 10), none, .new 23 [.int .i64 0, .int .i64 0]⟩
abbrev Q13 : Opr := ⟨(some 11), none, .new 23 [.int .i64 0, .int .i64 0]⟩
abbrev Q14 : Opr := ⟨none, none, .store 2 (.t 10) (.t 32)⟩
abbrev Q15 : Opr := ⟨none, none, .store 2 (.t 11) (.t 33)⟩
abbrev Q16 : Opr := ⟨(some 12), none, .v (.mov (.t 34))⟩
abbrev U0 : DT := .op Q7 (.op Q8 (.op Q9 (.op Q10 (.op Q11 (.op Q12 (.op Q13 (.op Q14 (.op Q15 (.op Q16 .leaf .stop) .stop) .stop) .stop) .stop) .stop) .stop) .stop) .stop) .stop
abbrev U1 : DT := .op Q6 U0 .stop
abbrev U2 : DT := .op Q5 U1 .stop
abbrev U3 : DT := .op Q4 U2 .stop
abbrev U4 : DT := .op Q3 U1 .stop
abbrev U5 : DT := .op Q3 U2 (.op Q5 U4 .stop)
abbrev U6 : DT := .op Q3 U3 (.op Q4 U5 .stop)
abbrev U7 : DT := .op Q2 U4 .stop
abbrev U8 : DT := .op Q2 U5 (.op Q5 U7 .stop)
abbrev U9 : DT := .op Q1 U1 (.op Q6 (.op Q1 U0 .stop) .stop)
abbrev U10 : DT := .op Q1 U2 (.op Q5 U9 .stop)
abbrev U11 : DT := .op Q1 U4 (.op Q3 U9 .stop)
abbrev U12 : DT := .op Q1 U5 (.op Q3 U10 (.op Q5 U11 .stop))
abbrev t12 : DT := .op Q0 (.op Q1 (.op Q2 U6 (.op Q4 U8 .stop)) (.op Q2 (.op Q1 U6 (.op Q3 (.op Q1 U3 (.op Q4 U10 .stop)) (.op Q4 U12 .stop))) (.op Q4 (.op Q1 U8 (.op Q2 U12 (.op Q5 (.op Q1 U7 (.op Q2 U11 .stop)) .stop))) .stop))) .stop
theorem z12 : ctrz Try.prog (rq Try.f12 2) = some t12 := by kernel_rfl
def tl (v : Vl) (R : List Rg) : (Int × Int) × (Int × Int) := if askI v R = 0 /\ trM v R ≠ noT then trM v R else ((0, 0), (0, 0))
def tlE (v : Vl) (R : List Rg) : Int := if askI v R ≠ 0 then askI v R else if trM v R = noT then 33 else 0
def nxT (v : Vl) (R : List Rg) : Bool := if nxE v R = 0 then (nxt v (R.map midR)).1 else false
def nxG (v : Vl) (R : List Rg) : Int := if nxE v R = 0 then (nxt v (R.map midR)).2 else 0
def rgO (c : List SV) : Rg := match c with
 | [.int .i64 a, .int .i64 b, .bool t] => (a, b, t)
 | _ => r0
def rOf (n : Nat) (f : Nat -> List SV) : List Rg := (List.range n).map fun j => rgO (f j)
def rowOk (n : Nat) (f : Nat -> List SV) : Prop := ∀ j, j < n -> f j = rowR (rOf n f) j
def F20 : FC := fun args => match args with
 | [.agg [.int .i64 m, .int .i64 l1, .int .i64 l2, .int .i64 v1, .int .i64 v2, .int .i64 z1, .int .i64 z2, .int .i64 w], .rd 3 n f] =>
  some (rowOk n f, .tup [.agg [.int .i64 (tl ⟨m, l1, l2, v1, v2, z1, z2, w⟩ (rOf n f)).1.1, .int .i64 (tl ⟨m, l1, l2, v1, v2, z1, z2, w⟩ (rOf n f)).1.2], .agg [.int .i64 (tl ⟨m, l1, l2, v1, v2, z1, z2, w⟩ (rOf n f)).2.1, .int .i64 (tl ⟨m, l1, l2, v1, v2, z1, z2, w⟩ (rOf n f)).2.2], .int .i64 (tlE ⟨m, l1, l2, v1, v2, z1, z2, w⟩ (rOf n f))])
 | _ => none
def F26 : FC := fun args => match args with
 | [.agg [.int .i64 m, .int .i64 l1, .int .i64 l2, .int .i64 v1, .int .i64 v2, .int .i64 z1, .int .i64 z2, .int .i64 w], .rd 3 n f] =>
  some (rowOk n f, .tup [.bool (nxT ⟨m, l1, l2, v1, v2, z1, z2, w⟩ (rOf n f)), .int .i64 (nxG ⟨m, l1, l2, v1, v2, z1, z2, w⟩ (rOf n f)), .int .i64 (nxE ⟨m, l1, l2, v1, v2, z1, z2, w⟩ (rOf n f))])
 | _ => none
theorem rOf_len {n : Nat} {f : Nat -> List SV} : (rOf n f).length = n := by simp [rOf]
theorem rowC {w : World} {im : Nat -> Prop} {n : Nat} {f : Nat -> List SV} {v : Value} (h : rowOk n f) (hc : Cv w im (.rd 3 n f) v) : Cv w im (.rd 3 (rOf n f).length (rowR (rOf n f))) v := by
 rw [rOf_len]
 exact leR_ok 1 (show leR 1 (.rd 3 n f) (.rd 3 n (rowR (rOf n f))) from ⟨rfl, rfl, h⟩) hc
theorem p20f : PureOk Try.prog 20 (fcC F20) := by
 intro w im args vs K him ha hC
 unfold fcC F20 at hC
 split at hC <;> first | (exact hC.elim) | skip
 rename_i h
 split at h <;> first | (cases h; done) | skip
 rename_i m l1 l2 v1 v2 z1 z2 w0 n f
 cases h
 obtain ⟨hr, hK⟩ := hC
 cases ha with
 | cons _ a0 _ vs0 h0 h1 =>
 cases h1 with
 | cons _ a1 _ vs1 h1 h2 =>
 refine p20 w im [(⟨m, l1, l2, v1, v2, z1, z2, w0⟩ : Vl).sv, .rd 3 (rOf n f).length (rowR (rOf n f))] _ K him (.cons _ _ _ _ h0 (.cons _ _ _ _ (rowC hr h1) h2)) ⟨_, _, rfl, fun h => ?_, fun h h' => ?_, fun h h' => ?_⟩
 ·have e1 : tl (⟨m, l1, l2, v1, v2, z1, z2, w0⟩ : Vl) (rOf n f) = ((0, 0), (0, 0)) := if_neg (fun hh => h hh.1)
  have e2 : tlE (⟨m, l1, l2, v1, v2, z1, z2, w0⟩ : Vl) (rOf n f) = askI (⟨m, l1, l2, v1, v2, z1, z2, w0⟩ : Vl) (rOf n f) := if_pos h
  rw [e1, e2] at hK; exact hK
 ·have e1 : tl (⟨m, l1, l2, v1, v2, z1, z2, w0⟩ : Vl) (rOf n f) = ((0, 0), (0, 0)) := if_neg (fun hh => hh.2 h')
  have e2 : tlE (⟨m, l1, l2, v1, v2, z1, z2, w0⟩ : Vl) (rOf n f) = 33 := (if_neg (fun hh => hh h)).trans (if_pos h')
  rw [e1, e2] at hK; exact hK
 ·have e1 : tl (⟨m, l1, l2, v1, v2, z1, z2, w0⟩ : Vl) (rOf n f) = trM (⟨m, l1, l2, v1, v2, z1, z2, w0⟩ : Vl) (rOf n f) := if_pos ⟨h, h'⟩
  have e2 : tlE (⟨m, l1, l2, v1, v2, z1, z2, w0⟩ : Vl) (rOf n f) = 0 := (if_neg (fun hh => hh h)).trans (if_neg h')
  rw [e1, e2] at hK; exact hK
theorem p26f : PureOk Try.prog 26 (fcC F26) := by
 intro w im args vs K him ha hC
 unfold fcC F26 at hC
 split at hC <;> first | (exact hC.elim) | skip
 rename_i h
 split at h <;> first | (cases h; done) | skip
 rename_i m l1 l2 v1 v2 z1 z2 w0 n f
 cases h
 obtain ⟨hr, hK⟩ := hC
 cases ha with
 | cons _ a0 _ vs0 h0 h1 =>
 cases h1 with
 | cons _ a1 _ vs1 h1 h2 =>
 refine p26 w im [(⟨m, l1, l2, v1, v2, z1, z2, w0⟩ : Vl).sv, .rd 3 (rOf n f).length (rowR (rOf n f))] _ K him (.cons _ _ _ _ h0 (.cons _ _ _ _ (rowC hr h1) h2)) ⟨_, _, rfl, fun h => ?_, fun h => ?_⟩
 ·unfold nxT nxG at hK
  rw [if_neg h, if_neg h] at hK; exact hK
 ·unfold nxT nxG at hK
  rw [if_pos h, if_pos h, h] at hK; exact hK
theorem rof_R {R : List Rg} : rOf R.length (rowR R) = R := by
 apply List.ext_getElem (by simp [rOf])
 intro i h1 h2
 simp [rOf, rowR, rgO, List.getD, h2]
theorem rowOk_R {R : List Rg} : rowOk R.length (rowR R) = True := eq_true fun j hj => by rw [rof_R]
def rowX (R : List Rg) (x : Rg) : Nat -> List SV := fun i => if i < R.length then rowR R i else [.int .i64 x.1, .int .i64 x.2.1, .bool x.2.2]
theorem rof_X {R : List Rg} {x : Rg} : rOf (R.length + 1) (rowX R x) = R ++ [x] := by
 apply List.ext_getElem (by simp [rOf])
 intro i h1 h2
 simp only [rOf, List.getElem_map, List.getElem_range, rowX]
 by_cases h : i < R.length
 ·rw [if_pos h, List.getElem_append_left h]; simp [rowR, rgO, List.getD, h]
 ·rw [if_neg h, List.getElem_append_right (by omega)]; simp [rgO]
theorem rowOk_X {R : List Rg} {x : Rg} : rowOk (R.length + 1) (rowX R x) = True := eq_true fun j hj => by
 rw [rof_X]
 unfold rowX rowR
 by_cases h : j < R.length
 ·rw [if_pos h]; simp [List.getD, h, List.getElem?_append_left h]
 ·rw [if_neg h]
  have : j = R.length := by omega
  subst this; simp [List.getD]
theorem tl_ok {v : Vl} {R : List Rg} (h : tlE v R = 0) : v.ok /\ okRs v R /\ askI v R = 0 /\ trM v R ≠ noT /\ (tzA v (R.map midR)).f = true /\ tl v R = tzP (tzA v (R.map midR)) /\ (tzA v (R.map midR)).t1 <= (tzA v (R.map midR)).t2 := by
 unfold tlE at h
 split at h
 ·rename_i h1; exact absurd h h1
 ·rename_i h1
  split at h
  ·cases h
  ·rename_i h2
   have h1 : askI v R = 0 := Decidable.not_not.1 h1
   obtain ⟨hv, hR⟩ := ask0 h1
   have ht : trM v R = trA v (midL v.w (R.map midR)).ev := by unfold trM; rw [mid_eq]
   have hz := tz_trL hv (okL_mid hv hR)
   cases hf : (tzA v (R.map midR)).f with
   | false => exact absurd (ht.trans (hz.2 hf)) h2
   | true =>
    obtain ⟨e1, e2, e3, e4⟩ := hz.1 hf
    refine ⟨hv, hR, h1, h2, rfl, ?_, e3⟩
    unfold tl
    rw [if_pos ⟨h1, h2⟩, ht, e1]
theorem narrow {v : Vl} {R : List Rg} {x : Rg} (h1 : tlE v R = 0) (h2 : tlE v (R ++ [x]) = 0) : ((tl v R).1.1 <= (tl v (R ++ [x])).1.1 /\ (tl v (R ++ [x])).1.2 <= (tl v R).1.2 /\ (tl v R).2.1 <= (tl v (R ++ [x])).2.1 /\ (tl v (R ++ [x])).2.2 <= (tl v R).2.2) /\ nxE v R = 0 /\ nxG v R <= (tl v R).1.2 - (tl v R).1.1 /\ (x.2.2 = nxT v R -> (tl v (R ++ [x])).1.2 - (tl v (R ++ [x])).1.1 <= nxG v R) := by
 obtain ⟨hv, hR, a1, a2, a3, a4, a5⟩ := tl_ok h1
 obtain ⟨_, hR', b1, b2, b3, b4, b5⟩ := tl_ok h2
 have hv2 := hv
 unfold Vl.ok at hv2
 have hm : (R ++ [x]).map midR = R.map midR ++ [midR x] := by simp
 rw [hm] at b3 b4 b5
 have hl := tz_less hv b3
 have hlen : R.length + 1 <= 8 := by have := hR'.1.2; simpa using this
 have hn : nxE v R = 0 := by
  unfold nxE
  rw [if_neg (fun h => h a1), if_neg (by omega), if_neg a2]
 have hx : okR v x := hR'.2 x (by simp)
 unfold okR at hx
 have hgl : ∀ t, gn v (R.map midR) t <= (tzA v (R.map midR)).t2 - (tzA v (R.map midR)).t1 := fun t => gn_le hv (by omega) (fun e he => by
  have := tz_less hv he; omega) _
 rw [a4, b4]
 simp only [tzP]
 refine ⟨⟨hl.2.1.1, hl.2.1.2, hl.2.2.1, hl.2.2.2⟩, hn, ?_, fun ht => ?_⟩
 ·unfold nxG nxt
  rw [if_pos hn]
  split
  ·exact hgl true
  ·exact hgl false
 ·have hg : nxG v R = gn v (R.map midR) x.2.2 := by
   unfold nxG nxT nxt at *
   rw [if_pos hn] at ht ⊢
   split at ht
   ·rename_i hc; rw [if_pos hc]; simp only at ht ⊢; rw [ht]
   ·rename_i hc; rw [if_neg hc]; simp only at ht ⊢; rw [ht]
  rw [hg]
  obtain ⟨k, hk⟩ : ∃ k : Nat, x.1 + x.2.1 = k := ⟨(x.1 + x.2.1).toNat, by omega⟩
  have hmid : midR x = ((k : Int), x.2.2) := by unfold midR; rw [hk]
  rw [hmid] at b3 ⊢
  exact ((gn_ge hv (okL_mid hv hR) (t := x.2.2) (2 * v.m + 1).toNat (by omega)).2 k (by omega) b3).2
theorem tlo_bnd {v : Vl} {R : List Rg} (h : tlE v R = 0) : ((-20000000 <= (tl v R).1.1 /\ (tl v R).1.1 <= 20000000) /\ (-20000000 <= (tl v R).1.2 /\ (tl v R).1.2 <= 20000000)) := by
 obtain ⟨hv, hR, a1, a2, _⟩ := tl_ok h
 have e : tl v R = trM v R := if_pos ⟨a1, a2⟩
 rw [e]
 exact (trM_bnd hv hR).1
theorem tlE_30 {v : Vl} {R : List Rg} {x : Rg} (h : tlE v (R ++ [x]) = 30) : tlE v R = 30 := by
 have hv : ¬ v.ok := fun hv => by
  unfold tlE askI at h
  rw [if_pos hv] at h
  split at h
  ·split at h <;> omega
  ·split at h <;> omega
 unfold tlE askI
 rw [if_neg hv]; rfl
def C12 : PC := fun args K => ∃ (v : Vl) (R : List Rg) (x : Rg), args = [v.sv, .rd 3 R.length (rowR R), .agg [.int .i64 x.1, .int .i64 x.2.1, .bool x.2.2]] /\ (R.length + 1) * 24 <= 140737488355328 /\ K (.bool true)
set_option maxHeartbeats 8000000 in
theorem p12 (p22 : PureOk Try.prog 22 (fcC F22)) (q22 : Known Try.prog 22) : PureOk Try.prog 12 C12 := by
 have hT : TabOk Try.prog [(20, .fc F20), (26, .fc F26), (22, .fc F22)] := ⟨⟨p20f, q20⟩, ⟨p26f, q26⟩, ⟨p22, q22⟩, trivial⟩
 refine pure_of (T := [(20, .fc F20), (26, .fc F26), (22, .fc F22)]) hT Try.func12 k12 ?_
 rintro args K ⟨v, R, x, rfl, hlen, hK⟩
 simp only [Vl.sv]
 have o1 := @rowOk_R R
 have o2 := @rof_R R
 have ev : (⟨v.m, v.l1, v.l2, v.v1, v.v2, v.z1, v.z2, v.w⟩ : Vl) = v := rfl
 simp only [e_reg, and_self, e_seq, o_nil, o_cons, gd_none, putK_e, runK_e, vK_e, boxK_e, storeK3_e, storeK2_e, storeK_e, conK_e, callK_e, evh_v, evh_new, evh_box, evh_store, evh_call, seqK_n, gam_e, gamK_f, pc_e, pcK_e, fcC_e, fcK_e, evp, gt, gq, st, putf, X.get, gets, ap, mkfr, rep, clV, clL, clS, clo, ld, lda, tk, dr, sp, sp.spl, ll, cs1, one, allOne, gb, sb, pb, ln, lk, undef, Bool.and_true, Nat.reduceSub, Nat.reduceAdd, beq_self_eq_true, true_and, s12, r12, F20, o1, o2, ev]
 refine sem_cutz hT z12 ?_
 have b1 : (R.length * 24 <= 140737488355328) = True := eq_true (by omega)
 have b2 : ((R.length + 1) * 24 <= 140737488355328) = True := eq_true (by omega)
 have b3 : (R.length <= 9223372036854775807) = True := eq_true (by omega)
 have b4 : (R.length + 1 <= 9223372036854775807) = True := eq_true (by omega)
 have h3 := @tlE_30 v R x
 have hN := @narrow v R x
 rcases Nat.eq_zero_or_pos R.length with h | h
 ·have c1 : (R.length = 0) = True := eq_true h
  have c2 : (0 < R.length) = False := eq_false (by omega)
  have hR : R = [] := List.length_eq_zero_iff.1 h
  have o3 : rowOk 1 (fun i => if i < 0 then [] else [.int .i64 x.1, .int .i64 x.2.1, .bool x.2.2]) = True := by
   exact eq_true fun j hj => by
    obtain rfl : j = 0 := by omega
    rfl
  have o4 : rOf 1 (fun i => if i < 0 then [] else [.int .i64 x.1, .int .i64 x.2.1, .bool x.2.2]) = R ++ [x] := by
   rw [hR]; rfl
  have e0' : (tlE v R = 0) = False := eq_false fun hh => by have := (tl_ok hh).2.1.1.1; omega
  by_cases f3 : tlE v (R ++ [x]) = 30
  ·have f3' : (tlE v (R ++ [x]) = 30) = True := eq_true f3
   have ef : (tlE v R = tlE v (R ++ [x])) = True := eq_true ((h3 f3).trans f3.symm)
   simp only [gdK_btt, gdK_bft, gdK_bff, decide_true, decide_false, e_reg, t_leaf, t_stop, t_op, and_self, e_seq, e_cond, e_ret, o_nil, o_cons, gd_none, gd_some, gdK_tf, gdK_ff, putK_e, runK_e, skipK_e, vK_e, bslK_e, storeK3_e, storeK2_e, storeK_e, appK2_or, appK_e, conK_e, callK_e, evh_v, evh_new, evh_bsl, evh_store, evh_app, evh_emp, evh_call, appK_ce, appE_b, appK_y, appY_e, seqK_n, seqK_r, condK_t, ends_r, endK1_e, endK2_e, gam_e, gamK_f, pc_e, pcK_e, fcC_e, fcK_e, evp, bin, gt, gq, st, putf, X.get, gets, getp, ap, rdR, tupled, clV, clL, clS, clo, clo.clos, ld, lda, tk, dr, sp, sp.spl, lay, ll, cs1, one, allOne, gb, sb, pb, ln, lk, undef, Bool.and_true, Bool.not_true, Bool.not_false, Nat.reduceAdd, Nat.reduceMul, Nat.reduceBEq, beq_self_eq_true, true_and, and_true, Q0, Q1, Q2, Q3, Q4, Q5, Q6, Q7, Q8, Q9, Q10, Q11, Q12, Q13, Q14, Q15, Q16, U0, U1, U2, U3, U4, U5, U6, U7, U8, U9, U10, U11, U12, t12, F20, F26, F22, o1, o2, o3, o4, ev, b1, b2, b3, b4, c1, c2, e0', f3', ef, false_implies, true_implies, true_or, true_and, and_true, and_self, Nat.reduceLT, Nat.reduceLeDiff]
   exact ⟨_, hK, rfl⟩
  ·have f3' : (tlE v (R ++ [x]) = 30) = False := eq_false f3
   simp only [gdK_bft, decide_false, e_reg, t_leaf, t_stop, t_op, and_self, e_seq, e_cond, e_ret, o_nil, o_cons, gd_none, gd_some, gdK_tt, gdK_tf, putK_e, runK_e, skipK_e, vK_e, bslK_e, storeK3_e, storeK2_e, storeK_e, appK2_or, appK_e, conK_e, callK_e, evh_v, evh_new, evh_bsl, evh_store, evh_app, evh_emp, evh_call, appK_ce, appE_b, appK_y, appY_e, seqK_n, seqK_r, condK_t, ends_r, endK1_e, endK2_e, gam_e, gamK_f, pc_e, pcK_e, fcC_e, fcK_e, evp, bin, gt, gq, st, putf, X.get, gets, getp, ap, rdR, tupled, clV, clL, clS, clo, clo.clos, ld, lda, tk, dr, sp, sp.spl, lay, ll, cs1, one, allOne, gb, sb, pb, ln, lk, undef, Bool.and_true, Bool.not_false, Nat.reduceAdd, Nat.reduceMul, Nat.reduceBEq, beq_self_eq_true, true_and, and_true, Q0, Q1, Q2, Q3, Q4, Q5, Q6, Q7, Q8, Q9, Q10, Q11, Q12, Q13, Q14, Q15, Q16, U0, U1, U2, U3, U4, U5, U6, U7, U8, U9, U10, U11, U12, t12, F20, F26, F22, o1, o2, o3, o4, ev, b1, b2, b3, b4, c1, c2, e0', f3', false_implies, true_implies, true_or, true_and, and_true, and_self, Nat.reduceLT, Nat.reduceLeDiff]
   exact ⟨_, hK, rfl⟩
 ·have c1 : (R.length = 0) = False := eq_false (by omega)
  have c2 : (0 < R.length) = True := eq_true h
  have o3 : rowOk (R.length + 1) (fun i => if i < R.length then rowR R i else [.int .i64 x.1, .int .i64 x.2.1, .bool x.2.2]) = True := @rowOk_X R x
  have o4 : rOf (R.length + 1) (fun i => if i < R.length then rowR R i else [.int .i64 x.1, .int .i64 x.2.1, .bool x.2.2]) = R ++ [x] := @rof_X R x
  by_cases e0 : tlE v R = 0
  ·have e0' : (tlE v R = 0) = True := eq_true e0
   by_cases f0 : tlE v (R ++ [x]) = 0
   ·have f0' : (tlE v (R ++ [x]) = 0) = True := eq_true f0
    obtain ⟨⟨n1, n2, n3, n4⟩, n5, n6, n7⟩ := hN e0 f0
    have m1 : ((tl v (R ++ [x])).1.1 < (tl v R).1.1) = False := eq_false (by omega)
    have m2 : ((tl v R).1.2 < (tl v (R ++ [x])).1.2) = False := eq_false (by omega)
    have m2' : ((tl v (R ++ [x])).1.2 > (tl v R).1.2) = False := eq_false (by omega)
    have m3 : ((tl v (R ++ [x])).2.1 < (tl v R).2.1) = False := eq_false (by omega)
    have m4 : ((tl v R).2.2 < (tl v (R ++ [x])).2.2) = False := eq_false (by omega)
    have m4' : ((tl v (R ++ [x])).2.2 > (tl v R).2.2) = False := eq_false (by omega)
    have m5 : (nxE v R = 0) = True := eq_true n5
    have m6 : (nxG v R <= (tl v R).1.2 - (tl v R).1.1) = True := eq_true n6
    have B1 := tlo_bnd e0
    have B2 := tlo_bnd f0
    have r1 : (-9223372036854775808 <= (tl v R).1.2 - (tl v R).1.1) = True := eq_true (by omega)
    have r2 : ((tl v R).1.2 - (tl v R).1.1 <= 9223372036854775807) = True := eq_true (by omega)
    have r3 : (-9223372036854775808 <= (tl v (R ++ [x])).1.2 - (tl v (R ++ [x])).1.1) = True := eq_true (by omega)
    have r4 : ((tl v (R ++ [x])).1.2 - (tl v (R ++ [x])).1.1 <= 9223372036854775807) = True := eq_true (by omega)
    by_cases ht : x.2.2 = nxT v R
    ·have m7 : ((tl v (R ++ [x])).1.2 - (tl v (R ++ [x])).1.1 <= nxG v R) = True := eq_true (n7 ht)
     have m8 : (x.2.2 == nxT v R) = true := by simp [ht]
     simp (maxSteps := 3000000) only [gdK_btt, gdK_bff, condK_bf, decide_true, decide_false, inr64, e_skip, e_reg, t_leaf, t_stop, t_op, and_self, e_seq, e_cond, e_ret, o_nil, o_cons, gd_none, gd_some, gdK_tt, gdK_ff, putK_e, runK_e, vK_e, bslK_e, storeK3_e, storeK2_e, storeK_e, appK2_or, appK_e, conK_e, callK_e, evh_v, evh_new, evh_bsl, evh_store, evh_app, evh_emp, evh_call, appK_ce, appE_b, appK_y, appY_e, seqK_n, ends_r, endK1_e, endK2_e, gam_e, gamK_f, pc_e, pcK_e, fcC_e, fcK_e, evp, bin, binB, gt, gq, st, putf, X.get, gets, getp, ap, rdR, tupled, clV, clL, clS, clo, clo.clos, asB, ld, lda, tk, dr, sp, sp.spl, lay, ll, cs1, one, allOne, gb, sb, pb, ln, lk, Bool.and_true, Bool.not_true, Nat.reduceAdd, Nat.reduceMul, Nat.reduceBEq, beq_self_eq_true, true_and, and_true, Q0, Q1, Q2, Q3, Q4, Q5, Q6, Q7, Q8, Q9, Q10, Q11, Q12, Q13, Q14, Q15, Q16, U0, U1, U2, U3, U4, U5, U6, U7, U8, U9, U10, U11, U12, t12, F20, F26, F22, o1, o2, o3, o4, ev, b1, b2, b3, b4, c1, c2, e0', f0', m1, m2, m3, m4, m5, m6, m7, m8, r1, r2, r3, r4, Bool.not_true, false_implies, true_implies, true_or, true_and, and_true, and_self, Nat.reduceLT, Nat.reduceLeDiff]
     exact ⟨_, hK, rfl⟩
    ·have m8 : (x.2.2 == nxT v R) = false := by simpa using ht
     simp (maxSteps := 3000000) only [gdK_btt, gdK_bft, gdK_bff, condK_bf, decide_true, decide_false, inr64, e_skip, e_reg, t_leaf, t_stop, t_op, and_self, e_seq, e_cond, e_ret, o_nil, o_cons, gd_none, gd_some, gdK_tt, gdK_tf, gdK_ff, putK_e, runK_e, skipK_e, vK_e, bslK_e, storeK3_e, storeK2_e, storeK_e, appK2_or, appK_e, conK_e, callK_e, evh_v, evh_new, evh_bsl, evh_store, evh_app, evh_emp, evh_call, appK_ce, appE_b, appK_y, appY_e, seqK_n, ends_r, endK1_e, endK2_e, gam_e, gamK_f, pc_e, pcK_e, fcC_e, fcK_e, evp, bin, binB, gt, gq, st, putf, X.get, gets, getp, ap, rdR, tupled, clV, clL, clS, clo, clo.clos, asB, ld, lda, tk, dr, sp, sp.spl, lay, ll, cs1, one, allOne, gb, sb, pb, ln, lk, undef, Bool.and_true, Bool.not_true, Bool.not_false, Nat.reduceAdd, Nat.reduceMul, Nat.reduceBEq, beq_self_eq_true, true_and, and_true, Q0, Q1, Q2, Q3, Q4, Q5, Q6, Q7, Q8, Q9, Q10, Q11, Q12, Q13, Q14, Q15, Q16, U0, U1, U2, U3, U4, U5, U6, U7, U8, U9, U10, U11, U12, t12, F20, F26, F22, o1, o2, o3, o4, ev, b1, b2, b3, b4, c1, c2, e0', f0', m1, m2, m3, m4, m5, m6, m8, r1, r2, Bool.not_false, false_implies, true_implies, true_or, true_and, and_true, and_self, Nat.reduceLT, Nat.reduceLeDiff]
     exact ⟨_, hK, rfl⟩
   ·have f0' : (tlE v (R ++ [x]) = 0) = False := eq_false f0
    have f3 : (tlE v (R ++ [x]) = 30) = False := eq_false fun hh => by have := h3 hh; omega
    simp only [gdK_bft, gdK_bff, condK_bt, decide_true, decide_false, e_reg, t_leaf, t_stop, t_op, and_self, e_seq, e_cond, e_ret, o_nil, o_cons, gd_none, gd_some, gdK_tt, gdK_tf, gdK_ff, putK_e, runK_e, skipK_e, vK_e, bslK_e, storeK3_e, storeK2_e, storeK_e, appK2_or, appK_e, conK_e, callK_e, evh_v, evh_new, evh_bsl, evh_store, evh_app, evh_emp, evh_call, appK_ce, appE_b, appK_y, appY_e, seqK_n, seqK_r, ends_r, endK1_e, endK2_e, gam_e, gamK_f, pc_e, pcK_e, fcC_e, fcK_e, evp, bin, gt, gq, st, putf, X.get, gets, getp, ap, rdR, tupled, clV, clL, clS, clo, clo.clos, ld, lda, tk, dr, sp, sp.spl, lay, ll, cs1, one, allOne, gb, sb, pb, ln, lk, undef, Bool.and_true, Bool.not_true, Bool.not_false, Nat.reduceAdd, Nat.reduceMul, Nat.reduceBEq, beq_self_eq_true, true_and, and_true, Q0, Q1, Q2, Q3, Q4, Q5, Q6, Q7, Q8, Q9, Q10, Q11, Q12, Q13, Q14, Q15, Q16, U0, U1, U2, U3, U4, U5, U6, U7, U8, U9, U10, U11, U12, t12, F20, F26, F22, o1, o2, o3, o4, ev, b1, b2, b3, b4, c1, c2, e0', f0', f3, false_implies, true_implies, true_or, true_and, and_true, and_self, Nat.reduceLT, Nat.reduceLeDiff]
    exact ⟨_, hK, rfl⟩
  ·have e0' : (tlE v R = 0) = False := eq_false e0
   by_cases f3 : tlE v (R ++ [x]) = 30
   ·have f3' : (tlE v (R ++ [x]) = 30) = True := eq_true f3
    have ef : (tlE v R = tlE v (R ++ [x])) = True := eq_true ((h3 f3).trans f3.symm)
    simp only [gdK_btt, gdK_bft, gdK_bff, decide_true, decide_false, e_reg, t_leaf, t_stop, t_op, and_self, e_seq, e_cond, e_ret, o_nil, o_cons, gd_none, gd_some, gdK_tf, gdK_ff, putK_e, runK_e, skipK_e, vK_e, bslK_e, storeK3_e, storeK2_e, storeK_e, appK2_or, appK_e, conK_e, callK_e, evh_v, evh_new, evh_bsl, evh_store, evh_app, evh_emp, evh_call, appK_ce, appE_b, appK_y, appY_e, seqK_n, seqK_r, condK_t, ends_r, endK1_e, endK2_e, gam_e, gamK_f, pc_e, pcK_e, fcC_e, fcK_e, evp, bin, gt, gq, st, putf, X.get, gets, getp, ap, rdR, tupled, clV, clL, clS, clo, clo.clos, ld, lda, tk, dr, sp, sp.spl, lay, ll, cs1, one, allOne, gb, sb, pb, ln, lk, undef, Bool.and_true, Bool.not_true, Bool.not_false, Nat.reduceAdd, Nat.reduceMul, Nat.reduceBEq, beq_self_eq_true, true_and, and_true, Q0, Q1, Q2, Q3, Q4, Q5, Q6, Q7, Q8, Q9, Q10, Q11, Q12, Q13, Q14, Q15, Q16, U0, U1, U2, U3, U4, U5, U6, U7, U8, U9, U10, U11, U12, t12, F20, F26, F22, o1, o2, o3, o4, ev, b1, b2, b3, b4, c1, c2, e0', f3', ef, false_implies, true_implies, true_or, true_and, and_true, and_self, Nat.reduceLT, Nat.reduceLeDiff]
    exact ⟨_, hK, rfl⟩
   ·have f3' : (tlE v (R ++ [x]) = 30) = False := eq_false f3
    simp only [gdK_bft, decide_false, e_reg, t_leaf, t_stop, t_op, and_self, e_seq, e_cond, e_ret, o_nil, o_cons, gd_none, gd_some, gdK_tt, gdK_tf, putK_e, runK_e, skipK_e, vK_e, bslK_e, storeK3_e, storeK2_e, storeK_e, appK2_or, appK_e, conK_e, callK_e, evh_v, evh_new, evh_bsl, evh_store, evh_app, evh_emp, evh_call, appK_ce, appE_b, appK_y, appY_e, seqK_n, seqK_r, condK_t, ends_r, endK1_e, endK2_e, gam_e, gamK_f, pc_e, pcK_e, fcC_e, fcK_e, evp, bin, gt, gq, st, putf, X.get, gets, getp, ap, rdR, tupled, clV, clL, clS, clo, clo.clos, ld, lda, tk, dr, sp, sp.spl, lay, ll, cs1, one, allOne, gb, sb, pb, ln, lk, undef, Bool.and_true, Bool.not_false, Nat.reduceAdd, Nat.reduceMul, Nat.reduceBEq, beq_self_eq_true, true_and, and_true, Q0, Q1, Q2, Q3, Q4, Q5, Q6, Q7, Q8, Q9, Q10, Q11, Q12, Q13, Q14, Q15, Q16, U0, U1, U2, U3, U4, U5, U6, U7, U8, U9, U10, U11, U12, t12, F20, F26, F22, o1, o2, o3, o4, ev, b1, b2, b3, b4, c1, c2, e0', f3', false_implies, true_implies, true_or, true_and, and_true, and_self, Nat.reduceLT, Nat.reduceLeDiff]
    exact ⟨_, hK, rfl⟩
end Go.Proofs.Ytgdihdiadlmjiaa
end
