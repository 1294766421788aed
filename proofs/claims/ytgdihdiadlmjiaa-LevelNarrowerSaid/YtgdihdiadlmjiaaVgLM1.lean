import Derived.Test.YtgdihdiadlmjiaaVgY12
import Derived.Test.YtgdihdiadlmjiaaVgV17
import Derived.Test.YtgdihdiadlmjiaaVgK3
set_option linter.all false
namespace Go.Proofs.Ytgdihdiadlmjiaa
open Go Go.Vg
set_option maxRecDepth 10000
theorem c101 : ConOk Try.prog 101 (conR tab.get 40 101) := conR_ok (AllTT.tab tabOk) 40 101
theorem q101 : Known Try.prog 101 := ⟨_, Try.func101, by decide, by simp [Try.f101]⟩
noncomputable def s93 : SC :=
 (.seq (.reg [⟨(some 5),none,.box 23 (.t 2)⟩,(.w6 6 (.mov (.c (.lit (.map none)))))]) (.seq (.reg [.u0 10 0,(.w1 11 101 [(.t 10)]),.u0 7 11]) (.seq (.seq (.sem (rq Try.f93 2)) (.seq (.reg [.u0 18 9]) (.cond (.t 18) (.reg [.u4 19 8 2,.u4 20 5 2,(.w1 21 81 [(.t 19),(.t 20)]),.w3 2 5 21]) .skip))) (.seq (.sem (rq Try.f93 5)) (.seq (.reg [.u0 25 7,.u0 6 25]) .ret)))))
def r93 : List RV := [.t 6]
theorem k93 : (Try.f93.body.bind (cC Try.prog), cR Try.prog Try.f93.results.toList, Try.f93.ntmps) = (some s93, some r93, 26) := by kernel_rfl
theorem q93 : Known Try.prog 93 := ⟨_, Try.func93, by decide, by simp [Try.f93]⟩
inductive Mp where
 | e0
 | d1 (a b : Int)
 | t1 (a b : Int)
 | dt (a b c e : Int)
 | td (a b c e : Int)
def spS (a b : Int) : SV := .agg [.int .i64 a, .int .i64 b]
def Mp.ks : Mp -> List SV
 | .e0 => []
 | .d1 _ _ => [.lit (.bool false)]
 | .t1 _ _ => [.lit (.bool true)]
 | .dt _ _ _ _ => [.lit (.bool false), .lit (.bool true)]
 | .td _ _ _ _ => [.lit (.bool true), .lit (.bool false)]
def Mp.vs : Mp -> List SV
 | .e0 => []
 | .d1 a b => [spS a b]
 | .t1 a b => [spS a b]
 | .dt a b c e => [spS a b, spS c e]
 | .td a b c e => [spS c e, spS a b]
def Mp.sv (M : Mp) : SV := .cm M.ks M.vs
def Mp.es (M : Mp) : List (SV × SV) := M.ks.zip M.vs
def Mp.wth (M : Mp) (b : Bool) (x y : Int) : Mp :=
 match M, b with
 | .e0, false => .d1 x y
 | .e0, true => .t1 x y
 | .d1 a b, false => .d1 (cmL a b x y) (cmH a b x y)
 | .d1 a b, true => .dt a b x y
 | .t1 a b, true => .t1 (cmL a b x y) (cmH a b x y)
 | .t1 a b, false => .td x y a b
 | .dt a b c e, false => .dt (cmL a b x y) (cmH a b x y) c e
 | .dt a b c e, true => .dt a b (cmL c e x y) (cmH c e x y)
 | .td a b c e, false => .td (cmL a b x y) (cmH a b x y) c e
 | .td a b c e, true => .td a b (cmL c e x y) (cmH c e x y)
theorem sem_rgnQ {P : Program} {N : Nat} {c : Code} {K : Exit -> St -> Prop} {fr : List SV} {hp : List Blk} (ps : List (Nat × SV)) (hp' : List Blk) (hn : nlp hp = true) (hn' : nlp hp' = true) (e : rgn P c fr hp = some (puts fr ps, hp')) (k : K .normal ⟨puts fr ps, hp'⟩) : SemOk P N c K ⟨fr, hp⟩ := sem_rgn hn hn' e k
theorem run101 (M : Mp) (x y : Int) : runC tab.get 40 101 [M.sv] [.box 23 [.int .i64 x, .int .i64 y]] = some (.lb .mp 1, [.box 23 [.int .i64 x, .int .i64 y], .ob (.mp M.es)]) := by
 cases M <;> kernel_rfl
def C93 : PC := fun args K => ∃ (M : Mp) (t : Bool) (x y : Int), args = [M.sv, .bool t, .agg [.int .i64 x, .int .i64 y]] /\ K (M.wth t x y).sv
set_option maxHeartbeats 4000000 in
theorem p93 : PureOk Try.prog 93 C93 := by
 refine pure_of (T := [(101, .con (conR tab.get 40 101)), (81, .fc F81)]) ⟨⟨c101, q101⟩, ⟨p81, q81⟩, trivial⟩ Try.func93 k93 ?_
 rintro args K ⟨M, t, x, y, rfl, hK⟩
 simp only [e_reg, e_seq, o_nil, o_cons, gd_none, putK_e, runK_e, vK_e, boxK_e, conK_e, callK_e, evh_v, evh_box, evh_call, seqK_n, gam_e, gamK_c, evp, gt, st, putf, X.get, gets, ap, mkfr, rep, cs1, pb, ln, lk, undef, Nat.reduceSub, beq_self_eq_true, true_and, s93, r93, conR_e]
 refine ⟨rfl, _, _, run101 M x y, rfl, ?_⟩
 cases M
 case e0 =>
  cases t
  ·simp only [e_sem]
   refine sem_rgnQ [(13, Mp.e0.sv), (14, .lit (.bool false)), (15, .tup [.agg [.int .i64 0, .int .i64 0], .lit (.bool false)]), (12, .tup [.agg [.int .i64 0, .int .i64 0], .lit (.bool false)]), (16, .agg [.int .i64 0, .int .i64 0]), (8, .ptr 2 0), (17, .lit (.bool false)), (9, .lit (.bool false))] [.box 23 [.int .i64 x, .int .i64 y], .ob (.mp Mp.e0.es), .box 23 [.int .i64 0, .int .i64 0]] rfl rfl (by kernel_rfl) ?_
   simp only [puts_n, puts_c]
   simp only [e_skip, e_reg, e_seq, e_cond, o_nil, o_cons, gd_none, putK_e, runK_e, vK_e, evh_v, seqK_n, condK_f, evp, gt, st, putf, X.get, true_and, e_sem]
   refine sem_rgnQ [(22, .lb .mp 1), (23, .lit (.bool false)), (24, .agg [.int .i64 x, .int .i64 y])] [.box 23 [.int .i64 x, .int .i64 y], .ob (.mp (Mp.e0.wth false x y).es), .box 23 [.int .i64 0, .int .i64 0]] rfl rfl (by kernel_rfl) ?_
   simp only [puts_n, puts_c]
   simp only [e_reg, e_seq, e_ret, o_nil, o_cons, gd_none, putK_e, runK_e, vK_e, evh_v, seqK_n, ends_r, endK1_e, evp, gt, st, putf, X.get, rdR, tupled, clV, clS, gb, sb, true_and]
   exact ⟨_, hK, rfl⟩
  ·simp only [e_sem]
   refine sem_rgnQ [(13, Mp.e0.sv), (14, .lit (.bool true)), (15, .tup [.agg [.int .i64 0, .int .i64 0], .lit (.bool false)]), (12, .tup [.agg [.int .i64 0, .int .i64 0], .lit (.bool false)]), (16, .agg [.int .i64 0, .int .i64 0]), (8, .ptr 2 0), (17, .lit (.bool false)), (9, .lit (.bool false))] [.box 23 [.int .i64 x, .int .i64 y], .ob (.mp Mp.e0.es), .box 23 [.int .i64 0, .int .i64 0]] rfl rfl (by kernel_rfl) ?_
   simp only [puts_n, puts_c]
   simp only [e_skip, e_reg, e_seq, e_cond, o_nil, o_cons, gd_none, putK_e, runK_e, vK_e, evh_v, seqK_n, condK_f, evp, gt, st, putf, X.get, true_and, e_sem]
   refine sem_rgnQ [(22, .lb .mp 1), (23, .lit (.bool true)), (24, .agg [.int .i64 x, .int .i64 y])] [.box 23 [.int .i64 x, .int .i64 y], .ob (.mp (Mp.e0.wth true x y).es), .box 23 [.int .i64 0, .int .i64 0]] rfl rfl (by kernel_rfl) ?_
   simp only [puts_n, puts_c]
   simp only [e_reg, e_seq, e_ret, o_nil, o_cons, gd_none, putK_e, runK_e, vK_e, evh_v, seqK_n, ends_r, endK1_e, evp, gt, st, putf, X.get, rdR, tupled, clV, clS, gb, sb, true_and]
   exact ⟨_, hK, rfl⟩
 case d1 a b =>
  cases t
  ·simp only [e_sem]
   refine sem_rgnQ [(13, (Mp.d1 a b).sv), (14, .lit (.bool false)), (15, .tup [.agg [.int .i64 a, .int .i64 b], .lit (.bool true)]), (12, .tup [.agg [.int .i64 a, .int .i64 b], .lit (.bool true)]), (16, .agg [.int .i64 a, .int .i64 b]), (8, .ptr 2 0), (17, .lit (.bool true)), (9, .lit (.bool true))] [.box 23 [.int .i64 x, .int .i64 y], .ob (.mp (Mp.d1 a b).es), .box 23 [.int .i64 a, .int .i64 b]] rfl rfl (by kernel_rfl) ?_
   simp only [puts_n, puts_c]
   simp only [e_reg, and_self, e_seq, e_cond, o_nil, o_cons, gd_none, putK_e, runK_e, vK_e, storeK3_e, storeK2_e, storeK_e, conK_e, callK_e, evh_v, evh_store, evh_call, seqK_n, condK_t, gam_e, gamK_f, pc_e, pcK_e, fcC_e, fcK_e, evp, gt, st, putf, X.get, gets, ap, clV, clL, clS, clo, ld, lda, tk, dr, sp, sp.spl, ll, cs1, one, allOne, gb, sb, lk, Value.oneCell', Bool.and_true, Nat.reduceAdd, Nat.reduceBEq, beq_self_eq_true, true_and, F81, e_sem]
   refine sem_rgnQ [(22, .lb .mp 1), (23, .lit (.bool false)), (24, .agg [.int .i64 (cmL a b x y), .int .i64 (cmH a b x y)])] [.box 23 [.int .i64 (cmL a b x y), .int .i64 (cmH a b x y)], .ob (.mp ((Mp.d1 a b).wth false x y).es), .box 23 [.int .i64 a, .int .i64 b]] rfl rfl (by kernel_rfl) ?_
   simp only [puts_n, puts_c]
   simp only [e_reg, e_seq, e_ret, o_nil, o_cons, gd_none, putK_e, runK_e, vK_e, evh_v, seqK_n, ends_r, endK1_e, evp, gt, st, putf, X.get, rdR, tupled, clV, clS, gb, sb, true_and]
   exact ⟨_, hK, rfl⟩
  ·simp only [e_sem]
   refine sem_rgnQ [(13, (Mp.d1 a b).sv), (14, .lit (.bool true)), (15, .tup [.agg [.int .i64 0, .int .i64 0], .lit (.bool false)]), (12, .tup [.agg [.int .i64 0, .int .i64 0], .lit (.bool false)]), (16, .agg [.int .i64 0, .int .i64 0]), (8, .ptr 2 0), (17, .lit (.bool false)), (9, .lit (.bool false))] [.box 23 [.int .i64 x, .int .i64 y], .ob (.mp (Mp.d1 a b).es), .box 23 [.int .i64 0, .int .i64 0]] rfl rfl (by kernel_rfl) ?_
   simp only [puts_n, puts_c]
   simp only [e_skip, e_reg, e_seq, e_cond, o_nil, o_cons, gd_none, putK_e, runK_e, vK_e, evh_v, seqK_n, condK_f, evp, gt, st, putf, X.get, true_and, e_sem]
   refine sem_rgnQ [(22, .lb .mp 1), (23, .lit (.bool true)), (24, .agg [.int .i64 x, .int .i64 y])] [.box 23 [.int .i64 x, .int .i64 y], .ob (.mp ((Mp.d1 a b).wth true x y).es), .box 23 [.int .i64 0, .int .i64 0]] rfl rfl (by kernel_rfl) ?_
   simp only [puts_n, puts_c]
   simp only [e_reg, e_seq, e_ret, o_nil, o_cons, gd_none, putK_e, runK_e, vK_e, evh_v, seqK_n, ends_r, endK1_e, evp, gt, st, putf, X.get, rdR, tupled, clV, clS, gb, sb, true_and]
   exact ⟨_, hK, rfl⟩
 case t1 a b =>
  cases t
  ·simp only [e_sem]
   refine sem_rgnQ [(13, (Mp.t1 a b).sv), (14, .lit (.bool false)), (15, .tup [.agg [.int .i64 0, .int .i64 0], .lit (.bool false)]), (12, .tup [.agg [.int .i64 0, .int .i64 0], .lit (.bool false)]), (16, .agg [.int .i64 0, .int .i64 0]), (8, .ptr 2 0), (17, .lit (.bool false)), (9, .lit (.bool false))] [.box 23 [.int .i64 x, .int .i64 y], .ob (.mp (Mp.t1 a b).es), .box 23 [.int .i64 0, .int .i64 0]] rfl rfl (by kernel_rfl) ?_
   simp only [puts_n, puts_c]
   simp only [e_skip, e_reg, e_seq, e_cond, o_nil, o_cons, gd_none, putK_e, runK_e, vK_e, evh_v, seqK_n, condK_f, evp, gt, st, putf, X.get, true_and, e_sem]
   refine sem_rgnQ [(22, .lb .mp 1), (23, .lit (.bool false)), (24, .agg [.int .i64 x, .int .i64 y])] [.box 23 [.int .i64 x, .int .i64 y], .ob (.mp ((Mp.t1 a b).wth false x y).es), .box 23 [.int .i64 0, .int .i64 0]] rfl rfl (by kernel_rfl) ?_
   simp only [puts_n, puts_c]
   simp only [e_reg, e_seq, e_ret, o_nil, o_cons, gd_none, putK_e, runK_e, vK_e, evh_v, seqK_n, ends_r, endK1_e, evp, gt, st, putf, X.get, rdR, tupled, clV, clS, gb, sb, true_and]
   exact ⟨_, hK, rfl⟩
  ·simp only [e_sem]
   refine sem_rgnQ [(13, (Mp.t1 a b).sv), (14, .lit (.bool true)), (15, .tup [.agg [.int .i64 a, .int .i64 b], .lit (.bool true)]), (12, .tup [.agg [.int .i64 a, .int .i64 b], .lit (.bool true)]), (16, .agg [.int .i64 a, .int .i64 b]), (8, .ptr 2 0), (17, .lit (.bool true)), (9, .lit (.bool true))] [.box 23 [.int .i64 x, .int .i64 y], .ob (.mp (Mp.t1 a b).es), .box 23 [.int .i64 a, .int .i64 b]] rfl rfl (by kernel_rfl) ?_
   simp only [puts_n, puts_c]
   simp only [e_reg, and_self, e_seq, e_cond, o_nil, o_cons, gd_none, putK_e, runK_e, vK_e, storeK3_e, storeK2_e, storeK_e, conK_e, callK_e, evh_v, evh_store, evh_call, seqK_n, condK_t, gam_e, gamK_f, pc_e, pcK_e, fcC_e, fcK_e, evp, gt, st, putf, X.get, gets, ap, clV, clL, clS, clo, ld, lda, tk, dr, sp, sp.spl, ll, cs1, one, allOne, gb, sb, lk, Value.oneCell', Bool.and_true, Nat.reduceAdd, Nat.reduceBEq, beq_self_eq_true, true_and, F81, e_sem]
   refine sem_rgnQ [(22, .lb .mp 1), (23, .lit (.bool true)), (24, .agg [.int .i64 (cmL a b x y), .int .i64 (cmH a b x y)])] [.box 23 [.int .i64 (cmL a b x y), .int .i64 (cmH a b x y)], .ob (.mp ((Mp.t1 a b).wth true x y).es), .box 23 [.int .i64 a, .int .i64 b]] rfl rfl (by kernel_rfl) ?_
   simp only [puts_n, puts_c]
   simp only [e_reg, e_seq, e_ret, o_nil, o_cons, gd_none, putK_e, runK_e, vK_e, evh_v, seqK_n, ends_r, endK1_e, evp, gt, st, putf, X.get, rdR, tupled, clV, clS, gb, sb, true_and]
   exact ⟨_, hK, rfl⟩
 case dt a b c e =>
  cases t
  ·simp only [e_sem]
   refine sem_rgnQ [(13, (Mp.dt a b c e).sv), (14, .lit (.bool false)), (15, .tup [.agg [.int .i64 a, .int .i64 b], .lit (.bool true)]), (12, .tup [.agg [.int .i64 a, .int .i64 b], .lit (.bool true)]), (16, .agg [.int .i64 a, .int .i64 b]), (8, .ptr 2 0), (17, .lit (.bool true)), (9, .lit (.bool true))] [.box 23 [.int .i64 x, .int .i64 y], .ob (.mp (Mp.dt a b c e).es), .box 23 [.int .i64 a, .int .i64 b]] rfl rfl (by kernel_rfl) ?_
   simp only [puts_n, puts_c]
   simp only [e_reg, and_self, e_seq, e_cond, o_nil, o_cons, gd_none, putK_e, runK_e, vK_e, storeK3_e, storeK2_e, storeK_e, conK_e, callK_e, evh_v, evh_store, evh_call, seqK_n, condK_t, gam_e, gamK_f, pc_e, pcK_e, fcC_e, fcK_e, evp, gt, st, putf, X.get, gets, ap, clV, clL, clS, clo, ld, lda, tk, dr, sp, sp.spl, ll, cs1, one, allOne, gb, sb, lk, Value.oneCell', Bool.and_true, Nat.reduceAdd, Nat.reduceBEq, beq_self_eq_true, true_and, F81, e_sem]
   refine sem_rgnQ [(22, .lb .mp 1), (23, .lit (.bool false)), (24, .agg [.int .i64 (cmL a b x y), .int .i64 (cmH a b x y)])] [.box 23 [.int .i64 (cmL a b x y), .int .i64 (cmH a b x y)], .ob (.mp ((Mp.dt a b c e).wth false x y).es), .box 23 [.int .i64 a, .int .i64 b]] rfl rfl (by kernel_rfl) ?_
   simp only [puts_n, puts_c]
   simp only [e_reg, e_seq, e_ret, o_nil, o_cons, gd_none, putK_e, runK_e, vK_e, evh_v, seqK_n, ends_r, endK1_e, evp, gt, st, putf, X.get, rdR, tupled, clV, clS, gb, sb, true_and]
   exact ⟨_, hK, rfl⟩
  ·simp only [e_sem]
   refine sem_rgnQ [(13, (Mp.dt a b c e).sv), (14, .lit (.bool true)), (15, .tup [.agg [.int .i64 c, .int .i64 e], .lit (.bool true)]), (12, .tup [.agg [.int .i64 c, .int .i64 e], .lit (.bool true)]), (16, .agg [.int .i64 c, .int .i64 e]), (8, .ptr 2 0), (17, .lit (.bool true)), (9, .lit (.bool true))] [.box 23 [.int .i64 x, .int .i64 y], .ob (.mp (Mp.dt a b c e).es), .box 23 [.int .i64 c, .int .i64 e]] rfl rfl (by kernel_rfl) ?_
   simp only [puts_n, puts_c]
   simp only [e_reg, and_self, e_seq, e_cond, o_nil, o_cons, gd_none, putK_e, runK_e, vK_e, storeK3_e, storeK2_e, storeK_e, conK_e, callK_e, evh_v, evh_store, evh_call, seqK_n, condK_t, gam_e, gamK_f, pc_e, pcK_e, fcC_e, fcK_e, evp, gt, st, putf, X.get, gets, ap, clV, clL, clS, clo, ld, lda, tk, dr, sp, sp.spl, ll, cs1, one, allOne, gb, sb, lk, Value.oneCell', Bool.and_true, Nat.reduceAdd, Nat.reduceBEq, beq_self_eq_true, true_and, F81, e_sem]
   refine sem_rgnQ [(22, .lb .mp 1), (23, .lit (.bool true)), (24, .agg [.int .i64 (cmL c e x y), .int .i64 (cmH c e x y)])] [.box 23 [.int .i64 (cmL c e x y), .int .i64 (cmH c e x y)], .ob (.mp ((Mp.dt a b c e).wth true x y).es), .box 23 [.int .i64 c, .int .i64 e]] rfl rfl (by kernel_rfl) ?_
   simp only [puts_n, puts_c]
   simp only [e_reg, e_seq, e_ret, o_nil, o_cons, gd_none, putK_e, runK_e, vK_e, evh_v, seqK_n, ends_r, endK1_e, evp, gt, st, putf, X.get, rdR, tupled, clV, clS, gb, sb, true_and]
   exact ⟨_, hK, rfl⟩
 case td a b c e =>
  cases t
  ·simp only [e_sem]
   refine sem_rgnQ [(13, (Mp.td a b c e).sv), (14, .lit (.bool false)), (15, .tup [.agg [.int .i64 a, .int .i64 b], .lit (.bool true)]), (12, .tup [.agg [.int .i64 a, .int .i64 b], .lit (.bool true)]), (16, .agg [.int .i64 a, .int .i64 b]), (8, .ptr 2 0), (17, .lit (.bool true)), (9, .lit (.bool true))] [.box 23 [.int .i64 x, .int .i64 y], .ob (.mp (Mp.td a b c e).es), .box 23 [.int .i64 a, .int .i64 b]] rfl rfl (by kernel_rfl) ?_
   simp only [puts_n, puts_c]
   simp only [e_reg, and_self, e_seq, e_cond, o_nil, o_cons, gd_none, putK_e, runK_e, vK_e, storeK3_e, storeK2_e, storeK_e, conK_e, callK_e, evh_v, evh_store, evh_call, seqK_n, condK_t, gam_e, gamK_f, pc_e, pcK_e, fcC_e, fcK_e, evp, gt, st, putf, X.get, gets, ap, clV, clL, clS, clo, ld, lda, tk, dr, sp, sp.spl, ll, cs1, one, allOne, gb, sb, lk, Value.oneCell', Bool.and_true, Nat.reduceAdd, Nat.reduceBEq, beq_self_eq_true, true_and, F81, e_sem]
   refine sem_rgnQ [(22, .lb .mp 1), (23, .lit (.bool false)), (24, .agg [.int .i64 (cmL a b x y), .int .i64 (cmH a b x y)])] [.box 23 [.int .i64 (cmL a b x y), .int .i64 (cmH a b x y)], .ob (.mp ((Mp.td a b c e).wth false x y).es), .box 23 [.int .i64 a, .int .i64 b]] rfl rfl (by kernel_rfl) ?_
   simp only [puts_n, puts_c]
   simp only [e_reg, e_seq, e_ret, o_nil, o_cons, gd_none, putK_e, runK_e, vK_e, evh_v, seqK_n, ends_r, endK1_e, evp, gt, st, putf, X.get, rdR, tupled, clV, clS, gb, sb, true_and]
   exact ⟨_, hK, rfl⟩
  ·simp only [e_sem]
   refine sem_rgnQ [(13, (Mp.td a b c e).sv), (14, .lit (.bool true)), (15, .tup [.agg [.int .i64 c, .int .i64 e], .lit (.bool true)]), (12, .tup [.agg [.int .i64 c, .int .i64 e], .lit (.bool true)]), (16, .agg [.int .i64 c, .int .i64 e]), (8, .ptr 2 0), (17, .lit (.bool true)), (9, .lit (.bool true))] [.box 23 [.int .i64 x, .int .i64 y], .ob (.mp (Mp.td a b c e).es), .box 23 [.int .i64 c, .int .i64 e]] rfl rfl (by kernel_rfl) ?_
   simp only [puts_n, puts_c]
   simp only [e_reg, and_self, e_seq, e_cond, o_nil, o_cons, gd_none, putK_e, runK_e, vK_e, storeK3_e, storeK2_e, storeK_e, conK_e, callK_e, evh_v, evh_store, evh_call, seqK_n, condK_t, gam_e, gamK_f, pc_e, pcK_e, fcC_e, fcK_e, evp, gt, st, putf, X.get, gets, ap, clV, clL, clS, clo, ld, lda, tk, dr, sp, sp.spl, ll, cs1, one, allOne, gb, sb, lk, Value.oneCell', Bool.and_true, Nat.reduceAdd, Nat.reduceBEq, beq_self_eq_true, true_and, F81, e_sem]
   refine sem_rgnQ [(22, .lb .mp 1), (23, .lit (.bool true)), (24, .agg [.int .i64 (cmL c e x y), .int .i64 (cmH c e x y)])] [.box 23 [.int .i64 (cmL c e x y), .int .i64 (cmH c e x y)], .ob (.mp ((Mp.td a b c e).wth true x y).es), .box 23 [.int .i64 c, .int .i64 e]] rfl rfl (by kernel_rfl) ?_
   simp only [puts_n, puts_c]
   simp only [e_reg, e_seq, e_ret, o_nil, o_cons, gd_none, putK_e, runK_e, vK_e, evh_v, seqK_n, ends_r, endK1_e, evp, gt, st, putf, X.get, rdR, tupled, clV, clS, gb, sb, true_and]
   exact ⟨_, hK, rfl⟩
end Go.Proofs.Ytgdihdiadlmjiaa
