import Derived.Test.YtgdihdiadlmjiaaVgLM2
set_option linter.all false
section
namespace Go.Proofs.Ytgdihdiadlmjiaa
open Go Go.Vg
set_option maxRecDepth 10000
def s77 : SC :=
 (.seq (.reg [⟨(some 3),none,.box 78 (.t 0)⟩,⟨(some 5),none,.box 57 (.t 2)⟩,(.w6 6 (.mov (.c (.lit (.map none)))))]) (.seq (.drw [(0,.u0 7 1,false),(1,.u2 8 5 2,false),(2,.u3 9 8,false),(3,.u4 10 3 8,false),(4,.u2 11 5 0,false),(5,.u3 12 11,false),(6,.u2 13 5 1,false),(7,.u3 14 13,false),(8,.u6 15 .add 12 14,false),(9,(.w1 16 94 [(.t 10),(.t 15)]),false)] none [(.w1 17 93 [(.t 7),(.t 9),(.t 16)]),.u0 6 17]) .ret))
def r77 : List RV := [.t 6]
theorem k77 : (Try.f77.body.bind (cC Try.prog), cR Try.prog Try.f77.results.toList, Try.f77.ntmps) = (some s77, some r77, 18) := by kernel_rfl
theorem q77 : Known Try.prog 77 := ⟨_, Try.func77, by decide, by simp [Try.f77]⟩
noncomputable def s49 : SC :=
 (.seq (.reg [⟨(some 2),none,.box 78 (.t 0)⟩,(.w6 4 (.mov (.c (.lit (.map none)))))]) (.seq (.sem (rq Try.f49 1)) (.seq (.seq (.reg [.u0 9 1,.w2 10 9,.u1 11 (0)]) (.block 0 (.loop (.seq (.reg [.u6 12 .lss 11 10]) (.seq (.cond (.t 12) .skip (.exit 0)) (.seq (.block 1 (.seq (.reg [(.w6 13 (.ixa (.t 9) (.t 11) 3)),.u4 14 13 3,⟨(some 7),none,.new 57 [(.int .i64 (0)),(.int .i64 (0)),(.lit (.bool false))]⟩,.w3 3 7 14]) (.reg [.u4 15 2 8,.u0 16 5,.u4 17 7 3,(.w1 18 77 [(.t 15),(.t 16),(.t 17)]),.u0 5 18]))) (.reg [.u7 19 .add 11 (1),.u0 11 19]))))))) (.seq (.reg [.u0 20 5,.u0 4 20]) .ret))))
def r49 : List RV := [.t 4]
theorem k49 : (Try.f49.body.bind (cC Try.prog), cR Try.prog Try.f49.results.toList, Try.f49.ntmps) = (some s49, some r49, 21) := by kernel_rfl
theorem q49 : Known Try.prog 49 := ⟨_, Try.func49, by decide, by simp [Try.f49]⟩
def F94 : FC := fun args => match args with
 | [.agg [.int .i64 m, .int .i64 l1, .int .i64 l2, .int .i64 v1, .int .i64 v2, .int .i64 z1, .int .i64 z2, .int .i64 w], .int .i64 x] => some (Vl.ok ⟨m, l1, l2, v1, v2, z1, z2, w⟩ /\ -1000000 <= x /\ x <= 1000000, .agg [.int .i64 (x - w), .int .i64 (x + w)])
 | _ => none
theorem p94f : PureOk Try.prog 94 (fcC F94) := by
 intro w im args vs K him ha hC
 unfold fcC F94 at hC
 split at hC <;> first | (exact hC.elim) | skip
 rename_i h
 split at h <;> first | (cases h; done) | skip
 cases h
 exact p94 w im _ vs K him ha ⟨⟨_, _, _, _, _, _, _, _⟩, _, rfl, hC.1, hC.2⟩
def Mp.rd (M : Mp) (w : Int) (e : Rg) : Mp := M.wth e.2.2 (e.1 + e.2.1 - w) (e.1 + e.2.1 + w)
def Mp.mid (w : Int) (R : List Rg) : Mp := R.foldl (fun M e => M.rd w e) .e0
def C77 : PC := fun args K => ∃ (v : Vl) (M : Mp) (e : Rg), args = [v.sv, M.sv, .agg [.int .i64 e.1, .int .i64 e.2.1, .bool e.2.2]] /\ (v.ok /\ (0 <= e.1 /\ e.1 <= 200) /\ 0 <= e.2.1 /\ e.2.1 <= 200) /\ K (M.rd v.w e).sv
set_option maxHeartbeats 1000000 in
theorem p77 : PureOk Try.prog 77 C77 := by
 refine pure_of (T := [(94, .fc F94), (93, .pc C93)]) ⟨⟨p94f, q94⟩, ⟨p93, q93⟩, trivial⟩ Try.func77 k77 ?_
 rintro args K ⟨v, M, ⟨l, r, t⟩, rfl, ⟨hv, hl, hr⟩, hK⟩
 simp only at hl hr
 have hv' := eq_true hv
 obtain ⟨m, l1, l2, v1, v2, z1, z2, w⟩ := v
 simp only [Vl.sv]
 simp only [inr64, e_reg, e_drw, e_seq, o_nil, o_cons, gd_none, putK_e, runK_e, vK_e, boxK_e, conK_e, callK_e, evh_v, evh_box, evh_call, dX_e, dG_t, d_nil, d_cons, tlK_n, seqK_n, gam_e, gamK_p, gamq_e, gamqK_f, pc_e, evp, bin, gt, gq, st, putf, X.get, gets, ap, mkfr, rep, clV, clL, clS, clo, clo.clos, ld, lda, tk, dr, cs1, gb, pb, ln, lk, evq, gdl, undef, Bool.and_true, Nat.reduceSub, Nat.reduceAdd, Nat.reduceBEq, beq_self_eq_true, true_and, s77, r77, F94]
 repeat' (first | omega | exact hv | (with_reducible refine And.intro ?_ ?_))
 refine ⟨M, t, _, _, rfl, ?_⟩
 simp only [e_ret, o_nil, o_cons, gd_none, putK_e, runK_e, vK_e, evh_v, seqK_n, ends_r, endK1_e, evp, gt, st, putf, X.get, rdR, tupled, clV, clS, true_and]
 exact ⟨_, hK, rfl⟩
def C49 : PC := fun args K => ∃ (v : Vl) (R : List Rg), args = [v.sv, .rd 3 R.length (rowR R)] /\ (v.ok /\ okRs v R) /\ K (Mp.mid v.w R).sv
theorem mid_snoc {w : Int} {R : List Rg} {i : Nat} (h : i < R.length) : Mp.mid w (R.take (i + 1)) = (Mp.mid w (R.take i)).rd w (R.getD i r0) := by
 rw [List.take_add_one, List.getElem?_eq_getElem h]
 unfold Mp.mid
 rw [List.foldl_append]
 simp [List.getD, h]
set_option maxHeartbeats 1000000 in
theorem p49 : PureOk Try.prog 49 C49 := by
 refine pure_of (T := [(77, .pc C77)]) ⟨⟨p77, q77⟩, trivial⟩ Try.func49 k49 ?_
 rintro args K ⟨v, R, rfl, ⟨hv, hR⟩, hK⟩
 have hsv : v.sv = .agg [.int .i64 v.m, .int .i64 v.l1, .int .i64 v.l2, .int .i64 v.v1, .int .i64 v.v2, .int .i64 v.z1, .int .i64 v.z2, .int .i64 v.w] := rfl
 rw [hsv]
 simp only [e_reg, e_seq, o_nil, o_cons, gd_none, putK_e, runK_e, vK_e, boxK_e, evh_v, evh_box, seqK_n, evp, gt, st, putf, X.get, mkfr, rep, cs1, pb, ln, undef, Nat.reduceSub, true_and, s49, r49, e_sem]
 refine sem_rgnQ [(8, .lb .mp 1), (5, .lb .mp 1)] [.box 78 [.int .i64 v.m, .int .i64 v.l1, .int .i64 v.l2, .int .i64 v.v1, .int .i64 v.v2, .int .i64 v.z1, .int .i64 v.z2, .int .i64 v.w], .ob (.mp [])] rfl rfl (by kernel_rfl) ?_
 simp only [puts_n, puts_c]
 simp only [e_reg, e_seq, e_block, e_loop, o_nil, o_cons, gd_none, putK_e, runK_e, vK_e, evh_v, seqK_n, evp, gt, st, putf, X.get, lens, true_and]
 refine loop_cl 8 5 (x := Mp.e0.sv) (by rfl) ?_
 simp only [st, sb]
 refine loop_at2 (G := Nat) (fun i => [(11, .int .i64 i), (5, (Mp.mid v.w (R.take i)).sv), (8, .any)]) (fun i => [.box 78 [.int .i64 v.m, .int .i64 v.l1, .int .i64 v.l2, .int .i64 v.v1, .int .i64 v.v2, .int .i64 v.z1, .int .i64 v.z2, .int .i64 v.w]]) (fun i => i <= R.length) (fun i => R.length - i) 0 (Nat.zero_le _) ?_
 (intro fr1 hf1; simp only [forget, dstC, dstO, st] at hf1; subst hf1)
 refine ⟨?_, ?_⟩
 ·refine Lw_re 1 [] (Nat.zero_le _) (by simp [ln]) (by simp [ln]) rfl ?_ ?_
  ·have e0 : Mp.mid v.w [] = .e0 := rfl
   simp only [reL, reX, inb, inb.inbs, ln, sts, st, Bool.and_self, Nat.reduceLT, Nat.reduceAdd, decide_true, and_self, Int.natCast_zero, implies_true, List.take_zero, e0, Mp.sv, Mp.ks, Mp.vs]
  ·simp only [reL, reX, reH, reB, reN, inb, and_self]
 ·intro i hi1
  have hl8 := hR.1
  by_cases hi2 : i < R.length
  ·have n0 : ((i : Int) < (R.length : Int)) = True := eq_true (by omega)
   have he := hR.2 (R.getD i r0) (by simp [List.getD, hi2])
   unfold okR at he
   have hv2 := hv
   unfold Vl.ok at hv2
   simp only [condK_bt, decide_true, inr64, e_skip, e_reg, and_self, e_seq, e_cond, e_block, o_nil, o_cons, gd_none, putK_e, runK_e, vK_e, storeK3_e, storeK2_e, storeK_e, conK_e, callK_e, evh_v, evh_new, evh_store, evh_call, loopK_n, seqK_n, blockK_n, gam_e, gamK_p, pc_e, pcK_e, evp, bin, gt, st, putf, X.get, gets, ap, clV, clL, clS, clo, ld, lda, ixs, tk, dr, sp, sp.spl, ll, cs1, one, allOne, gb, sb, pb, ln, lk, Bool.and_true, Nat.reduceAdd, beq_self_eq_true, true_and, and_true, sts, n0, rowR, Int.toNat_natCast, Mp.sv]
   refine ⟨by omega, v, Mp.mid v.w (R.take i), R.getD i r0, rfl, ⟨hv, by omega, by omega⟩, ?_⟩
   rw [<- mid_snoc hi2]
   simp only []
   refine ⟨by omega, ?_⟩
   refine Nx.mk (i + 1) (by show i + 1 <= R.length; omega) (by show R.length - (i + 1) < R.length - i; omega) (Lw_re 1 [] (Nat.zero_le _) (by simp [ln]) (by simp [ln]) rfl ?_ ?_)
   ·simp only [reL, reX, inb, inb.inbs, Bool.and_self, Nat.reduceLT, decide_true, and_self, Int.natCast_add, Int.natCast_one, implies_true, Mp.sv]
   ·simp only [reL, reX, reH, reB, reN, inb, and_self]
  ·have n0 : ((i : Int) < (R.length : Int)) = False := eq_false (by omega)
   have e : R.take i = R := List.take_of_length_le (by omega)
   have hK2 : K (Mp.mid v.w (R.take i)).sv := by rw [e]; exact hK
   simp only [condK_bf, decide_false, e_reg, e_seq, e_cond, e_exit, e_ret, o_nil, o_cons, gd_none, putK_e, runK_e, vK_e, evh_v, loopK_x, seqK_n, seqK_x, exitK_t, blockK_x, ends_r, endK1_e, endK2_e, evp, bin, gt, st, putf, X.get, rdR, tupled, clV, clS, clo, beq_self_eq_true, true_and, sts, n0, Mp.sv]
   exact ⟨_, hK2, rfl⟩
end Go.Proofs.Ytgdihdiadlmjiaa
end
section
namespace Go.Proofs.Ytgdihdiadlmjiaa
open Go Go.Vg
set_option maxRecDepth 10000
def s95 : SC :=
 (.seq (.reg [.u2 4 1 0,.u2 5 4 5,.u2 6 5 0,.u3 7 6,.u0 3 7]) (.block 0 (.loop (.seq (.seq (.reg [.u0 8 3,.u2 9 1 0,.u2 10 9 5,.u2 11 10 1,.u3 12 11,.u6 13 .leq 8 12]) (.cond (.t 13) .skip (.exit 0))) (.seq (.block 1 (.seq (.reg [.u0 16 0,.u0 17 3,⟨(some 18),none,.call (.t 16) [(.t 17)]⟩,(.w6 19 (.not (.t 18)))]) (.cond (.t 19) .ret .skip))) (.reg [.u0 14 3,.u7 15 .add 14 (1),.u0 3 15]))))))
def r95 : List RV := []
theorem k95 : (Try.f95.body.bind (cC Try.prog), cR Try.prog Try.f95.results.toList, Try.f95.ntmps) = (some s95, some r95, 20) := by kernel_rfl
def s56a0 : SC :=
 (.reg [⟨(some 7), none, .v (.mov (.t 16))⟩])
def s56b0 : SC :=
 (.block 1 (.seq (.reg [⟨(some 17), none, .bld [(.int .i64 (0)), (.int .i64 (0))] [(0, 1, (.c (.int .i64 (-9223372036854775808)))), (1, 1, (.c (.int .i64 (9223372036854775807))))]⟩,
  ⟨(some 8), none, .new 23 [(.int .i64 (0)), (.int .i64 (0))]⟩,
  ⟨none, none, .store 2 (.t 8) (.t 17)⟩])
 (.seq (.seq (.reg [⟨(some 18), none, .v (.load (.t 6) none)⟩,
  ⟨(some 19), none, .v (.len (.t 18))⟩,
  ⟨(some 20), none, .v (.mov (.c (.int .i64 (0))))⟩])
 (.block 2 (.loop
  (.seq (.reg [⟨(some 21), none, .v (.bin .lss (.t 20) (.t 19))⟩])
  (.seq (.cond (.t 21)
   .skip
   (.exit 2))
  (.seq (.block 3 (.seq (.reg [⟨(some 22), none, .v (.ixa (.t 18) (.t 20) 1)⟩,
   ⟨(some 23), none, .v (.load (.t 22) none)⟩,
   ⟨(some 10), none, .v (.mov (.t 23))⟩])
  (.seq (.tre (.op ⟨(some 25), none, .v (.mov (.t 10))⟩ (.op ⟨(some 26), none, .v (.mov (.t 7))⟩ (.op ⟨(some 24), none, .v (.load (.t 8) (some 2))⟩ (.op ⟨(some 27), none, .inv [(145, 118), (146, 119)] (.t 25) [(.t 26)]⟩ (.op ⟨(some 28), none, .call (.c (.fn 81 [])) [(.t 24), (.t 27)]⟩ (.op ⟨none, none, .store 2 (.t 8) (.t 28)⟩ .leaf
  .stop)
  .stop)
  .stop)
  (.op ⟨(some 27), none, .inv [(145, 118), (146, 119)] (.t 25) [(.t 26)]⟩ (.op ⟨(some 24), none, .v (.load (.t 8) (some 2))⟩ (.op ⟨(some 28), none, .call (.c (.fn 81 [])) [(.t 24), (.t 27)]⟩ (.op ⟨none, none, .store 2 (.t 8) (.t 28)⟩ .leaf
  .stop)
  .stop)
  .stop)
  .stop))
  .stop)
  .stop))
  (.seq (.drw [(0, ⟨(some 29), none, .v (.load (.t 8) (some 2))⟩, false),
   (1, ⟨(some 30), none, .call (.c (.fn 82 [])) []⟩, false)]
   none
   [⟨(some 31), none, .v (.eqs [(some .i64), (some .i64)] false (.t 29) (.t 30))⟩])
  (.cond (.t 31)
   (.exit 1)
   .skip)))))
  (.reg [⟨(some 32), none, .v (.bin .add (.t 20) (.c (.int .i64 (1))))⟩,
   ⟨(some 20), none, .v (.mov (.t 32))⟩])))))))
 (.seq (.drw [(0, ⟨(some 33), none, .v (.off (.t 5) 0)⟩, false),
  (1, ⟨(some 34), none, .v (.load (.t 33) (some 2))⟩, false),
  (2, ⟨(some 35), none, .v (.load (.t 2) (some 8))⟩, false),
  (3, ⟨(some 36), none, .v (.load (.t 8) (some 2))⟩, false),
  (4, ⟨(some 37), none, .call (.c (.fn 84 [])) [(.t 35), (.t 36)]⟩, false)]
  none
  [⟨(some 38), none, .call (.c (.fn 83 [])) [(.t 34), (.t 37)]⟩,
  ⟨(some 39), none, .v (.off (.t 5) 0)⟩,
  ⟨none, none, .store 2 (.t 39) (.t 38)⟩])
 (.reg [⟨(some 40), none, .v (.off (.t 5) 2)⟩,
  ⟨(some 41), none, .v (.load (.t 40) (some 2))⟩,
  ⟨(some 42), none, .v (.mov (.t 7))⟩,
  ⟨(some 43), none, .v (.mov (.t 7))⟩,
  ⟨(some 44), none, .bld [(.int .i64 (0)), (.int .i64 (0))] [(0, 1, (.t 42)), (1, 1, (.t 43))]⟩,
  ⟨(some 45), none, .call (.c (.fn 83 [])) [(.t 41), (.t 44)]⟩,
  ⟨(some 46), none, .v (.off (.t 5) 2)⟩,
  ⟨none, none, .store 2 (.t 46) (.t 45)⟩])))))
noncomputable def s56 : SC :=
 (.seq (.reg [⟨(some 2),none,.box 78 (.t 0)⟩,⟨(some 4),none,.new 88 [(.int .i64 (0)),(.int .i64 (0)),(.int .i64 (0)),(.int .i64 (0))]⟩]) (.scp (.seq (.reg [(.w1 11 57 []),.u0 12 1,(.w1 13 78 [(.t 12)]),⟨(some 5),none,.new 88 [(.int .i64 (0)),(.int .i64 (0)),(.int .i64 (0)),(.int .i64 (0))]⟩,⟨(some 6),none,.new 115 [(.lit (.slice none 0 0))]⟩,.w3 4 5 11,.w3 1 6 13]) (.seq .skip (.seq (.seq (.reg [.u4 14 2 8,(.w1 15 80 [(.t 14)])]) (.block 0 (.sem (rg Try.f56 0)))) (.seq (.reg [.u4 47 5 4,.w3 4 4 47]) .ret))))))
def r56 : List RV := [.c 4 (some 4)]
theorem k56a0 : cC Try.prog (rgA (rg Try.f56 0)) = some s56a0 := by kernel_rfl
theorem k56b0 : cC Try.prog (rgB (rg Try.f56 0)) = some s56b0 := by kernel_rfl
theorem k56 : (Try.f56.body.bind (cC Try.prog), cR Try.prog Try.f56.results.toList, Try.f56.ntmps) = (some s56, some r56, 48) := by kernel_rfl
theorem q56 : Known Try.prog 56 := ⟨_, Try.func56, by decide, by simp [Try.f56]⟩
theorem c56r : rIs (rg Try.f56 0) = true := by kernel_rfl
theorem c56q : (rgQ (rg Try.f56 0)).toList = [16] := by kernel_rfl
theorem c56o : cX (rgO (rg Try.f56 0)) = some (.t 15) := by kernel_rfl
def F57 : FC := fun args => match args with
 | [] => some (True, .agg [.int .i64 1, .int .i64 0, .int .i64 1, .int .i64 0])
 | _ => none
theorem p57 : PureOk Try.prog 57 (fcC F57) := by
 refine pure_of (T := [(82, .fc F82)]) ⟨⟨p82, q82⟩, trivial⟩ Try.func57 k57 ?_
 intro args K hC
 unfold fcC F57 at hC
 split at hC <;> first | (exact hC.elim) | skip
 rename_i h
 split at h <;> first | (cases h; done) | skip
 cases h
 obtain ⟨-, hK⟩ := hC
 simp only [e_reg, and_self, e_seq, e_ret, o_nil, o_cons, gd_none, putK_e, runK_e, bldK_e, storeK3_e, storeK2_e, storeK_e, conK_e, callK_e, evh_new, evh_bld, evh_store, evh_call, seqK_n, ends_r, endK1_e, endK2_e, gam_e, gamK_f, pc_e, pcK_e, fcC_e, fcK_e, gt, st, putf, X.get, gets, getp, ap, mkfr, rep, rdR, tupled, clV, clL, clS, clo, ld, tk, dr, sp, sp.spl, lay, ll, cs1, one, allOne, gb, sb, pb, ln, lk, Value.oneCell', undef, Bool.and_true, Nat.reduceAdd, beq_self_eq_true, true_and, s57, r57, F82]
 exact res hK (by simp [leR, leR.leRs])
def F84 : FC := fun args => match args with
 | [.agg [.int .i64 m, .int .i64 l1, .int .i64 l2, .int .i64 v1, .int .i64 v2, .int .i64 z1, .int .i64 z2, .int .i64 w], .agg [.int .i64 a, .int .i64 b]] => some (Vl.ok ⟨m, l1, l2, v1, v2, z1, z2, w⟩ /\ (-1000000 <= a /\ a <= 1000000) /\ -1000000 <= b /\ b <= 1000000, .agg [.int .i64 (min (v1 * a) (v2 * a)), .int .i64 (max (v1 * b) (v2 * b))])
 | _ => none
theorem p84f : PureOk Try.prog 84 (fcC F84) := by
 intro w im args vs K him ha hC
 unfold fcC F84 at hC
 split at hC <;> first | (exact hC.elim) | skip
 rename_i h
 split at h <;> first | (cases h; done) | skip
 cases h
 exact p84 w im _ vs K him ha ⟨⟨_, _, _, _, _, _, _, _⟩, _, _, rfl, hC.1, hC.2⟩
def cmP (p q : Int × Int) : Int × Int := (cmL p.1 p.2 q.1 q.2, cmH p.1 p.2 q.1 q.2)
def arP (p q : Int × Int) : Int × Int := (arL p.1 p.2 q.1 q.2, arH p.1 p.2 q.1 q.2)
def mvE (e : Nat × Int × Int) (z : Int) : Int × Int := if e.1 = 145 then (e.2.1 - z, e.2.2 - z) else (z - e.2.2, z - e.2.1)
abbrev Evs := List (Nat × Int × Int)
def ev0 (L : Evs) (k : Nat) : Nat × Int × Int := L.getD k (0, 0, 0)
def nowM (L : Evs) (z : Int) : Nat -> Int × Int
 | 0 => (-9223372036854775808, 9223372036854775807)
 | k + 1 => cmP (nowM L z k) (mvE (ev0 L k) z)
def okE (L : Evs) : Prop := (0 < L.length /\ L.length <= 2) /\ ∀ k, k < L.length -> (((ev0 L k).1 = 145 \/ (ev0 L k).1 = 146) /\ (-10000 <= (ev0 L k).2.1 /\ (ev0 L k).2.1 <= 10000) /\ (-10000 <= (ev0 L k).2.2 /\ (ev0 L k).2.2 <= 10000))
def accM (v : Vl) (L : Evs) : Nat -> (Int × Int) × (Int × Int)
 | 0 => ((1, 0), (1, 0))
 | n + 1 => if nowM L (v.z1 + n) L.length = (1, 0) then accM v L n else (arP (accM v L n).1 (v.tl (nowM L (v.z1 + n) L.length).1, v.th (nowM L (v.z1 + n) L.length).2), arP (accM v L n).2 (v.z1 + n, v.z1 + n))
theorem cmP_no {q : Int × Int} : cmP (1, 0) q = (1, 0) := by
 unfold cmP cmL cmH; simp only
 rw [if_neg (by omega), if_neg (by omega)]
theorem nowM_no {L : Evs} {z : Int} : ∀ {k m : Nat}, nowM L z k = (1, 0) -> nowM L z (k + m) = (1, 0)
 | k, 0, h => h
 | k, m + 1, h => by
  have := nowM_no (m := m) h
  rw [<- Nat.add_assoc]
  simp only [nowM, this, cmP_no]
theorem mvE_bnd {L : Evs} (hL : okE L) {k : Nat} (hk : k < L.length) {z : Int} (hz : 0 <= z /\ z <= 400) : (-20000 <= (mvE (ev0 L k) z).1 /\ (mvE (ev0 L k) z).1 <= 20000) /\ (-20000 <= (mvE (ev0 L k) z).2 /\ (mvE (ev0 L k) z).2 <= 20000) := by
 have h := hL.2 k hk
 unfold mvE; split <;> simp only <;> omega
theorem cm_b {a b c d : Int} (hc : -20000 <= c /\ c <= 20000) (hd : -20000 <= d /\ d <= 20000) : (-20000 <= cmL a b c d /\ cmL a b c d <= 20000) /\ (-20000 <= cmH a b c d /\ cmH a b c d <= 20000) := by
 unfold cmL cmH
 by_cases h : max a c <= min b d
 ·rw [if_pos h, if_pos h]; omega
 ·rw [if_neg h, if_neg h]; omega
theorem nowM_bnd {L : Evs} (hL : okE L) {z : Int} (hz : 0 <= z /\ z <= 400) (k : Nat) (hk : k < L.length) : (-20000 <= (nowM L z (k + 1)).1 /\ (nowM L z (k + 1)).1 <= 20000) /\ (-20000 <= (nowM L z (k + 1)).2 /\ (nowM L z (k + 1)).2 <= 20000) := by
 have h := mvE_bnd hL hk hz
 exact cm_b h.1 h.2
theorem nowM_end {L : Evs} (hL : okE L) {z : Int} (hz : 0 <= z /\ z <= 400) : (-20000 <= (nowM L z L.length).1 /\ (nowM L z L.length).1 <= 20000) /\ (-20000 <= (nowM L z L.length).2 /\ (nowM L z L.length).2 <= 20000) := by
 have h := nowM_bnd hL hz (L.length - 1) (by have := hL.1; omega)
 rwa [show L.length - 1 + 1 = L.length by have := hL.1; omega] at h
theorem tl_bnd {v : Vl} (hv : v.ok) {a : Int} (ha : -20000 <= a /\ a <= 20000) : (-20000000 <= v.tl a /\ v.tl a <= 20000000) /\ (-20000000 <= v.th a /\ v.th a <= 20000000) := by
 have hv2 := hv
 unfold Vl.ok at hv2
 have bd : ∀ v x : Int, 1 <= v -> v <= 500 -> -20000 <= x -> x <= 20000 -> -20000000 <= v * x /\ v * x <= 20000000 := fun v x h1 h2 h3 h4 => by
  have e1 := Int.mul_le_mul_of_nonneg_left h4 (show 0 <= v by omega)
  have e2 := Int.mul_le_mul_of_nonneg_left h3 (show 0 <= v by omega)
  omega
 have b1 := bd v.v1 a (by omega) (by omega) ha.1 ha.2
 have b2 := bd v.v2 a (by omega) (by omega) ha.1 ha.2
 unfold Vl.tl Vl.th
 omega
theorem arP_bnd {p q : Int × Int} {M : Int} (h : (-M <= p.1 /\ p.1 <= M) /\ (-M <= p.2 /\ p.2 <= M)) (h' : (-M <= q.1 /\ q.1 <= M) /\ (-M <= q.2 /\ q.2 <= M)) : (-M <= (arP p q).1 /\ (arP p q).1 <= M) /\ (-M <= (arP p q).2 /\ (arP p q).2 <= M) := by
 unfold arP arL arH; simp only
 constructor <;> (split <;> omega)
theorem accM_bnd {v : Vl} (hv : v.ok) {L : Evs} (hL : okE L) : ∀ {n : Nat}, v.z1 + n <= v.z2 + 1 ->
  ((-20000000 <= (accM v L n).1.1 /\ (accM v L n).1.1 <= 20000000) /\ (-20000000 <= (accM v L n).1.2 /\ (accM v L n).1.2 <= 20000000)) /\ ((-20000000 <= (accM v L n).2.1 /\ (accM v L n).2.1 <= 20000000) /\ (-20000000 <= (accM v L n).2.2 /\ (accM v L n).2.2 <= 20000000))
 | 0, _ => by simp only [accM]; omega
 | n + 1, h => by
  have hv2 := hv
  unfold Vl.ok at hv2
  have h1 := accM_bnd hv hL (n := n) (by omega)
  have h2 := nowM_end hL (z := v.z1 + n) (by omega)
  simp only [accM]
  split
  ·exact h1
  ·exact ⟨arP_bnd h1.1 ⟨(tl_bnd hv h2.1).1, (tl_bnd hv h2.2).2⟩, arP_bnd h1.2 (by simp only; omega)⟩
def Mp.ok (M : Mp) : Prop := okE M.ev
def nzV (v : Vl) : Nat := (v.z2 - v.z1 + 1).toNat
def trA (v : Vl) (L : Evs) : (Int × Int) × (Int × Int) := accM v L (nzV v)
def C56 : PC := fun args K => ∃ (v : Vl) (M : Mp), args = [v.sv, M.sv] /\ (v.ok /\ M.ok) /\ K (.agg [.int .i64 (trA v M.ev).1.1, .int .i64 (trA v M.ev).1.2, .int .i64 (trA v M.ev).2.1, .int .i64 (trA v M.ev).2.2])
set_option maxHeartbeats 2000000 in
theorem p56 : PureOk Try.prog 56 C56 := by
 have hT : TabOk Try.prog [(57, .fc F57), (78, .pc C78), (80, .fc F80), (118, .fc F118), (119, .fc F119), (81, .fc F81), (82, .fc F82), (83, .fc F83), (84, .fc F84)] :=
  ⟨⟨p57, q57⟩, ⟨p78, q78⟩, ⟨p80, q80⟩, ⟨p118, q118⟩, ⟨p119, q119⟩, ⟨p81, q81⟩, ⟨p82, q82⟩, ⟨p83, q83⟩, ⟨p84f, q84⟩, trivial⟩
 refine pure_of hT Try.func56 k56 ?_
 rintro args K ⟨v, M, rfl, ⟨hv, hM⟩, hK⟩
 obtain ⟨m, l1, l2, v1, v2, z1, z2, w⟩ := v
 have hv2 := hv
 unfold Vl.ok at hv2
 simp only at hv2
 simp only [Vl.sv]
 simp only [e_reg, e_seq, e_scp, o_nil, o_cons, gd_none, putK_e, runK_e, vK_e, boxK_e, conK_e, callK_e, evh_v, evh_new, evh_box, evh_call, seqK_n, gam_e, gamK_f, gamK_p, pc_e, pcK_e, fcC_e, fcK_e, evp, gt, st, putf, X.get, gets, ap, mkfr, rep, clV, clL, clS, cs1, pb, ln, lk, undef, Nat.reduceSub, Nat.reduceAdd, Nat.reduceBEq, beq_self_eq_true, true_and, s56, r56, F57]
 refine ⟨M, rfl, ?_⟩
 simp only [↓reduceIte, e_skip, e_reg, and_self, e_seq, e_block, o_nil, o_cons, gd_none, putK_e, runK_e, vK_e, storeK3_e, storeK2_e, storeK_e, conK_e, callK_e, evh_v, evh_new, evh_store, evh_call, seqK_n, gam_e, gamK_f, pc_e, pcK_e, fcC_e, fcK_e, evp, gt, st, putf, X.get, gets, ap, clV, clL, clS, clo, ld, lda, tk, dr, sp, sp.spl, ll, cs1, one, allOne, gb, sb, pb, ln, lk, Bool.and_true, Nat.reduceAdd, Nat.reduceBEq, beq_self_eq_true, true_and, F80, e_sem, Vl.cells]
 obtain ⟨F0, hF0⟩ : ∃ F0 : List SV, (mkfr [.agg [.int .i64 m, .int .i64 l1, .int .i64 l2, .int .i64 v1, .int .i64 v2, .int .i64 z1, .int .i64 z2, .int .i64 w], M.sv, .ptr 0 0, .lit undef, .ptr 1 0, .ptr 2 0, .ptr 3 0, .lit undef, .lit undef, .lit undef, .lit undef, .agg [.int .i64 1, .int .i64 0, .int .i64 1, .int .i64 0], M.sv, .rd 1 M.ev.length (evR M.ev), .agg [.int .i64 m, .int .i64 l1, .int .i64 l2, .int .i64 v1, .int .i64 v2, .int .i64 z1, .int .i64 z2, .int .i64 w], .fn 95 [.rp [.int .i64 m, .int .i64 l1, .int .i64 l2, .int .i64 v1, .int .i64 v2, .int .i64 z1, .int .i64 z2, .int .i64 w] 0]] 48) = F0 := ⟨_, rfl⟩
 have rF : ∀ n, 4 <= n -> reL n n [] F0 F0 = True := fun n hn => by
  rw [<- hF0]
  have h0 : 0 < n := by omega
  have h1 : 1 < n := by omega
  have h2 : 2 < n := by omega
  have h3 : 3 < n := by omega
  simp only [reL, reX, Nat.reduceSub, inb, inb.inbs, Bool.and_self, decide_true, and_self, implies_true, mkfr, rep, Nat.reduceSub, h0, h1, h2, h3, undef, Mp.sv]
 have rF6 := rF 6 (by omega)
 have rF7 := rF 7 (by omega)
 clear rF
 refine sem_ofF hT c56r c56q (F0 := F0) (by rw [<- hF0]; rfl) c56o rfl Try.func95 (by decide) k95 rfl ?_
 simp only [e_reg, e_seq, e_block, e_loop, o_nil, o_cons, gd_none, putK_e, runK_e, vK_e, evh_v, seqK_n, evp, gt, gq, st, putf, X.get, mkfr, rep, ld, lda, pb, ln, undef, Nat.reduceSub, Nat.reduceAdd, true_and, s95]
 refine loop_at2 (G := Nat) (fun n => [(3, .int .i64 (z1 + n))]) (fun n => [.box 78 [.int .i64 m, .int .i64 l1, .int .i64 l2, .int .i64 v1, .int .i64 v2, .int .i64 z1, .int .i64 z2, .int .i64 w], .box 88 [.int .i64 0, .int .i64 0, .int .i64 0, .int .i64 0], .box 88 [.int .i64 (accM ⟨m, l1, l2, v1, v2, z1, z2, w⟩ M.ev n).1.1, .int .i64 (accM ⟨m, l1, l2, v1, v2, z1, z2, w⟩ M.ev n).1.2, .int .i64 (accM ⟨m, l1, l2, v1, v2, z1, z2, w⟩ M.ev n).2.1, .int .i64 (accM ⟨m, l1, l2, v1, v2, z1, z2, w⟩ M.ev n).2.2], .box 115 [.rd 1 M.ev.length (evR M.ev)], .ob .df, .ob (.wl .ready none F0 [16] (rgA (rg Try.f56 0)) (rgB (rg Try.f56 0)) 4)]) (fun n => z1 + n <= z2 + 1) (fun n => (z2 + 1 - z1 - n).toNat) 0 (by omega) ?_
 (intro fr1 hf1; simp only [forget, dstC, dstO, st] at hf1; subst hf1)
 refine ⟨?_, ?_⟩
 ·refine Lw_re 6 [] (by omega) (by simp [ln]) (by simp [ln]) rfl ?_ ?_
  ·simp only [reL, reX, inb, ln, sts, st, Nat.reduceLT, Nat.reduceAdd, decide_true, and_self, Int.natCast_zero, Int.add_zero]
  ·simp only [reL, reX, reH, reB, reN, inb, ln, Nat.reduceLT, Nat.reduceAdd, and_self, implies_true, rF6, accM]
 ·intro n hn
  by_cases hb : z1 + n <= z2
  ·have hbT : (z1 + (n : Int) <= z2) = True := by simp [hb]
   simp only [condK_bt, decide_true, e_skip, e_reg, e_seq, e_cond, e_block, o_nil, o_cons, gd_none, putK_e, runK_e, vK_e, evh_v, evh_call, seqK_n, evp, bin, gt, gq, st, putf, X.get, gets, ld, lda, Nat.reduceAdd, true_and, sts, hbT, callK_y]
   refine yld_ofF hT hF0 k56a0 k56b0 rfl rfl (by rfl) rfl ?_
   simp only [e_reg, o_nil, o_cons, gd_none, putK_e, runK_e, vK_e, evh_v, evp, gt, st, putf, X.get, mkfr, rep, gb, ln, undef, Nat.reduceSub, Nat.reduceAdd, true_and, s56a0, setL, mkfr, rep]
   refine ⟨fun _ _ _ _ _ _ h => by cases h; rfl, ?_⟩
   simp only [↓reduceIte, e_reg, and_self, e_seq, e_block, e_loop, o_nil, o_cons, gd_none, putK_e, runK_e, vK_e, bldK_e, storeK3_e, storeK2_e, storeK_e, evh_v, evh_new, evh_bld, evh_store, seqK_n, evp, gt, gq, st, putf, X.get, getp, ld, lda, lens, sp, sp.spl, lay, ll, cs1, one, allOne, gb, sb, pb, ln, Bool.and_true, Nat.reduceAdd, beq_self_eq_true, true_and, yK1, s56b0]
   refine loop_at2 (G := Nat) (fun k => [(20, .int .i64 k)]) (fun k => [.box 78 [.int .i64 m, .int .i64 l1, .int .i64 l2, .int .i64 v1, .int .i64 v2, .int .i64 z1, .int .i64 z2, .int .i64 w], .box 88 [.int .i64 0, .int .i64 0, .int .i64 0, .int .i64 0], .box 88 [.int .i64 (accM ⟨m, l1, l2, v1, v2, z1, z2, w⟩ M.ev n).1.1, .int .i64 (accM ⟨m, l1, l2, v1, v2, z1, z2, w⟩ M.ev n).1.2, .int .i64 (accM ⟨m, l1, l2, v1, v2, z1, z2, w⟩ M.ev n).2.1, .int .i64 (accM ⟨m, l1, l2, v1, v2, z1, z2, w⟩ M.ev n).2.2], .box 115 [.rd 1 M.ev.length (evR M.ev)], .ob .df, .ob (.wl .busy none F0 [16] (rgA (rg Try.f56 0)) (rgB (rg Try.f56 0)) 4), .box 23 [.int .i64 (nowM M.ev (z1 + n) k).1, .int .i64 (nowM M.ev (z1 + n) k).2]]) (fun k => k <= M.ev.length /\ nowM M.ev (z1 + n) k ≠ (1, 0)) (fun k => M.ev.length - k) 0 ⟨Nat.zero_le _, by simp only [nowM]; intro e; simp at e⟩ ?_
   (intro fr1 hf1; simp only [forget, dstC, dstT, dstO, dstD, dst1, st] at hf1; subst hf1)
   refine ⟨?_, ?_⟩
   ·refine Lw_re 7 [] (by simp []) (by simp [ln]) (by simp [ln]) rfl ?_ ?_
    ·simp only [reL, reX, inb, inb.inbs, ln, sts, st, Bool.and_self, Nat.reduceLT, Nat.reduceAdd, decide_true, and_self, Int.natCast_zero, implies_true, Mp.sv]
    ·simp only [reL, reX, reH, reB, reN, inb, ln, Nat.reduceLT, Nat.reduceAdd, and_self, implies_true, rF7, nowM]
   ·rintro k ⟨hk1, hk2⟩
    have hok := hM.2
    have hln := hM.1
    by_cases hk : k < M.ev.length
    ·have hkT : ((k : Int) < (M.ev.length : Int)) = True := by simp [hk]
     have hek := hok k hk
     have hmv := nowM_bnd hM (z := z1 + n) (by omega) k hk
     have hnx : nowM M.ev (z1 + n) (k + 1) = cmP (nowM M.ev (z1 + n) k) (mvE (ev0 M.ev k) (z1 + n)) := rfl
     have he0 : M.ev.getD k (0, 0, 0) = ev0 M.ev k := rfl
     generalize ev0 M.ev k = e at hek hnx he0
     obtain ⟨t, a, b⟩ := e
     simp only at hek
     rcases hek.1 with rfl | rfl
     ·simp only [mvE, cmP, if_true] at hnx
      have fL : cmL (nowM M.ev (z1 + n) k).1 (nowM M.ev (z1 + n) k).2 (a - (z1 + (n : Int))) (b - (z1 + (n : Int))) = (nowM M.ev (z1 + n) (k + 1)).1 := by rw [hnx]
      have fH : cmH (nowM M.ev (z1 + n) k).1 (nowM M.ev (z1 + n) k).2 (a - (z1 + (n : Int))) (b - (z1 + (n : Int))) = (nowM M.ev (z1 + n) (k + 1)).2 := by rw [hnx]
      by_cases he : nowM M.ev (z1 + n) (k + 1) = (1, 0)
      ·have he1 : ((nowM M.ev (z1 + n) (k + 1)).1 = 1 /\ (nowM M.ev (z1 + n) (k + 1)).2 = 0) = True := by rw [he]; simp
       have hend : nowM M.ev (z1 + n) M.ev.length = (1, 0) := by
        have := nowM_no (m := M.ev.length - (k + 1)) he
        rwa [show k + 1 + (M.ev.length - (k + 1)) = M.ev.length by omega] at this
       have hacc : accM ⟨m, l1, l2, v1, v2, z1, z2, w⟩ M.ev (n + 1) = accM ⟨m, l1, l2, v1, v2, z1, z2, w⟩ M.ev n := by simp only [accM, if_pos hend]
       clear hnx
       simp only [condK_bt, decide_true, inr64, List.cons.injEq, ne_eq, e_skip, e_reg, e_tre, t_leaf, t_stop, t_op, and_self, e_drw, e_seq, e_cond, e_block, e_exit, o_nil, o_cons, gd_none, putK_e, runK_e, vK_e, storeK3_e, storeK2_e, storeK_e, conK_e, callK_e, evh_v, evh_store, evh_call, evh_inv, invK_e, invK2_e, lkm, dX_e, dG_t, d_nil, d_cons, tlK_n, loopK_n, loopK_x, seqK_n, seqK_x, condK_f, exitK_t, exitK_f, blockK_x, blockK_n, gam_e, gamK_f, gamq_e, gamqK_f, pc_e, pcK_e, fcC_e, fcK_e, evp, fit, InQ, bin, gt, gq, st, putf, X.get, gets, ap, clV, clL, clS, clo, clo.clos, ld, lda, ixs, tk, dr, sp, sp.spl, ll, cs1, one, allOne, gb, sb, lk, evq, gdl, Value.oneCell', Bool.and_true, Bool.not_true, cond_false, Nat.reduceAdd, Nat.reduceBEq, beq_self_eq_true, true_and, and_true, sts, Int.toNat_natCast, evR, hkT, he0, F118, F81, F82, fL, fH, he1, yK2]
       unfold sml
       repeat' (first | omega | (with_reducible refine And.intro ?_ ?_))
       refine Nx.mk (n + 1) (by omega) (by omega) (Lw_re 6 [] (by omega) (by simp [ln]) (by simp [ln]) rfl ?_ ?_)
       ·simp only [reL, reX, inb, Nat.reduceLT, decide_true, and_self, Int.natCast_add, Int.natCast_one, Int.add_assoc]
       ·simp only [reL, reX, reH, reB, reN, inb, ln, Nat.reduceLT, Nat.reduceAdd, and_self, implies_true, rF6, hacc]
      ·have he1 : ((nowM M.ev (z1 + n) (k + 1)).1 = 1 /\ (nowM M.ev (z1 + n) (k + 1)).2 = 0) = False := by
        simp only [eq_iff_iff, iff_false]
        intro hh; exact he (Prod.ext hh.1 hh.2)
       clear hnx
       simp only [condK_bt, condK_bf, decide_true, decide_false, inr64, List.cons.injEq, ne_eq, e_skip, e_reg, e_tre, t_leaf, t_stop, t_op, and_self, e_drw, e_seq, e_cond, e_block, o_nil, o_cons, gd_none, putK_e, runK_e, vK_e, storeK3_e, storeK2_e, storeK_e, conK_e, callK_e, evh_v, evh_store, evh_call, evh_inv, invK_e, invK2_e, lkm, dX_e, dG_t, d_nil, d_cons, tlK_n, loopK_n, seqK_n, blockK_n, gam_e, gamK_f, gamq_e, gamqK_f, pc_e, pcK_e, fcC_e, fcK_e, evp, fit, InQ, bin, gt, gq, st, putf, X.get, gets, ap, clV, clL, clS, clo, clo.clos, ld, lda, ixs, tk, dr, sp, sp.spl, ll, cs1, one, allOne, gb, sb, lk, evq, gdl, Value.oneCell', Bool.and_true, Bool.not_false, cond_false, Nat.reduceAdd, Nat.reduceBEq, beq_self_eq_true, true_and, and_true, sts, Int.toNat_natCast, evR, hkT, he0, F118, F81, F82, fL, fH, he1]
       unfold sml
       repeat' (first | omega | (with_reducible refine And.intro ?_ ?_))
       refine Nx.mk (k + 1) ⟨by omega, he⟩ (by omega) (Lw_re 7 [] (by simp []) (by simp [ln]) (by simp [ln]) rfl ?_ ?_)
       ·simp only [reL, reX, inb, inb.inbs, Bool.and_self, Nat.reduceLT, decide_true, and_self, Int.natCast_add, Int.natCast_one, implies_true, Mp.sv]
       ·simp only [reL, reX, reH, reB, reN, inb, ln, Nat.reduceLT, Nat.reduceAdd, and_self, implies_true, rF7]
     ·simp only [mvE, cmP, show ¬ ((146 : Nat) = 145) by decide, if_false] at hnx
      have fL : cmL (nowM M.ev (z1 + n) k).1 (nowM M.ev (z1 + n) k).2 ((z1 + (n : Int)) - b) ((z1 + (n : Int)) - a) = (nowM M.ev (z1 + n) (k + 1)).1 := by rw [hnx]
      have fH : cmH (nowM M.ev (z1 + n) k).1 (nowM M.ev (z1 + n) k).2 ((z1 + (n : Int)) - b) ((z1 + (n : Int)) - a) = (nowM M.ev (z1 + n) (k + 1)).2 := by rw [hnx]
      by_cases he : nowM M.ev (z1 + n) (k + 1) = (1, 0)
      ·have he1 : ((nowM M.ev (z1 + n) (k + 1)).1 = 1 /\ (nowM M.ev (z1 + n) (k + 1)).2 = 0) = True := by rw [he]; simp
       have hend : nowM M.ev (z1 + n) M.ev.length = (1, 0) := by
        have := nowM_no (m := M.ev.length - (k + 1)) he
        rwa [show k + 1 + (M.ev.length - (k + 1)) = M.ev.length by omega] at this
       have hacc : accM ⟨m, l1, l2, v1, v2, z1, z2, w⟩ M.ev (n + 1) = accM ⟨m, l1, l2, v1, v2, z1, z2, w⟩ M.ev n := by simp only [accM, if_pos hend]
       clear hnx
       simp only [condK_bt, decide_true, inr64, List.cons.injEq, ne_eq, e_skip, e_reg, e_tre, t_leaf, t_stop, t_op, and_self, e_drw, e_seq, e_cond, e_block, e_exit, o_nil, o_cons, gd_none, putK_e, runK_e, vK_e, storeK3_e, storeK2_e, storeK_e, conK_e, callK_e, evh_v, evh_store, evh_call, evh_inv, invK_e, invK2_e, lkm, dX_e, dG_t, d_nil, d_cons, tlK_n, loopK_n, loopK_x, seqK_n, seqK_x, condK_f, exitK_t, exitK_f, blockK_x, blockK_n, gam_e, gamK_f, gamq_e, gamqK_f, pc_e, pcK_e, fcC_e, fcK_e, evp, fit, InQ, bin, gt, gq, st, putf, X.get, gets, ap, clV, clL, clS, clo, clo.clos, ld, lda, ixs, tk, dr, sp, sp.spl, ll, cs1, one, allOne, gb, sb, lk, evq, gdl, Value.oneCell', Bool.and_true, Bool.not_true, cond_false, Nat.reduceAdd, Nat.reduceBEq, beq_self_eq_true, true_and, and_true, sts, Int.toNat_natCast, evR, hkT, he0, F119, F81, F82, fL, fH, he1, yK2]
       unfold sml
       repeat' (first | omega | (with_reducible refine And.intro ?_ ?_))
       refine Nx.mk (n + 1) (by omega) (by omega) (Lw_re 6 [] (by omega) (by simp [ln]) (by simp [ln]) rfl ?_ ?_)
       ·simp only [reL, reX, inb, Nat.reduceLT, decide_true, and_self, Int.natCast_add, Int.natCast_one, Int.add_assoc]
       ·simp only [reL, reX, reH, reB, reN, inb, ln, Nat.reduceLT, Nat.reduceAdd, and_self, implies_true, rF6, hacc]
      ·have he1 : ((nowM M.ev (z1 + n) (k + 1)).1 = 1 /\ (nowM M.ev (z1 + n) (k + 1)).2 = 0) = False := by
        simp only [eq_iff_iff, iff_false]
        intro hh; exact he (Prod.ext hh.1 hh.2)
       clear hnx
       simp only [condK_bt, condK_bf, decide_true, decide_false, inr64, List.cons.injEq, ne_eq, e_skip, e_reg, e_tre, t_leaf, t_stop, t_op, and_self, e_drw, e_seq, e_cond, e_block, o_nil, o_cons, gd_none, putK_e, runK_e, vK_e, storeK3_e, storeK2_e, storeK_e, conK_e, callK_e, evh_v, evh_store, evh_call, evh_inv, invK_e, invK2_e, lkm, dX_e, dG_t, d_nil, d_cons, tlK_n, loopK_n, seqK_n, blockK_n, gam_e, gamK_f, gamq_e, gamqK_f, pc_e, pcK_e, fcC_e, fcK_e, evp, fit, InQ, bin, gt, gq, st, putf, X.get, gets, ap, clV, clL, clS, clo, clo.clos, ld, lda, ixs, tk, dr, sp, sp.spl, ll, cs1, one, allOne, gb, sb, lk, evq, gdl, Value.oneCell', Bool.and_true, Bool.not_false, cond_false, Nat.reduceAdd, Nat.reduceBEq, beq_self_eq_true, true_and, and_true, sts, Int.toNat_natCast, evR, hkT, he0, F119, F81, F82, fL, fH, he1]
       unfold sml
       repeat' (first | omega | (with_reducible refine And.intro ?_ ?_))
       refine Nx.mk (k + 1) ⟨by omega, he⟩ (by omega) (Lw_re 7 [] (by simp []) (by simp [ln]) (by simp [ln]) rfl ?_ ?_)
       ·simp only [reL, reX, inb, inb.inbs, Bool.and_self, Nat.reduceLT, decide_true, and_self, Int.natCast_add, Int.natCast_one, implies_true, Mp.sv]
       ·simp only [reL, reX, reH, reB, reN, inb, ln, Nat.reduceLT, Nat.reduceAdd, and_self, implies_true, rF7]
    ·have hkF : ((k : Int) < (M.ev.length : Int)) = False := by simp; omega
     have hkl : k = M.ev.length := by omega
     subst hkl
     have hacc : accM ⟨m, l1, l2, v1, v2, z1, z2, w⟩ M.ev (n + 1) = (arP (accM ⟨m, l1, l2, v1, v2, z1, z2, w⟩ M.ev n).1 (min (v1 * (nowM M.ev (z1 + n) M.ev.length).1) (v2 * (nowM M.ev (z1 + n) M.ev.length).1), max (v1 * (nowM M.ev (z1 + n) M.ev.length).2) (v2 * (nowM M.ev (z1 + n) M.ev.length).2)), arP (accM ⟨m, l1, l2, v1, v2, z1, z2, w⟩ M.ev n).2 (z1 + n, z1 + n)) := by simp only [accM, if_neg hk2, Vl.tl, Vl.th]
     have hb1 := accM_bnd hv hM (n := n) (by show z1 + (n : Int) <= z2 + 1; omega)
     have hb2 := nowM_end hM (z := z1 + n) (by omega)
     simp only [condK_bf, decide_false, inr64, ↓reduceIte, ne_eq, e_skip, e_reg, and_self, e_drw, e_seq, e_cond, e_exit, o_nil, o_cons, gd_none, putK_e, runK_e, vK_e, bldK_e, storeK3_e, storeK2_e, storeK_e, conK_e, callK_e, evh_v, evh_bld, evh_store, evh_call, dX_e, dG_t, d_nil, d_cons, tlK_n, loopK_n, loopK_x, seqK_n, seqK_x, condK_f, exitK_t, blockK_x, blockK_n, gam_e, gamK_f, gamq_e, gamqK_f, pc_e, pcK_e, fcC_e, fcK_e, evp, bin, gt, st, putf, X.get, gets, getp, ap, clV, clL, clS, clo, clo.clos, ld, lda, tk, dr, sp, sp.spl, lay, ll, cs1, one, allOne, gb, sb, lk, evq, gdl, Value.oneCell', Bool.and_true, Nat.reduceAdd, Nat.reduceBEq, beq_self_eq_true, true_and, sts, hkF, F84, F83, yK2]
     repeat' (first | omega | exact hv | (with_reducible refine And.intro ?_ ?_))
     refine Nx.mk (n + 1) (by omega) (by omega) (Lw_re 6 [] (by omega) (by simp [ln]) (by simp [ln]) rfl ?_ ?_)
     ·simp only [reL, reX, inb, Nat.reduceLT, decide_true, and_self, Int.natCast_add, Int.natCast_one, Int.add_assoc]
     ·simp only [reL, reX, reH, reB, reN, inb, ln, Nat.reduceLT, Nat.reduceAdd, and_self, implies_true, rF6, hacc, arP]
  ·have hbF : (z1 + (n : Int) <= z2) = False := by simp; omega
   simp only [condK_bf, decide_false, ne_eq, not_false_eq_true, reduceCtorEq, e_reg, and_self, e_seq, e_cond, e_exit, e_ret, scpK_r, o_nil, o_cons, gd_none, putK_e, runK_e, vK_e, storeK3_e, storeK2_e, storeK_e, evh_v, evh_store, loopK_x, seqK_n, seqK_x, exitK_t, blockK_x, blockK_n, ends_r, endK1_e, endK2_e, evp, bin, gt, gq, st, putf, X.get, rdR, tupled, clV, clL, clS, clo, ld, lda, tk, dr, sp, sp.spl, ll, cs1, one, allOne, gb, sb, Bool.and_true, Nat.reduceAdd, beq_self_eq_true, true_and, sts, hbF, rK]
   have hnn : nzV ⟨m, l1, l2, v1, v2, z1, z2, w⟩ = n := by show (z2 - z1 + 1).toNat = n; omega
   unfold trA at hK
   rw [hnn] at hK
   exact ⟨Or.inl trivial, res hK (by simp [leR, leR.leRs])⟩
end Go.Proofs.Ytgdihdiadlmjiaa
end
