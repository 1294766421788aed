import Derived.Test.YtgdihdiadlmjiaaVgLJ
import Derived.Test.YtgdihdiadlmjiaaVgV17
set_option linter.all false
namespace Go.Proofs.Ytgdihdiadlmjiaa
open Go Go.Vg
set_option maxRecDepth 10000
noncomputable def s100 : SC :=
 (.seq (.reg [⟨(some 1),none,.box 78 (.t 0)⟩,.u1 2 (0)]) (.seq (.reg [.u1 3 (0)]) (.seq (.seq (.reg [.u2 6 1 0,.u2 7 6 0,.u3 8 7,(.w6 9 (.bin .mul (.c (.int .i64 (2))) (.t 8))),.u2 10 1 0,.u2 11 10 1,.u2 12 11 1,.u3 13 12,(.w6 14 (.bin .mul (.c (.int .i64 (2))) (.t 13))),.u6 15 .sub 9 14,.u7 16 .add 15 (1),.u1 17 (0)]) (.block 0 (.loop (.seq (.reg [.u6 18 .lss 17 16]) (.seq (.cond (.t 18) .skip (.exit 0)) (.seq (.block 1 (.seq (.reg [.u0 19 17,.u0 4 19]) (.seq (.sem (rq Try.f100 5)) (.reg [.u0 32 3,.u2 33 5 0,.u4 34 33 2,(.w1 35 98 [(.t 34)]),(.w6 36 (.max2 (.t 32) (.t 35))),.u0 3 36])))) (.reg [.u7 37 .add 17 (1),.u0 17 37]))))))) (.seq (.reg [.u0 38 3,.u0 2 38]) .ret))))
def r100 : List RV := [.t 2]
theorem k100 : (Try.f100.body.bind (cC Try.prog), cR Try.prog Try.f100.results.toList, Try.f100.ntmps) = (some s100, some r100, 39) := by kernel_rfl
def A100 : List (Opq × Kd) := [(⟨some 20, none, .o (.v (.load (.t 1) (some 8)))⟩, .val 0 []), (⟨some 21, none, .mkm⟩, .val 0 []), (⟨some 22, none, .o (.v (.load (.t 1) (some 8)))⟩, .val 0 []), (⟨some 23, none, .o (.v (.off (.t 1) 0))⟩, .val 0 []), (⟨some 24, none, .o (.v (.off (.t 23) 1))⟩, .val 0 []), (⟨some 25, none, .o (.v (.off (.t 24) 1))⟩, .val 0 []), (⟨some 26, none, .o (.v (.load (.t 25) none))⟩, .val 0 []), (⟨some 27, none, .o (.v (.mov (.t 4)))⟩, .val 0 []), (⟨some 28, none, .o (.v (.bin .add (.t 26) (.t 27)))⟩, .val 0 []), (⟨some 29, none, .o (.call (.c (.fn 94 [])) [.t 22, .t 28])⟩, .val 0 []), (⟨some 30, none, .o (.call (.c (.fn 93 [])) [.t 21, .c (.lit (.bool false)), .t 29])⟩, .val 0 []), (⟨some 31, none, .o (.call (.c (.fn 56 [])) [.t 20, .t 30])⟩, .val 0 [])]
def B100 : List (Opq × Kd) := [(⟨some 5, none, .o (.new 88 [.int .i64 (Int.ofNat 0), .int .i64 (Int.ofNat 0), .int .i64 (Int.ofNat 0), .int .i64 (Int.ofNat 0)])⟩, .cre 0)]
theorem d100 : (rgnD Try.prog (rq Try.f100 5)).bind (·[0]?) = some ⟨[1, 4], 1, 0, A100 ++ B100, [0], [⟨none, none, .o (.store 4 (.t 5) (.t 31))⟩], none⟩ := by kernel_rfl
def sp4 (T : (Int × Int) × (Int × Int)) : List SV := [.int .i64 T.1.1, .int .i64 T.1.2, .int .i64 T.2.1, .int .i64 T.2.2]
def Q100 (v : Vl) (i : Nat) (T : (Int × Int) × (Int × Int)) : List (Nat × SV) := [(20, v.sv), (21, .cm [] []), (22, v.sv), (23, .ptr 0 0), (24, .ptr 0 1), (25, .ptr 0 2), (26, .int .i64 v.l2), (27, .int .i64 i), (28, .int .i64 (v.l2 + i)), (29, spS (v.l2 + i - v.w) (v.l2 + i + v.w)), (30, (Mp.d1 (v.l2 + i - v.w) (v.l2 + i + v.w)).sv), (31, .agg (sp4 T)), (5, .ptr 1 0)]
theorem ls_b {v : Vl} (hv : v.ok) {x : Int} (hx : -408 ≤ x ∧ x ≤ 408) : (-204000 ≤ v.lst x ∧ v.lst x ≤ 204000) ∧ -204000 ≤ v.mst x ∧ v.mst x ≤ 204000 := by
 have hv2 := hv
 unfold Vl.ok at hv2
 have mb : ∀ a : Int, 1 ≤ a → a ≤ 500 → -204000 ≤ x * a ∧ x * a ≤ 204000 := fun a h1 h2 => by
  have e1 := Int.mul_le_mul_of_nonneg_right hx.2 (show 0 ≤ a by omega)
  have e2 := Int.mul_le_mul_of_nonneg_right hx.1 (show 0 ≤ a by omega)
  omega
 have a1 := mb v.v1 (by omega) (by omega)
 have a2 := mb v.v2 (by omega) (by omega)
 unfold Vl.mst Vl.lst
 refine ⟨?_, ?_⟩ <;> split <;> omega
theorem fltN_b {v : Vl} (hv : v.ok) : ∀ n : Nat, v.l2 + n ≤ 2 * v.m + 1 → 0 ≤ fltN v n ∧ fltN v n ≤ 1000000
 | 0, _ => ⟨Int.le_refl _, by simp [fltN]⟩
 | n + 1, h => by
  have ih := fltN_b hv n (by omega)
  have hv2 := hv
  unfold Vl.ok at hv2
  rw [fltN_s hv (by omega)]
  have a := ls_b hv (x := v.l2 + n - v.z1 + v.w) (by omega)
  have b := ls_b hv (x := v.l2 + n - v.z2 - v.w) (by omega)
  unfold wid1
  omega
set_option maxHeartbeats 8000000 in
theorem p100 : PureOk Try.prog 100 (fcC F92) := by
 refine pure_of (T := [(98, .fc F98)]) ⟨⟨p98, q98⟩, trivial⟩ Try.func100 k100 ?_
 intro args K hC
 unfold fcC F92 at hC
 split at hC <;> first | (exact hC.elim) | skip
 rename_i h
 split at h <;> first | (cases h; done) | skip
 rename_i m l1 l2 v1 v2 z1 z2 w
 cases h
 obtain ⟨hv, hK⟩ := hC
 obtain ⟨v, hvd⟩ : ∃ v : Vl, v = ⟨m, l1, l2, v1, v2, z1, z2, w⟩ := ⟨_, rfl⟩
 rw [← hvd] at hv hK
 obtain ⟨rfl, rfl, rfl, rfl, rfl, rfl, rfl, rfl⟩ : m = v.m ∧ l1 = v.l1 ∧ l2 = v.l2 ∧ v1 = v.v1 ∧ v2 = v.v2 ∧ z1 = v.z1 ∧ z2 = v.z2 ∧ w = v.w := by subst hvd; exact ⟨rfl, rfl, rfl, rfl, rfl, rfl, rfl, rfl⟩
 clear hvd
 have hv2 := hv
 unfold Vl.ok at hv2
 simp only [inr64, e_reg, e_seq, e_block, e_loop, o_nil, o_cons, gd_none, putK_e, runK_e, vK_e, boxK_e, evh_v, evh_box, seqK_n, evp, bin, gt, gq, st, putf, X.get, mkfr, rep, ld, lda, cs1, gb, pb, ln, undef, Nat.reduceSub, Nat.reduceAdd, true_and, s100, r100]
 refine ⟨by omega, by omega, by omega, by omega, ?_⟩
 refine loop_at2 (G := Nat × SV) (fun g => [(17, .int .i64 g.1), (3, .int .i64 (fltN v g.1)), (20, .any), (21, .any), (22, .any), (23, .any), (24, .any), (25, .any), (26, .any), (27, .any), (28, .any), (29, .any), (30, .any), (31, .any), (5, .any), (4, .any)]) (fun g => [Blk.box 78 [.int .i64 v.m, .int .i64 v.l1, .int .i64 v.l2, .int .i64 v.v1, .int .i64 v.v2, .int .i64 v.z1, .int .i64 v.z2, .int .i64 v.w]]) (fun g => v.l2 + g.1 ≤ 2 * v.m - v.l2 + 1) (fun g => (2 * v.m - v.l2 + 1 - v.l2 - g.1).toNat) (0, .any) (by simp only; omega) ?_
 (intro fr1 hf1; simp only [forget, dstC, dstO, st] at hf1; subst hf1)
 refine ⟨?_, ?_⟩
 ·refine Lw_re 1 [] (Nat.zero_le _) (by simp [ln]) (by simp [ln]) rfl ?_ ?_
  ·simp only [reL, reX, inb, inb.inbs, ln, sts, st, Bool.and_self, Nat.reduceLT, Nat.reduceAdd, decide_true, and_self, Int.natCast_zero, fltN]
  ·simp only [reL, reX, reH, reB, reN, inb, and_self]
 ·rintro ⟨i, u⟩ hi
  simp only at hi
  have hb := fltN_b hv i (by omega)
  by_cases hz : (i : Int) < 2 * v.m - 2 * v.l2 + 1
  ·have hzT : ((i : Int) < 2 * v.m - 2 * v.l2 + 1) = True := eq_true hz
   simp only [condK_bt, decide_true, e_skip, e_reg, e_seq, e_cond, e_block, o_nil, o_cons, gd_none, putK_e, runK_e, vK_e, evh_v, seqK_n, evp, bin, gt, st, putf, X.get, true_and, sts, hzT, e_sem]
   have t1 := tz_1 hv (k := v.l2 + i) (by omega)
   have hL : okL [(v.l2 + (i : Int), false)] := ⟨by simp, fun e he => by simp only [List.mem_singleton] at he; subst he; simp only; omega⟩
   have t2 := (tz_trL hv hL).1 t1.1
   have hM := midL_ok hv hL
   change Mp.ok (Mp.d1 (v.l2 + i - v.w) (v.l2 + i + v.w)) at hM
   have t3 : trA v (Mp.d1 (v.l2 + i - v.w) (v.l2 + i + v.w)).ev = tzP (tzA v [(v.l2 + (i : Int), false)]) := t2.1
   have hin : inRB .i64 (v.l2 + i) = true := by simp [inRB]; omega
   have hFS : ∀ e ∈ [((94, [v.sv, .int .i64 (v.l2 + i)], spS (v.l2 + i - v.w) (v.l2 + i + v.w)) : Kc), (93, [.cm [] [], .lit (.bool false), spS (v.l2 + i - v.w) (v.l2 + i + v.w)], (Mp.d1 (v.l2 + i - v.w) (v.l2 + i + v.w)).sv), (56, [v.sv, (Mp.d1 (v.l2 + i - v.w) (v.l2 + i + v.w)).sv], .agg (sp4 (tzP (tzA v [(v.l2 + (i : Int), false)]))))], KcOk Try.prog e := by
    intro e he
    simp only [List.mem_cons, List.not_mem_nil, or_false] at he
    rcases he with rfl | rfl | rfl
    ·exact ⟨q94, rfl, _, p94, v, _, rfl, ⟨hv, by omega, by omega⟩, rfl⟩
    ·exact ⟨q93, rfl, _, p93.le, [Mp.e0.sv, .bool false, spS (v.l2 + i - v.w) (v.l2 + i + v.w)], ⟨.inl rfl, .inl rfl, .inl (by simp [leR, leR.leRs, spS]), trivial⟩, Mp.e0, false, _, _, rfl, rfl⟩
    ·exact ⟨q56, rfl, _, p56, v, _, rfl, ⟨hv, hM⟩, by rw [t3]; rfl⟩
   refine sem_rgnB (i := 0) (sh := [1, 4]) (m := 1) (ne := 0) (cs := [0]) (tl := [⟨none, none, .o (.store 4 (.t 5) (.t 31))⟩]) _ A100 B100 [v.sv, .cm [] [], v.sv, .ptr 0 0, .ptr 0 1, .ptr 0 2, .int .i64 v.l2, .int .i64 i, .int .i64 (v.l2 + i), spS (v.l2 + i - v.w) (v.l2 + i + v.w), (Mp.d1 (v.l2 + i - v.w) (v.l2 + i + v.w)).sv, .agg (sp4 (tzP (tzA v [(v.l2 + (i : Int), false)])))]
    (Q100 v i (tzP (tzA v [(v.l2 + (i : Int), false)]))) [.box 78 v.cells, .box 88 (sp4 (tzP (tzA v [(v.l2 + (i : Int), false)])))] d100 hFS ?_ rfl rfl rfl ?_ ?_ ?_
   ·intro e he e' he' h3 h4
    simp only [List.mem_cons, List.not_mem_nil, or_false] at he he'
    rcases he with rfl | rfl | rfl <;> rcases he' with rfl | rfl | rfl <;> first | rfl | (simp at h3)
   ·intro cq hq
    have q1 := hq _ (List.mem_cons_self ..)
    have q2 := hq _ (List.mem_cons_of_mem _ (List.mem_cons_self ..))
    have q3 := hq _ (List.mem_cons_of_mem _ (List.mem_cons_of_mem _ (List.mem_cons_self ..)))
    have x1 : binB2 .add .i64 .i64 v.l2 i = some (.int .i64 (v.l2 + i)) := by simp only [binB2, xLy, hin]; rfl
    unfold A100
    refine stps_cons (by kernel_rfl) ?_
    refine stps_cons (by kernel_rfl) ?_
    refine stps_cons (by kernel_rfl) ?_
    refine stps_cons (by kernel_rfl) ?_
    refine stps_cons (by kernel_rfl) ?_
    refine stps_cons (by kernel_rfl) ?_
    refine stps_cons (by kernel_rfl) ?_
    refine stps_cons (by kernel_rfl) ?_
    refine stps_cons (Eq.trans (b := binB2 .add .i64 .i64 v.l2 i) (by kernel_rfl) x1) ?_
    refine stps_cons (Eq.trans (b := cq (.fn 94 []) [v.sv, .int .i64 (v.l2 + i)]) (by kernel_rfl) q1) ?_
    refine stps_cons (Eq.trans (b := cq (.fn 93 []) [.cm [] [], .lit (.bool false), spS (v.l2 + i - v.w) (v.l2 + i + v.w)]) (by kernel_rfl) q2) ?_
    refine stps_cons (Eq.trans (b := cq (.fn 56 []) [v.sv, (Mp.d1 (v.l2 + i - v.w) (v.l2 + i + v.w)).sv]) (by kernel_rfl) q3) ?_
    exact stps_nil
   ·intro cq
    kernel_rfl
   ·simp only [Q100, puts_n, puts_c]
    have a := ls_b hv (x := v.l2 + i - v.z1 + v.w) (by omega)
    have b := ls_b hv (x := v.l2 + i - v.z2 - v.w) (by omega)
    have hs := fltN_s hv (n := i) (by omega)
    unfold wid1 at hs
    rw [← t1.2.1, ← t1.2.2] at hs
    rw [← t1.2.1] at b
    rw [← t1.2.2] at a
    generalize tzA v [(v.l2 + (i : Int), false)] = T at *
    simp only [inr64, e_reg, o_nil, o_cons, gd_none, putK_e, runK_e, vK_e, conK_e, callK_e, evh_v, evh_call, loopK_n, seqK_n, blockK_n, gam_e, gamK_f, pc_e, pcK_e, fcC_e, fcK_e, evp, bin, gt, st, putf, X.get, gets, ap, clV, clL, clS, clo, ld, lda, tk, dr, gb, lk, Nat.reduceAdd, beq_self_eq_true, true_and, sp4, tzP, F98]
    refine ⟨by omega, by omega, ?_⟩
    have hs2 : (if fltN v i < T.t2 - T.t1 then T.t2 - T.t1 else fltN v i) = fltN v (i + 1) := by rw [hs]; split <;> omega
    refine Nx.mk (i + 1, .any) (by simp only; omega) (by simp only; omega) (Lw_re 1 [] (Nat.zero_le _) (by simp [ln]) (by simp [ln]) rfl ?_ ?_)
    ·simp only [reL, reX, inb, inb.inbs, Bool.and_self, Nat.reduceLT, decide_true, and_self, hs2, Int.natCast_add, Int.natCast_one]
    ·simp only [reL, reX, reH, reB, reN, inb, ln, Nat.reduceAdd, and_self, Vl.cells]
  ·have hzF : ((i : Int) < 2 * v.m - 2 * v.l2 + 1) = False := eq_false hz
   have hi2 : i = (2 * v.m + 1 - 2 * v.l2).toNat := by omega
   have hK2 : K (.int .i64 (fltN v i)) := by rw [hi2]; exact hK
   simp only [condK_bf, decide_false, e_reg, e_seq, e_cond, e_exit, e_ret, o_nil, o_cons, gd_none, putK_e, runK_e, vK_e, evh_v, loopK_x, seqK_n, seqK_x, exitK_t, blockK_x, ends_r, endK1_e, endK2_e, evp, bin, gt, st, putf, X.get, rdR, tupled, clV, clS, clo, beq_self_eq_true, true_and, sts, hzF]
   exact res hK2 (by simp [leR])
end Go.Proofs.Ytgdihdiadlmjiaa
