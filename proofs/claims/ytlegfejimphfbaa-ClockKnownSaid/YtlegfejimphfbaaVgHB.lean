import Derived.Test.YtlegfejimphfbaaVgHA
section
namespace Go.Proofs.Ytlegfejimphfbaa
open Go Go.Vg
set_option linter.unusedSimpArgs false
set_option linter.unusedVariables false
set_option maxRecDepth 10000
def tn (o : Opr) (a : DT) : DT := .op o a .stop
def o119_0 : Opr := ⟨(some 12), none, .call (.t 10) [(.t 11)]⟩
def o119_1 : Opr := ⟨(some 14), none, .v (.load (.t 4) (some 2))⟩
def o119_2 : Opr := ⟨(some 15), none, .call (.t 13) [(.t 14)]⟩
def o119_3 : Opr := ⟨(some 16), none, .bld [(.int .i64 (0)), (.int .i64 (0))] [(0, 1, (.t 12)), (1, 1, (.t 15))]⟩
def o119_4 : Opr := ⟨(some 7), none, .new 25 [(.int .i64 (0)), (.int .i64 (0))]⟩
def o119_5 : Opr := ⟨none, none, .store 2 (.t 7) (.t 16)⟩
def o119_6 : Opr := ⟨(some 24), none, .v (.load (.t 23) none)⟩
def o119_7 : Opr := ⟨(some 27), none, .call (.t 25) [(.t 26)]⟩
def o119_8 : Opr := ⟨(some 28), none, .v (.min2 (.t 24) (.t 27))⟩
def o119_9 : Opr := ⟨(some 30), none, .v (.load (.t 29) none)⟩
def o119_10 : Opr := ⟨(some 35), none, .v (.off (.t 7) 0)⟩
def o119_11 : Opr := ⟨(some 32), none, .v (.load (.t 9) (some 2))⟩
def o119_12 : Opr := ⟨(some 33), none, .call (.t 31) [(.t 32)]⟩
def o119_13 : Opr := ⟨(some 34), none, .v (.max2 (.t 30) (.t 33))⟩
def o119_14 : Opr := ⟨none, none, .store 1 (.t 35) (.t 28)⟩
def o119_15 : Opr := ⟨(some 36), none, .v (.off (.t 7) 1)⟩
def o119_16 : Opr := ⟨none, none, .store 1 (.t 36) (.t 34)⟩
def s119 : SC :=
 (.seq (.reg [⟨(some 4), none, .box 82 (.t 1)⟩,
  ⟨(some 6), none, .new 25 [(.int .i64 (0)), (.int .i64 (0))]⟩])
 (.seq (.tre (tn ⟨(some 10), none, .v (.mov (.t 0))⟩ (tn ⟨(some 11), none, .v (.load (.t 4) (some 2))⟩ (tn ⟨(some 13), none, .v (.mov (.t 0))⟩ (.op o119_0 (.op
 o119_1 (.op o119_2 (tn o119_3 (tn o119_4 (tn o119_5 .leaf))) (tn o119_4 (tn o119_2 (tn o119_3 (tn o119_5 .leaf))))) (tn o119_4 (tn o119_1 (tn o119_2 (tn
 o119_3 (tn o119_5 .leaf)))))) (.op o119_1 (.op o119_0 (.op o119_2 (tn o119_3 (tn o119_4 (tn o119_5 .leaf))) (tn o119_4 (tn o119_2 (tn o119_3 (tn o119_5
 .leaf))))) (tn o119_4 (tn o119_0 (tn o119_2 (tn o119_3 (tn o119_5 .leaf)))))) (tn o119_4 (.op o119_0 (tn o119_1 (tn o119_2 (tn o119_3 (tn o119_5 .leaf))))
 (tn o119_1 (tn o119_0 (tn o119_2 (tn o119_3 (tn o119_5 .leaf)))))))))))))
 (.seq (.seq (.reg [⟨(some 17), none, .v (.mov (.t 2))⟩,
  ⟨(some 18), none, .v (.len (.t 17))⟩,
  ⟨(some 19), none, .v (.mov (.c (.int .i64 (0))))⟩])
 (.block 0 (.loop
  (.seq (.reg [⟨(some 20), none, .v (.bin .lss (.t 19) (.t 18))⟩])
  (.seq (.cond (.t 20)
   .skip
   (.exit 0))
  (.seq (.block 1 (.seq (.reg [⟨(some 21), none, .v (.ixa (.t 17) (.t 19) 2)⟩,
   ⟨(some 22), none, .v (.load (.t 21) (some 2))⟩,
   ⟨(some 9), none, .new 82 [(.int .i64 (0)), (.int .i64 (0))]⟩,
   ⟨none, none, .store 2 (.t 9) (.t 22)⟩])
  (.tre (tn ⟨(some 23), none, .v (.off (.t 7) 0)⟩ (tn ⟨(some 25), none, .v (.mov (.t 0))⟩ (tn ⟨(some 26), none, .v (.load (.t 9) (some 2))⟩ (tn ⟨(some 29),
 none, .v (.off (.t 7) 1)⟩ (tn ⟨(some 31), none, .v (.mov (.t 0))⟩ (.op o119_6 (.op o119_7 (tn o119_8 (.op o119_9 (tn o119_10 (tn o119_11 (tn o119_12 (tn
 o119_13 (tn o119_14 (tn o119_15 (tn o119_16 .leaf))))))) (tn o119_11 (.op o119_9 (tn o119_10 (tn o119_12 (tn o119_13 (tn o119_14 (tn o119_15 (tn o119_16
 .leaf)))))) (tn o119_12 (tn o119_9 (tn o119_13 (tn o119_10 (tn o119_14 (tn o119_15 (tn o119_16 .leaf))))))))))) (.op o119_9 (.op o119_7 (tn o119_8 (tn
 o119_10 (tn o119_11 (tn o119_12 (tn o119_13 (tn o119_14 (tn o119_15 (tn o119_16 .leaf)))))))) (tn o119_11 (tn o119_7 (tn o119_8 (tn o119_10 (tn o119_12
 (tn o119_13 (tn o119_14 (tn o119_15 (tn o119_16 .leaf)))))))))) (tn o119_11 (.op o119_7 (tn o119_8 (.op o119_9 (tn o119_10 (tn o119_12 (tn o119_13 (tn
 o119_14 (tn o119_15 (tn o119_16 .leaf)))))) (tn o119_12 (tn o119_9 (tn o119_13 (tn o119_10 (tn o119_14 (tn o119_15 (tn o119_16 .leaf))))))))) (tn o119_9
 (tn o119_7 (tn o119_8 (tn o119_10 (tn o119_12 (tn o119_13 (tn o119_14 (tn o119_15 (tn o119_16 .leaf))))))))))))) (.op o119_7 (.op o119_6 (tn o119_8 (.op
 o119_9 (tn o119_10 (tn o119_11 (tn o119_12 (tn o119_13 (tn o119_14 (tn o119_15 (tn o119_16 .leaf))))))) (tn o119_11 (.op o119_9 (tn o119_10 (tn o119_12
 (tn o119_13 (tn o119_14 (tn o119_15 (tn o119_16 .leaf)))))) (tn o119_12 (tn o119_9 (tn o119_13 (tn o119_10 (tn o119_14 (tn o119_15 (tn o119_16 .leaf)))))))))))
 (.op o119_9 (.op o119_6 (tn o119_8 (tn o119_10 (tn o119_11 (tn o119_12 (tn o119_13 (tn o119_14 (tn o119_15 (tn o119_16 .leaf)))))))) (tn o119_11 (.op o119_6
 (tn o119_8 (tn o119_10 (tn o119_12 (tn o119_13 (tn o119_14 (tn o119_15 (tn o119_16 .leaf))))))) (tn o119_12 (tn o119_13 (tn o119_6 (tn o119_8 (tn o119_10
 (tn o119_14 (tn o119_15 (tn o119_16 .leaf))))))))))) (tn o119_11 (.op o119_6 (tn o119_8 (.op o119_9 (tn o119_10 (tn o119_12 (tn o119_13 (tn o119_14 (tn
 o119_15 (tn o119_16 .leaf)))))) (tn o119_12 (tn o119_9 (tn o119_13 (tn o119_10 (tn o119_14 (tn o119_15 (tn o119_16 .leaf))))))))) (.op o119_9 (.op o119_6
 (tn o119_8 (tn o119_10 (tn o119_12 (tn o119_13 (tn o119_14 (tn o119_15 (tn o119_16 .leaf))))))) (tn o119_12 (tn o119_13 (tn o119_6 (tn o119_8 (tn o119_10
 (tn o119_14 (tn o119_15 (tn o119_16 .leaf))))))))) (tn o119_12 (.op o119_6 (tn o119_8 (tn o119_9 (tn o119_13 (tn o119_10 (tn o119_14 (tn o119_15 (tn o119_16
 .leaf))))))) (tn o119_9 (tn o119_13 (tn o119_6 (tn o119_8 (tn o119_10 (tn o119_14 (tn o119_15 (tn o119_16 .leaf))))))))))))))) (.op o119_9 (.op o119_6
 (.op o119_7 (tn o119_8 (tn o119_10 (tn o119_11 (tn o119_12 (tn o119_13 (tn o119_14 (tn o119_15 (tn o119_16 .leaf)))))))) (tn o119_11 (tn o119_7 (tn o119_8
 (tn o119_10 (tn o119_12 (tn o119_13 (tn o119_14 (tn o119_15 (tn o119_16 .leaf)))))))))) (.op o119_7 (.op o119_6 (tn o119_8 (tn o119_10 (tn o119_11 (tn
 o119_12 (tn o119_13 (tn o119_14 (tn o119_15 (tn o119_16 .leaf)))))))) (tn o119_11 (.op o119_6 (tn o119_8 (tn o119_10 (tn o119_12 (tn o119_13 (tn o119_14
 (tn o119_15 (tn o119_16 .leaf))))))) (tn o119_12 (tn o119_13 (tn o119_6 (tn o119_8 (tn o119_10 (tn o119_14 (tn o119_15 (tn o119_16 .leaf))))))))))) (tn
 o119_11 (.op o119_6 (tn o119_7 (tn o119_8 (tn o119_10 (tn o119_12 (tn o119_13 (tn o119_14 (tn o119_15 (tn o119_16 .leaf)))))))) (tn o119_7 (.op o119_6
 (tn o119_8 (tn o119_10 (tn o119_12 (tn o119_13 (tn o119_14 (tn o119_15 (tn o119_16 .leaf))))))) (tn o119_12 (tn o119_13 (tn o119_6 (tn o119_8 (tn o119_10
 (tn o119_14 (tn o119_15 (tn o119_16 .leaf)))))))))))))) (tn o119_11 (.op o119_6 (.op o119_7 (tn o119_8 (.op o119_9 (tn o119_10 (tn o119_12 (tn o119_13
 (tn o119_14 (tn o119_15 (tn o119_16 .leaf)))))) (tn o119_12 (tn o119_9 (tn o119_13 (tn o119_10 (tn o119_14 (tn o119_15 (tn o119_16 .leaf))))))))) (tn o119_9
 (tn o119_7 (tn o119_8 (tn o119_10 (tn o119_12 (tn o119_13 (tn o119_14 (tn o119_15 (tn o119_16 .leaf)))))))))) (.op o119_7 (.op o119_6 (tn o119_8 (.op o119_9
 (tn o119_10 (tn o119_12 (tn o119_13 (tn o119_14 (tn o119_15 (tn o119_16 .leaf)))))) (tn o119_12 (tn o119_9 (tn o119_13 (tn o119_10 (tn o119_14 (tn o119_15
 (tn o119_16 .leaf))))))))) (.op o119_9 (.op o119_6 (tn o119_8 (tn o119_10 (tn o119_12 (tn o119_13 (tn o119_14 (tn o119_15 (tn o119_16 .leaf))))))) (tn
 o119_12 (tn o119_13 (tn o119_6 (tn o119_8 (tn o119_10 (tn o119_14 (tn o119_15 (tn o119_16 .leaf))))))))) (tn o119_12 (.op o119_6 (tn o119_8 (tn o119_9
 (tn o119_13 (tn o119_10 (tn o119_14 (tn o119_15 (tn o119_16 .leaf))))))) (tn o119_9 (tn o119_13 (tn o119_6 (tn o119_8 (tn o119_10 (tn o119_14 (tn o119_15
 (tn o119_16 .leaf)))))))))))) (tn o119_9 (.op o119_6 (tn o119_7 (tn o119_8 (tn o119_10 (tn o119_12 (tn o119_13 (tn o119_14 (tn o119_15 (tn o119_16 .leaf))))))))
 (tn o119_7 (.op o119_6 (tn o119_8 (tn o119_10 (tn o119_12 (tn o119_13 (tn o119_14 (tn o119_15 (tn o119_16 .leaf))))))) (tn o119_12 (tn o119_13 (tn o119_6
 (tn o119_8 (tn o119_10 (tn o119_14 (tn o119_15 (tn o119_16 .leaf))))))))))))))))))))))))))
  (.reg [⟨(some 37), none, .v (.bin .add (.t 19) (.c (.int .i64 (1))))⟩,
   ⟨(some 19), none, .v (.mov (.t 37))⟩])))))))
 (.seq (.reg [⟨(some 38), none, .v (.load (.t 7) (some 2))⟩,
  ⟨none, none, .store 2 (.t 6) (.t 38)⟩])
 .ret))))
def r119 : List RV := [.c 6 (some 2)]
theorem k119 : (Try.f74.body.bind (cC Try.prog), cR Try.prog Try.f74.results.toList, Try.f74.ntmps) = (some s119, some r119, 39) := by kernel_rfl
theorem q119 : Known Try.prog 74 := ⟨_, Try.func74, by decide, by simp [Try.f74]⟩
theorem mt_on : mtab Try.prog "octant/clock.on" = [(111, 111), (112, 116), (114, 117)] := by kernel_rfl
theorem gam_P {P : Program} {T : List (Nat × Sg)} : (gam P T).P = P := rfl
def mnF (h : Int → Int) (t : Int) : Nat → Int
 | 0 => h t
 | k + 1 => if h (t + 1 + k) < mnF h t k then h (t + 1 + k) else mnF h t k
def mxF (h : Int → Int) (t : Int) : Nat → Int
 | 0 => h t
 | k + 1 => if mxF h t k < h (t + 1 + k) then h (t + 1 + k) else mxF h t k
def F119 : FC := fun args => match args with
 | [.mm m (.ifc 114 (.rd 1 2 g)), .agg [.int .i64 d, .int .i64 t], .rd 2 n f] => match g 0, g 1 with
  | [.ifc 111 (.agg [.ints .i64 T, .ints .i64 R])], [.ifc 112 (.int .i64 age)] =>
   some (m = "octant/clock.on" ∧ (Tb T ∧ Rb R ∧ T.length = R.length) ∧ ((-1000 ≤ age ∧ age ≤ 1000) ∧ 0 ≤ d ∧ d ≤ 60) ∧ (n ≤ 100 ∧ At T t ∧ ∀ i : Nat, i < n → At T (t + 1 + i)) ∧ (∀ i, i < n → f i = [.int .i64 d, .int .i64 (t + 1 + i)]),
    .agg [.int .i64 (mnF (fun x => itp T R x + age * d) t n), .int .i64 (mxF (fun x => itp T R x + age * d) t n)])
  | _, _ => none
 | _ => none
theorem p119 : PureOk Try.prog 74 (fcC F119) := by
 refine pure_of (T := [(117, .fc F162)]) ⟨⟨p162, q162⟩, trivial⟩ Try.func74 k119 ?_
 intro args K hC
 unfold fcC F119 at hC
 split at hC <;> first | (exact hC.elim) | skip
 rename_i h
 split at h <;> first | (cases h; done) | skip
 split at h <;> first | (cases h; done) | skip
 rename_i T R age g0 g1
 cases h
 rename_i m g d t n f _ _
 obtain ⟨⟨rfl, ⟨hT, hR, hl⟩, ⟨hag, hd⟩, ⟨hn, ht, hts⟩, hf⟩, hK⟩ := hC
 simp only [↓reduceIte, e_reg, e_tre, t_leaf, t_stop, t_op, and_self, e_seq, e_block, e_loop, o_nil, o_cons, gd_none, putK_e, runK_e, vK_e, boxK_e, bldK_e, storeK3_e, storeK2_e, storeK_e, conK_e, evh_v, evh_new, evh_box, evh_bld, evh_store, evh_call, invK_e, invK2_e, callK_mm, lkm, seqK_n, gam_e, gamK_f, pc_e, pcK_e, fcC_e, fcK_e, evp, gt, st, putf, X.get, gets, getp, mkfr, rep, clV, clL, clS, clo, ld, lda, lens, tk, dr, sp, sp.spl, lay, ll, cs1, one, allOne, gb, sb, pb, ln, lk, Value.oneCell', undef, Bool.and_true, Nat.reduceSub, Nat.reduceAdd, Nat.reduceBEq, beq_self_eq_true, true_and, and_true, s119, tn, o119_0, o119_1, o119_2, o119_3, o119_4, o119_5, o119_6, o119_7, o119_8, o119_9, o119_10, o119_11, o119_12, o119_13, o119_14, o119_15, o119_16, r119, gam_P, mt_on, F162, g0, g1]
 refine ⟨⟨⟨hT, hR, hl, ht⟩, hag, hd⟩, ⟨⟨hT, hR, hl, ht⟩, hag, hd⟩, ?_⟩
 refine loop_at2 (G := Nat) (fun i => [(19, .int .i64 i)]) (fun i => [.box 82 [.int .i64 d, .int .i64 t], .box 25 [.int .i64 0, .int .i64 0], .box 25 [.int .i64 (mnF (fun x => itp T R x + age * d) t i), .int .i64 (mxF (fun x => itp T R x + age * d) t i)]]) (fun i => i ≤ n) (fun i => n - i) 0 (Nat.zero_le _) ?_
 (intro fr1 hf1; simp only [forget, dstC, dstT, dstO, dst1, st] at hf1; subst hf1)
 refine ⟨?_, ?_⟩
 ·refine Lw_re 3 [] (Nat.zero_le _) (by simp [ln]) (by simp [ln]) rfl ?_ ?_
  ·simp only [reL, reX, inb, inb.inbs, ln, sts, st, Bool.and_self, Nat.reduceLT, Nat.reduceAdd, decide_true, and_self, Int.natCast_zero, implies_true]
  ·simp only [reL, reX, reH, reB, reN, inb, and_self, mnF, mxF]
 ·intro i hi
  by_cases hlt : i < n
  ·have n0 : ((i : Int) < (n : Int)) = True := by simp; omega
   have hx := hts i hlt
   have hfi := hf i hlt
   have e1 : mnF (fun x => itp T R x + age * d) t (i + 1) = if itp T R (t + 1 + i) + age * d < mnF (fun x => itp T R x + age * d) t i then itp T R (t + 1 + i) + age * d else mnF (fun x => itp T R x + age * d) t i := rfl
   have e2 : mxF (fun x => itp T R x + age * d) t (i + 1) = if mxF (fun x => itp T R x + age * d) t i < itp T R (t + 1 + i) + age * d then itp T R (t + 1 + i) + age * d else mxF (fun x => itp T R x + age * d) t i := rfl
   simp (maxSteps := 3000000) only [condK_bt, decide_true, inr64, ↓reduceIte, e_skip, e_reg, e_tre, t_leaf, t_stop, t_op, and_self, e_seq, e_cond, e_block, o_nil, o_cons, gd_none, putK_e, runK_e, vK_e, storeK3_e, storeK2_e, storeK_e, conK_e, evh_v, evh_new, evh_store, evh_call, invK_e, invK2_e, callK_mm, lkm, loopK_n, seqK_n, blockK_n, gam_e, gamK_f, pc_e, pcK_e, fcC_e, fcK_e, evp, bin, gt, gq, st, putf, X.get, gets, clV, clL, clS, clo, ld, lda, ixs, tk, dr, sp, sp.spl, ll, cs1, one, allOne, gb, sb, pb, ln, lk, Bool.and_true, Nat.reduceAdd, Nat.reduceBEq, beq_self_eq_true, true_and, and_true, sts, n0, Int.toNat_natCast, hfi, gam_P, mt_on, F162, g0, g1]
   generalize mnF (fun x => itp T R x + age * d) t i = p at *
   generalize mxF (fun x => itp T R x + age * d) t i = q at *
   repeat' (first | omega | exact hT | exact hR | exact hl | exact hx | apply And.intro)
   all_goals
    refine Nx.mk (i + 1) (by omega) (by omega) (Lw_re 3 [] (Nat.zero_le _) (by simp [ln]) (by simp [ln]) rfl ?_ ?_)
    ·simp only [reL, reX, inb, inb.inbs, Bool.and_self, Nat.reduceLT, decide_true, and_self, Int.natCast_add, Int.natCast_one, implies_true]
    ·simp only [reL, reX, reH, reB, reN, inb, and_self, e1, e2]
  ·have n0 : ((i : Int) < (n : Int)) = False := by simp; omega
   have ei : i = n := by omega
   subst ei
   simp only [condK_bf, decide_false, e_reg, and_self, e_seq, e_cond, e_exit, e_ret, o_nil, o_cons, gd_none, putK_e, runK_e, vK_e, storeK3_e, storeK2_e, storeK_e, evh_v, evh_store, loopK_x, seqK_n, seqK_x, exitK_t, blockK_x, ends_r, endK1_e, endK2_e, evp, bin, gt, st, putf, X.get, rdR, tupled, clV, clL, clS, clo, ld, lda, tk, dr, sp, sp.spl, ll, cs1, one, allOne, gb, sb, Bool.and_true, Nat.reduceAdd, beq_self_eq_true, true_and, sts, n0]
   exact res hK (by simp [leR, leR.leRs])
end Go.Proofs.Ytlegfejimphfbaa
end
section
namespace Go.Proofs.Ytlegfejimphfbaa
open Go Go.Vg
set_option linter.unusedSimpArgs false
set_option linter.unusedVariables false
set_option maxRecDepth 10000
def tq (o : Opr) (a : DT) : DT := .op o a .stop
def o76_0 : Opr := ⟨(some 12), none, .call (.t 10) [(.t 11)]⟩
def o76_1 : Opr := ⟨(some 14), none, .v (.load (.t 4) (some 7))⟩
def o76_2 : Opr := ⟨(some 15), none, .call (.t 13) [(.t 14)]⟩
def o76_3 : Opr := ⟨(some 16), none, .bld [(.int .i64 (0)), (.int .i64 (0))] [(0, 1, (.t 12)), (1, 1, (.t 15))]⟩
def o76_4 : Opr := ⟨(some 7), none, .new 25 [(.int .i64 (0)), (.int .i64 (0))]⟩
def o76_5 : Opr := ⟨none, none, .store 2 (.t 7) (.t 16)⟩
def o76_6 : Opr := ⟨(some 24), none, .v (.load (.t 23) none)⟩
def o76_7 : Opr := ⟨(some 27), none, .call (.t 25) [(.t 26)]⟩
def o76_8 : Opr := ⟨(some 28), none, .v (.min2 (.t 24) (.t 27))⟩
def o76_9 : Opr := ⟨(some 30), none, .v (.load (.t 29) none)⟩
def o76_10 : Opr := ⟨(some 35), none, .v (.off (.t 7) 0)⟩
def o76_11 : Opr := ⟨(some 32), none, .v (.load (.t 9) (some 7))⟩
def o76_12 : Opr := ⟨(some 33), none, .call (.t 31) [(.t 32)]⟩
def o76_13 : Opr := ⟨(some 34), none, .v (.max2 (.t 30) (.t 33))⟩
def o76_14 : Opr := ⟨none, none, .store 1 (.t 35) (.t 28)⟩
def o76_15 : Opr := ⟨(some 36), none, .v (.off (.t 7) 1)⟩
def o76_16 : Opr := ⟨none, none, .store 1 (.t 36) (.t 34)⟩
def s76 : SC :=
 (.seq (.reg [⟨(some 4), none, .box 76 (.t 1)⟩,
  ⟨(some 6), none, .new 25 [(.int .i64 (0)), (.int .i64 (0))]⟩])
 (.seq (.tre (tq ⟨(some 10), none, .v (.mov (.t 0))⟩ (tq ⟨(some 11), none, .v (.load (.t 4) (some 7))⟩ (tq ⟨(some 13), none, .v (.mov (.t 0))⟩ (.op o76_0 (.op
 o76_1 (.op o76_2 (tq o76_3 (tq o76_4 (tq o76_5 .leaf))) (tq o76_4 (tq o76_2 (tq o76_3 (tq o76_5 .leaf))))) (tq o76_4 (tq o76_1 (tq o76_2 (tq o76_3 (tq
 o76_5 .leaf)))))) (.op o76_1 (.op o76_0 (.op o76_2 (tq o76_3 (tq o76_4 (tq o76_5 .leaf))) (tq o76_4 (tq o76_2 (tq o76_3 (tq o76_5 .leaf))))) (tq o76_4
 (tq o76_0 (tq o76_2 (tq o76_3 (tq o76_5 .leaf)))))) (tq o76_4 (.op o76_0 (tq o76_1 (tq o76_2 (tq o76_3 (tq o76_5 .leaf)))) (tq o76_1 (tq o76_0 (tq o76_2
 (tq o76_3 (tq o76_5 .leaf)))))))))))))
 (.seq (.seq (.reg [⟨(some 17), none, .v (.mov (.t 2))⟩,
  ⟨(some 18), none, .v (.len (.t 17))⟩,
  ⟨(some 19), none, .v (.mov (.c (.int .i64 (0))))⟩])
 (.block 0 (.loop
  (.seq (.reg [⟨(some 20), none, .v (.bin .lss (.t 19) (.t 18))⟩])
  (.seq (.cond (.t 20)
   .skip
   (.exit 0))
  (.seq (.block 1 (.seq (.reg [⟨(some 21), none, .v (.ixa (.t 17) (.t 19) 7)⟩,
   ⟨(some 22), none, .v (.load (.t 21) (some 7))⟩,
   ⟨(some 9), none, .new 76 [(.lit (.slice none 0 0)), (.lit (.slice none 0 0)), (.int .i64 (0)), (.int .i64 (0)), (.int .i64 (0)), (.int .i64 (0)), (.lit .nilFunc)]⟩,
   ⟨none, none, .store 7 (.t 9) (.t 22)⟩])
  (.tre (tq ⟨(some 23), none, .v (.off (.t 7) 0)⟩ (tq ⟨(some 25), none, .v (.mov (.t 0))⟩ (tq ⟨(some 26), none, .v (.load (.t 9) (some 7))⟩ (tq ⟨(some 29),
 none, .v (.off (.t 7) 1)⟩ (tq ⟨(some 31), none, .v (.mov (.t 0))⟩ (.op o76_6 (.op o76_7 (tq o76_8 (.op o76_9 (tq o76_10 (tq o76_11 (tq o76_12 (tq o76_13
 (tq o76_14 (tq o76_15 (tq o76_16 .leaf))))))) (tq o76_11 (.op o76_9 (tq o76_10 (tq o76_12 (tq o76_13 (tq o76_14 (tq o76_15 (tq o76_16 .leaf)))))) (tq o76_12
 (tq o76_9 (tq o76_13 (tq o76_10 (tq o76_14 (tq o76_15 (tq o76_16 .leaf))))))))))) (.op o76_9 (.op o76_7 (tq o76_8 (tq o76_10 (tq o76_11 (tq o76_12 (tq
 o76_13 (tq o76_14 (tq o76_15 (tq o76_16 .leaf)))))))) (tq o76_11 (tq o76_7 (tq o76_8 (tq o76_10 (tq o76_12 (tq o76_13 (tq o76_14 (tq o76_15 (tq o76_16
 .leaf)))))))))) (tq o76_11 (.op o76_7 (tq o76_8 (.op o76_9 (tq o76_10 (tq o76_12 (tq o76_13 (tq o76_14 (tq o76_15 (tq o76_16 .leaf)))))) (tq o76_12 (tq
 o76_9 (tq o76_13 (tq o76_10 (tq o76_14 (tq o76_15 (tq o76_16 .leaf))))))))) (tq o76_9 (tq o76_7 (tq o76_8 (tq o76_10 (tq o76_12 (tq o76_13 (tq o76_14 (tq
 o76_15 (tq o76_16 .leaf))))))))))))) (.op o76_7 (.op o76_6 (tq o76_8 (.op o76_9 (tq o76_10 (tq o76_11 (tq o76_12 (tq o76_13 (tq o76_14 (tq o76_15 (tq o76_16
 .leaf))))))) (tq o76_11 (.op o76_9 (tq o76_10 (tq o76_12 (tq o76_13 (tq o76_14 (tq o76_15 (tq o76_16 .leaf)))))) (tq o76_12 (tq o76_9 (tq o76_13 (tq o76_10
 (tq o76_14 (tq o76_15 (tq o76_16 .leaf))))))))))) (.op o76_9 (.op o76_6 (tq o76_8 (tq o76_10 (tq o76_11 (tq o76_12 (tq o76_13 (tq o76_14 (tq o76_15 (tq
 o76_16 .leaf)))))))) (tq o76_11 (.op o76_6 (tq o76_8 (tq o76_10 (tq o76_12 (tq o76_13 (tq o76_14 (tq o76_15 (tq o76_16 .leaf))))))) (tq o76_12 (tq o76_13
 (tq o76_6 (tq o76_8 (tq o76_10 (tq o76_14 (tq o76_15 (tq o76_16 .leaf))))))))))) (tq o76_11 (.op o76_6 (tq o76_8 (.op o76_9 (tq o76_10 (tq o76_12 (tq o76_13
 (tq o76_14 (tq o76_15 (tq o76_16 .leaf)))))) (tq o76_12 (tq o76_9 (tq o76_13 (tq o76_10 (tq o76_14 (tq o76_15 (tq o76_16 .leaf))))))))) (.op o76_9 (.op
 o76_6 (tq o76_8 (tq o76_10 (tq o76_12 (tq o76_13 (tq o76_14 (tq o76_15 (tq o76_16 .leaf))))))) (tq o76_12 (tq o76_13 (tq o76_6 (tq o76_8 (tq o76_10 (tq
 o76_14 (tq o76_15 (tq o76_16 .leaf))))))))) (tq o76_12 (.op o76_6 (tq o76_8 (tq o76_9 (tq o76_13 (tq o76_10 (tq o76_14 (tq o76_15 (tq o76_16 .leaf)))))))
 (tq o76_9 (tq o76_13 (tq o76_6 (tq o76_8 (tq o76_10 (tq o76_14 (tq o76_15 (tq o76_16 .leaf))))))))))))))) (.op o76_9 (.op o76_6 (.op o76_7 (tq o76_8 (tq
 o76_10 (tq o76_11 (tq o76_12 (tq o76_13 (tq o76_14 (tq o76_15 (tq o76_16 .leaf)))))))) (tq o76_11 (tq o76_7 (tq o76_8 (tq o76_10 (tq o76_12 (tq o76_13
 (tq o76_14 (tq o76_15 (tq o76_16 .leaf)))))))))) (.op o76_7 (.op o76_6 (tq o76_8 (tq o76_10 (tq o76_11 (tq o76_12 (tq o76_13 (tq o76_14 (tq o76_15 (tq
 o76_16 .leaf)))))))) (tq o76_11 (.op o76_6 (tq o76_8 (tq o76_10 (tq o76_12 (tq o76_13 (tq o76_14 (tq o76_15 (tq o76_16 .leaf))))))) (tq o76_12 (tq o76_13
 (tq o76_6 (tq o76_8 (tq o76_10 (tq o76_14 (tq o76_15 (tq o76_16 .leaf))))))))))) (tq o76_11 (.op o76_6 (tq o76_7 (tq o76_8 (tq o76_10 (tq o76_12 (tq o76_13
 (tq o76_14 (tq o76_15 (tq o76_16 .leaf)))))))) (tq o76_7 (.op o76_6 (tq o76_8 (tq o76_10 (tq o76_12 (tq o76_13 (tq o76_14 (tq o76_15 (tq o76_16 .leaf)))))))
 (tq o76_12 (tq o76_13 (tq o76_6 (tq o76_8 (tq o76_10 (tq o76_14 (tq o76_15 (tq o76_16 .leaf)))))))))))))) (tq o76_11 (.op o76_6 (.op o76_7 (tq o76_8 (.op
 o76_9 (tq o76_10 (tq o76_12 (tq o76_13 (tq o76_14 (tq o76_15 (tq o76_16 .leaf)))))) (tq o76_12 (tq o76_9 (tq o76_13 (tq o76_10 (tq o76_14 (tq o76_15 (tq
 o76_16 .leaf))))))))) (tq o76_9 (tq o76_7 (tq o76_8 (tq o76_10 (tq o76_12 (tq o76_13 (tq o76_14 (tq o76_15 (tq o76_16 .leaf)))))))))) (.op o76_7 (.op o76_6
 (tq o76_8 (.op o76_9 (tq o76_10 (tq o76_12 (tq o76_13 (tq o76_14 (tq o76_15 (tq o76_16 .leaf)))))) (tq o76_12 (tq o76_9 (tq o76_13 (tq o76_10 (tq o76_14
 (tq o76_15 (tq o76_16 .leaf))))))))) (.op o76_9 (.op o76_6 (tq o76_8 (tq o76_10 (tq o76_12 (tq o76_13 (tq o76_14 (tq o76_15 (tq o76_16 .leaf))))))) (tq
 o76_12 (tq o76_13 (tq o76_6 (tq o76_8 (tq o76_10 (tq o76_14 (tq o76_15 (tq o76_16 .leaf))))))))) (tq o76_12 (.op o76_6 (tq o76_8 (tq o76_9 (tq o76_13 (tq
 o76_10 (tq o76_14 (tq o76_15 (tq o76_16 .leaf))))))) (tq o76_9 (tq o76_13 (tq o76_6 (tq o76_8 (tq o76_10 (tq o76_14 (tq o76_15 (tq o76_16 .leaf))))))))))))
 (tq o76_9 (.op o76_6 (tq o76_7 (tq o76_8 (tq o76_10 (tq o76_12 (tq o76_13 (tq o76_14 (tq o76_15 (tq o76_16 .leaf)))))))) (tq o76_7 (.op o76_6 (tq o76_8
 (tq o76_10 (tq o76_12 (tq o76_13 (tq o76_14 (tq o76_15 (tq o76_16 .leaf))))))) (tq o76_12 (tq o76_13 (tq o76_6 (tq o76_8 (tq o76_10 (tq o76_14 (tq o76_15
 (tq o76_16 .leaf))))))))))))))))))))))))))
  (.reg [⟨(some 37), none, .v (.bin .add (.t 19) (.c (.int .i64 (1))))⟩,
   ⟨(some 19), none, .v (.mov (.t 37))⟩])))))))
 (.seq (.reg [⟨(some 38), none, .v (.load (.t 7) (some 2))⟩,
  ⟨none, none, .store 2 (.t 6) (.t 38)⟩])
 .ret))))
def r76 : List RV := [.c 6 (some 2)]
theorem k76 : (Try.f35.body.bind (cC Try.prog), cR Try.prog Try.f35.results.toList, Try.f35.ntmps) = (some s76, some r76, 39) := by kernel_rfl
theorem q76 : Known Try.prog 35 := ⟨_, Try.func35, by decide, by simp [Try.f35]⟩
def s49 : SC :=
 (.seq (.reg [⟨(some 3), none, .box 58 (.t 0)⟩,
  ⟨(some 4), none, .box 3 (.t 1)⟩,
  ⟨(some 5), none, .box 3 (.t 2)⟩,
  ⟨(some 6), none, .new 25 [(.int .i64 (0)), (.int .i64 (0))]⟩])
 (.seq (.reg [⟨(some 8), none, .v (.mkfn 33 [(.t 5), (.t 4)])⟩,
  ⟨(some 7), none, .v (.mov (.t 8))⟩])
 (.seq (.drw [(0, ⟨(some 9), none, .v (.mov (.t 7))⟩, false),
  (1, ⟨(some 10), none, .v (.load (.t 3) (some 6))⟩, false),
  (2, ⟨(some 11), none, .call (.c (.fn 36 [])) [(.t 10)]⟩, false),
  (3, ⟨(some 12), none, .v (.load (.t 3) (some 6))⟩, false),
  (4, ⟨(some 13), none, .call (.c (.fn 37 [])) [(.t 12)]⟩, false)]
  (some ⟨(some 14), none, .bsl 76 1 [(.lit (.slice none 0 0)), (.lit (.slice none 0 0)), (.int .i64 (0)), (.int .i64 (0)), (.int .i64 (0)), (.int .i64 (0)), (.lit .nilFunc)] [(0, 7, (.t 13))]⟩)
  [⟨(some 15), none, .call (.c (.fn 35 [])) [(.t 9), (.t 11), (.t 14)]⟩,
  ⟨none, none, .store 2 (.t 6) (.t 15)⟩])
 .ret)))
def r49 : List RV := [.c 6 (some 2)]
theorem k49 : (Try.f21.body.bind (cC Try.prog), cR Try.prog Try.f21.results.toList, Try.f21.ntmps) = (some s49, some r49, 16) := by kernel_rfl
theorem q49 : Known Try.prog 21 := ⟨_, Try.func21, by decide, by simp [Try.f21]⟩
def s14 : SC :=
 (.seq (.reg [⟨(some 3), none, .box 27 (.t 0)⟩,
  ⟨(some 6), none, .new 25 [(.int .i64 (0)), (.int .i64 (0))]⟩,
  ⟨(some 7), none, .v (.mov (.c (.int .i64 (0))))⟩])
 (.seq (.seq (.reg [⟨(some 10), none, .v (.load (.t 3) (some 6))⟩,
  ⟨(some 11), none, .call (.c (.fn 9 [])) [(.t 10)]⟩,
  ⟨(some 8), none, .v (.mov (.t 11))⟩])
 (.seq (.reg [⟨(some 12), none, .v (.mov (.t 8))⟩,
  ⟨(some 13), none, .v (.bin .neq (.t 12) (.c (.int .i64 (0))))⟩])
 (.cond (.t 13)
  (.seq (.reg [⟨(some 14), none, .bld [(.int .i64 (0)), (.int .i64 (0))] []⟩,
   ⟨(some 15), none, .v (.mov (.t 8))⟩,
   ⟨none, none, .store 2 (.t 6) (.t 14)⟩,
   ⟨(some 7), none, .v (.mov (.t 15))⟩])
  .ret)
  .skip)))
 (.seq (.reg [⟨(some 16), none, .v (.load (.t 3) (some 6))⟩,
  ⟨(some 17), none, .bld [(.lit (.slice none 0 0)), (.lit (.slice none 0 0)), (.int .i64 (0)), (.int .i64 (0)), (.int .i64 (0)), (.int .i64 (0))] [(0, 6, (.t 16))]⟩,
  ⟨(some 9), none, .new 58 [(.lit (.slice none 0 0)), (.lit (.slice none 0 0)), (.int .i64 (0)), (.int .i64 (0)), (.int .i64 (0)), (.int .i64 (0))]⟩,
  ⟨none, none, .store 6 (.t 9) (.t 17)⟩])
 (.seq (.seq (.drw [(0, ⟨(some 18), none, .v (.mov (.t 1))⟩, false),
  (1, ⟨(some 19), none, .v (.load (.t 9) (some 6))⟩, false),
  (2, ⟨(some 20), none, .call (.c (.fn 19 [])) [(.t 19)]⟩, false),
  (3, ⟨(some 21), none, .v (.load (.t 9) (some 6))⟩, false),
  (4, ⟨(some 22), none, .call (.c (.fn 20 [])) [(.t 21)]⟩, false)]
  none
  [⟨(some 23), none, .call (.c (.fn 18 [])) [(.t 18), (.t 20), (.t 22)]⟩,
  ⟨(some 24), none, .v (.not (.t 23))⟩,
  ⟨(some 25), none, .v (.mov (.t 24))⟩,
  ⟨(some 26), (some (25, false)), .v (.mov (.t 2))⟩,
  ⟨(some 27), (some (25, false)), .call (.c (.fn 18 [])) [(.t 26), (.c (.int .i64 (0))), (.c (.int .i64 (59)))]⟩,
  ⟨(some 28), (some (25, false)), .v (.not (.t 27))⟩,
  ⟨(some 29), none, .v (.pick (.t 25) (.c (.lit (.bool true))) (.t 28))⟩])
 (.cond (.t 29)
  (.seq (.reg [⟨(some 30), none, .bld [(.int .i64 (0)), (.int .i64 (0))] []⟩,
   ⟨none, none, .store 2 (.t 6) (.t 30)⟩,
   ⟨(some 7), none, .v (.mov (.c (.int .i64 (7))))⟩])
  .ret)
  .skip))
 (.seq (.reg [⟨(some 31), none, .v (.load (.t 9) (some 6))⟩,
  ⟨(some 32), none, .v (.mov (.t 1))⟩,
  ⟨(some 33), none, .v (.mov (.t 2))⟩,
  ⟨(some 34), none, .call (.c (.fn 21 [])) [(.t 31), (.t 32), (.t 33)]⟩,
  ⟨none, none, .store 2 (.t 6) (.t 34)⟩,
  ⟨(some 7), none, .v (.mov (.c (.int .i64 (0))))⟩])
 .ret)))))
def r14 : List RV := [.c 6 (some 2), .t 7]
theorem k14 : (Try.f6.body.bind (cC Try.prog), cR Try.prog Try.f6.results.toList, Try.f6.ntmps) = (some s14, some r14, 35) := by kernel_rfl
theorem q14 : Known Try.prog 6 := ⟨_, Try.func6, by decide, by simp [Try.f6]⟩
theorem ris_ge : ∀ {T : List Int} {l : Int}, risF l T = true → ∀ i, i < T.length → l ≤ T.getD i 0 ∧ T.getD i 0 ≤ 60
 | [], _, _, i, h => by simp at h
 | t :: T, l, h, i, hi => by
  simp only [risF, Bool.and_eq_true, decide_eq_true_eq] at h
  cases i with
  | zero => simpa using h.1
  | succ i =>
   have := ris_ge h.2 i (by simpa using hi)
   simp only [List.getD_cons_succ]
   omega
theorem ris_lt : ∀ {T : List Int} {l : Int}, risF l T = true → ∀ i j, i < j → j < T.length → T.getD i 0 < T.getD j 0
 | [], _, _, i, j, _, h => by simp at h
 | t :: T, l, h, i, j, hij, hj => by
  simp only [risF, Bool.and_eq_true, decide_eq_true_eq] at h
  cases j with
  | zero => omega
  | succ j =>
   cases i with
   | zero =>
    have := ris_ge h.2 j (by simpa using hj)
    simp only [List.getD_cons_succ, List.getD_cons_zero]
    omega
   | succ i =>
    have := ris_lt h.2 i j (by omega) (by simpa using hj)
    simpa using this
theorem ris_tb {T : List Int} (h : risF 0 T = true) (hl : 2 ≤ T.length ∧ T.length ≤ 8) : Tb T := by
 refine ⟨hl, ris_lt h, fun i => ?_⟩
 by_cases hi : i < T.length
 ·exact ris_ge h i hi
 ·have : T.getD i 0 = 0 := by simp [List.getD, Nat.not_lt.1 hi]
  omega
theorem all_get {l h : Int} {L : List (Int × Int)} (ha : L.all (spE l h) = true) {i : Nat} (hi' : i < L.length) : (l ≤ lo L i ∧ lo L i ≤ hi L i) ∧ hi L i ≤ h := by
 rw [List.all_eq_true] at ha
 have := ha _ (getD_memS hi')
 unfold spE at this
 rw [decide_eq_true_eq] at this
 exact this
theorem ends_rb {w : Nat} {R : List (Int × Int)} (ha : R.all (spE (-100000) 100000) = true) : Rb (endsL w R) := by
 intro i
 by_cases hi' : i < R.length
 ·have h := all_get ha hi'
  rw [ends_getD hi']
  unfold lo hi at h
  unfold sel
  split <;> omega
 ·have : (endsL w R).getD i 0 = 0 := by
   have h2 := ends_len (w := w) (L := R)
   simp [List.getD, show (endsL w R).length ≤ i by omega]
  omega
theorem Ck.eo {c : Ck} (h : c.ok) {w : Nat} (hw : w = 56 ∨ w = 57) : Eo c.T c.R c.a c.b w := by
 obtain ⟨⟨h1, h2, h3, h4⟩, h5, h6⟩ := h
 exact ⟨hw, by omega, ris_tb h2 (by omega), ends_rb h4, by omega⟩
theorem Ck.sf {c : Ck} (h : c.ok) {x d : Int} (hx : At c.T x) (hd : 0 ≤ d) : rte c.T c.R c.a c.b 56 x d ≤ rte c.T c.R c.a c.b 57 x d := by
 have hT := (c.eo h (w := 56) (.inl rfl)).tb
 have h3 := h.1.2.2.1
 have h4 := h.1.2.2.2
 have m := itp_mono (R := endsL 56 c.R) (R' := endsL 57 c.R) hT hx fun i hi' => by
  rw [ends_getD (by omega), ends_getD (by omega)]
  have := (all_get h4 (show i < c.R.length by omega)).1.2
  unfold lo hi at this
  simpa [sel] using this
 have hab := h.2.1.1.2
 have n := Int.mul_le_mul_of_nonneg_right hab hd
 unfold rte
 have s1 : sel 56 (c.a, c.b) = c.a := rfl
 have s2 : sel 57 (c.a, c.b) = c.b := rfl
 rw [s1, s2]
 omega
def C76 : PC := fun args K => ∃ (c : Ck) (d x : Int) (g : Nat → List SV), args = [.fn 33 [.rp [.int .i64 d] 0, .rp [.int .i64 x] 0], .agg [.ints .i64 c.T, .rd 2 c.R.length (rowsS c.R), .int .i64 c.a, .int .i64 c.b, .int .i64 c.e, .int .i64 c.g, .fn 56 []], .rd 7 1 g] ∧
 g 0 = [.ints .i64 c.T, .rd 2 c.R.length (rowsS c.R), .int .i64 c.a, .int .i64 c.b, .int .i64 c.e, .int .i64 c.g, .fn 57 []] ∧ c.ok ∧ At c.T x ∧ (0 ≤ d ∧ d ≤ 60) ∧
 K (.agg [.int .i64 (rte c.T c.R c.a c.b 56 x d), .int .i64 (rte c.T c.R c.a c.b 57 x d)])
theorem p76 : PureOk Try.prog 35 C76 := by
 refine pure_of (T := [(33, .fc F74)]) ⟨⟨p74, q74⟩, trivial⟩ Try.func35 k76 ?_
 rintro args K ⟨c, d, x, g, rfl, hg, hok, hx, hd, hK⟩
 have h1 := c.eo hok (w := 56) (.inl rfl)
 have h2 := c.eo hok (w := 57) (.inr rfl)
 have hsf := c.sf hok hx hd.1
 obtain ⟨T, R, a, b, e, gg⟩ := c
 simp only at h1 h2 hsf hK hg hx
 simp (maxSteps := 3000000) only [↓reduceIte, e_reg, e_tre, t_leaf, t_stop, t_op, and_self, e_seq, e_block, e_loop, o_nil, o_cons, gd_none, putK_e, runK_e, vK_e, boxK_e, bldK_e, storeK3_e, storeK2_e, storeK_e, conK_e, callK_e, evh_v, evh_new, evh_box, evh_bld, evh_store, evh_call, seqK_n, gam_e, gamK_f, pc_e, pcK_e, fcC_e, fcK_e, evp, gt, st, putf, X.get, gets, getp, ap, mkfr, rep, clV, clL, clS, clo, ld, lda, lens, tk, dr, sp, sp.spl, lay, ll, cs1, one, allOne, gb, sb, pb, ln, lk, Value.oneCell', undef, Bool.and_true, Nat.reduceSub, Nat.reduceAdd, beq_self_eq_true, true_and, and_true, s76, tq, o76_0, o76_1, o76_2, o76_3, o76_4, o76_5, o76_6, o76_7, o76_8, o76_9, o76_10, o76_11, o76_12, o76_13, o76_14, o76_15, o76_16, r76, F74, Tof_rows]
 have hE : (∃ R_1, R.length = R_1.length ∧ rowsS R = rowsS R_1) := ⟨R, rfl, rfl⟩
 repeat' (first | exact hE | exact h1 | exact h2 | exact hx | omega | apply And.intro)
 all_goals
  generalize hs : rte T R a b 56 x d = s at *
  generalize hq : rte T R a b 57 x d = q at *
  refine loop_at2 (G := Nat) (fun i => [(19, .int .i64 i)]) (fun i => [.box 76 [.ints .i64 T, .rd 2 R.length (rowsS R), .int .i64 a, .int .i64 b, .int .i64 e, .int .i64 gg, .fn 56 []], .box 25 [.int .i64 0, .int .i64 0], .box 25 [.int .i64 s, .int .i64 (if i = 0 then s else q)]]) (fun i => i ≤ 1) (fun i => 1 - i) 0 (Nat.zero_le _) ?_
  (intro fr1 hf1; simp only [forget, dstC, dstT, dstO, dst1, st] at hf1; subst hf1)
  refine ⟨?_, ?_⟩
  ·refine Lw_re 3 [] (Nat.zero_le _) (by simp [ln]) (by simp [ln]) rfl ?_ ?_
   ·simp only [reL, reX, inb, inb.inbs, ln, sts, st, Bool.and_self, Nat.reduceLT, Nat.reduceAdd, decide_true, and_self, Int.natCast_zero, implies_true]
   ·simp only [reL, reX, reH, reB, reN, inb, inb.inbs, true_and, and_true, and_self, implies_true]
    simp
  ·intro i hi
   rcases (show i = 0 ∨ i = 1 by omega) with rfl | rfl
   ·have n0 : ((0 : Int) < ((1 : Nat) : Int)) = True := by simp
    have n1 : (q < s) = False := by simp; omega
    have n2 : (if s < q then q else s) = q := by split <;> omega
    simp (maxSteps := 3000000) only [condK_bt, decide_true, inr64, ↓reduceIte, e_skip, e_reg, e_tre, t_leaf, t_stop, t_op, and_self, e_seq, e_cond, e_block, o_nil, o_cons, gd_none, putK_e, runK_e, vK_e, storeK3_e, storeK2_e, storeK_e, conK_e, callK_e, evh_v, evh_new, evh_store, evh_call, loopK_n, seqK_n, blockK_n, gam_e, gamK_f, pc_e, pcK_e, fcC_e, fcK_e, evp, bin, gt, gq, st, putf, X.get, gets, ap, clV, clL, clS, clo, ld, lda, ixs, tk, dr, sp, sp.spl, ll, cs1, one, allOne, gb, sb, pb, ln, lk, Bool.and_true, Nat.reduceSub, Nat.reduceAdd, beq_self_eq_true, true_and, and_true, sts, n0, Int.natCast_zero, Int.toNat_zero, hg, F74, Tof_rows, hq, n1, n2]
    repeat' (first | exact hE | exact h1 | exact h2 | exact hx | omega | apply And.intro)
    all_goals
     refine Nx.mk 1 (by omega) (by omega) (Lw_re 3 [] (Nat.zero_le _) (by simp [ln]) (by simp [ln]) rfl ?_ ?_)
     ·simp only [reL, reX, inb, inb.inbs, Bool.and_self, Nat.reduceLT, decide_true, and_self, Int.natCast_one, implies_true, Int.zero_add]
     ·simp only [reL, reX, reH, reB, reN, reduceCtorEq, inb, inb.inbs, true_and, and_true, and_self, implies_true]
      simp
   ·have n0 : (((1 : Nat) : Int) < ((1 : Nat) : Int)) = False := by simp
    simp only [condK_bf, decide_false, ↓reduceIte, reduceCtorEq, e_reg, and_self, e_seq, e_cond, e_exit, e_ret, o_nil, o_cons, gd_none, putK_e, runK_e, vK_e, storeK3_e, storeK2_e, storeK_e, evh_v, evh_store, loopK_x, seqK_n, seqK_x, exitK_t, blockK_x, ends_r, endK1_e, endK2_e, evp, bin, gt, st, putf, X.get, rdR, tupled, clV, clL, clS, clo, ld, lda, tk, dr, sp, sp.spl, ll, cs1, one, allOne, gb, sb, Bool.and_true, Nat.reduceSub, Nat.reduceAdd, beq_self_eq_true, true_and, sts, n0]
    exact res hK (by simp [leR, leR.leRs])
def C49 : PC := fun args K => ∃ (c : Ck) (x d : Int), args = [c.sv, .int .i64 x, .int .i64 d] ∧ c.ok ∧ At c.T x ∧ (0 ≤ d ∧ d ≤ 60) ∧ K (.agg [.int .i64 (rte c.T c.R c.a c.b 56 x d), .int .i64 (rte c.T c.R c.a c.b 57 x d)])
theorem p49 : PureOk Try.prog 21 C49 := by
 refine pure_of (T := [(35, .pc C76), (36, .fc F77), (37, .fc F78)]) ⟨⟨p76, q76⟩, ⟨p77, q77⟩, ⟨p78, q78⟩, trivial⟩ Try.func21 k49 ?_
 rintro args K ⟨c, x, d, rfl, hok, hx, hd, hK⟩
 simp only [Ck.sv]
 simp only [↓reduceIte, e_reg, e_drw, e_seq, o_nil, o_cons, gd_none, putK_e, runK_e, vK_e, boxK_e, conK_e, callK_e, evh_v, evh_new, evh_box, evh_store, evh_call, dX_e, dG_t, d_nil, d_cons, creK_e, tlK_s, evc_e, seqK_n, gam_e, gamK_p, gamq_e, gamqK_f, pc_e, pcK_e, evp, gt, st, putf, X.get, gets, getp, ap, mkfr, rep, clV, clL, clS, clo, clo.clos, ld, lda, tk, dr, sp, sp.spl, lay, ll, cs1, one, gb, sb, pb, ln, lk, evq, gdl, crv, Value.oneCell', undef, Bool.and_true, Nat.reduceSub, Nat.reduceAdd, Nat.reduceMul, Nat.reduceDiv, Nat.reduceBEq, beq_self_eq_true, true_and, s49, r49, F77, F78, toInts, Nat.reduceDiv, Nat.reduceMul]
 refine ⟨c, d, x, _, rfl, rfl, hok, hx, hd, ?_⟩
 simp only [and_self, e_ret, o_nil, putK_e, storeK3_e, storeK2_e, storeK_e, seqK_n, ends_r, endK1_e, endK2_e, gt, putf, rdR, tupled, clV, clL, clS, clo, ld, tk, dr, sp, sp.spl, ll, one, allOne, gb, sb, Bool.and_true, Nat.reduceAdd, true_and]
 exact res hK (by simp [leR, leR.leRs])
instance (T : List Int) (x : Int) : Decidable (At T x) := by unfold At; infer_instance
def rtE (c : Ck) (x d : Int) : Int := if c.ok then if At c.T x ∧ 0 ≤ d ∧ d ≤ 59 then 0 else 7 else 70
def rtR (c : Ck) (x d : Int) : Int × Int := if c.ok ∧ At c.T x ∧ 0 ≤ d ∧ d ≤ 59 then (rte c.T c.R c.a c.b 56 x d, rte c.T c.R c.a c.b 57 x d) else (0, 0)
def C14 : PC := fun args K => ∃ (c : Ck) (x d : Int), args = [c.sv, .int .i64 x, .int .i64 d] ∧ K (.tup [.agg [.int .i64 (rtR c x d).1, .int .i64 (rtR c x d).2], .int .i64 (rtE c x d)])
theorem p14 : PureOk Try.prog 6 C14 := by
 refine pure_of (T := [(9, .pc C16), (18, .fc Fin), (19, .fc Fcold), (20, .fc Fwarm), (21, .pc C49)]) ⟨⟨p16, q16⟩, ⟨p46, q46⟩, ⟨p47, q47⟩, ⟨p48, q48⟩, ⟨p49, q49⟩, trivial⟩ Try.func6 k14 ?_
 rintro args K ⟨c, x, d, rfl, hK⟩
 have hsv : c.sv = .agg [.ints .i64 c.T, .rd 2 c.R.length (rowsS c.R), .int .i64 c.a, .int .i64 c.b, .int .i64 c.e, .int .i64 c.g] := rfl
 rw [hsv]
 simp only [e_reg, e_seq, o_nil, o_cons, gd_none, putK_e, runK_e, vK_e, boxK_e, conK_e, callK_e, evh_v, evh_new, evh_box, evh_call, seqK_n, gam_e, gamK_p, pc_e, pcK_e, evp, bin, gt, st, putf, X.get, gets, ap, mkfr, rep, clV, clL, clS, clo, ld, lda, tk, dr, cs1, gb, pb, ln, lk, undef, Nat.reduceSub, Nat.reduceAdd, beq_self_eq_true, true_and, s14, r14]
 refine ⟨c, rfl, ?_⟩
 by_cases hok : c.ok
 ·have h1 : c.chk = 0 := by simp [Ck.chk, hok]
  have hl := (c.eo hok (w := 56) (.inl rfl)).tb.len
  by_cases hx : At c.T x
  ·have hx2 : (c.T.getD 0 0 ≤ x ∧ x ≤ c.T.getD (c.T.length - 1) 0) = True := eq_true hx
   by_cases hd : 0 ≤ d ∧ d ≤ 59
   ·have hd2 : (0 ≤ d ∧ d ≤ 59) = True := eq_true hd
    have e1 : rtR c x d = (rte c.T c.R c.a c.b 56 x d, rte c.T c.R c.a c.b 57 x d) := if_pos ⟨hok, hx, hd⟩
    have e2 : rtE c x d = 0 := by simp [rtE, hok, hx, hd]
    rw [e1, e2] at hK
    simp only [gdK_bff, condK_bf, decide_true, e_skip, e_reg, and_self, e_drw, e_seq, e_cond, o_nil, o_cons, gd_none, gd_some, gdK_ff, putK_e, runK_e, vK_e, bldK_e, storeK3_e, storeK2_e, storeK_e, conK_e, callK_e, evh_v, evh_new, evh_bld, evh_store, evh_call, dX_e, dG_t, d_nil, d_cons, tlK_n, seqK_n, gam_e, gamK_f, gamK_p, gamq_e, gamqK_f, pc_e, pcK_e, fcC_e, fcK_e, evp, gt, st, putf, X.get, gets, getp, ap, clV, clL, clS, clo, clo.clos, ld, lda, tk, dr, sp, sp.spl, lay, ll, cs1, one, allOne, gb, sb, pb, ln, lk, evq, gdl, Value.oneCell', Bool.and_true, Bool.not_true, Nat.reduceAdd, Nat.reduceBEq, beq_self_eq_true, true_and, h1, Fcold, Fwarm, Fin, hx2, hd2]
    refine ⟨by omega, by omega, c, x, d, rfl, hok, hx, by omega, ?_⟩
    simp only [and_self, e_ret, o_nil, o_cons, gd_none, putK_e, runK_e, vK_e, storeK3_e, storeK2_e, storeK_e, evh_v, seqK_n, ends_r, endK1_e, endK2_e, evp, gt, st, putf, X.get, rdR, tupled, clV, clL, clS, clo, ld, tk, dr, sp, sp.spl, ll, one, allOne, gb, sb, Bool.and_true, Nat.reduceAdd, true_and]
    exact res hK (by simp [leR, leR.leRs])
   ·have hd2 : (0 ≤ d ∧ d ≤ 59) = False := eq_false hd
    have e1 : rtR c x d = (0, 0) := if_neg fun h => hd h.2.2
    have e2 : rtE c x d = 7 := by simp [rtE, hok, hd2]
    rw [e1, e2] at hK
    simp only [gdK_bff, condK_bt, condK_bf, decide_true, decide_false, e_skip, e_reg, and_self, e_drw, e_seq, e_cond, e_ret, o_nil, o_cons, gd_none, gd_some, gdK_ff, putK_e, runK_e, vK_e, bldK_e, storeK3_e, storeK2_e, storeK_e, conK_e, callK_e, evh_v, evh_new, evh_bld, evh_store, evh_call, dX_e, dG_t, d_nil, d_cons, tlK_n, seqK_n, seqK_r, ends_r, endK1_e, endK2_e, gam_e, gamK_f, gamq_e, gamqK_f, pc_e, pcK_e, fcC_e, fcK_e, evp, gt, st, putf, X.get, gets, getp, ap, rdR, tupled, clV, clL, clS, clo, clo.clos, ld, lda, tk, dr, sp, sp.spl, lay, ll, cs1, one, allOne, gb, sb, pb, ln, lk, evq, gdl, Bool.and_true, Bool.not_true, Bool.not_false, Nat.reduceAdd, Nat.reduceBEq, beq_self_eq_true, true_and, h1, Fcold, Fwarm, Fin, hx2, hd2]
    exact ⟨by omega, by omega, res hK (by simp [leR, leR.leRs])⟩
  ·have hx2 : (c.T.getD 0 0 ≤ x ∧ x ≤ c.T.getD (c.T.length - 1) 0) = False := eq_false hx
   have e1 : rtR c x d = (0, 0) := if_neg fun h => hx h.2.1
   have e2 : rtE c x d = 7 := by simp [rtE, hok, hx]
   rw [e1, e2] at hK
   simp only [gdK_bft, condK_bf, decide_true, decide_false, e_skip, e_reg, and_self, e_drw, e_seq, e_cond, e_ret, o_nil, o_cons, gd_none, gd_some, gdK_tf, putK_e, runK_e, skipK_e, vK_e, bldK_e, storeK3_e, storeK2_e, storeK_e, conK_e, callK_e, evh_v, evh_new, evh_bld, evh_store, evh_call, dX_e, dG_t, d_nil, d_cons, tlK_n, seqK_n, seqK_r, condK_t, ends_r, endK1_e, endK2_e, gam_e, gamK_f, gamq_e, gamqK_f, pc_e, pcK_e, fcC_e, fcK_e, evp, gt, st, putf, X.get, gets, getp, ap, rdR, tupled, clV, clL, clS, clo, clo.clos, ld, lda, tk, dr, sp, sp.spl, lay, ll, cs1, one, allOne, gb, sb, pb, ln, lk, evq, gdl, undef, Bool.and_true, Bool.not_true, Bool.not_false, Nat.reduceAdd, Nat.reduceBEq, beq_self_eq_true, true_and, h1, Fcold, Fwarm, Fin, hx2]
   exact ⟨by omega, by omega, res hK (by simp [leR, leR.leRs])⟩
 ·have h1 : c.chk = 70 := by simp [Ck.chk, hok]
  have e1 : rtR c x d = (0, 0) := if_neg fun h => hok h.1
  have e2 : rtE c x d = 70 := by simp [rtE, hok]
  have h70 : ((70 : Int) = 0) = False := by simp
  rw [e1, e2] at hK
  simp only [condK_bt, decide_false, e_reg, and_self, e_seq, e_cond, e_ret, o_nil, o_cons, gd_none, putK_e, runK_e, vK_e, bldK_e, storeK3_e, storeK2_e, storeK_e, evh_v, evh_bld, evh_store, seqK_n, seqK_r, ends_r, endK1_e, endK2_e, evp, gt, st, putf, X.get, getp, rdR, tupled, clV, clL, clS, clo, ld, tk, dr, sp, sp.spl, lay, ll, cs1, one, allOne, gb, sb, Bool.and_true, Bool.not_false, Nat.reduceAdd, true_and, h1, h70]
  exact res hK (by simp [leR, leR.leRs])
end Go.Proofs.Ytlegfejimphfbaa
end
