import Derived.Test.YtplldhepmmjmmaaVgTP2
namespace Go.Proofs.Ytplldhepmmjmmaa
open Go Go.Vg
set_option linter.unusedSimpArgs false
set_option linter.unusedVariables false
set_option maxRecDepth 10000
def s26 : SC :=
 (.seq (.reg [⟨(some 2), none, .box 70 (.t 0)⟩,
  ⟨(some 3), none, .box 74 (.t 1)⟩,
  ⟨(some 4), none, .v (.mov (.c (.lit (.slice none 0 0))))⟩])
 (.seq (.reg [⟨(some 5), none, .v (.mov (.c (.lit (.slice none 0 0))))⟩])
 (.seq (.seq (.reg [⟨(some 10), none, .v (.off (.t 2) 0)⟩,
  ⟨(some 11), none, .v (.off (.t 10) 0)⟩,
  ⟨(some 12), none, .v (.load (.t 11) none)⟩,
  ⟨(some 13), none, .v (.len (.t 12))⟩,
  ⟨(some 14), none, .v (.mov (.c (.int .i64 (0))))⟩])
 (.block 0 (.loop
  (.seq (.reg [⟨(some 15), none, .v (.bin .lss (.t 14) (.t 13))⟩])
  (.seq (.cond (.t 15)
   .skip
   (.exit 0))
  (.seq (.block 1 (.seq (.reg [⟨(some 16), none, .v (.mov (.t 14))⟩,
   ⟨(some 17), none, .v (.ixa (.t 12) (.t 14) 1)⟩,
   ⟨(some 18), none, .v (.load (.t 17) none)⟩,
   ⟨(some 6), none, .v (.mov (.t 16))⟩,
   ⟨(some 7), none, .v (.mov (.t 18))⟩])
  (.seq (.reg [⟨(some 8), none, .v (.mov (.c (.lit (.slice none 0 0))))⟩])
  (.seq (.seq (.reg [⟨(some 19), none, .v (.mov (.t 7))⟩,
   ⟨(some 20), none, .v (.bin .add (.t 19) (.c (.int .i64 (1))))⟩,
   ⟨(some 21), none, .v (.mov (.c (.int .i64 (0))))⟩])
  (.block 2 (.loop
   (.seq (.reg [⟨(some 22), none, .v (.bin .lss (.t 21) (.t 20))⟩])
   (.seq (.cond (.t 22)
    .skip
    (.exit 2))
   (.seq (.block 3 (.seq (.reg [⟨(some 23), none, .v (.mov (.t 21))⟩,
    ⟨(some 9), none, .v (.mov (.t 23))⟩])
   (.reg [⟨(some 24), none, .v (.mov (.t 8))⟩,
    ⟨(some 25), none, .v (.mov (.t 6))⟩,
    ⟨(some 26), none, .v (.mov (.t 9))⟩,
    ⟨(some 27), none, .call (.c (.fn 47 [])) [(.t 25), (.t 26)]⟩,
    ⟨(some 28), none, .v (.ixarr (.t 3) (.t 27) 36 2)⟩,
    ⟨(some 29), none, .v (.load (.t 28) (some 2))⟩,
    ⟨(some 30), none, .bsl 31 1 [(.int .i64 (0)), (.int .i64 (0))] [(0, 2, (.t 29))]⟩,
    ⟨(some 31), none, .app 31 2 16 (.t 24) (.t 30)⟩,
    ⟨(some 8), none, .v (.mov (.t 31))⟩])))
   (.reg [⟨(some 32), none, .v (.bin .add (.t 21) (.c (.int .i64 (1))))⟩,
    ⟨(some 21), none, .v (.mov (.t 32))⟩])))))))
  (.reg [⟨(some 33), none, .v (.mov (.t 5))⟩,
   ⟨(some 34), none, .v (.mov (.t 8))⟩,
   ⟨(some 35), none, .v (.mov (.t 8))⟩,
   ⟨(some 36), none, .v (.len (.t 35))⟩,
   ⟨(some 37), none, .v (.mov (.t 8))⟩,
   ⟨(some 38), none, .v (.len (.t 37))⟩,
   ⟨(some 39), none, .slc (.t 34) none (some (.t 36)) (some (.t 38)) 2⟩,
   ⟨(some 40), none, .bsl 40 1 [(.lit (.slice none 0 0))] [(0, 1, (.t 39))]⟩,
   ⟨(some 41), none, .app 40 1 24 (.t 33) (.t 40)⟩,
   ⟨(some 5), none, .v (.mov (.t 41))⟩])))))
  (.reg [⟨(some 42), none, .v (.bin .add (.t 14) (.c (.int .i64 (1))))⟩,
   ⟨(some 14), none, .v (.mov (.t 42))⟩])))))))
 (.seq (.reg [⟨(some 43), none, .v (.mov (.t 5))⟩,
  ⟨(some 44), none, .v (.mov (.t 5))⟩,
  ⟨(some 45), none, .v (.len (.t 44))⟩,
  ⟨(some 46), none, .v (.mov (.t 5))⟩,
  ⟨(some 47), none, .v (.len (.t 46))⟩,
  ⟨(some 48), none, .slc (.t 43) none (some (.t 45)) (some (.t 47)) 1⟩,
  ⟨(some 4), none, .v (.mov (.t 48))⟩])
 .ret))))
def r26 : List RV := [.t 4]
theorem k26 : (Try.f26.body.bind (cC Try.prog), cR Try.prog Try.f26.results.toList, Try.f26.ntmps) = (some s26, some r26, 49) := by kernel_rfl
theorem q26 : Known Try.prog 26 := ⟨_, Try.func26, by decide, by simp [Try.f26]⟩
def s13 : SC :=
 (.seq (.reg [⟨(some 2), none, .box 24 (.t 0)⟩,
  ⟨(some 4), none, .v (.mov (.c (.lit (.slice none 0 0))))⟩,
  ⟨(some 5), none, .v (.mov (.c (.int .i64 (0))))⟩])
 (.seq (.seq (.reg [⟨(some 10), none, .v (.load (.t 2) (some 2))⟩,
  ⟨(some 11), none, .v (.mov (.t 1))⟩,
  ⟨(some 12), none, .call (.c (.fn 22 [])) [(.t 10), (.t 11)]⟩,
  ⟨(some 6), none, .v (.mov (.t 12))⟩])
 (.seq (.reg [⟨(some 13), none, .v (.mov (.t 6))⟩,
  ⟨(some 14), none, .v (.bin .neq (.t 13) (.c (.int .i64 (0))))⟩])
 (.cond (.t 14)
  (.seq (.reg [⟨(some 15), none, .v (.mov (.t 6))⟩,
   ⟨(some 4), none, .v (.mov (.c (.lit (.slice none 0 0))))⟩,
   ⟨(some 5), none, .v (.mov (.t 15))⟩])
  .ret)
  .skip)))
 (.seq (.reg [⟨(some 16), none, .v (.load (.t 2) (some 2))⟩,
  ⟨(some 17), none, .bld [(.lit (.slice none 0 0)), (.int .i64 (0))] [(0, 2, (.t 16))]⟩,
  ⟨(some 7), none, .new 70 [(.lit (.slice none 0 0)), (.int .i64 (0))]⟩,
  ⟨none, none, .store 2 (.t 7) (.t 17)⟩])
 (.seq (.reg [⟨(some 19), none, .v (.load (.t 7) (some 2))⟩,
  ⟨(some 20), none, .v (.mov (.t 1))⟩,
  ⟨(some 21), none, .call (.c (.fn 25 [])) [(.t 19), (.t 20)]⟩,
  ⟨(some 18), none, .v (.mov (.t 21))⟩,
  ⟨(some 22), none, .v (.ext (.t 18) 0)⟩,
  ⟨(some 23), none, .v (.ext (.t 18) 1)⟩,
  ⟨(some 8), none, .new 74 (List.replicate 72 (.int .i64 (0)))⟩,
  ⟨none, none, .store 72 (.t 8) (.t 22)⟩,
  ⟨(some 9), none, .v (.mov (.t 23))⟩])
 (.seq (.seq (.reg [⟨(some 24), none, .v (.mov (.t 9))⟩,
  ⟨(some 25), none, .v (.not (.t 24))⟩])
 (.cond (.t 25)
  (.seq (.reg [⟨(some 4), none, .v (.mov (.c (.lit (.slice none 0 0))))⟩,
   ⟨(some 5), none, .v (.mov (.c (.int .i64 (4))))⟩])
  .ret)
  .skip))
 (.seq (.reg [⟨(some 26), none, .v (.load (.t 7) (some 2))⟩,
  ⟨(some 27), none, .v (.load (.t 8) (some 72))⟩,
  ⟨(some 28), none, .call (.c (.fn 26 [])) [(.t 26), (.t 27)]⟩,
  ⟨(some 4), none, .v (.mov (.t 28))⟩,
  ⟨(some 5), none, .v (.mov (.c (.int .i64 (0))))⟩])
 .ret))))))
def r13 : List RV := [.t 4, .t 5]
theorem k13 : (Try.f13.body.bind (cC Try.prog), cR Try.prog Try.f13.results.toList, Try.f13.ntmps) = (some s13, some r13, 29) := by kernel_rfl
theorem q13 : Known Try.prog 13 := ⟨_, Try.func13, by decide, by simp [Try.f13]⟩
def spC (d : Dst) (i j : Nat) : List SV := [.int .i64 (d (i * 9 + j)).1, .int .i64 (d (i * 9 + j)).2]
def spN (T : List Int) (i : Nat) : Nat := (T.getD i 0).toNat + 1
def spW (T : List Int) (d : Dst) (i : Nat) : List SV := [.clipr 2 (spN T i) (spC d i)]
def C26 : PC := fun args K => ∃ (T : List Int) (m : Int) (d : Dst), args = [.agg [.ints .i64 T, .int .i64 m], .agg (arS 36 d)] ∧ okS T m = true ∧ K (.rd 1 T.length (spW T d))
theorem p26 : PureOk Try.prog 26 C26 := by
 refine pure_of (T := [(47, .fc F47)]) ⟨⟨p47, q47⟩, trivial⟩ Try.func26 k26 ?_
 rintro args K ⟨T, m, d, rfl, hs, hK⟩
 have hs' := hs
 simp only [okS, Bool.and_eq_true, decide_eq_true_eq] at hs'
 obtain ⟨hl, hm, hall⟩ := hs'
 have hT : ∀ i, i < T.length → 1 ≤ T.getD i 0 ∧ T.getD i 0 ≤ 8 := fun i hi => of_decide_eq_true (allI_get hi hall)
 simp only [e_reg, e_seq, e_block, e_loop, o_nil, o_cons, gd_none, putK_e, runK_e, vK_e, boxK_e, evh_v, evh_box, seqK_n, evp, gt, gq, st, putf, X.get, mkfr, rep, ld, lda, lens, cs1, gb, pb, ln, undef, Nat.reduceSub, Nat.reduceAdd, true_and, s26, r26]
 refine loop_at2 (G := Nat) (fun i => [(14, .int .i64 i), (5, .own 2)]) (fun i => [.box 70 [.ints .i64 T, .int .i64 m], .box 74 (arS 36 d), .orw 40 1 i (spW T d)]) (fun i => i ≤ T.length) (fun i => T.length - i) 0 (Nat.zero_le _) ?_
 (intro fr1 hf1; simp only [forget, dstC, dstO, st] at hf1; subst hf1)
 refine ⟨?_, ?_⟩
 ·refine Lw_re 2 [none] (Nat.zero_le _) (by simp [ln]) (by simp [ln]) rfl ?_ ?_
  ·simp only [reL, reX, rn, List.getElem?_cons_zero, Nat.reduceSub, Nat.lt_irrefl, Nat.le_refl, reduceCtorEq, or_true, inb, inb.inbs, ln, sts, st, Bool.and_self, Nat.reduceLT, Nat.reduceAdd, decide_true, and_self, Int.natCast_zero, arS_in]
  ·simp only [reL, reX, reH, reB, reN, newB, inb, ln, Nat.reduceAdd, and_self, arS_re]
 ·intro i hi1
  by_cases hi2 : i < T.length
  ·have n0 : ((i : Int) < (T.length : Int)) = True := by simp; omega
   have ht := hT i hi2
   simp only [condK_bt, decide_true, inr64, e_skip, e_reg, e_seq, e_cond, e_block, e_loop, o_nil, o_cons, gd_none, putK_e, runK_e, vK_e, evh_v, seqK_n, evp, bin, gt, gq, st, putf, X.get, ld, lda, ixs, true_and, and_true, sts, n0, Int.toNat_natCast]
   repeat' (first | omega | refine And.intro ?_ ?_)
   refine loop_at2 (G := Nat) (fun j => [(21, .int .i64 j), (8, .own 3)]) (fun j => [.box 70 [.ints .i64 T, .int .i64 m], .box 74 (arS 36 d), .orw 40 1 i (spW T d), .orw 31 2 j (spC d i)]) (fun j => j ≤ spN T i) (fun j => spN T i - j) 0 (Nat.zero_le _) ?_
   (intro fr1 hf1; simp only [forget, dstC, dstO, st] at hf1; subst hf1)
   refine ⟨?_, ?_⟩
   ·refine Lw_re 3 [none] (Nat.zero_le _) (by simp [ln]) (by simp [ln]) rfl ?_ ?_
    ·simp only [reL, reX, rn, List.getElem?_cons_zero, Nat.reduceSub, Nat.reduceLeDiff, Nat.lt_irrefl, Nat.le_refl, or_false, reduceCtorEq, or_true, inb, inb.inbs, ln, sts, st, Bool.and_self, Nat.reduceLT, Nat.reduceAdd, decide_true, and_true, and_self, Int.natCast_zero, arS_in]
    ·simp only [reL, reX, reH, reB, reN, newB, inb, ln, Nat.reduceAdd, and_self, implies_true, arS_re]
   ·intro j hj1
    have eN : ((spN T i : Nat) : Int) = T.getD i 0 + 1 := by unfold spN; omega
    by_cases hj2 : j < spN T i
    ·have m0 : ((j : Int) < T.getD i 0 + 1) = True := eq_true (by omega)
     have ek : ((i : Int) * 9 + (j : Int)).toNat = i * 9 + j := by omega
     have hk : i * 9 + j < 36 := by omega
     have g2 := fun d : Dst => @arS_g2 d _ 36 hk
     have hrow : ∀ k, k < j + 1 → (if k < j then spC d i k else [SV.int .i64 (d (i * 9 + j)).1, SV.int .i64 (d (i * 9 + j)).2]) = spC d i k := fun k hk => by
      by_cases h : k < j
      ·rw [if_pos h]
      ·obtain rfl : k = j := by omega
       rw [if_neg h]; rfl
     simp only [condK_bt, decide_true, inr64, e_skip, e_reg, e_seq, e_cond, e_block, o_nil, o_cons, gd_none, putK_e, runK_e, vK_e, bslK_e, appK2_or, appK_e, conK_e, callK_e, evh_v, evh_bsl, evh_app, evh_call, loopK_n, seqK_n, blockK_n, gam_e, gamK_f, pc_e, pcK_e, fcC_e, fcK_e, evp, bin, gt, st, putf, X.get, gets, getp, ap, clV, clL, clS, clo, clo.clos, ld, lda, sp, sp.spl, lay, ll, cs1, one, allOne, gb, sb, pb, ln, lk, Bool.and_true, Nat.reduceAdd, beq_self_eq_true, true_and, sts, m0, F47, ek, ld, g2]
     repeat' (first | omega | refine And.intro ?_ ?_)
     refine Nx.mk (j + 1) (by show j + 1 ≤ spN T i; omega) (by show spN T i - (j + 1) < spN T i - j; omega) (Lw_re 3 [some 5] (Nat.zero_le _) (by simp [ln]) (by simp [ln]) rfl ?_ ?_)
     ·simp only [reL, reX, rn, List.getElem?_cons_zero, Nat.reduceSub, Nat.reduceLeDiff, Nat.lt_irrefl, Nat.le_refl, false_and, or_false, and_false, or_true, inb, inb.inbs, ln, Bool.and_self, Nat.reduceLT, Nat.reduceAdd, decide_true, and_true, and_self, Int.natCast_add, Int.natCast_one, arS_in]
     ·simp only [reL, reX, reH, reB, reM, reN, gb, Nat.reduceLeDiff, inb, ln, Nat.reduceLT, Nat.reduceAdd, true_and, and_true, and_self, implies_true, arS_re]
      exact hrow
    ·have m0 : ((j : Int) < T.getD i 0 + 1) = False := eq_false (by omega)
     obtain rfl : j = spN T i := by omega
     have eM : (((spN T i : Nat) : Int) - 0).toNat = spN T i := by omega
     have hrow : ∀ k, k < i + 1 → (if k < i then spW T d k else [SV.clipr 2 (spN T i) (spC d i)]) = spW T d k := fun k hk => by
      by_cases h : k < i
      ·rw [if_pos h]
      ·obtain rfl : k = i := by omega
       rw [if_neg h]; rfl
     simp only [condK_bf, decide_false, inr64, ↓reduceIte, e_reg, e_seq, e_cond, e_exit, o_nil, o_cons, gd_none, putK_e, runK_e, vK_e, bslK_e, appK2_or, appK_e, evh_v, evh_bsl, evh_app, evh_slc, slcK_e, slO, bnd, slv, od_none, loopK_n, loopK_x, seqK_n, seqK_x, exitK_t, blockK_x, blockK_n, evp, bin, gt, st, putf, X.get, getp, clo, clo.clos, lens, sp, sp.spl, lay, ll, cs1, one, allOne, gb, sb, pb, ln, Bool.and_true, Nat.reduceAdd, beq_self_eq_true, true_and, sts, m0, Int.toNat_zero, Nat.zero_add, eM]
     repeat' (first | omega | refine And.intro ?_ ?_)
     refine Nx.mk (i + 1) (by show i + 1 ≤ T.length; omega) (by show T.length - (i + 1) < T.length - i; omega) (Lw_re 2 [some 5] (Nat.zero_le _) (by simp [ln]) (by simp [ln]) rfl ?_ ?_)
     ·simp only [reL, reX, rn, List.getElem?_cons_zero, Nat.reduceSub, Nat.lt_irrefl, Nat.le_refl, and_false, or_true, inb, inb.inbs, ln, Bool.and_self, Nat.reduceLT, Nat.reduceAdd, decide_true, and_self, Int.natCast_add, Int.natCast_one, arS_in]
     ·simp only [reL, reX, reH, reB, reM, reN, gb, Nat.reduceLeDiff, inb, ln, Nat.reduceLT, Nat.reduceAdd, true_and, and_true, and_self, arS_re]
      exact hrow
  ·have n0 : ((i : Int) < (T.length : Int)) = False := by simp; omega
   obtain rfl : i = T.length := by omega
   have eM : ((T.length : Int) - 0).toNat = T.length := by omega
   simp only [condK_bf, decide_false, e_reg, e_seq, e_cond, e_exit, e_ret, o_nil, o_cons, gd_none, putK_e, runK_e, vK_e, evh_v, evh_slc, slcK_e, slO, bnd, slv, od_none, loopK_x, seqK_n, seqK_x, exitK_t, blockK_x, ends_r, endK1_e, endK2_e, evp, bin, gt, st, putf, X.get, rdR, tupled, clV, lens, gb, sb, beq_self_eq_true, true_and, sts, n0, Int.toNat_zero, Nat.zero_add, eM]
   exact ⟨by omega, res hK ⟨rfl, rfl, fun _ _ => rfl⟩⟩
def spnS (T : List Int) (m : Int) (L : List Rdg) : SV :=
 if chk T m L = 0 then match trR T m L with
  | some d => .tup [.rd 1 T.length (spW T d), .int .i64 0]
  | none => .tup [.lit (.slice none 0 0), .int .i64 4]
 else .tup [.lit (.slice none 0 0), .int .i64 (chk T m L)]
theorem chk_0 {T : List Int} {m : Int} {L : List Rdg} : chk T m L = 0 ↔ okS T m = true ∧ okL T L = true := by
 unfold chk
 cases okS T m <;> cases okL T L <;> simp
def C13 : PC := fun args K => ∃ (T : List Int) (m : Int) (L : List Rdg), args = [.agg [.ints .i64 T, .int .i64 m], .rd 6 L.length (rgR L)] ∧ K (spnS T m L)
theorem cl_Td {T : List Int} {m : Int} {d : Dst} {hp : List Blk} : clL (clV 8) hp [.agg [.ints .i64 T, .int .i64 m], .agg (arS 36 d)] = some ([.agg [.ints .i64 T, .int .i64 m], .agg (arS 36 d)], hp) := by
 have h1 := fun hp => @arS_clV d 36 hp 7
 have h2 : clV 8 hp (.agg [.ints .i64 T, .int .i64 m]) = some (.agg [.ints .i64 T, .int .i64 m], hp) := rfl
 simp only [clL, h1, h2]
theorem p13 : PureOk Try.prog 13 C13 := by
 refine pure_of (T := [(22, .pc C22), (25, .pc C25), (26, .pc C26)]) ⟨⟨p22, q22⟩, ⟨p25, q25⟩, ⟨p26, q26⟩, trivial⟩ Try.func13 k13 ?_
 rintro args K ⟨T, m, L, rfl, hK⟩
 have z72 : (List.replicate 72 (SV.int .i64 0)) = arS 36 (fun _ => (0, 0)) := (arS_zero 36).symm
 have etk := fun d : Dst => @arS_tk d 36 72 rfl
 have espl := fun d d' : Dst => @arS_spl d d' 36
 have ell := fun d : Dst => @arS_ll d 36
 have eon := fun d : Dst => @arS_one d 36
 have ecl := fun d : Dst => @arS_clo d 36
 simp only [e_reg, e_seq, o_nil, o_cons, gd_none, putK_e, runK_e, vK_e, boxK_e, conK_e, callK_e, evh_v, evh_box, evh_call, seqK_n, gam_e, gamK_p, pc_e, pcK_e, evp, bin, gt, st, putf, X.get, gets, ap, mkfr, rep, clV, clL, clS, clo, ld, lda, tk, dr, cs1, gb, pb, ln, lk, undef, Nat.reduceSub, beq_self_eq_true, true_and, s13, r13]
 refine ⟨T, m, L, rfl, ?_⟩
 by_cases h0 : chk T m L = 0
 ·have t0 := eq_true h0
  obtain ⟨hs, hL⟩ := chk_0.1 h0
  simp only [condK_bf, decide_true, e_skip, e_reg, and_self, e_seq, e_cond, o_nil, o_cons, gd_none, putK_e, runK_e, vK_e, bldK_e, storeK3_e, storeK2_e, storeK_e, conK_e, callK_e, evh_v, evh_new, evh_bld, evh_store, evh_call, seqK_n, gam_e, gamK_p, pc_e, pcK_e, evp, gt, st, putf, X.get, gets, getp, ap, clV, clL, clS, clo, ld, lda, tk, dr, sp, sp.spl, lay, ll, cs1, one, allOne, gb, sb, pb, ln, lk, Bool.and_true, Bool.not_true, Nat.reduceAdd, Nat.reduceBEq, beq_self_eq_true, true_and, t0]
  refine ⟨T, m, L, rfl, hs, hL, ?_⟩
  cases htr : trR T m L with
  | none =>
   have e : spnS T m L = .tup [.lit (.slice none 0 0), .int .i64 4] := by simp [spnS, h0, htr]
   rw [e] at hK
   simp only [condK_bt, e_reg, and_self, e_seq, e_cond, e_ret, o_nil, o_cons, gd_none, putK_e, runK_e, vK_e, storeK3_e, storeK2_e, storeK_e, evh_v, evh_new, evh_store, seqK_n, seqK_r, ends_r, endK1_e, endK2_e, evp, gt, gq, st, putf, X.get, rdR, tupled, clV, clL, clS, clo, sp, cs1, gb, sb, pb, ln, Bool.not_false, Nat.reduceAdd, Nat.reduceMul, true_and, trS, z72, espl, ell, eon]
   exact res hK (by simp [leR, leR.leRs])
  | some d =>
   have e : spnS T m L = .tup [.rd 1 T.length (spW T d), .int .i64 0] := by simp [spnS, h0, htr]
   rw [e] at hK
   simp only [condK_bf, e_skip, e_reg, and_self, e_seq, e_cond, o_nil, o_cons, gd_none, putK_e, runK_e, vK_e, storeK3_e, storeK2_e, storeK_e, conK_e, callK_e, evh_v, evh_new, evh_store, evh_call, seqK_n, gam_e, gamK_p, pc_e, evp, gt, gq, st, putf, X.get, gets, ap, ld, lda, tk, dr, sp, cs1, gb, sb, pb, ln, lk, Bool.not_true, Nat.reduceAdd, Nat.reduceMul, Nat.reduceBEq, beq_self_eq_true, true_and, trS, z72, ld, etk, espl, ell, eon]
   rw [cl_Td]
   simp only [e_ret, o_nil, o_cons, gd_none, putK_e, runK_e, vK_e, evh_v, seqK_n, ends_r, endK1_e, pcK_e, evp, gt, st, putf, X.get, rdR, tupled, clV, clL, clS, clo, true_and]
   refine ⟨T, m, d, rfl, hs, ?_⟩
   simp only [endK2_e, clo]
   exact res hK ⟨⟨rfl, rfl, fun _ _ => rfl⟩, ⟨rfl, rfl⟩, trivial⟩
 ·have t0 := eq_false h0
  have e : spnS T m L = .tup [.lit (.slice none 0 0), .int .i64 (chk T m L)] := by simp [spnS, h0]
  rw [e] at hK
  simp only [condK_bt, decide_false, e_reg, e_seq, e_cond, e_ret, o_nil, o_cons, gd_none, putK_e, runK_e, vK_e, evh_v, seqK_n, seqK_r, ends_r, endK1_e, endK2_e, evp, gt, st, putf, X.get, rdR, tupled, clV, clL, clS, clo, Bool.not_false, true_and, t0]
  exact res hK (by simp [leR, leR.leRs])
end Go.Proofs.Ytplldhepmmjmmaa
