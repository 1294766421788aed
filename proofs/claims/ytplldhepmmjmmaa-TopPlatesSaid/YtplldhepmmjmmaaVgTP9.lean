import Derived.Test.YtplldhepmmjmmaaVgTP8
namespace Go.Proofs.Ytplldhepmmjmmaa
open Go Go.Vg
set_option linter.unusedSimpArgs false
set_option linter.unusedVariables false
set_option maxRecDepth 10000
def s21 : SC :=
 (.seq (.reg [⟨(some 2), none, .v (.mov (.c (.lit (.slice none 0 0))))⟩])
 (.scp (.seq (.reg [⟨(some 3), none, .v (.mov (.c (.lit (.slice none 0 0))))⟩])
 (.seq .skip
 (.seq (.seq (.reg [⟨(some 4), none, .v (.mov (.c (.int .i64 (-2000))))⟩])
 (.block 0 (.loop
  (.seq (.seq (.reg [⟨(some 8), none, .v (.mov (.t 4))⟩,
   ⟨(some 9), none, .v (.bin .leq (.t 8) (.c (.int .i64 (2000))))⟩])
  (.cond (.t 9)
   .skip
   (.exit 0)))
  (.seq (.block 1 (.seq (.seq (.reg [⟨(some 12), none, .v (.mov (.t 0))⟩,
   ⟨(some 13), none, .v (.len (.t 12))⟩,
   ⟨(some 14), none, .v (.mov (.c (.int .i64 (0))))⟩])
  (.block 2 (.loop
   (.seq (.reg [⟨(some 15), none, .v (.bin .lss (.t 14) (.t 13))⟩])
   (.seq (.cond (.t 15)
    .skip
    (.exit 2))
   (.seq (.block 3 (.seq (.reg [⟨(some 16), none, .v (.ixa (.t 12) (.t 14) 5)⟩,
    ⟨(some 17), none, .v (.load (.t 16) (some 5))⟩,
    ⟨(some 6), none, .new 45 [(.int .i64 (0)), (.int .i64 (0)), (.int .i64 (0)), (.int .i64 (0)), (.int .i64 (0))]⟩,
    ⟨none, none, .store 5 (.t 6) (.t 17)⟩])
   (.seq (.reg [⟨(some 18), none, .v (.load (.t 6) (some 5))⟩,
    ⟨(some 19), none, .bld [(.int .i64 (0)), (.int .i64 (0)), (.int .i64 (0)), (.int .i64 (0)), (.int .i64 (0))] [(0, 5, (.t 18))]⟩,
    ⟨(some 20), none, .v (.mov (.t 4))⟩,
    ⟨(some 21), none, .call (.c (.fn 41 [])) [(.t 19), (.t 20)]⟩,
    ⟨(some 22), none, .v (.not (.t 21))⟩])
   (.cond (.t 22)
    (.exit 1)
    .skip))))
   (.reg [⟨(some 23), none, .v (.bin .add (.t 14) (.c (.int .i64 (1))))⟩,
    ⟨(some 14), none, .v (.mov (.t 23))⟩])))))))
  (.seq (.seq (.reg [⟨(some 24), none, .v (.mov (.t 3))⟩,
   ⟨(some 25), none, .v (.len (.t 24))⟩,
   ⟨(some 26), none, .v (.bin .sub (.t 25) (.c (.int .i64 (1))))⟩,
   ⟨(some 7), none, .v (.mov (.t 26))⟩])
  (.seq (.reg [⟨(some 27), none, .v (.mov (.t 7))⟩,
   ⟨(some 28), none, .v (.bin .geq (.t 27) (.c (.int .i64 (0))))⟩,
   ⟨(some 29), none, .v (.mov (.t 28))⟩,
   ⟨(some 30), (some (29, true)), .v (.mov (.t 3))⟩,
   ⟨(some 31), (some (29, true)), .v (.mov (.t 7))⟩,
   ⟨(some 32), (some (29, true)), .v (.ixa (.t 30) (.t 31) 2)⟩,
   ⟨(some 33), (some (29, true)), .v (.off (.t 32) 1)⟩,
   ⟨(some 34), (some (29, true)), .v (.load (.t 33) none)⟩,
   ⟨(some 35), (some (29, true)), .v (.mov (.t 4))⟩,
   ⟨(some 36), (some (29, true)), .v (.bin .sub (.t 35) (.c (.int .i64 (1))))⟩,
   ⟨(some 37), (some (29, true)), .v (.bin .eql (.t 34) (.t 36))⟩,
   ⟨(some 38), none, .v (.pick (.t 29) (.t 37) (.c (.lit (.bool false))))⟩])
  (.cond (.t 38)
   (.seq (.reg [⟨(some 39), none, .v (.mov (.t 3))⟩,
    ⟨(some 40), none, .v (.mov (.t 7))⟩,
    ⟨(some 41), none, .v (.mov (.t 4))⟩,
    ⟨(some 42), none, .v (.ixa (.t 39) (.t 40) 2)⟩,
    ⟨(some 43), none, .v (.off (.t 42) 1)⟩,
    ⟨none, none, .store 1 (.t 43) (.t 41)⟩])
   (.exit 1))
   .skip)))
  (.reg [⟨(some 44), none, .v (.mov (.t 3))⟩,
   ⟨(some 45), none, .v (.mov (.t 4))⟩,
   ⟨(some 46), none, .v (.mov (.t 4))⟩,
   ⟨(some 47), none, .bld [(.int .i64 (0)), (.int .i64 (0))] [(0, 1, (.t 45)), (1, 1, (.t 46))]⟩,
   ⟨(some 48), none, .bsl 31 1 [(.int .i64 (0)), (.int .i64 (0))] [(0, 2, (.t 47))]⟩,
   ⟨(some 49), none, .app 31 2 16 (.t 44) (.t 48)⟩,
   ⟨(some 3), none, .v (.mov (.t 49))⟩]))))
  (.reg [⟨(some 10), none, .v (.mov (.t 4))⟩,
   ⟨(some 11), none, .v (.bin .add (.t 10) (.c (.int .i64 (1))))⟩,
   ⟨(some 4), none, .v (.mov (.t 11))⟩]))))))
 (.seq (.reg [⟨(some 50), none, .v (.mov (.t 3))⟩,
  ⟨(some 2), none, .v (.mov (.t 50))⟩])
 .ret))))))
def r21 : List RV := [.t 2]
theorem k21 : (Try.f21.body.bind (cC Try.prog), cR Try.prog Try.f21.results.toList, Try.f21.ntmps) = (some s21, some r21, 51) := by kernel_rfl
theorem q21 : Known Try.prog 21 := ⟨_, Try.func21, by decide, by simp [Try.f21]⟩
def s11 : SC :=
 (.seq (.reg [⟨(some 2), none, .v (.mov (.c (.lit (.slice none 0 0))))⟩,
  ⟨(some 3), none, .v (.mov (.c (.int .i64 (0))))⟩])
 (.seq (.seq (.reg [⟨(some 5), none, .v (.mov (.t 0))⟩,
  ⟨(some 6), none, .call (.c (.fn 20 [])) [(.t 5)]⟩,
  ⟨(some 7), none, .v (.not (.t 6))⟩])
 (.cond (.t 7)
  (.seq (.reg [⟨(some 2), none, .v (.mov (.c (.lit (.slice none 0 0))))⟩,
   ⟨(some 3), none, .v (.mov (.c (.int .i64 (44))))⟩])
  .ret)
  .skip))
 (.seq (.reg [⟨(some 8), none, .v (.mov (.t 0))⟩,
  ⟨(some 9), none, .call (.c (.fn 21 [])) [(.t 8)]⟩,
  ⟨(some 4), none, .v (.mov (.t 9))⟩])
 (.seq (.seq (.reg [⟨(some 10), none, .v (.mov (.t 4))⟩,
  ⟨(some 11), none, .v (.len (.t 10))⟩,
  ⟨(some 12), none, .v (.bin .eql (.t 11) (.c (.int .i64 (0))))⟩])
 (.cond (.t 12)
  (.seq (.reg [⟨(some 2), none, .v (.mov (.c (.lit (.slice none 0 0))))⟩,
   ⟨(some 3), none, .v (.mov (.c (.int .i64 (4))))⟩])
  .ret)
  .skip))
 (.seq (.reg [⟨(some 13), none, .v (.mov (.t 4))⟩,
  ⟨(some 2), none, .v (.mov (.t 13))⟩,
  ⟨(some 3), none, .v (.mov (.c (.int .i64 (0))))⟩])
 .ret)))))
def r11 : List RV := [.t 2, .t 3]
theorem k11 : (Try.f11.body.bind (cC Try.prog), cR Try.prog Try.f11.results.toList, Try.f11.ntmps) = (some s11, some r11, 14) := by kernel_rfl
theorem q11 : Known Try.prog 11 := ⟨_, Try.func11, by decide, by simp [Try.f11]⟩
structure Tw where
 (a b c d : Int)
def Tw.N (t : Tw) (x : Int) : Nat := if x ≤ t.a then 0 else if t.c ≤ t.b + 1 ∨ x ≤ t.c then 1 else 2
def Tw.lo (t : Tw) (i : Nat) : Int := if i = 0 then t.a else t.c
def Tw.hi (t : Tw) (x : Int) (i : Nat) : Int := if t.c ≤ t.b + 1 then min (x - 1) t.d else if i = 0 then min (x - 1) t.b else min (x - 1) t.d
def Tw.row (t : Tw) (x : Int) (i : Nat) : List SV := [.int .i64 (t.lo i), .int .i64 (t.hi x i)]
def Tw.ok (t : Tw) : Prop := (t.a ≤ t.b ∧ t.c ≤ t.d) ∧ (t.a ≤ t.c ∧ t.b ≤ t.d) ∧ (-2000 ≤ t.a ∧ t.d ≤ 2000)
def Tw.q (t : Tw) (x : Int) : Prop := (t.c ≤ x ∧ x ≤ t.d) ∨ (t.a ≤ x ∧ x ≤ t.b)
theorem Tw.N_0 {t : Tw} {x : Int} (h : x ≤ t.a) : t.N x = 0 := if_pos h
theorem Tw.N_1 {t : Tw} {x : Int} (h : ¬ x ≤ t.a) (h2 : t.c ≤ t.b + 1 ∨ x ≤ t.c) : t.N x = 1 := by unfold Tw.N; rw [if_neg h, if_pos h2]
theorem Tw.N_2 {t : Tw} {x : Int} (h : ¬ x ≤ t.a) (h2 : ¬ t.c ≤ t.b + 1) (h3 : ¬ x ≤ t.c) : t.N x = 2 := by unfold Tw.N; rw [if_neg h, if_neg (by omega)]
theorem Tw.hi_m {t : Tw} {x : Int} {i : Nat} (h : t.c ≤ t.b + 1) : t.hi x i = min (x - 1) t.d := if_pos h
theorem Tw.hi_0 {t : Tw} {x : Int} (h : ¬ t.c ≤ t.b + 1) : t.hi x 0 = min (x - 1) t.b := by unfold Tw.hi; rw [if_neg h, if_pos rfl]
theorem Tw.hi_1 {t : Tw} {x : Int} {i : Nat} (h : ¬ t.c ≤ t.b + 1) (hi : i ≠ 0) : t.hi x i = min (x - 1) t.d := by unfold Tw.hi; rw [if_neg h, if_neg hi]
theorem Tw.lo_0 {t : Tw} : t.lo 0 = t.a := rfl
theorem Tw.lo_1 {t : Tw} {i : Nat} (hi : i ≠ 0) : t.lo i = t.c := if_neg hi
theorem Tw.N2 (t : Tw) (x : Int) : t.N x ≤ 2 := by unfold Tw.N; split <;> (try split) <;> omega
theorem Tw.no {t : Tw} (h : t.ok) {x : Int} (hq : ¬ t.q x) : t.N (x + 1) = t.N x ∧ ∀ i, i < t.N x → t.hi (x + 1) i = t.hi x i := by
 unfold Tw.ok at h
 unfold Tw.q at hq
 by_cases h0 : x ≤ t.a
 ·rw [Tw.N_0 h0, Tw.N_0 (by omega)]
  exact ⟨rfl, fun i hi => by omega⟩
 ·by_cases hm : t.c ≤ t.b + 1
  ·rw [Tw.N_1 h0 (.inl hm), Tw.N_1 (by omega) (.inl hm)]
   exact ⟨rfl, fun i hi => by rw [Tw.hi_m hm, Tw.hi_m hm]; omega⟩
  ·by_cases h1 : x ≤ t.c
   ·rw [Tw.N_1 h0 (.inr h1), Tw.N_1 (by omega) (.inr (by omega))]
    refine ⟨rfl, fun i hi => ?_⟩
    obtain rfl : i = 0 := by omega
    rw [Tw.hi_0 hm, Tw.hi_0 hm]; omega
   ·rw [Tw.N_2 h0 hm h1, Tw.N_2 (by omega) hm (by omega)]
    refine ⟨rfl, fun i hi => ?_⟩
    by_cases hi0 : i = 0
    ·subst hi0; rw [Tw.hi_0 hm, Tw.hi_0 hm]; omega
    ·rw [Tw.hi_1 hm hi0, Tw.hi_1 hm hi0]; omega
theorem Tw.ext {t : Tw} (h : t.ok) {x : Int} (hq : t.q x) (h0 : t.N x ≠ 0) (hl : t.hi x (t.N x - 1) = x - 1) : t.N (x + 1) = t.N x ∧ t.hi (x + 1) (t.N x - 1) = x ∧ ∀ i, i < t.N x - 1 → t.hi (x + 1) i = t.hi x i := by
 unfold Tw.ok at h
 unfold Tw.q at hq
 by_cases h2 : x ≤ t.a
 ·exact absurd (Tw.N_0 h2) h0
 ·by_cases hm : t.c ≤ t.b + 1
  ·rw [Tw.N_1 h2 (.inl hm)] at *
   rw [Tw.N_1 (by omega) (.inl hm)]
   rw [Tw.hi_m hm] at *
   exact ⟨rfl, by omega, fun i hi => by omega⟩
  ·by_cases h1 : x ≤ t.c
   ·rw [Tw.N_1 h2 (.inr h1)] at *
    simp only [Nat.sub_self] at *
    rw [Tw.hi_0 hm] at *
    rw [Tw.N_1 (by omega) (.inr (by omega))]
    exact ⟨rfl, by omega, fun i hi => by omega⟩
   ·rw [Tw.N_2 h2 hm h1] at *
    simp only [show 2 - 1 = 1 from rfl] at *
    rw [Tw.hi_1 hm (by omega)] at *
    rw [Tw.N_2 (by omega) hm (by omega)]
    refine ⟨rfl, by omega, fun i hi => ?_⟩
    obtain rfl : i = 0 := by omega
    rw [Tw.hi_0 hm, Tw.hi_0 hm]; omega
theorem Tw.new {t : Tw} (h : t.ok) {x : Int} (hq : t.q x) (hl : t.N x = 0 ∨ t.hi x (t.N x - 1) ≠ x - 1) : t.N (x + 1) = t.N x + 1 ∧ (t.lo (t.N x) = x ∧ t.hi (x + 1) (t.N x) = x) ∧ ∀ i, i < t.N x → t.hi (x + 1) i = t.hi x i := by
 unfold Tw.ok at h
 unfold Tw.q at hq
 by_cases h2 : x ≤ t.a
 ·rw [Tw.N_0 h2]
  rw [Tw.N_1 (by omega) (by omega)]
  refine ⟨rfl, ⟨by rw [Tw.lo_0]; omega, ?_⟩, fun i hi => by omega⟩
  by_cases hm : t.c ≤ t.b + 1
  ·rw [Tw.hi_m hm]; omega
  ·rw [Tw.hi_0 hm]; omega
 ·have hl := hl
  by_cases hm : t.c ≤ t.b + 1
  ·rw [Tw.N_1 h2 (.inl hm), Tw.hi_m hm] at hl
   exfalso; omega
  ·by_cases h1 : x ≤ t.c
   ·rw [Tw.N_1 h2 (.inr h1)] at *
    simp only [Nat.sub_self] at *
    rw [Tw.hi_0 hm] at hl
    rw [Tw.N_2 (by omega) hm (by omega)]
    refine ⟨rfl, ⟨by rw [Tw.lo_1 (by omega)]; omega, by rw [Tw.hi_1 hm (by omega)]; omega⟩, fun i hi => ?_⟩
    obtain rfl : i = 0 := by omega
    rw [Tw.hi_0 hm, Tw.hi_0 hm]; omega
   ·rw [Tw.N_2 h2 hm h1, Tw.hi_1 hm (by omega)] at hl
    exfalso; omega
def C21 : PC := fun args K => ∃ (p q r : Int) (f : Nat → List SV), args = [.rd 5 1 f] ∧ f 0 = [.int .i64 p, .int .i64 q, .int .i64 r, .int .i64 r, .int .i64 0] ∧ okFr p q r r 0 = true ∧ K (.rd 2 (Tw.N ⟨p - r, q - r, p + r, q + r⟩ 2001) (Tw.row ⟨p - r, q - r, p + r, q + r⟩ 2001))
theorem p21 : PureOk Try.prog 21 C21 := by
 refine pure_of (T := [(41, .fc F41)]) ⟨⟨p41, q41⟩, trivial⟩ Try.func21 k21 ?_
 rintro args K ⟨p, q, r, f, rfl, hf, hok, hK⟩
 have hok' := hok
 simp only [okFr, Bool.and_eq_true, decide_eq_true_eq] at hok'
 generalize ht : (⟨p - r, q - r, p + r, q + r⟩ : Tw) = t at hK
 have hto : t.ok := by subst ht; unfold Tw.ok; simp only; omega
 have hag : ∀ x, agr p q r r 0 x = true ↔ t.q x := fun x => by
  subst ht
  unfold agr Tw.q
  simp only [decide_eq_true_eq]
  omega
 have hloB : ∀ i, -2000 ≤ t.lo i ∧ t.lo i ≤ 2000 := fun i => by
  have h := hto
  unfold Tw.ok at h
  unfold Tw.lo
  split <;> omega
 simp only [e_skip, e_reg, e_seq, e_block, e_loop, e_scp, o_nil, o_cons, gd_none, putK_e, runK_e, vK_e, evh_v, seqK_n, evp, st, putf, X.get, mkfr, rep, undef, Nat.reduceSub, true_and, s21, r21]
 refine loop_at2 (G := Nat) (fun k => [(4, .int .i64 ((k : Int) - 2000)), (3, .own 0)]) (fun k => [.orw 31 2 (t.N ((k : Int) - 2000)) (t.row ((k : Int) - 2000))]) (fun k => k ≤ 4001) (fun k => 4001 - k) 0 (Nat.zero_le _) ?_
 (intro fr1 hf1; simp only [forget, dstC, dstO, st] at hf1; subst hf1)
 refine ⟨?_, ?_⟩
 ·have e0 : t.N (((0 : Nat) : Int) - 2000) = 0 := Tw.N_0 (by unfold Tw.ok at hto; omega)
  have e1 : ((0 : Nat) : Int) - 2000 = -2000 := by omega
  refine Lw_re 0 [none] (Nat.zero_le _) (by simp [ln]) (by simp [ln]) rfl ?_ ?_
  ·simp only [reL, reX, rn, List.getElem?_cons_zero, Nat.reduceSub, Nat.lt_irrefl, Nat.le_refl, reduceCtorEq, or_true, inb, ln, sts, st, Nat.reduceLT, Nat.reduceAdd, and_self, e1, implies_true]
  ·simp only [reH, reN, newB, and_self, e0]
   try (intro i hi; omega)
 ·intro k hk1
  have ec : ((k + 1 : Nat) : Int) - 2000 = (k : Int) - 2000 + 1 := by omega
  by_cases hk2 : k < 4001
  ·have n0 : ((k : Int) - 2000 ≤ 2000) = True := eq_true (by omega)
   have hx : -2000 ≤ (k : Int) - 2000 ∧ (k : Int) - 2000 ≤ 2000 := by omega
   generalize hxe : (k : Int) - 2000 = x at n0 hx ec ⊢
   have hN2 := t.N2 x
   simp only [condK_bt, decide_true, e_skip, e_reg, e_seq, e_cond, e_block, e_loop, o_nil, o_cons, gd_none, putK_e, runK_e, vK_e, evh_v, seqK_n, evp, bin, gt, st, putf, X.get, lens, true_and, sts, n0]
   refine loop_at2 (G := Nat) (fun i => [(14, .int .i64 i)]) (fun _ => [.orw 31 2 (t.N x) (t.row x)]) (fun i => i ≤ 1 ∧ (i = 1 → t.q x)) (fun i => 1 - i) 0 ⟨Nat.zero_le _, fun h => by omega⟩ ?_
   (intro fr1 hf1; simp only [forget, dstC, dstO, st] at hf1; subst hf1)
   refine ⟨?_, ?_⟩
   ·refine Lw_re 1 [] (Nat.zero_le _) (by simp [ln]) (by simp [ln]) rfl ?_ ?_
    ·simp only [reL, reX, rn, Nat.reduceSub, Nat.reduceLeDiff, false_and, or_false, reduceCtorEq, inb, ln, sts, st, Nat.reduceLT, Nat.reduceAdd, and_true, and_self, Int.natCast_zero, implies_true]
    ·simp only [reH, reB, reN, and_self, implies_true]
   ·rintro i ⟨hi1, hp⟩
    by_cases hi2 : i < 1
    ·obtain rfl : i = 0 := by omega
     have n1 : (((0 : Nat) : Int) < ((1 : Nat) : Int)) = True := eq_true (by omega)
     cases hv : agr p q r r 0 x
     ·have hq : ¬ t.q x := fun h => by rw [(hag x).2 h] at hv; cases hv
      obtain ⟨z1, z2⟩ := Tw.no hto hq
      simp only [condK_bt, decide_true, inr64, e_skip, e_reg, and_self, e_seq, e_cond, e_block, e_exit, o_nil, o_cons, gd_none, putK_e, runK_e, vK_e, bldK_e, storeK3_e, storeK2_e, storeK_e, conK_e, callK_e, evh_v, evh_new, evh_bld, evh_store, evh_call, loopK_n, loopK_x, seqK_n, seqK_x, exitK_t, exitK_f, blockK_x, gam_e, gamK_f, pc_e, pcK_e, fcC_e, fcK_e, evp, bin, gt, st, putf, X.get, gets, getp, ap, clV, clL, clS, clo, ld, lda, ixs, tk, dr, sp, sp.spl, lay, ll, cs1, one, allOne, gb, sb, pb, ln, lk, Bool.and_true, Bool.not_false, Nat.reduceSub, Nat.reduceAdd, Nat.reduceBEq, beq_self_eq_true, true_and, and_true, sts, n1, F41, hv, hf, hok, Int.toNat_natCast]
      repeat' (first | omega | (with_reducible refine And.intro ?_ ?_))
      refine Nx.mk (k + 1) (by show k + 1 ≤ 4001; omega) (by show 4001 - (k + 1) < 4001 - k; omega) (Lw_re 1 [] (Nat.zero_le _) (by simp [ln]) (by simp [ln]) rfl ?_ ?_)
      ·simp only [reL, reX, rn, Nat.reduceSub, Nat.reduceLeDiff, false_and, or_false, reduceCtorEq, inb, ln, Nat.reduceLT, Nat.reduceAdd, and_true, and_self, ec, implies_true]
      ·simp only [reH, reB, reN, true_and, and_true, ec, z1]
       intro i hi
       simp only [Tw.row, z2 i hi]
     ·simp only [condK_bt, condK_bf, decide_true, inr64, e_skip, e_reg, and_self, e_seq, e_cond, e_block, o_nil, o_cons, gd_none, putK_e, runK_e, vK_e, bldK_e, storeK3_e, storeK2_e, storeK_e, conK_e, callK_e, evh_v, evh_new, evh_bld, evh_store, evh_call, loopK_n, seqK_n, blockK_n, gam_e, gamK_f, pc_e, pcK_e, fcC_e, fcK_e, evp, bin, gt, st, putf, X.get, gets, getp, ap, clV, clL, clS, clo, ld, lda, ixs, tk, dr, sp, sp.spl, lay, ll, cs1, one, allOne, gb, sb, pb, ln, lk, Bool.and_true, Bool.not_true, Nat.reduceSub, Nat.reduceAdd, beq_self_eq_true, true_and, and_true, sts, n1, F41, hv, hf, hok, Int.toNat_natCast]
      repeat' (first | omega | (with_reducible refine And.intro ?_ ?_))
      refine Nx.mk 1 ⟨by omega, fun _ => (hag x).1 hv⟩ (by omega) (Lw_re 1 [] (Nat.zero_le _) (by simp [ln]) (by simp [ln]) rfl ?_ ?_)
      ·simp only [reL, reX, rn, Nat.reduceSub, Nat.reduceLeDiff, false_and, or_false, reduceCtorEq, inb, ln, Nat.reduceLT, Nat.reduceAdd, true_and, and_true, and_self, implies_true]
       rfl
      ·simp only [reH, reB, reN, and_self, implies_true]
    ·obtain rfl : i = 1 := by omega
     have n1 : (((1 : Nat) : Int) < ((1 : Nat) : Int)) = False := eq_false (by omega)
     have hq := hp rfl
     by_cases hN : t.N x = 0
     ·have m1 : (((t.N x : Nat) : Int) - 1 ≥ 0) = False := eq_false (by omega)
      obtain ⟨z1, ⟨z2, z3⟩, z4⟩ := Tw.new hto hq (.inl hN)
      simp only [gdK_btf, condK_bf, decide_false, inr64, ↓reduceIte, e_skip, e_reg, e_seq, e_cond, e_exit, o_nil, o_cons, gd_none, gd_some, gdK_ft, putK_e, runK_e, skipK_e, vK_e, bslK_e, bldK_e, appK2_or, appK_e, evh_v, evh_bsl, evh_bld, evh_app, loopK_n, loopK_x, seqK_n, seqK_x, condK_f, exitK_t, blockK_x, blockK_n, evp, bin, gt, st, putf, X.get, getp, clo, clo.clos, lens, sp, sp.spl, lay, ll, cs1, one, allOne, gb, sb, pb, ln, undef, Bool.and_true, Nat.reduceSub, Nat.reduceAdd, beq_self_eq_true, true_and, sts, n1, m1]
      repeat' (first | omega | (with_reducible refine And.intro ?_ ?_))
      refine Nx.mk (k + 1) (by show k + 1 ≤ 4001; omega) (by show 4001 - (k + 1) < 4001 - k; omega) (Lw_re 0 [some 2] (Nat.zero_le _) (by simp [ln]) (by simp [ln]) rfl ?_ ?_)
      ·simp only [reL, reX, rn, List.getElem?_cons_zero, Nat.reduceSub, Nat.lt_irrefl, Nat.le_refl, and_false, or_true, inb, ln, Nat.reduceLT, Nat.reduceAdd, and_self, ec, implies_true]
      ·simp only [reH, reM, reN, gb, Nat.reduceLeDiff, ln, Nat.reduceLT, Nat.reduceAdd, true_and, and_true, and_self, ec, z1]
       intro i hi
       by_cases h : i < t.N x
       ·rw [if_pos h]; simp only [Tw.row, z4 i h]
       ·obtain rfl : i = t.N x := by omega
        rw [if_neg h]; simp only [Tw.row, z2, z3]
     ·have m1 : (((t.N x : Nat) : Int) - 1 ≥ 0) = True := eq_true (by omega)
      have m2 : (((t.N x : Nat) : Int) - 1).toNat = t.N x - 1 := by omega
      by_cases hl : t.hi x (t.N x - 1) = x - 1
      ·have m3 := eq_true hl
       obtain ⟨z1, z2, z3⟩ := Tw.ext hto hq hN hl
       simp only [gdK_btt, condK_bt, condK_bf, decide_true, decide_false, inr64, ↓reduceIte, e_reg, e_seq, e_cond, e_exit, o_nil, o_cons, gd_none, gd_some, gdK_tt, putK_e, runK_e, vK_e, evh_v, evh_store, storeK_r, storeR_o, storeR1_e, loopK_n, loopK_x, seqK_n, seqK_x, exitK_t, blockK_x, evp, bin, gt, gq, st, putf, X.get, clo, clo.clos, ld, lda, lens, ixs, sp, sp.spl, ll, cs1, one, allOne, gb, sb, Bool.and_true, Nat.reduceSub, Nat.reduceAdd, beq_self_eq_true, true_and, sts, n1, m1, m2, m3, Tw.row]
       repeat' (first | omega | (with_reducible refine And.intro ?_ ?_))
       refine Nx.mk (k + 1) (by show k + 1 ≤ 4001; omega) (by show 4001 - (k + 1) < 4001 - k; omega) (Lw_re 1 [] (Nat.zero_le _) (by simp [ln]) (by simp [ln]) rfl ?_ ?_)
       ·simp only [reL, reX, rn, Nat.reduceSub, Nat.reduceLeDiff, false_and, or_false, reduceCtorEq, inb, ln, Nat.reduceLT, Nat.reduceAdd, and_true, and_self, ec, implies_true]
       ·simp only [reH, reB, reN, true_and, and_true, ec, z1]
        intro i hi
        by_cases h : i = t.N x - 1
        ·subst h; rw [if_pos rfl]; simp only [Tw.row, z2]
        ·rw [if_neg h]; simp only [Tw.row, z3 i (by omega)]
      ·have m3 := eq_false hl
       obtain ⟨z1, ⟨z2, z3⟩, z4⟩ := Tw.new hto hq (.inr hl)
       simp only [gdK_btt, condK_bf, decide_true, decide_false, inr64, ↓reduceIte, e_skip, e_reg, e_seq, e_cond, e_exit, o_nil, o_cons, gd_none, gd_some, gdK_tt, putK_e, runK_e, vK_e, bslK_e, bldK_e, appK2_or, appK_e, evh_v, evh_bsl, evh_bld, evh_app, loopK_n, loopK_x, seqK_n, seqK_x, exitK_t, blockK_x, blockK_n, evp, bin, gt, gq, st, putf, X.get, getp, clo, clo.clos, ld, lda, lens, ixs, sp, sp.spl, lay, ll, cs1, one, allOne, gb, sb, pb, ln, Bool.and_true, Nat.reduceSub, Nat.reduceAdd, beq_self_eq_true, true_and, sts, n1, m1, m2, m3, Tw.row]
       repeat' (first | omega | (with_reducible refine And.intro ?_ ?_))
       refine Nx.mk (k + 1) (by show k + 1 ≤ 4001; omega) (by show 4001 - (k + 1) < 4001 - k; omega) (Lw_re 0 [some 2] (Nat.zero_le _) (by simp [ln]) (by simp [ln]) rfl ?_ ?_)
       ·simp only [reL, reX, rn, List.getElem?_cons_zero, Nat.reduceSub, Nat.lt_irrefl, Nat.le_refl, and_false, or_true, inb, ln, Nat.reduceLT, Nat.reduceAdd, and_self, ec, implies_true]
       ·simp only [reH, reM, reN, gb, Nat.reduceLeDiff, ln, Nat.reduceLT, Nat.reduceAdd, true_and, and_true, and_self, ec, z1]
        intro i hi
        by_cases h : i < t.N x
        ·rw [if_pos h]; simp only [Tw.row, z4 i h]
        ·obtain rfl : i = t.N x := by omega
         rw [if_neg h]; simp only [Tw.row, z2, z3]
  ·have n0 : ((k : Int) - 2000 ≤ 2000) = False := eq_false (by omega)
   obtain rfl : k = 4001 := by omega
   simp only [condK_bf, decide_false, e_reg, e_seq, e_cond, e_exit, e_ret, scpK_r, o_nil, o_cons, gd_none, putK_e, runK_e, vK_e, evh_v, loopK_x, seqK_n, seqK_x, exitK_t, blockK_x, ends_r, endK1_e, endK2_e, evp, bin, gt, st, putf, X.get, rdR, tupled, clV, gb, sb, Nat.reduceSub, beq_self_eq_true, true_and, sts, n0]
   have e : ((4001 : Nat) : Int) - 2000 = 2001 := rfl
   rw [e]
   exact res hK (by simp [leR])
end Go.Proofs.Ytplldhepmmjmmaa
