import Derived.Test.YtbbbpdajikblbaaVgSG9
namespace Go.Proofs.Ytbbbpdajikblbaa
open Go Go.Vg
set_option linter.unusedSimpArgs false
set_option linter.unusedVariables false
set_option maxRecDepth 10000
def s46 : SC :=
 (.seq (.reg [⟨(some 4), none, .v (.mov (.c (.lit (.bool false))))⟩])
 (.seq (.seq (.reg [⟨(some 5), none, .v (.mov (.c (.int .i64 (0))))⟩])
 (.block 0 (.loop
  (.seq (.seq (.reg [⟨(some 6), none, .v (.mov (.t 5))⟩,
   ⟨(some 7), none, .v (.mov (.t 0))⟩,
   ⟨(some 8), none, .v (.len (.t 7))⟩,
   ⟨(some 9), none, .v (.bin .lss (.t 6) (.t 8))⟩])
  (.cond (.t 9)
   .skip
   (.exit 0)))
  (.seq (.block 1 (.seq (.drw [(0, ⟨(some 12), none, .v (.mov (.t 0))⟩, false),
   (1, ⟨(some 13), none, .v (.mov (.t 5))⟩, false),
   (2, ⟨(some 14), none, .v (.ixa (.t 12) (.t 13) 1)⟩, false),
   (3, ⟨(some 15), none, .v (.load (.t 14) none)⟩, false),
   (4, ⟨(some 16), none, .v (.mov (.t 1))⟩, false),
   (5, ⟨(some 17), none, .v (.bin .sub (.t 16) (.c (.int .i64 (1))))⟩, false),
   (6, ⟨(some 18), none, .call (.c (.fn 39 [])) [(.t 15), (.c (.int .i64 (0))), (.t 17)]⟩, false),
   (7, ⟨(some 19), none, .v (.not (.t 18))⟩, false),
   (8, ⟨(some 20), none, .v (.mov (.t 19))⟩, true),
   (9, ⟨(some 21), (some (20, false)), .v (.mov (.t 5))⟩, false),
   (10, ⟨(some 22), (some (20, false)), .v (.bin .gtr (.t 21) (.c (.int .i64 (0))))⟩, false),
   (11, ⟨(some 23), (some (20, false)), .v (.mov (.t 22))⟩, true),
   (12, ⟨(some 24), (some (23, true)), .v (.mov (.t 0))⟩, false),
   (13, ⟨(some 25), (some (23, true)), .v (.mov (.t 5))⟩, false),
   (14, ⟨(some 26), (some (23, true)), .v (.ixa (.t 24) (.t 25) 1)⟩, false),
   (15, ⟨(some 27), (some (23, true)), .v (.load (.t 26) none)⟩, false),
   (16, ⟨(some 28), (some (23, true)), .v (.mov (.t 0))⟩, false),
   (17, ⟨(some 29), (some (23, true)), .v (.mov (.t 5))⟩, false),
   (18, ⟨(some 30), (some (23, true)), .v (.bin .sub (.t 29) (.c (.int .i64 (1))))⟩, false),
   (19, ⟨(some 31), (some (23, true)), .v (.ixa (.t 28) (.t 30) 1)⟩, false),
   (20, ⟨(some 32), (some (23, true)), .v (.load (.t 31) none)⟩, false)]
   none
   [⟨(some 33), (some (23, true)), .v (.bin .leq (.t 27) (.t 32))⟩,
   ⟨(some 34), (some (20, false)), .v (.pick (.t 23) (.t 33) (.c (.lit (.bool false))))⟩,
   ⟨(some 35), none, .v (.pick (.t 20) (.c (.lit (.bool true))) (.t 34))⟩])
  (.cond (.t 35)
   (.seq (.reg [⟨(some 4), none, .v (.mov (.c (.lit (.bool false))))⟩])
   .ret)
   .skip)))
  (.reg [⟨(some 10), none, .v (.mov (.t 5))⟩,
   ⟨(some 11), none, .v (.bin .add (.t 10) (.c (.int .i64 (1))))⟩,
   ⟨(some 5), none, .v (.mov (.t 11))⟩]))))))
 (.seq (.reg [⟨(some 4), none, .v (.mov (.c (.lit (.bool true))))⟩])
 .ret)))
def r46 : List RV := [.t 4]
theorem k46 : (Try.f46.body.bind (cC Try.prog), cR Try.prog Try.f46.results.toList, Try.f46.ntmps) = (some s46, some r46, 36) := by kernel_rfl
theorem q46 : Known Try.prog 46 := ⟨_, Try.func46, by decide, by simp [Try.f46]⟩
def s47 : SC :=
 (.seq (.reg [⟨(some 4), none, .v (.mov (.c (.int .i64 (0))))⟩])
 (.seq (.reg [⟨(some 5), none, .v (.mov (.c (.int .i64 (-1))))⟩])
 (.seq (.seq (.reg [⟨(some 7), none, .v (.mov (.t 0))⟩,
  ⟨(some 8), none, .v (.len (.t 7))⟩,
  ⟨(some 9), none, .v (.bin .sub (.t 8) (.c (.int .i64 (1))))⟩,
  ⟨(some 6), none, .v (.mov (.t 9))⟩])
 (.block 0 (.loop
  (.seq (.seq (.reg [⟨(some 10), none, .v (.mov (.t 6))⟩,
   ⟨(some 11), none, .v (.bin .geq (.t 10) (.c (.int .i64 (0))))⟩])
  (.cond (.t 11)
   .skip
   (.exit 0)))
  (.seq (.block 1 (.seq (.reg [⟨(some 14), none, .v (.mov (.t 0))⟩,
   ⟨(some 15), none, .v (.mov (.t 6))⟩,
   ⟨(some 16), none, .v (.ixa (.t 14) (.t 15) 1)⟩,
   ⟨(some 17), none, .v (.load (.t 16) none)⟩,
   ⟨(some 18), none, .v (.mov (.t 1))⟩,
   ⟨(some 19), none, .v (.bin .eql (.t 17) (.t 18))⟩])
  (.cond (.t 19)
   (.reg [⟨(some 20), none, .v (.mov (.t 6))⟩,
    ⟨(some 5), none, .v (.mov (.t 20))⟩])
   .skip)))
  (.reg [⟨(some 12), none, .v (.mov (.t 6))⟩,
   ⟨(some 13), none, .v (.bin .sub (.t 12) (.c (.int .i64 (1))))⟩,
   ⟨(some 6), none, .v (.mov (.t 13))⟩]))))))
 (.seq (.reg [⟨(some 21), none, .v (.mov (.t 5))⟩,
  ⟨(some 4), none, .v (.mov (.t 21))⟩])
 .ret))))
def r47 : List RV := [.t 4]
theorem k47 : (Try.f47.body.bind (cC Try.prog), cR Try.prog Try.f47.results.toList, Try.f47.ntmps) = (some s47, some r47, 22) := by kernel_rfl
theorem q47 : Known Try.prog 47 := ⟨_, Try.func47, by decide, by simp [Try.f47]⟩
theorem getD_mem {cs : List Int} {i : Nat} (h : i < cs.length) : cs.getD i 0 ∈ cs := by
 rw [List.getD_eq_getElem?_getD, List.getElem?_eq_getElem h]; simp
def C46 : PC := fun args K => ∃ (l : List Int) (n : Nat), args = [.ints .i64 l, .int .i64 n] ∧ (n ≤ 1000 ∧ l.length ≤ 1000) ∧ (∀ x, x ∈ l → 0 ≤ x ∧ x < n) ∧ (∀ i, i + 1 < l.length → l.getD i 0 < l.getD (i + 1) 0) ∧ K (.bool true)
theorem p46 : PureOk Try.prog 46 C46 := by
 refine pure_of (T := [(39, .fc Fw)]) ⟨⟨p39, q39⟩, trivial⟩ Try.func46 k46 ?_
 rintro args K ⟨l, n, rfl, ⟨hn, hn2⟩, hb, hr, hK⟩
 simp only [e_reg, e_seq, e_block, e_loop, o_nil, o_cons, gd_none, putK_e, runK_e, vK_e, evh_v, seqK_n, evp, st, putf, X.get, mkfr, rep, undef, Nat.reduceSub, true_and, s46, r46]
 refine loop_at2 (G := Nat) (fun i => [(5, .int .i64 i)]) (fun i => []) (fun i => i ≤ l.length) (fun i => l.length - i) 0 (Nat.zero_le _) ?_
 (intro fr1 hf1; simp only [forget, dstC, dstO, dstD, dst1, st] at hf1; subst hf1)
 refine ⟨?_, ?_⟩
 ·refine Lw_re 0 [] (Nat.zero_le _) (by simp [ln]) (by simp [ln]) rfl ?_ ?_
  ·simp only [reL, reX, inb, ln, sts, st, and_self, Int.natCast_zero]
  ·simp only [reH, reN]
 ·intro i hi1
  simp only [inr64, e_skip, e_reg, e_drw, e_seq, e_cond, e_block, e_exit, e_ret, o_nil, o_cons, gd_none, gd_some, gdK_tt, gdK_tf, gdK_ft, gdK_ff, gdK_u, putK_e, runK_e, skipK_e, vK_e, evh_v, dX_e, dX_b, dG_t, dG_f, d_nil, d_cons, tlK_n, loopK_n, loopK_x, loopK_r, seqK_n, seqK_x, seqK_r, condK_t, condK_f, condK_b, exitK_t, blockK_x, blockK_n, blockK_r, ends_r, endK1_e, endK2_e, gamq_e, gamqK_f, evp, bin, gt, gq, st, putf, X.get, gets, ap, rdR, tupled, clV, clS, clo, clo.clos, ld, lda, lens, ixs, lk, evq, gdl, undef, Bool.and_true, Bool.not_true, Bool.not_false, beq_self_eq_true, true_and, decide_eq_true_eq, decide_eq_false_iff_not, Bool.not_eq_eq_eq_not, sts, Int.toNat_natCast, Fw]
  refine ⟨fun h => ?_, fun h => res hK (by simp [leR])⟩
  have hm := hb _ (getD_mem (show i < l.length by omega))
  refine ⟨by omega, by omega, fun h1 => absurd (by omega) h1, fun _ => ⟨fun h2 => ⟨by omega, by omega, by omega, fun h3 => ?_, fun h3 => ⟨by omega, ?_⟩⟩, fun h2 => ⟨by omega, ?_⟩⟩⟩
  ·have := hr (i - 1) (by omega)
   rw [show i - 1 + 1 = i by omega] at this
   rw [show ((i : Int) - 1).toNat = i - 1 by omega] at h3
   omega
  ·refine Nx.mk (i + 1) (by show i + 1 ≤ l.length; omega) (by show l.length - (i + 1) < l.length - i; omega) (Lw_re 0 [] (Nat.zero_le _) (by simp [ln]) (by simp [ln]) rfl ?_ ?_)
   ·simp only [reL, reX, inb, and_self, Int.natCast_add, Int.natCast_one]
   ·simp only [reH, reN]
  ·refine Nx.mk (i + 1) (by show i + 1 ≤ l.length; omega) (by show l.length - (i + 1) < l.length - i; omega) (Lw_re 0 [] (Nat.zero_le _) (by simp [ln]) (by simp [ln]) rfl ?_ ?_)
   ·simp only [reL, reX, inb, and_self, Int.natCast_add, Int.natCast_one]
   ·simp only [reH, reN]
def C47 : PC := fun args K => ∃ (l : List Int) (n : Int), args = [.ints .i64 l, .int .i64 n] ∧ l.length ≤ 1000 ∧ ∀ r : Int, (0 ≤ r ↔ n ∈ l) → K (.int .i64 r)
theorem p47 : PureOk Try.prog 47 C47 := by
 refine pure_of (T := []) trivial Try.func47 k47 ?_
 rintro args K ⟨l, n, rfl, hl, hK⟩
 simp only [inr64, e_reg, e_seq, e_block, e_loop, o_nil, o_cons, gd_none, putK_e, runK_e, vK_e, evh_v, seqK_n, evp, bin, gt, st, putf, X.get, mkfr, rep, lens, undef, Nat.reduceSub, true_and, s47, r47]
 refine ⟨by omega, ?_⟩
 refine loop_at2 (G := Nat × Int) (fun g => [(6, .int .i64 ((g.1 : Int) - 1)), (5, .int .i64 g.2)]) (fun i => []) (fun g => g.1 ≤ l.length ∧ (0 ≤ g.2 ↔ n ∈ l.drop g.1)) (fun g => g.1) (l.length, -1) ⟨Nat.le_refl _, by simp⟩ ?_
 (intro fr1 hf1; simp only [forget, dstC, dstO, st] at hf1; subst hf1)
 refine ⟨?_, ?_⟩
 ·refine Lw_re 0 [] (Nat.zero_le _) (by simp [ln]) (by simp [ln]) rfl ?_ ?_
  ·simp only [reL, reX, inb, ln, sts, st, and_self]
  ·simp only [reH, reN]
 ·rintro ⟨i, r⟩ ⟨hi1, hi2⟩
  dsimp only at hi1 hi2
  simp only [inr64, e_skip, e_reg, e_seq, e_cond, e_block, e_exit, e_ret, o_nil, o_cons, gd_none, putK_e, runK_e, vK_e, evh_v, loopK_n, loopK_x, seqK_n, seqK_x, condK_b, exitK_t, blockK_x, blockK_n, ends_r, endK1_e, endK2_e, evp, bin, gt, gq, st, putf, X.get, rdR, tupled, clV, clS, clo, ld, lda, ixs, beq_self_eq_true, true_and, decide_eq_true_eq, decide_eq_false_iff_not, sts]
  have dr : ∀ j, j < l.length → (n ∈ l.drop j ↔ l.getD j 0 = n ∨ n ∈ l.drop (j + 1)) := fun j hj => by
   rw [List.drop_eq_getElem_cons hj, List.mem_cons]
   simp [List.getD, hj, eq_comm]
  refine ⟨fun h => ?_, fun h => ?_⟩
  ·have d := dr (i - 1) (by omega)
   rw [show i - 1 + 1 = i by omega] at d
   rw [show ((i : Int) - 1).toNat = i - 1 by omega]
   have ec : (i : Int) - 1 = ((i - 1 : Nat) : Int) := by omega
   refine ⟨by omega, fun h1 => ⟨by omega, ?_⟩, fun h1 => ⟨by omega, ?_⟩⟩
   ·refine Nx.mk (i - 1, (i : Int) - 1) ⟨by show i - 1 ≤ l.length; omega, ⟨fun _ => d.2 (.inl h1), fun _ => h⟩⟩ (by show i - 1 < i; omega) (Lw_re 0 [] (Nat.zero_le _) (by simp [ln]) (by simp [ln]) rfl ?_ ?_)
    ·simp only [reL, reX, inb, and_self, ec]
    ·simp only [reH, reN]
   ·refine Nx.mk (i - 1, r) ⟨by show i - 1 ≤ l.length; omega, by simp only; rw [d, hi2]; exact ⟨.inr, fun h => h.resolve_left h1⟩⟩ (by show i - 1 < i; omega) (Lw_re 0 [] (Nat.zero_le _) (by simp [ln]) (by simp [ln]) rfl ?_ ?_)
    ·simp only [reL, reX, inb, and_self, ec]
    ·simp only [reH, reN]
  ·have e : i = 0 := by omega
   subst e
   exact res (hK r (by simpa using hi2)) (by simp [leR])
def s10t1 : SC :=
 (.seq (.reg [⟨(some 76), none, .v (.load (.t 3) (some 2))⟩,
   ⟨(some 77), none, .v (.mov (.t 12))⟩,
   ⟨(some 78), none, .call (.c (.fn 27 [])) [(.t 76), (.t 77)]⟩,
   ⟨(some 75), none, .v (.mov (.t 78))⟩,
   ⟨(some 79), none, .v (.ext (.t 75) 0)⟩,
   ⟨(some 80), none, .v (.ext (.t 75) 1)⟩,
   ⟨(some 13), none, .v (.mov (.t 79))⟩,
   ⟨(some 14), none, .v (.mov (.t 80))⟩])
  (.seq (.reg [⟨(some 82), none, .v (.load (.t 3) (some 2))⟩,
   ⟨(some 83), none, .v (.mov (.t 12))⟩,
   ⟨(some 84), none, .v (.mov (.t 2))⟩,
   ⟨(some 85), none, .call (.c (.fn 25 [])) [(.t 82), (.t 83), (.t 84)]⟩,
   ⟨(some 81), none, .v (.mov (.t 85))⟩,
   ⟨(some 86), none, .v (.ext (.t 81) 0)⟩,
   ⟨(some 87), none, .v (.ext (.t 81) 1)⟩,
   ⟨(some 15), none, .v (.mov (.t 86))⟩,
   ⟨(some 16), none, .v (.mov (.t 87))⟩])
  (.seq (.reg [⟨(some 88), none, .v (.mov (.t 7))⟩,
   ⟨(some 89), none, .v (.mov (.t 11))⟩,
   ⟨(some 90), none, .call (.c (.fn 47 [])) [(.t 88), (.t 89)]⟩,
   ⟨(some 91), none, .v (.bin .geq (.t 90) (.c (.int .i64 (0))))⟩,
   ⟨(some 17), none, .v (.mov (.t 91))⟩])
  (.seq (.reg [⟨(some 92), none, .v (.mov (.t 14))⟩,
   ⟨(some 93), none, .v (.bin .eql (.t 92) (.c (.int .i64 (0))))⟩,
   ⟨(some 94), none, .v (.mov (.t 17))⟩,
   ⟨(some 95), none, .v (.binb .neq (.t 93) (.t 94))⟩,
   ⟨(some 96), none, .v (.mov (.t 95))⟩,
   ⟨(some 97), (some (96, false)), .v (.mov (.t 16))⟩,
   ⟨(some 98), (some (96, false)), .v (.bin .neq (.t 97) (.c (.int .i64 (0))))⟩,
   ⟨(some 99), none, .v (.pick (.t 96) (.c (.lit (.bool true))) (.t 98))⟩,
   ⟨(some 100), none, .v (.mov (.t 99))⟩,
   ⟨(some 101), (some (100, false)), .v (.mov (.t 15))⟩,
   ⟨(some 102), (some (100, false)), .v (.mov (.t 101))⟩,
   ⟨(some 103), (some (102, true)), .v (.mov (.t 17))⟩,
   ⟨(some 104), (some (102, true)), .v (.not (.t 103))⟩,
   ⟨(some 105), (some (100, false)), .v (.pick (.t 102) (.t 104) (.c (.lit (.bool false))))⟩,
   ⟨(some 106), none, .v (.pick (.t 100) (.c (.lit (.bool true))) (.t 105))⟩])
  (.cond (.t 106)
   (.seq (.reg [⟨(some 6), none, .v (.mov (.c (.lit (.bool false))))⟩])
   .ret)
   .skip)))))
def s10 : SC :=
 (.seq (.reg [⟨(some 3), none, .box 36 (.t 0)⟩,
  ⟨(some 6), none, .v (.mov (.c (.lit (.bool false))))⟩])
 (.seq (.reg [⟨(some 19), none, .v (.load (.t 3) (some 2))⟩,
  ⟨(some 20), none, .v (.mov (.t 1))⟩,
  ⟨(some 21), none, .call (.c (.fn 30 [])) [(.t 19), (.t 20)]⟩,
  ⟨(some 18), none, .v (.mov (.t 21))⟩,
  ⟨(some 22), none, .v (.ext (.t 18) 0)⟩,
  ⟨(some 23), none, .v (.ext (.t 18) 1)⟩,
  ⟨(some 7), none, .v (.mov (.t 22))⟩,
  ⟨(some 8), none, .v (.mov (.t 23))⟩])
 (.seq (.reg [⟨(some 25), none, .v (.load (.t 3) (some 2))⟩,
  ⟨(some 26), none, .v (.mov (.t 1))⟩,
  ⟨(some 27), none, .call (.c (.fn 27 [])) [(.t 25), (.t 26)]⟩,
  ⟨(some 24), none, .v (.mov (.t 27))⟩,
  ⟨(some 28), none, .v (.ext (.t 24) 0)⟩,
  ⟨(some 29), none, .v (.ext (.t 24) 1)⟩,
  ⟨(some 9), none, .v (.mov (.t 28))⟩,
  ⟨(some 10), none, .v (.mov (.t 29))⟩])
 (.seq (.seq (.reg [⟨(some 30), none, .v (.mov (.t 8))⟩,
  ⟨(some 31), none, .v (.bin .neq (.t 30) (.c (.int .i64 (0))))⟩,
  ⟨(some 32), none, .v (.mov (.t 31))⟩,
  ⟨(some 33), (some (32, false)), .v (.mov (.t 1))⟩,
  ⟨(some 34), (some (32, false)), .v (.len (.t 33))⟩,
  ⟨(some 35), (some (32, false)), .v (.bin .gtr (.t 34) (.c (.int .i64 (24))))⟩,
  ⟨(some 36), none, .v (.pick (.t 32) (.c (.lit (.bool true))) (.t 35))⟩])
 (.cond (.t 36)
  (.seq (.reg [⟨(some 37), none, .v (.mov (.t 7))⟩,
   ⟨(some 38), none, .v (.len (.t 37))⟩,
   ⟨(some 39), none, .v (.bin .eql (.t 38) (.c (.int .i64 (0))))⟩,
   ⟨(some 40), none, .v (.mov (.t 39))⟩,
   ⟨(some 41), (some (40, true)), .v (.mov (.t 8))⟩,
   ⟨(some 42), (some (40, true)), .v (.bin .eql (.t 41) (.c (.int .i64 (4))))⟩,
   ⟨(some 43), (some (40, true)), .v (.mov (.t 10))⟩,
   ⟨(some 44), (some (40, true)), .v (.bin .eql (.t 43) (.c (.int .i64 (0))))⟩,
   ⟨(some 45), (some (40, true)), .v (.binb .eql (.t 42) (.t 44))⟩,
   ⟨(some 46), none, .v (.pick (.t 40) (.t 45) (.c (.lit (.bool false))))⟩,
   ⟨(some 47), none, .v (.mov (.t 46))⟩,
   ⟨(some 48), (some (47, true)), .call (.c (.fn 24 [])) []⟩,
   ⟨(some 49), none, .v (.pick (.t 47) (.t 48) (.c (.lit (.bool false))))⟩,
   ⟨(some 6), none, .v (.mov (.t 49))⟩])
  .ret)
  .skip))
 (.seq (.seq (.reg [⟨(some 50), none, .v (.mov (.t 10))⟩,
  ⟨(some 51), none, .v (.bin .neq (.t 50) (.c (.int .i64 (4))))⟩,
  ⟨(some 52), none, .v (.mov (.t 51))⟩,
  ⟨(some 53), (some (52, false)), .v (.mov (.t 7))⟩,
  ⟨(some 54), (some (52, false)), .v (.mov (.t 1))⟩,
  ⟨(some 55), (some (52, false)), .v (.len (.t 54))⟩,
  ⟨(some 56), (some (52, false)), .call (.c (.fn 46 [])) [(.t 53), (.t 55)]⟩,
  ⟨(some 57), (some (52, false)), .v (.not (.t 56))⟩,
  ⟨(some 58), none, .v (.pick (.t 52) (.c (.lit (.bool true))) (.t 57))⟩])
 (.cond (.t 58)
  (.seq (.reg [⟨(some 6), none, .v (.mov (.c (.lit (.bool false))))⟩])
  .ret)
  .skip))
 (.seq (.seq (.reg [⟨(some 11), none, .v (.mov (.c (.int .i64 (0))))⟩])
 (.block 0 (.loop
  (.seq (.seq (.reg [⟨(some 59), none, .v (.mov (.t 11))⟩,
   ⟨(some 60), none, .v (.mov (.t 1))⟩,
   ⟨(some 61), none, .v (.len (.t 60))⟩,
   ⟨(some 62), none, .v (.bin .lss (.t 59) (.t 61))⟩])
  (.cond (.t 62)
   .skip
   (.exit 0)))
  (.seq (.block 1 (.seq (.tre (.op ⟨(some 66), none, .v (.mov (.t 1))⟩ (.op ⟨(some 67), none, .v (.mov (.t 11))⟩ (.op ⟨(some 70), none, .v (.mov (.t 1))⟩ (.op ⟨(some 71), none, .v (.mov (.t 11))⟩ (.op ⟨(some 72), none, .v (.bin .add (.t 71) (.c (.int .i64 (1))))⟩ (.op ⟨(some 65), none, .emp 6⟩ (.op ⟨(some 68), none, .slc (.t 66) none (some (.t 67)) none 6⟩ (.op ⟨(some 69), none, .app 65 6 48 (.t 65) (.t 68)⟩ (.op ⟨(some 73), none, .slc (.t 70) (some (.t 72)) none none 6⟩ (.op ⟨(some 74), none, .app 65 6 48 (.t 69) (.t 73)⟩ (.op ⟨(some 12), none, .v (.mov (.t 74))⟩ .leaf
  .stop)
  .stop)
  .stop)
  (.op ⟨(some 73), none, .slc (.t 70) (some (.t 72)) none none 6⟩ (.op ⟨(some 69), none, .app 65 6 48 (.t 65) (.t 68)⟩ (.op ⟨(some 74), none, .app 65 6 48 (.t 69) (.t 73)⟩ (.op ⟨(some 12), none, .v (.mov (.t 74))⟩ .leaf
  .stop)
  .stop)
  .stop)
  .stop))
  (.op ⟨(some 73), none, .slc (.t 70) (some (.t 72)) none none 6⟩ (.op ⟨(some 68), none, .slc (.t 66) none (some (.t 67)) none 6⟩ (.op ⟨(some 69), none, .app 65 6 48 (.t 65) (.t 68)⟩ (.op ⟨(some 74), none, .app 65 6 48 (.t 69) (.t 73)⟩ (.op ⟨(some 12), none, .v (.mov (.t 74))⟩ .leaf
  .stop)
  .stop)
  .stop)
  .stop)
  .stop))
  (.op ⟨(some 68), none, .slc (.t 66) none (some (.t 67)) none 6⟩ (.op ⟨(some 65), none, .emp 6⟩ (.op ⟨(some 69), none, .app 65 6 48 (.t 65) (.t 68)⟩ (.op ⟨(some 73), none, .slc (.t 70) (some (.t 72)) none none 6⟩ (.op ⟨(some 74), none, .app 65 6 48 (.t 69) (.t 73)⟩ (.op ⟨(some 12), none, .v (.mov (.t 74))⟩ .leaf
  .stop)
  .stop)
  .stop)
  (.op ⟨(some 73), none, .slc (.t 70) (some (.t 72)) none none 6⟩ (.op ⟨(some 69), none, .app 65 6 48 (.t 65) (.t 68)⟩ (.op ⟨(some 74), none, .app 65 6 48 (.t 69) (.t 73)⟩ (.op ⟨(some 12), none, .v (.mov (.t 74))⟩ .leaf
  .stop)
  .stop)
  .stop)
  .stop))
  (.op ⟨(some 73), none, .slc (.t 70) (some (.t 72)) none none 6⟩ (.op ⟨(some 65), none, .emp 6⟩ (.op ⟨(some 69), none, .app 65 6 48 (.t 65) (.t 68)⟩ (.op ⟨(some 74), none, .app 65 6 48 (.t 69) (.t 73)⟩ (.op ⟨(some 12), none, .v (.mov (.t 74))⟩ .leaf
  .stop)
  .stop)
  .stop)
  .stop)
  .stop))
  (.op ⟨(some 73), none, .slc (.t 70) (some (.t 72)) none none 6⟩ (.op ⟨(some 65), none, .emp 6⟩ (.op ⟨(some 68), none, .slc (.t 66) none (some (.t 67)) none 6⟩ (.op ⟨(some 69), none, .app 65 6 48 (.t 65) (.t 68)⟩ (.op ⟨(some 74), none, .app 65 6 48 (.t 69) (.t 73)⟩ (.op ⟨(some 12), none, .v (.mov (.t 74))⟩ .leaf
  .stop)
  .stop)
  .stop)
  .stop)
  (.op ⟨(some 68), none, .slc (.t 66) none (some (.t 67)) none 6⟩ (.op ⟨(some 65), none, .emp 6⟩ (.op ⟨(some 69), none, .app 65 6 48 (.t 65) (.t 68)⟩ (.op ⟨(some 74), none, .app 65 6 48 (.t 69) (.t 73)⟩ (.op ⟨(some 12), none, .v (.mov (.t 74))⟩ .leaf
  .stop)
  .stop)
  .stop)
  .stop)
  .stop))
  .stop)))
  .stop)
  .stop)
  .stop)
  .stop)
  .stop))
 s10t1))
  (.reg [⟨(some 63), none, .v (.mov (.t 11))⟩,
   ⟨(some 64), none, .v (.bin .add (.t 63) (.c (.int .i64 (1))))⟩,
   ⟨(some 11), none, .v (.mov (.t 64))⟩]))))))
 (.seq (.reg [⟨(some 107), none, .call (.c (.fn 24 [])) []⟩,
  ⟨(some 6), none, .v (.mov (.t 107))⟩])
 .ret)))))))
def r10 : List RV := [.t 6]
theorem k10 : (Try.f10.body.bind (cC Try.prog), cR Try.prog Try.f10.results.toList, Try.f10.ntmps) = (some s10, some r10, 108) := by kernel_rfl
theorem rgR_one {L : List Rdg} (j : Nat) : allOne (rgR L j) = true := rfl
theorem suL_mem {T : List Int} {m : Int} {L : List Rdg} {n : Nat} {x : Int} : x ∈ suL T m L n ↔ ∃ i : Nat, i < n ∧ sus T m L i = true ∧ x = i := by
 unfold suL
 simp only [List.mem_map, List.mem_filter, List.mem_range]
 constructor
 ·rintro ⟨a, ⟨h1, h2⟩, rfl⟩; exact ⟨a, h1, h2, rfl⟩
 ·rintro ⟨a, h1, h2, rfl⟩; exact ⟨a, ⟨h1, h2⟩, rfl⟩
theorem suL_rise (T : List Int) (m : Int) (L : List Rdg) (n : Nat) (i : Nat) (hi : i + 1 < (suL T m L n).length) : (suL T m L n).getD i 0 < (suL T m L n).getD (i + 1) 0 := by
 have h : (suL T m L n).Pairwise (· < ·) := by
  unfold suL
  rw [List.pairwise_map]
  refine List.Pairwise.imp ?_ (List.Pairwise.filter _ List.pairwise_lt_range)
  intro a b h
  exact Int.ofNat_lt.2 h
 have := List.pairwise_iff_getElem.1 h i (i + 1) (by omega) hi (by omega)
 simpa [List.getD, hi, show i < (suL T m L n).length by omega] using this
def C27h : PC := fun args K => ∃ (T : List Int) (m : Int) (L : List Rdg) (n : Nat) (f : Nat → List SV), (args = [.agg [.ints .i64 T, .int .i64 m], .rd 6 n f] ∨ args = [.agg [.ints .i64 T, .int .i64 m], .clipr 6 n f]) ∧ n = L.length ∧ (∀ i, i < L.length → f i = rgR L i) ∧ K (spnS T m L)
theorem p27h : PureOk Try.prog 27 C27h := by
 rintro w im args vs K him ha ⟨T, m, L, n, f, h, rfl, hf, hK⟩
 rcases h with rfl | rfl
 ·exact p27g w im _ vs K him ha ⟨T, m, L, f, rfl, hf, hK⟩
 ·cases ha with
  | cons _ v0 _ vs0 h0 hs0 =>
   cases hs0 with
   | cons _ v1 _ vs1 h1 hs1 =>
    cases hs1
    exact p27g w im _ _ K him (.cons _ _ _ _ h0 (.cons _ _ _ _ h1.unclipr .nil)) ⟨T, m, L, f, rfl, hf, hK⟩
def C25h : PC := fun args K => ∃ (T : List Int) (m : Int) (L : List Rdg) (n : Nat) (f : Nat → List SV) (N : Nat) (Y : Nat → List Int), (args = [.agg [.ints .i64 T, .int .i64 m], .rd 6 n f, .rd 1 N fun i => [.ints .i64 (Y i)]] ∨ args = [.agg [.ints .i64 T, .int .i64 m], .clipr 6 n f, .rd 1 N fun i => [.ints .i64 (Y i)]]) ∧ n = L.length ∧ (∀ i, i < L.length → f i = rgR L i) ∧ K (.tup [.bool (truE T m L N Y), .int .i64 (chk T m L)])
theorem p25h : PureOk Try.prog 25 C25h := by
 rintro w im args vs K him ha ⟨T, m, L, n, f, N, Y, h, rfl, hf, hK⟩
 rcases h with rfl | rfl
 ·cases ha with
  | cons _ v0 _ vs0 h0 hs0 =>
   cases hs0 with
   | cons _ v1 _ vs1 h1 hs1 =>
    exact p25i w im _ _ K him (.cons _ _ _ _ h0 (.cons _ _ _ _ (leR_ok (y := .rd 6 L.length (rgR L)) (x := .rd 6 L.length f) 4 ⟨rfl, rfl, hf⟩ h1) hs1)) ⟨T, m, L, N, Y, _, rfl, fun _ _ => rfl, hK⟩
 ·cases ha with
  | cons _ v0 _ vs0 h0 hs0 =>
   cases hs0 with
   | cons _ v1 _ vs1 h1 hs1 =>
    exact p25i w im _ _ K him (.cons _ _ _ _ h0 (.cons _ _ _ _ (leR_ok (y := .rd 6 L.length (rgR L)) (x := .rd 6 L.length f) 4 ⟨rfl, rfl, hf⟩ h1.unclipr) hs1)) ⟨T, m, L, N, Y, _, rfl, fun _ _ => rfl, hK⟩
def C10 : PC := fun args K => ∃ (T : List Int) (m : Int) (L : List Rdg) (N : Nat) (Y : Nat → List Int), args = [.agg [.ints .i64 T, .int .i64 m], .rd 6 L.length (rgR L), .rd 1 N fun i => [.ints .i64 (Y i)]] ∧ K (.lit (.bool true))
abbrev T10 : List (Nat × Sg) := [(24, .fc F24), (27, .pc C27h), (25, .pc C25h), (30, .pc C30), (46, .pc C46), (47, .pc C47)]
set_option maxHeartbeats 4000000 in
theorem p10 (p24 : PureOk Try.prog 24 (fcC F24)) (q24 : Known Try.prog 24) : PureOk Try.prog 10 C10 := by
 refine pure_of (T := T10) ⟨⟨p24, q24⟩, ⟨p27h, q27⟩, ⟨p25h, q25⟩, ⟨p30, q30⟩, ⟨p46, q46⟩, ⟨p47, q47⟩, trivial⟩ Try.func10 k10 ?_
 rintro args K ⟨T, m, L, N, Y, rfl, hK⟩
 have e1 : ∀ x : Int, (x = x) = True := fun x => eq_self x
 have f40 : ((4 : Int) = 0) = False := eq_false (by decide)
 have f04 : ((0 : Int) = 4) = False := eq_false (by decide)
 have f00 : (((0 : Nat) : Int) = 0) = True := by simp
 simp only [e_reg, e_seq, o_nil, o_cons, gd_none, putK_e, runK_e, vK_e, boxK_e, conK_e, callK_e, evh_v, evh_box, evh_call, seqK_n, gam_e, gamK_p, pc_e, pcK_e, evp, gt, st, putf, X.get, gets, ap, mkfr, rep, clV, clL, clS, clo, ld, lda, tk, dr, cs1, gb, pb, ln, lk, undef, Nat.reduceSub, Nat.reduceBEq, beq_self_eq_true, true_and, s10, r10]
 refine ⟨T, m, L, rfl, ?_⟩
 by_cases h0 : chk T m L = 0
 ·obtain ⟨hs, hL⟩ := chk_0.1 h0
  have hL24 : L.length ≤ 24 := by
   have hL := hL
   simp only [okL, Bool.and_eq_true, decide_eq_true_eq] at hL
   omega
  cases htr : trR T m L with
  | some d =>
   have e : susS T m L = .tup [.lit (.slice none 0 0), .int .i64 4] := by simp [susS, h0, htr]
   have e' : spnS T m L = .tup [.rd 1 T.length (spW T d), .int .i64 0] := by simp [spnS, h0, htr]
   rw [e]
   simp only [e_reg, e_seq, o_nil, o_cons, gd_none, putK_e, runK_e, vK_e, conK_e, callK_e, evh_v, evh_call, seqK_n, gam_e, gamK_p, pc_e, pcK_e, evp, gt, gq, st, putf, X.get, gets, ap, clV, clL, clS, clo, ld, lda, tk, dr, gb, lk, Nat.reduceBEq, beq_self_eq_true, true_and]
   refine ⟨T, m, L, _, _, .inl rfl, rfl, fun _ _ => rfl, ?_⟩
   rw [e']
   simp only [gdK_btt, gdK_bft, decide_true, decide_false, e_reg, e_seq, e_cond, e_ret, o_nil, o_cons, gd_none, gd_some, gdK_tt, gdK_tf, putK_e, runK_e, skipK_e, vK_e, conK_e, callK_e, evh_v, evh_call, seqK_n, seqK_r, condK_t, ends_r, endK1_e, endK2_e, gam_e, gamK_f, pc_e, pcK_e, fcC_e, fcK_e, evp, bin, binB, gt, gq, st, putf, X.get, gets, ap, rdR, tupled, clV, clL, clS, clo, asB, lens, lk, undef, Bool.not_false, beq_self_eq_true, true_and, f40, f00, F24]
   exact res hK (by simp [leR])
  | none =>
   have e : susS T m L = .tup [.ints .i64 (suL T m L L.length), .int .i64 0] := by simp [susS, h0, htr]
   have e' : spnS T m L = .tup [.lit (.slice none 0 0), .int .i64 4] := by simp [spnS, h0, htr]
   have g24 : ((L.length : Int) > 24) = False := eq_false (by omega)
   have hsl := suL_len T m L L.length
   rw [e]
   simp only [e_reg, e_seq, o_nil, o_cons, gd_none, putK_e, runK_e, vK_e, conK_e, callK_e, evh_v, evh_call, seqK_n, gam_e, gamK_p, pc_e, pcK_e, evp, gt, gq, st, putf, X.get, gets, ap, clV, clL, clS, clo, ld, lda, tk, dr, gb, lk, Nat.reduceBEq, beq_self_eq_true, true_and]
   refine ⟨T, m, L, _, _, .inl rfl, rfl, fun _ _ => rfl, ?_⟩
   rw [e']
   simp only [gdK_bff, condK_bf, decide_true, decide_false, e_skip, e_reg, e_seq, e_cond, o_nil, o_cons, gd_none, gd_some, gdK_ff, putK_e, runK_e, vK_e, conK_e, callK_e, evh_v, evh_call, seqK_n, gam_e, gamK_p, pc_e, pcK_e, evp, bin, gt, gq, st, putf, X.get, gets, ap, clV, clL, clS, clo, lens, lk, Bool.not_true, Nat.reduceBEq, beq_self_eq_true, true_and, g24]
   refine ⟨suL T m L L.length, L.length, rfl, ⟨by omega, by omega⟩, fun x hx => by obtain ⟨k, h1, _, rfl⟩ := suL_mem.1 hx; omega, suL_rise T m L L.length, ?_⟩
   simp only [condK_bf, e_skip, e_reg, e_seq, e_cond, e_block, e_loop, o_nil, o_cons, gd_none, putK_e, runK_e, vK_e, evh_v, seqK_n, evp, gt, st, putf, X.get, Bool.not_true, true_and]
   refine loop_atc (G := Nat) (fun i => [(11, .int .i64 i)]) (fun i => i ≤ L.length) (fun i => L.length - i) 0 (Nat.zero_le _) ?_
   (intro fr1 hf1; simp only [forget, s10t1, dstC, dstT, dstO, dst1, st] at hf1; subst hf1)
   refine ⟨?_, ?_⟩
   ·refine Lw_fr ?_
    simp only [frW, sts, st, Int.natCast_zero, true_or, or_true, and_self, reduceCtorEq, eq_self]
   ·intro i hi1
    by_cases hi : i < L.length
    ·have n0 : ((i : Int) < (L.length : Int)) = True := eq_true (by omega)
     have hck : chk T m (L.eraseIdx i) = 0 := chk_0.2 ⟨hs, okL_er hL i⟩
     have hcase : (sus T m L i = true ∧ ∃ y, spnS T m (L.eraseIdx i) = .tup [y, .int .i64 0]) ∨ (sus T m L i = false ∧ truE T m (L.eraseIdx i) N Y = false ∧ spnS T m (L.eraseIdx i) = .tup [.lit (.slice none 0 0), .int .i64 4]) := by
      cases hx : trR T m (L.eraseIdx i) with
      | some d => exact .inl ⟨by unfold sus; rw [hx]; rfl, .rd 1 T.length (spW T d), by simp only [spnS, hck, hx, if_true]⟩
      | none =>
       refine .inr ⟨by unfold sus; rw [hx]; rfl, ?_, by simp only [spnS, hck, hx, if_true]⟩
       cases ht : truE T m (L.eraseIdx i) N Y with
       | false => rfl
       | true =>
        obtain ⟨d, hd⟩ := tr_of hs (okL_er hL i) (true_isT ht)
        rw [hx] at hd; cases hd
     have ei : ((i : Int) - 0).toNat = i := by omega
     have e0 : (((0 : Nat) : Int) - 0).toNat = 0 := rfl
     have e2 : ((i : Int) + 1).toNat = i + 1 := by omega
     have e3 : ((L.length : Int) - ((i : Int) + 1)).toNat = L.length - (i + 1) := by omega
     have bT : (-9223372036854775808 ≤ (i : Int) + 1 ∧ (i : Int) + 1 ≤ 9223372036854775807) = True := eq_true (by omega)
     have bI : (0 ≤ (0 : Int) ∧ 0 ≤ (i : Int) ∧ (i : Int) ≤ (L.length : Int)) = True := eq_true (by omega)
     have bJ : (0 ≤ (i : Int) + 1 ∧ (i : Int) + 1 ≤ (L.length : Int) ∧ (L.length : Int) ≤ (L.length : Int)) = True := eq_true (by omega)
     by_cases hl : L.length - (i + 1) = 0
     ·have c1 := eq_true hl
      have c2 : (0 < L.length - (i + 1)) = False := eq_false (by omega)
      by_cases hi0 : i = 0
      ·have hi := hi
       subst hi0
       simp only [condK_bt, decide_true, inr64, e_skip, e_reg, e_tre, t_leaf, t_stop, t_op, and_self, e_seq, e_cond, e_block, o_nil, o_cons, gd_none, putK_e, runK_e, vK_e, evh_v, evh_app, evh_emp, evh_slc, slcK_e, appK_m, appM_o, appK_y, appY_e, slO, bnd, slv, od_none, od_some, seqK_n, evp, bin, gt, st, putf, X.get, lens, gb, sb, pb, ln, Nat.reduceAdd, Nat.reduceMul, true_and, and_true, sts, n0, e0, e2, e3, bT, bI, bJ, c1, c2, Int.toNat_zero, Nat.zero_add, true_implies, false_implies]
       repeat' (first | omega | (with_reducible exact True.intro) | (with_reducible refine And.intro ?_ ?_))
       all_goals (try with_reducible (exact fun j _ => rgR_one _))
       all_goals
        simp only [e_reg, e_seq, o_cons, gd_none, putK_e, runK_e, vK_e, conK_e, callK_e, evh_v, evh_call, gam_e, gamK_p, pc_e, pcK_e, evp, gt, st, putf, X.get, gets, ap, clV, clL, clS, clo, ld, lda, tk, dr, gb, lk, Nat.reduceBEq, beq_self_eq_true, true_and, s10t1]
        refine ⟨T, m, L.eraseIdx 0, _, _, .inl rfl, by have := er_len hi; omega, fun j hj => by rw [er_len hi] at hj; rw [er_get]; exact absurd hj (by omega), ?_⟩
        rcases hcase with ⟨hsu, y, hspn⟩ | ⟨hsu, htru, hspn⟩
        ·rw [hspn]
         simp only [e_reg, e_seq, o_nil, o_cons, gd_none, putK_e, runK_e, vK_e, conK_e, callK_e, evh_v, evh_call, seqK_n, gam_e, gamK_p, pc_e, pcK_e, evp, gt, gq, st, putf, X.get, gets, ap, clV, clL, clS, clo, ld, lda, tk, dr, gb, lk, Nat.reduceBEq, beq_self_eq_true, true_and]
         refine ⟨T, m, L.eraseIdx 0, _, _, N, Y, .inl rfl, by have := er_len hi; omega, fun j hj => by rw [er_len hi] at hj; rw [er_get]; exact absurd hj (by omega), ?_⟩
         rw [hck]
         generalize truE T m (L.eraseIdx 0) N Y = tb
         simp only [e_reg, e_seq, o_nil, o_cons, gd_none, putK_e, runK_e, vK_e, conK_e, callK_e, evh_v, evh_call, seqK_n, gam_e, gamK_p, pc_e, pcK_e, evp, bin, gt, gq, st, putf, X.get, gets, ap, clV, clL, clS, clo, lk, Nat.reduceBEq, beq_self_eq_true, true_and]
         refine ⟨suL T m L L.length, ((0 : Nat) : Int), rfl, by omega, fun r hr => ?_⟩
         have hr0 : (r ≥ 0) = True := eq_true (hr.2 (suL_mem.2 ⟨0, hi, hsu, rfl⟩))
         cases tb
         ·simp only [gdK_btf, gdK_bff, decide_true, inr64, e_skip, e_reg, e_seq, e_cond, o_nil, o_cons, gd_none, gd_some, gdK_ft, gdK_ff, putK_e, runK_e, skipK_e, vK_e, evh_v, loopK_n, seqK_n, condK_f, blockK_n, evp, bin, binB, gt, st, putf, X.get, asB, undef, Bool.not_true, beq_self_eq_true, true_and, hr0]
          repeat' (first | omega | (with_reducible exact True.intro) | (with_reducible refine And.intro ?_ ?_))
          refine Nx.mk (0 + 1) (by show 0 + 1 ≤ L.length; omega) (by show L.length - (0 + 1) < L.length - 0; omega) (Lw_re 1 [] (Nat.zero_le _) (by simp [ln]) (by simp [ln]) rfl ?_ ?_)
          ·simp only [reL, reX, inb, inb.inbs, Bool.and_self, Nat.reduceLT, Nat.reduceAdd, decide_true, true_and, and_true, and_self, Int.natCast_one, implies_true]
           rfl
          ·simp only [reL, reX, reH, reB, reN, inb, and_self]
         ·simp only [gdK_btt, gdK_bff, condK_bf, decide_true, inr64, e_skip, e_reg, e_seq, e_cond, o_nil, o_cons, gd_none, gd_some, gdK_tt, gdK_ff, putK_e, runK_e, vK_e, evh_v, loopK_n, seqK_n, blockK_n, evp, bin, binB, gt, st, putf, X.get, asB, Bool.not_true, beq_self_eq_true, true_and, hr0]
          repeat' (first | omega | (with_reducible exact True.intro) | (with_reducible refine And.intro ?_ ?_))
          refine Nx.mk (0 + 1) (by show 0 + 1 ≤ L.length; omega) (by show L.length - (0 + 1) < L.length - 0; omega) (Lw_re 1 [] (Nat.zero_le _) (by simp [ln]) (by simp [ln]) rfl ?_ ?_)
          ·simp only [reL, reX, inb, inb.inbs, Bool.and_self, Nat.reduceLT, Nat.reduceAdd, decide_true, true_and, and_true, and_self, Int.natCast_one, implies_true]
           rfl
          ·simp only [reL, reX, reH, reB, reN, inb, and_self]
        ·rw [hspn]
         simp only [e_reg, e_seq, o_nil, o_cons, gd_none, putK_e, runK_e, vK_e, conK_e, callK_e, evh_v, evh_call, seqK_n, gam_e, gamK_p, pc_e, pcK_e, evp, gt, gq, st, putf, X.get, gets, ap, clV, clL, clS, clo, ld, lda, tk, dr, gb, lk, Nat.reduceBEq, beq_self_eq_true, true_and]
         refine ⟨T, m, L.eraseIdx 0, _, _, N, Y, .inl rfl, by have := er_len hi; omega, fun j hj => by rw [er_len hi] at hj; rw [er_get]; exact absurd hj (by omega), ?_⟩
         rw [hck, htru]
         simp only [e_reg, e_seq, o_nil, o_cons, gd_none, putK_e, runK_e, vK_e, conK_e, callK_e, evh_v, evh_call, seqK_n, gam_e, gamK_p, pc_e, pcK_e, evp, bin, gt, gq, st, putf, X.get, gets, ap, clV, clL, clS, clo, lk, Nat.reduceBEq, beq_self_eq_true, true_and]
         refine ⟨suL T m L L.length, ((0 : Nat) : Int), rfl, by omega, fun r hr => ?_⟩
         have hr0 : (r ≥ 0) = False := eq_false fun h => by
          obtain ⟨k, hk, hk2, hk3⟩ := suL_mem.1 (hr.1 h)
          obtain rfl : k = 0 := by omega
          rw [hsu] at hk2; cases hk2
         simp only [gdK_btf, gdK_bff, decide_true, decide_false, inr64, e_skip, e_reg, e_seq, e_cond, o_nil, o_cons, gd_none, gd_some, gdK_ft, gdK_ff, putK_e, runK_e, skipK_e, vK_e, evh_v, loopK_n, seqK_n, condK_f, blockK_n, evp, bin, binB, gt, st, putf, X.get, asB, undef, Bool.not_true, beq_self_eq_true, true_and, hr0, f40]
         repeat' (first | omega | (with_reducible exact True.intro) | (with_reducible refine And.intro ?_ ?_))
         refine Nx.mk (0 + 1) (by show 0 + 1 ≤ L.length; omega) (by show L.length - (0 + 1) < L.length - 0; omega) (Lw_re 1 [] (Nat.zero_le _) (by simp [ln]) (by simp [ln]) rfl ?_ ?_)
         ·simp only [reL, reX, inb, inb.inbs, Bool.and_self, Nat.reduceLT, Nat.reduceAdd, decide_true, true_and, and_true, and_self, Int.natCast_one, implies_true]
          rfl
         ·simp only [reL, reX, reH, reB, reN, inb, and_self]
      ·have l0 : (i = 0) = False := eq_false hi0
       have l1 : (0 < i) = True := eq_true (by omega)
       simp only [condK_bt, decide_true, inr64, e_skip, e_reg, e_tre, t_leaf, t_stop, t_op, and_self, e_seq, e_cond, e_block, o_nil, o_cons, gd_none, putK_e, runK_e, vK_e, evh_v, evh_app, evh_emp, evh_slc, slcK_e, appK_m, appM_o, appK_y, appY_e, slO, bnd, slv, od_none, od_some, seqK_n, evp, bin, gt, st, putf, X.get, lens, gb, sb, pb, ln, Nat.reduceAdd, true_and, and_true, sts, n0, ei, e2, e3, bT, bI, bJ, c1, c2, l0, l1, Int.toNat_zero, Nat.zero_add, true_implies, false_implies]
       repeat' (first | omega | (with_reducible exact True.intro) | (with_reducible refine And.intro ?_ ?_))
       all_goals (try with_reducible (exact fun j _ => rgR_one _))
       all_goals
        simp only [e_reg, e_seq, o_cons, gd_none, putK_e, runK_e, vK_e, conK_e, callK_e, evh_v, evh_call, gam_e, gamK_p, pc_e, pcK_e, evp, gt, st, putf, X.get, gets, ap, clV, clL, clS, clo, ld, lda, tk, dr, gb, sb, lk, Nat.reduceBEq, beq_self_eq_true, true_and, s10t1]
        refine ⟨T, m, L.eraseIdx i, _, _, .inl rfl, by have := er_len hi; omega, fun j hj => by rw [er_len hi] at hj; rw [er_get]; (split; rfl; omega), ?_⟩
        rcases hcase with ⟨hsu, y, hspn⟩ | ⟨hsu, htru, hspn⟩
        ·rw [hspn]
         simp only [e_reg, e_seq, o_nil, o_cons, gd_none, putK_e, runK_e, vK_e, conK_e, callK_e, evh_v, evh_call, seqK_n, gam_e, gamK_p, pc_e, pcK_e, evp, gt, gq, st, putf, X.get, gets, ap, clV, clL, clS, clo, ld, lda, tk, dr, gb, lk, Nat.reduceBEq, beq_self_eq_true, true_and]
         refine ⟨T, m, L.eraseIdx i, _, _, N, Y, .inl rfl, by have := er_len hi; omega, fun j hj => by rw [er_len hi] at hj; rw [er_get]; (split; rfl; omega), ?_⟩
         rw [hck]
         generalize truE T m (L.eraseIdx i) N Y = tb
         simp only [e_reg, e_seq, o_nil, o_cons, gd_none, putK_e, runK_e, vK_e, conK_e, callK_e, evh_v, evh_call, seqK_n, gam_e, gamK_p, pc_e, pcK_e, evp, bin, gt, gq, st, putf, X.get, gets, ap, clV, clL, clS, clo, lk, Nat.reduceBEq, beq_self_eq_true, true_and]
         refine ⟨suL T m L L.length, (i : Int), rfl, by omega, fun r hr => ?_⟩
         have hr0 : (r ≥ 0) = True := eq_true (hr.2 (suL_mem.2 ⟨i, hi, hsu, rfl⟩))
         cases tb
         ·simp only [gdK_btf, gdK_bff, decide_true, inr64, e_skip, e_reg, e_seq, e_cond, o_nil, o_cons, gd_none, gd_some, gdK_ft, gdK_ff, putK_e, runK_e, skipK_e, vK_e, evh_v, loopK_n, seqK_n, condK_f, blockK_n, evp, bin, binB, gt, st, putf, X.get, asB, undef, Bool.not_true, beq_self_eq_true, true_and, hr0]
          repeat' (first | omega | (with_reducible exact True.intro) | (with_reducible refine And.intro ?_ ?_))
          refine Nx.mk (i + 1) (by show i + 1 ≤ L.length; omega) (by show L.length - (i + 1) < L.length - i; omega) (Lw_re 1 [] (Nat.zero_le _) (by simp [ln]) (by simp [ln]) rfl ?_ ?_)
          ·simp only [reL, reX, inb, inb.inbs, Bool.and_self, Nat.reduceLT, decide_true, and_self, Int.natCast_add, Int.natCast_one, implies_true]
          ·simp only [reL, reX, reH, reB, reN, inb, and_self]
         ·simp only [gdK_btt, gdK_bff, condK_bf, decide_true, inr64, e_skip, e_reg, e_seq, e_cond, o_nil, o_cons, gd_none, gd_some, gdK_tt, gdK_ff, putK_e, runK_e, vK_e, evh_v, loopK_n, seqK_n, blockK_n, evp, bin, binB, gt, st, putf, X.get, asB, Bool.not_true, beq_self_eq_true, true_and, hr0]
          repeat' (first | omega | (with_reducible exact True.intro) | (with_reducible refine And.intro ?_ ?_))
          refine Nx.mk (i + 1) (by show i + 1 ≤ L.length; omega) (by show L.length - (i + 1) < L.length - i; omega) (Lw_re 1 [] (Nat.zero_le _) (by simp [ln]) (by simp [ln]) rfl ?_ ?_)
          ·simp only [reL, reX, inb, inb.inbs, Bool.and_self, Nat.reduceLT, decide_true, and_self, Int.natCast_add, Int.natCast_one, implies_true]
          ·simp only [reL, reX, reH, reB, reN, inb, and_self]
        ·rw [hspn]
         simp only [e_reg, e_seq, o_nil, o_cons, gd_none, putK_e, runK_e, vK_e, conK_e, callK_e, evh_v, evh_call, seqK_n, gam_e, gamK_p, pc_e, pcK_e, evp, gt, gq, st, putf, X.get, gets, ap, clV, clL, clS, clo, ld, lda, tk, dr, gb, lk, Nat.reduceBEq, beq_self_eq_true, true_and]
         refine ⟨T, m, L.eraseIdx i, _, _, N, Y, .inl rfl, by have := er_len hi; omega, fun j hj => by rw [er_len hi] at hj; rw [er_get]; (split; rfl; omega), ?_⟩
         rw [hck, htru]
         simp only [e_reg, e_seq, o_nil, o_cons, gd_none, putK_e, runK_e, vK_e, conK_e, callK_e, evh_v, evh_call, seqK_n, gam_e, gamK_p, pc_e, pcK_e, evp, bin, gt, gq, st, putf, X.get, gets, ap, clV, clL, clS, clo, lk, Nat.reduceBEq, beq_self_eq_true, true_and]
         refine ⟨suL T m L L.length, (i : Int), rfl, by omega, fun r hr => ?_⟩
         have hr0 : (r ≥ 0) = False := eq_false fun h => by
          obtain ⟨k, hk, hk2, hk3⟩ := suL_mem.1 (hr.1 h)
          obtain rfl : k = i := by omega
          rw [hsu] at hk2; cases hk2
         simp only [gdK_btf, gdK_bff, decide_true, decide_false, inr64, e_skip, e_reg, e_seq, e_cond, o_nil, o_cons, gd_none, gd_some, gdK_ft, gdK_ff, putK_e, runK_e, skipK_e, vK_e, evh_v, loopK_n, seqK_n, condK_f, blockK_n, evp, bin, binB, gt, st, putf, X.get, asB, undef, Bool.not_true, beq_self_eq_true, true_and, hr0, f40]
         repeat' (first | omega | (with_reducible exact True.intro) | (with_reducible refine And.intro ?_ ?_))
         refine Nx.mk (i + 1) (by show i + 1 ≤ L.length; omega) (by show L.length - (i + 1) < L.length - i; omega) (Lw_re 1 [] (Nat.zero_le _) (by simp [ln]) (by simp [ln]) rfl ?_ ?_)
         ·simp only [reL, reX, inb, inb.inbs, Bool.and_self, Nat.reduceLT, decide_true, and_self, Int.natCast_add, Int.natCast_one, implies_true]
         ·simp only [reL, reX, reH, reB, reN, inb, and_self]
     ·have c1 := eq_false hl
      have c2 : (0 < L.length - (i + 1)) = True := eq_true (by omega)
      by_cases hi0 : i = 0
      ·have hi := hi
       subst hi0
       simp only [condK_bt, decide_true, inr64, e_skip, e_reg, e_tre, t_leaf, t_stop, t_op, and_self, e_seq, e_cond, e_block, o_nil, o_cons, gd_none, putK_e, runK_e, vK_e, evh_v, evh_app, evh_emp, evh_slc, slcK_e, appK_m, appM_o, appK_y, appY_e, slO, bnd, slv, od_none, od_some, seqK_n, evp, bin, gt, st, putf, X.get, lens, gb, sb, pb, ln, Nat.reduceAdd, Nat.reduceMul, true_and, and_true, sts, n0, e0, e2, e3, bT, bI, bJ, c1, c2, Int.toNat_zero, Nat.zero_add, true_implies, false_implies]
       repeat' (first | omega | (with_reducible exact True.intro) | (with_reducible refine And.intro ?_ ?_))
       all_goals (try with_reducible (exact fun j _ => rgR_one _))
       all_goals
        simp only [e_reg, e_seq, o_cons, gd_none, putK_e, runK_e, vK_e, conK_e, callK_e, evh_v, evh_call, gam_e, gamK_p, pc_e, pcK_e, evp, gt, st, putf, X.get, gets, ap, clV, clL, clS, clo, ld, lda, tk, dr, gb, sb, lk, Nat.reduceBEq, beq_self_eq_true, true_and, s10t1]
        refine ⟨T, m, L.eraseIdx 0, _, _, .inl rfl, by have := er_len hi; omega, fun j hj => by rw [er_len hi] at hj; rw [er_get]; (rw [if_neg (by omega)] <;> rw [Nat.add_comm]), ?_⟩
        rcases hcase with ⟨hsu, y, hspn⟩ | ⟨hsu, htru, hspn⟩
        ·rw [hspn]
         simp only [e_reg, e_seq, o_nil, o_cons, gd_none, putK_e, runK_e, vK_e, conK_e, callK_e, evh_v, evh_call, seqK_n, gam_e, gamK_p, pc_e, pcK_e, evp, gt, gq, st, putf, X.get, gets, ap, clV, clL, clS, clo, ld, lda, tk, dr, gb, lk, Nat.reduceBEq, beq_self_eq_true, true_and]
         refine ⟨T, m, L.eraseIdx 0, _, _, N, Y, .inl rfl, by have := er_len hi; omega, fun j hj => by rw [er_len hi] at hj; rw [er_get]; (rw [if_neg (by omega)] <;> rw [Nat.add_comm]), ?_⟩
         rw [hck]
         generalize truE T m (L.eraseIdx 0) N Y = tb
         simp only [e_reg, e_seq, o_nil, o_cons, gd_none, putK_e, runK_e, vK_e, conK_e, callK_e, evh_v, evh_call, seqK_n, gam_e, gamK_p, pc_e, pcK_e, evp, bin, gt, gq, st, putf, X.get, gets, ap, clV, clL, clS, clo, lk, Nat.reduceBEq, beq_self_eq_true, true_and]
         refine ⟨suL T m L L.length, ((0 : Nat) : Int), rfl, by omega, fun r hr => ?_⟩
         have hr0 : (r ≥ 0) = True := eq_true (hr.2 (suL_mem.2 ⟨0, hi, hsu, rfl⟩))
         cases tb
         ·simp only [gdK_btf, gdK_bff, decide_true, inr64, e_skip, e_reg, e_seq, e_cond, o_nil, o_cons, gd_none, gd_some, gdK_ft, gdK_ff, putK_e, runK_e, skipK_e, vK_e, evh_v, loopK_n, seqK_n, condK_f, blockK_n, evp, bin, binB, gt, st, putf, X.get, asB, undef, Bool.not_true, beq_self_eq_true, true_and, hr0]
          repeat' (first | omega | (with_reducible exact True.intro) | (with_reducible refine And.intro ?_ ?_))
          refine Nx.mk (0 + 1) (by show 0 + 1 ≤ L.length; omega) (by show L.length - (0 + 1) < L.length - 0; omega) (Lw_re 1 [] (Nat.zero_le _) (by simp [ln]) (by simp [ln]) rfl ?_ ?_)
          ·simp only [reL, reX, inb, inb.inbs, Bool.and_self, Nat.reduceLT, Nat.reduceAdd, decide_true, true_and, and_true, and_self, Int.natCast_one, implies_true]
           rfl
          ·simp only [reL, reX, reH, reB, reN, inb, and_self]
         ·simp only [gdK_btt, gdK_bff, condK_bf, decide_true, inr64, e_skip, e_reg, e_seq, e_cond, o_nil, o_cons, gd_none, gd_some, gdK_tt, gdK_ff, putK_e, runK_e, vK_e, evh_v, loopK_n, seqK_n, blockK_n, evp, bin, binB, gt, st, putf, X.get, asB, Bool.not_true, beq_self_eq_true, true_and, hr0]
          repeat' (first | omega | (with_reducible exact True.intro) | (with_reducible refine And.intro ?_ ?_))
          refine Nx.mk (0 + 1) (by show 0 + 1 ≤ L.length; omega) (by show L.length - (0 + 1) < L.length - 0; omega) (Lw_re 1 [] (Nat.zero_le _) (by simp [ln]) (by simp [ln]) rfl ?_ ?_)
          ·simp only [reL, reX, inb, inb.inbs, Bool.and_self, Nat.reduceLT, Nat.reduceAdd, decide_true, true_and, and_true, and_self, Int.natCast_one, implies_true]
           rfl
          ·simp only [reL, reX, reH, reB, reN, inb, and_self]
        ·rw [hspn]
         simp only [e_reg, e_seq, o_nil, o_cons, gd_none, putK_e, runK_e, vK_e, conK_e, callK_e, evh_v, evh_call, seqK_n, gam_e, gamK_p, pc_e, pcK_e, evp, gt, gq, st, putf, X.get, gets, ap, clV, clL, clS, clo, ld, lda, tk, dr, gb, lk, Nat.reduceBEq, beq_self_eq_true, true_and]
         refine ⟨T, m, L.eraseIdx 0, _, _, N, Y, .inl rfl, by have := er_len hi; omega, fun j hj => by rw [er_len hi] at hj; rw [er_get]; (rw [if_neg (by omega)] <;> rw [Nat.add_comm]), ?_⟩
         rw [hck, htru]
         simp only [e_reg, e_seq, o_nil, o_cons, gd_none, putK_e, runK_e, vK_e, conK_e, callK_e, evh_v, evh_call, seqK_n, gam_e, gamK_p, pc_e, pcK_e, evp, bin, gt, gq, st, putf, X.get, gets, ap, clV, clL, clS, clo, lk, Nat.reduceBEq, beq_self_eq_true, true_and]
         refine ⟨suL T m L L.length, ((0 : Nat) : Int), rfl, by omega, fun r hr => ?_⟩
         have hr0 : (r ≥ 0) = False := eq_false fun h => by
          obtain ⟨k, hk, hk2, hk3⟩ := suL_mem.1 (hr.1 h)
          obtain rfl : k = 0 := by omega
          rw [hsu] at hk2; cases hk2
         simp only [gdK_btf, gdK_bff, decide_true, decide_false, inr64, e_skip, e_reg, e_seq, e_cond, o_nil, o_cons, gd_none, gd_some, gdK_ft, gdK_ff, putK_e, runK_e, skipK_e, vK_e, evh_v, loopK_n, seqK_n, condK_f, blockK_n, evp, bin, binB, gt, st, putf, X.get, asB, undef, Bool.not_true, beq_self_eq_true, true_and, hr0, f40]
         repeat' (first | omega | (with_reducible exact True.intro) | (with_reducible refine And.intro ?_ ?_))
         refine Nx.mk (0 + 1) (by show 0 + 1 ≤ L.length; omega) (by show L.length - (0 + 1) < L.length - 0; omega) (Lw_re 1 [] (Nat.zero_le _) (by simp [ln]) (by simp [ln]) rfl ?_ ?_)
         ·simp only [reL, reX, inb, inb.inbs, Bool.and_self, Nat.reduceLT, Nat.reduceAdd, decide_true, true_and, and_true, and_self, Int.natCast_one, implies_true]
          rfl
         ·simp only [reL, reX, reH, reB, reN, inb, and_self]
      ·have l0 : (i = 0) = False := eq_false hi0
       have l1 : (0 < i) = True := eq_true (by omega)
       simp only [condK_bt, decide_true, inr64, e_skip, e_reg, e_tre, t_leaf, t_stop, t_op, and_self, e_seq, e_cond, e_block, o_nil, o_cons, gd_none, putK_e, runK_e, vK_e, evh_v, evh_app, evh_emp, evh_slc, slcK_e, appK_m, appM_o, appK_y, appY_e, slO, bnd, slv, od_none, od_some, seqK_n, evp, bin, gt, st, putf, X.get, lens, gb, sb, pb, ln, Nat.reduceAdd, true_and, and_true, sts, n0, ei, e2, e3, bT, bI, bJ, c1, c2, l0, l1, Int.toNat_zero, Nat.zero_add, true_implies, false_implies]
       repeat' (first | omega | (with_reducible exact True.intro) | (with_reducible refine And.intro ?_ ?_))
       all_goals (try with_reducible (exact fun j _ => rgR_one _))
       all_goals
        simp only [e_reg, e_seq, o_cons, gd_none, putK_e, runK_e, vK_e, conK_e, callK_e, evh_v, evh_call, gam_e, gamK_p, pc_e, pcK_e, evp, gt, st, putf, X.get, gets, ap, clV, clL, clS, clo, ld, lda, tk, dr, gb, sb, lk, Nat.reduceBEq, beq_self_eq_true, true_and, s10t1]
        refine ⟨T, m, L.eraseIdx i, _, _, .inl rfl, by have := er_len hi; omega, fun j hj => by rw [er_len hi] at hj; rw [er_get]; (split; rfl; rw [show i + 1 + (j - i) = j + 1 by omega]), ?_⟩
        rcases hcase with ⟨hsu, y, hspn⟩ | ⟨hsu, htru, hspn⟩
        ·rw [hspn]
         simp only [e_reg, e_seq, o_nil, o_cons, gd_none, putK_e, runK_e, vK_e, conK_e, callK_e, evh_v, evh_call, seqK_n, gam_e, gamK_p, pc_e, pcK_e, evp, gt, gq, st, putf, X.get, gets, ap, clV, clL, clS, clo, ld, lda, tk, dr, gb, lk, Nat.reduceBEq, beq_self_eq_true, true_and]
         refine ⟨T, m, L.eraseIdx i, _, _, N, Y, .inl rfl, by have := er_len hi; omega, fun j hj => by rw [er_len hi] at hj; rw [er_get]; (split; rfl; rw [show i + 1 + (j - i) = j + 1 by omega]), ?_⟩
         rw [hck]
         generalize truE T m (L.eraseIdx i) N Y = tb
         simp only [e_reg, e_seq, o_nil, o_cons, gd_none, putK_e, runK_e, vK_e, conK_e, callK_e, evh_v, evh_call, seqK_n, gam_e, gamK_p, pc_e, pcK_e, evp, bin, gt, gq, st, putf, X.get, gets, ap, clV, clL, clS, clo, lk, Nat.reduceBEq, beq_self_eq_true, true_and]
         refine ⟨suL T m L L.length, (i : Int), rfl, by omega, fun r hr => ?_⟩
         have hr0 : (r ≥ 0) = True := eq_true (hr.2 (suL_mem.2 ⟨i, hi, hsu, rfl⟩))
         cases tb
         ·simp only [gdK_btf, gdK_bff, decide_true, inr64, e_skip, e_reg, e_seq, e_cond, o_nil, o_cons, gd_none, gd_some, gdK_ft, gdK_ff, putK_e, runK_e, skipK_e, vK_e, evh_v, loopK_n, seqK_n, condK_f, blockK_n, evp, bin, binB, gt, st, putf, X.get, asB, undef, Bool.not_true, beq_self_eq_true, true_and, hr0]
          repeat' (first | omega | (with_reducible exact True.intro) | (with_reducible refine And.intro ?_ ?_))
          refine Nx.mk (i + 1) (by show i + 1 ≤ L.length; omega) (by show L.length - (i + 1) < L.length - i; omega) (Lw_re 1 [] (Nat.zero_le _) (by simp [ln]) (by simp [ln]) rfl ?_ ?_)
          ·simp only [reL, reX, inb, inb.inbs, Bool.and_self, Nat.reduceLT, decide_true, and_self, Int.natCast_add, Int.natCast_one, implies_true]
          ·simp only [reL, reX, reH, reB, reN, inb, and_self]
         ·simp only [gdK_btt, gdK_bff, condK_bf, decide_true, inr64, e_skip, e_reg, e_seq, e_cond, o_nil, o_cons, gd_none, gd_some, gdK_tt, gdK_ff, putK_e, runK_e, vK_e, evh_v, loopK_n, seqK_n, blockK_n, evp, bin, binB, gt, st, putf, X.get, asB, Bool.not_true, beq_self_eq_true, true_and, hr0]
          repeat' (first | omega | (with_reducible exact True.intro) | (with_reducible refine And.intro ?_ ?_))
          refine Nx.mk (i + 1) (by show i + 1 ≤ L.length; omega) (by show L.length - (i + 1) < L.length - i; omega) (Lw_re 1 [] (Nat.zero_le _) (by simp [ln]) (by simp [ln]) rfl ?_ ?_)
          ·simp only [reL, reX, inb, inb.inbs, Bool.and_self, Nat.reduceLT, decide_true, and_self, Int.natCast_add, Int.natCast_one, implies_true]
          ·simp only [reL, reX, reH, reB, reN, inb, and_self]
        ·rw [hspn]
         simp only [e_reg, e_seq, o_nil, o_cons, gd_none, putK_e, runK_e, vK_e, conK_e, callK_e, evh_v, evh_call, seqK_n, gam_e, gamK_p, pc_e, pcK_e, evp, gt, gq, st, putf, X.get, gets, ap, clV, clL, clS, clo, ld, lda, tk, dr, gb, lk, Nat.reduceBEq, beq_self_eq_true, true_and]
         refine ⟨T, m, L.eraseIdx i, _, _, N, Y, .inl rfl, by have := er_len hi; omega, fun j hj => by rw [er_len hi] at hj; rw [er_get]; (split; rfl; rw [show i + 1 + (j - i) = j + 1 by omega]), ?_⟩
         rw [hck, htru]
         simp only [e_reg, e_seq, o_nil, o_cons, gd_none, putK_e, runK_e, vK_e, conK_e, callK_e, evh_v, evh_call, seqK_n, gam_e, gamK_p, pc_e, pcK_e, evp, bin, gt, gq, st, putf, X.get, gets, ap, clV, clL, clS, clo, lk, Nat.reduceBEq, beq_self_eq_true, true_and]
         refine ⟨suL T m L L.length, (i : Int), rfl, by omega, fun r hr => ?_⟩
         have hr0 : (r ≥ 0) = False := eq_false fun h => by
          obtain ⟨k, hk, hk2, hk3⟩ := suL_mem.1 (hr.1 h)
          obtain rfl : k = i := by omega
          rw [hsu] at hk2; cases hk2
         simp only [gdK_btf, gdK_bff, decide_true, decide_false, inr64, e_skip, e_reg, e_seq, e_cond, o_nil, o_cons, gd_none, gd_some, gdK_ft, gdK_ff, putK_e, runK_e, skipK_e, vK_e, evh_v, loopK_n, seqK_n, condK_f, blockK_n, evp, bin, binB, gt, st, putf, X.get, asB, undef, Bool.not_true, beq_self_eq_true, true_and, hr0, f40]
         repeat' (first | omega | (with_reducible exact True.intro) | (with_reducible refine And.intro ?_ ?_))
         refine Nx.mk (i + 1) (by show i + 1 ≤ L.length; omega) (by show L.length - (i + 1) < L.length - i; omega) (Lw_re 1 [] (Nat.zero_le _) (by simp [ln]) (by simp [ln]) rfl ?_ ?_)
         ·simp only [reL, reX, inb, inb.inbs, Bool.and_self, Nat.reduceLT, decide_true, and_self, Int.natCast_add, Int.natCast_one, implies_true]
         ·simp only [reL, reX, reH, reB, reN, inb, and_self]
    ·have n0 : ((i : Int) < (L.length : Int)) = False := eq_false (by omega)
     simp only [condK_bf, decide_false, e_reg, e_seq, e_cond, e_exit, e_ret, o_nil, o_cons, gd_none, putK_e, runK_e, vK_e, conK_e, callK_e, evh_v, evh_call, loopK_x, seqK_n, seqK_x, exitK_t, blockK_x, ends_r, endK1_e, endK2_e, gam_e, gamK_f, pc_e, pcK_e, fcC_e, fcK_e, evp, bin, gt, st, putf, X.get, gets, ap, rdR, tupled, clV, clL, clS, clo, lens, lk, beq_self_eq_true, true_and, sts, n0, F24]
     exact res hK (by simp [leR])
 ·have e : susS T m L = .tup [.lit (.slice none 0 0), .int .i64 (chk T m L)] := by simp [susS, h0]
  have e' : spnS T m L = .tup [.lit (.slice none 0 0), .int .i64 (chk T m L)] := by simp [spnS, h0]
  have t0 := eq_false h0
  have t4 : (chk T m L = 4) = False := eq_false (by unfold chk; split <;> (try split) <;> omega)
  rw [e]
  simp only [e_reg, e_seq, o_nil, o_cons, gd_none, putK_e, runK_e, vK_e, conK_e, callK_e, evh_v, evh_call, seqK_n, gam_e, gamK_p, pc_e, pcK_e, evp, gt, gq, st, putf, X.get, gets, ap, clV, clL, clS, clo, ld, lda, tk, dr, gb, lk, Nat.reduceBEq, beq_self_eq_true, true_and]
  refine ⟨T, m, L, _, _, .inl rfl, rfl, fun _ _ => rfl, ?_⟩
  rw [e']
  simp only [gdK_btt, gdK_bft, decide_true, decide_false, e_reg, e_seq, e_cond, e_ret, o_nil, o_cons, gd_none, gd_some, gdK_tt, gdK_tf, putK_e, runK_e, skipK_e, vK_e, conK_e, callK_e, evh_v, evh_call, seqK_n, seqK_r, condK_t, ends_r, endK1_e, endK2_e, gam_e, gamK_f, pc_e, pcK_e, fcC_e, fcK_e, evp, bin, binB, gt, gq, st, putf, X.get, gets, ap, rdR, tupled, clV, clL, clS, clo, asB, lens, lk, undef, Bool.not_false, beq_self_eq_true, true_and, t0, t4, f00, F24]
  exact res hK (by simp [leR])
end Go.Proofs.Ytbbbpdajikblbaa
