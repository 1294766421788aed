import Derived.Test.YtbbbpdajikblbaaVgSG6
namespace Go.Proofs.Ytbbbpdajikblbaa
open Go Go.Vg
set_option linter.unusedSimpArgs false
set_option linter.unusedVariables false
set_option maxRecDepth 10000
def s43 : SC :=
 (.seq (.reg [⟨(some 4), none, .v (.mov (.c (.lit (.slice none 0 0))))⟩])
 (.seq (.reg [⟨(some 5), none, .v (.mov (.c (.lit (.slice none 0 0))))⟩])
 (.seq (.seq (.reg [⟨(some 6), none, .v (.mov (.c (.int .i64 (0))))⟩])
 (.block 0 (.loop
  (.seq (.seq (.reg [⟨(some 9), none, .v (.mov (.t 6))⟩,
   ⟨(some 10), none, .v (.mov (.t 0))⟩,
   ⟨(some 11), none, .v (.len (.t 10))⟩,
   ⟨(some 12), none, .v (.bin .lss (.t 9) (.t 11))⟩])
  (.cond (.t 12)
   .skip
   (.exit 0)))
  (.seq (.block 1 (.seq (.reg [⟨(some 7), none, .v (.mov (.c (.lit (.slice none 0 0))))⟩])
  (.seq (.seq (.reg [⟨(some 8), none, .v (.mov (.c (.int .i64 (0))))⟩])
  (.block 2 (.loop
   (.seq (.seq (.reg [⟨(some 15), none, .v (.mov (.t 8))⟩,
    ⟨(some 16), none, .v (.mov (.t 0))⟩,
    ⟨(some 17), none, .v (.mov (.t 6))⟩,
    ⟨(some 18), none, .v (.ixa (.t 16) (.t 17) 1)⟩,
    ⟨(some 19), none, .v (.load (.t 18) none)⟩,
    ⟨(some 20), none, .v (.len (.t 19))⟩,
    ⟨(some 21), none, .v (.bin .lss (.t 15) (.t 20))⟩])
   (.cond (.t 21)
    .skip
    (.exit 2)))
   (.seq (.block 3 (.seq (.reg [⟨(some 24), none, .v (.mov (.t 1))⟩])
   (.cond (.t 24)
    (.reg [⟨(some 25), none, .v (.mov (.t 7))⟩,
     ⟨(some 26), none, .v (.mov (.t 0))⟩,
     ⟨(some 27), none, .v (.mov (.t 6))⟩,
     ⟨(some 28), none, .v (.ixa (.t 26) (.t 27) 1)⟩,
     ⟨(some 29), none, .v (.load (.t 28) none)⟩,
     ⟨(some 30), none, .v (.mov (.t 8))⟩,
     ⟨(some 31), none, .v (.ixa (.t 29) (.t 30) 2)⟩,
     ⟨(some 32), none, .v (.off (.t 31) 1)⟩,
     ⟨(some 33), none, .v (.load (.t 32) none)⟩,
     ⟨(some 34), none, .bsl 3 1 [(.int .i64 (0))] [(0, 1, (.t 33))]⟩,
     ⟨(some 35), none, .app 3 1 8 (.t 25) (.t 34)⟩,
     ⟨(some 7), none, .v (.mov (.t 35))⟩])
    (.reg [⟨(some 36), none, .v (.mov (.t 7))⟩,
     ⟨(some 37), none, .v (.mov (.t 0))⟩,
     ⟨(some 38), none, .v (.mov (.t 6))⟩,
     ⟨(some 39), none, .v (.ixa (.t 37) (.t 38) 1)⟩,
     ⟨(some 40), none, .v (.load (.t 39) none)⟩,
     ⟨(some 41), none, .v (.mov (.t 8))⟩,
     ⟨(some 42), none, .v (.ixa (.t 40) (.t 41) 2)⟩,
     ⟨(some 43), none, .v (.off (.t 42) 0)⟩,
     ⟨(some 44), none, .v (.load (.t 43) none)⟩,
     ⟨(some 45), none, .bsl 3 1 [(.int .i64 (0))] [(0, 1, (.t 44))]⟩,
     ⟨(some 46), none, .app 3 1 8 (.t 36) (.t 45)⟩,
     ⟨(some 7), none, .v (.mov (.t 46))⟩]))))
   (.reg [⟨(some 22), none, .v (.mov (.t 8))⟩,
    ⟨(some 23), none, .v (.bin .add (.t 22) (.c (.int .i64 (1))))⟩,
    ⟨(some 8), none, .v (.mov (.t 23))⟩]))))))
  (.reg [⟨(some 47), none, .v (.mov (.t 5))⟩,
   ⟨(some 48), none, .v (.mov (.t 7))⟩,
   ⟨(some 49), none, .bsl 22 1 [(.lit (.slice none 0 0))] [(0, 1, (.t 48))]⟩,
   ⟨(some 50), none, .app 22 1 24 (.t 47) (.t 49)⟩,
   ⟨(some 5), none, .v (.mov (.t 50))⟩]))))
  (.reg [⟨(some 13), none, .v (.mov (.t 6))⟩,
   ⟨(some 14), none, .v (.bin .add (.t 13) (.c (.int .i64 (1))))⟩,
   ⟨(some 6), none, .v (.mov (.t 14))⟩]))))))
 (.seq (.reg [⟨(some 51), none, .v (.mov (.t 5))⟩,
  ⟨(some 4), none, .v (.mov (.t 51))⟩])
 .ret))))
def r43 : List RV := [.t 4]
theorem k43 : (Try.f43.body.bind (cC Try.prog), cR Try.prog Try.f43.results.toList, Try.f43.ntmps) = (some s43, some r43, 52) := by kernel_rfl
theorem q43 : Known Try.prog 43 := ⟨_, Try.func43, by decide, by simp [Try.f43]⟩
def s8 : SC :=
 (.seq (.reg [⟨(some 3), none, .box 36 (.t 0)⟩,
  ⟨(some 6), none, .v (.mov (.c (.lit (.bool false))))⟩])
 (.seq (.reg [⟨(some 18), none, .v (.load (.t 3) (some 2))⟩,
  ⟨(some 19), none, .v (.mov (.t 1))⟩,
  ⟨(some 20), none, .call (.c (.fn 27 [])) [(.t 18), (.t 19)]⟩,
  ⟨(some 17), none, .v (.mov (.t 20))⟩,
  ⟨(some 21), none, .v (.ext (.t 17) 0)⟩,
  ⟨(some 22), none, .v (.ext (.t 17) 1)⟩,
  ⟨(some 7), none, .v (.mov (.t 21))⟩,
  ⟨(some 8), none, .v (.mov (.t 22))⟩])
 (.seq (.reg [⟨(some 24), none, .v (.load (.t 3) (some 2))⟩,
  ⟨(some 25), none, .v (.mov (.t 1))⟩,
  ⟨(some 26), none, .v (.mov (.t 2))⟩,
  ⟨(some 27), none, .call (.c (.fn 25 [])) [(.t 24), (.t 25), (.t 26)]⟩,
  ⟨(some 23), none, .v (.mov (.t 27))⟩,
  ⟨(some 28), none, .v (.ext (.t 23) 0)⟩,
  ⟨(some 29), none, .v (.ext (.t 23) 1)⟩,
  ⟨(some 9), none, .v (.mov (.t 28))⟩,
  ⟨(some 10), none, .v (.mov (.t 29))⟩])
 (.seq (.seq (.reg [⟨(some 30), none, .v (.mov (.t 8))⟩,
  ⟨(some 31), none, .v (.bin .neq (.t 30) (.c (.int .i64 (0))))⟩])
 (.cond (.t 31)
  (.seq (.reg [⟨(some 32), none, .v (.mov (.t 7))⟩,
   ⟨(some 33), none, .v (.len (.t 32))⟩,
   ⟨(some 34), none, .v (.bin .eql (.t 33) (.c (.int .i64 (0))))⟩,
   ⟨(some 35), none, .v (.mov (.t 34))⟩,
   ⟨(some 36), (some (35, true)), .v (.mov (.t 8))⟩,
   ⟨(some 37), (some (35, true)), .v (.bin .eql (.t 36) (.c (.int .i64 (4))))⟩,
   ⟨(some 38), (some (35, true)), .v (.mov (.t 37))⟩,
   ⟨(some 39), (some (38, true)), .v (.mov (.t 10))⟩,
   ⟨(some 40), (some (38, true)), .v (.bin .eql (.t 39) (.c (.int .i64 (0))))⟩,
   ⟨(some 41), (some (35, true)), .v (.pick (.t 38) (.t 40) (.c (.lit (.bool false))))⟩,
   ⟨(some 42), (some (35, true)), .v (.mov (.t 41))⟩,
   ⟨(some 43), (some (42, false)), .v (.mov (.t 8))⟩,
   ⟨(some 44), (some (42, false)), .v (.mov (.t 10))⟩,
   ⟨(some 45), (some (42, false)), .v (.bin .eql (.t 43) (.t 44))⟩,
   ⟨(some 46), (some (35, true)), .v (.pick (.t 42) (.c (.lit (.bool true))) (.t 45))⟩,
   ⟨(some 47), none, .v (.pick (.t 35) (.t 46) (.c (.lit (.bool false))))⟩,
   ⟨(some 48), none, .v (.mov (.t 47))⟩,
   ⟨(some 49), (some (48, true)), .v (.mov (.t 9))⟩,
   ⟨(some 50), (some (48, true)), .v (.not (.t 49))⟩,
   ⟨(some 51), none, .v (.pick (.t 48) (.t 50) (.c (.lit (.bool false))))⟩,
   ⟨(some 52), none, .v (.mov (.t 51))⟩,
   ⟨(some 53), (some (52, true)), .call (.c (.fn 24 [])) []⟩,
   ⟨(some 54), none, .v (.pick (.t 52) (.t 53) (.c (.lit (.bool false))))⟩,
   ⟨(some 6), none, .v (.mov (.t 54))⟩])
  .ret)
  .skip))
 (.seq (.drw [(0, ⟨(some 56), none, .v (.load (.t 3) (some 2))⟩, false),
  (1, ⟨(some 57), none, .v (.mov (.t 1))⟩, false),
  (2, ⟨(some 58), none, .v (.mov (.t 7))⟩, false),
  (3, ⟨(some 59), none, .call (.c (.fn 43 [])) [(.t 58), (.c (.lit (.bool true)))]⟩, false),
  (4, ⟨(some 60), none, .call (.c (.fn 25 [])) [(.t 56), (.t 57), (.t 59)]⟩, false),
  (5, ⟨(some 55), none, .v (.mov (.t 60))⟩, false),
  (6, ⟨(some 61), none, .v (.ext (.t 55) 0)⟩, false),
  (7, ⟨(some 62), none, .v (.ext (.t 55) 1)⟩, false),
  (8, ⟨(some 11), none, .v (.mov (.t 61))⟩, false)]
  none
  [⟨(some 12), none, .v (.mov (.t 62))⟩])
 (.seq (.drw [(0, ⟨(some 64), none, .v (.load (.t 3) (some 2))⟩, false),
  (1, ⟨(some 65), none, .v (.mov (.t 1))⟩, false),
  (2, ⟨(some 66), none, .v (.mov (.t 7))⟩, false),
  (3, ⟨(some 67), none, .call (.c (.fn 43 [])) [(.t 66), (.c (.lit (.bool false)))]⟩, false),
  (4, ⟨(some 68), none, .call (.c (.fn 25 [])) [(.t 64), (.t 65), (.t 67)]⟩, false),
  (5, ⟨(some 63), none, .v (.mov (.t 68))⟩, false),
  (6, ⟨(some 69), none, .v (.ext (.t 63) 0)⟩, false),
  (7, ⟨(some 70), none, .v (.ext (.t 63) 1)⟩, false),
  (8, ⟨(some 13), none, .v (.mov (.t 69))⟩, false)]
  none
  [⟨(some 14), none, .v (.mov (.t 70))⟩])
 (.seq (.seq (.reg [⟨(some 71), none, .v (.mov (.t 10))⟩,
  ⟨(some 72), none, .v (.bin .neq (.t 71) (.c (.int .i64 (0))))⟩,
  ⟨(some 73), none, .v (.mov (.t 72))⟩,
  ⟨(some 74), (some (73, false)), .v (.mov (.t 12))⟩,
  ⟨(some 75), (some (73, false)), .v (.bin .neq (.t 74) (.c (.int .i64 (0))))⟩,
  ⟨(some 76), none, .v (.pick (.t 73) (.c (.lit (.bool true))) (.t 75))⟩,
  ⟨(some 77), none, .v (.mov (.t 76))⟩,
  ⟨(some 78), (some (77, false)), .v (.mov (.t 14))⟩,
  ⟨(some 79), (some (77, false)), .v (.bin .neq (.t 78) (.c (.int .i64 (0))))⟩,
  ⟨(some 80), none, .v (.pick (.t 77) (.c (.lit (.bool true))) (.t 79))⟩,
  ⟨(some 81), none, .v (.mov (.t 80))⟩,
  ⟨(some 82), (some (81, false)), .v (.mov (.t 11))⟩,
  ⟨(some 83), (some (81, false)), .v (.not (.t 82))⟩,
  ⟨(some 84), none, .v (.pick (.t 81) (.c (.lit (.bool true))) (.t 83))⟩,
  ⟨(some 85), none, .v (.mov (.t 84))⟩,
  ⟨(some 86), (some (85, false)), .v (.mov (.t 13))⟩,
  ⟨(some 87), (some (85, false)), .v (.not (.t 86))⟩,
  ⟨(some 88), none, .v (.pick (.t 85) (.c (.lit (.bool true))) (.t 87))⟩])
 (.cond (.t 88)
  (.seq (.reg [⟨(some 6), none, .v (.mov (.c (.lit (.bool false))))⟩])
  .ret)
  .skip))
 (.seq (.seq (.reg [⟨(some 15), none, .v (.mov (.c (.int .i64 (0))))⟩])
 (.block 0 (.loop
  (.seq (.seq (.reg [⟨(some 89), none, .v (.mov (.t 9))⟩,
   ⟨(some 90), none, .v (.mov (.t 89))⟩,
   ⟨(some 91), (some (90, true)), .v (.mov (.t 15))⟩,
   ⟨(some 92), (some (90, true)), .v (.mov (.t 2))⟩,
   ⟨(some 93), (some (90, true)), .v (.len (.t 92))⟩,
   ⟨(some 94), (some (90, true)), .v (.bin .lss (.t 91) (.t 93))⟩,
   ⟨(some 95), none, .v (.pick (.t 90) (.t 94) (.c (.lit (.bool false))))⟩])
  (.cond (.t 95)
   .skip
   (.exit 0)))
  (.seq (.block 1 (.seq (.reg [⟨(some 16), none, .v (.mov (.c (.int .i64 (0))))⟩])
  (.block 2 (.loop
   (.seq (.seq (.reg [⟨(some 98), none, .v (.mov (.t 16))⟩,
    ⟨(some 99), none, .v (.mov (.t 2))⟩,
    ⟨(some 100), none, .v (.mov (.t 15))⟩,
    ⟨(some 101), none, .v (.ixa (.t 99) (.t 100) 1)⟩,
    ⟨(some 102), none, .v (.load (.t 101) none)⟩,
    ⟨(some 103), none, .v (.len (.t 102))⟩,
    ⟨(some 104), none, .v (.bin .lss (.t 98) (.t 103))⟩])
   (.cond (.t 104)
    .skip
    (.exit 2)))
   (.seq (.block 3 (.seq (.drw [(0, ⟨(some 107), none, .v (.mov (.t 15))⟩, false),
    (1, ⟨(some 108), none, .v (.mov (.t 7))⟩, false),
    (2, ⟨(some 109), none, .v (.len (.t 108))⟩, false),
    (3, ⟨(some 110), none, .v (.bin .geq (.t 107) (.t 109))⟩, false),
    (4, ⟨(some 111), none, .v (.mov (.t 110))⟩, true),
    (5, ⟨(some 112), (some (111, false)), .v (.mov (.t 16))⟩, false),
    (6, ⟨(some 113), (some (111, false)), .v (.mov (.t 7))⟩, false),
    (7, ⟨(some 114), (some (111, false)), .v (.mov (.t 15))⟩, false),
    (8, ⟨(some 115), (some (111, false)), .v (.ixa (.t 113) (.t 114) 1)⟩, false),
    (9, ⟨(some 116), (some (111, false)), .v (.load (.t 115) none)⟩, false),
    (10, ⟨(some 117), (some (111, false)), .v (.len (.t 116))⟩, false),
    (11, ⟨(some 118), (some (111, false)), .v (.bin .geq (.t 112) (.t 117))⟩, false),
    (12, ⟨(some 119), none, .v (.pick (.t 111) (.c (.lit (.bool true))) (.t 118))⟩, false),
    (13, ⟨(some 120), none, .v (.mov (.t 119))⟩, true),
    (14, ⟨(some 121), (some (120, false)), .v (.mov (.t 7))⟩, false),
    (15, ⟨(some 122), (some (120, false)), .v (.mov (.t 15))⟩, false),
    (16, ⟨(some 123), (some (120, false)), .v (.ixa (.t 121) (.t 122) 1)⟩, false),
    (17, ⟨(some 124), (some (120, false)), .v (.load (.t 123) none)⟩, false),
    (18, ⟨(some 125), (some (120, false)), .v (.mov (.t 16))⟩, false),
    (19, ⟨(some 126), (some (120, false)), .v (.ixa (.t 124) (.t 125) 2)⟩, false),
    (20, ⟨(some 127), (some (120, false)), .v (.load (.t 126) (some 2))⟩, false),
    (21, ⟨(some 128), (some (120, false)), .v (.mov (.t 2))⟩, false),
    (22, ⟨(some 129), (some (120, false)), .v (.mov (.t 15))⟩, false),
    (23, ⟨(some 130), (some (120, false)), .v (.ixa (.t 128) (.t 129) 1)⟩, false),
    (24, ⟨(some 131), (some (120, false)), .v (.load (.t 130) none)⟩, false),
    (25, ⟨(some 132), (some (120, false)), .v (.mov (.t 16))⟩, false),
    (26, ⟨(some 133), (some (120, false)), .v (.ixa (.t 131) (.t 132) 1)⟩, false),
    (27, ⟨(some 134), (some (120, false)), .v (.load (.t 133) none)⟩, false)]
    none
    [⟨(some 135), (some (120, false)), .call (.c (.fn 44 [])) [(.t 127), (.t 134)]⟩,
    ⟨(some 136), (some (120, false)), .v (.not (.t 135))⟩,
    ⟨(some 137), none, .v (.pick (.t 120) (.c (.lit (.bool true))) (.t 136))⟩])
   (.cond (.t 137)
    (.seq (.reg [⟨(some 6), none, .v (.mov (.c (.lit (.bool false))))⟩])
    .ret)
    .skip)))
   (.reg [⟨(some 105), none, .v (.mov (.t 16))⟩,
    ⟨(some 106), none, .v (.bin .add (.t 105) (.c (.int .i64 (1))))⟩,
    ⟨(some 16), none, .v (.mov (.t 106))⟩])))))))
  (.reg [⟨(some 96), none, .v (.mov (.t 15))⟩,
   ⟨(some 97), none, .v (.bin .add (.t 96) (.c (.int .i64 (1))))⟩,
   ⟨(some 15), none, .v (.mov (.t 97))⟩]))))))
 (.seq (.reg [⟨(some 138), none, .call (.c (.fn 24 [])) []⟩,
  ⟨(some 6), none, .v (.mov (.t 138))⟩])
 .ret)))))))))
def r8 : List RV := [.t 6]
theorem k8 : (Try.f8.body.bind (cC Try.prog), cR Try.prog Try.f8.results.toList, Try.f8.ntmps) = (some s8, some r8, 139) := by kernel_rfl
def errE (N : Nat) (Y : Nat → List Int) : Nat → Int := fun n => if n / 9 < N then (Y (n / 9)).getD (n % 9) 0 else 0
theorem okS_all {T : List Int} {m : Int} (h : okS T m = true) : (1 ≤ T.length ∧ T.length ≤ 4) ∧ (0 ≤ m ∧ m ≤ 100000) ∧ ∀ i, i < T.length → 1 ≤ T.getD i 0 ∧ T.getD i 0 ≤ 8 := by
 have h' := h
 simp only [okS, Bool.and_eq_true, decide_eq_true_eq] at h'
 exact ⟨⟨by omega, by omega⟩, h'.2.1, fun i hi => of_decide_eq_true (allI_get hi h'.2.2)⟩
theorem okL_row {T : List Int} {L : List Rdg} (h : okL T L = true) : ∀ r, r ∈ L → ((0 ≤ r.A ∧ r.A ≤ (T.length : Int) - 1) ∧ (0 ≤ r.I ∧ r.I ≤ T.getD r.A.toNat 0)) ∧ (0 ≤ r.B ∧ r.B ≤ (T.length : Int) - 1) ∧ (0 ≤ r.J ∧ r.J ≤ T.getD r.B.toNat 0) := fun r hr => by
 simp only [okL, Bool.and_eq_true, List.all_eq_true] at h
 have := h.2 r hr
 simp only [okR, hE, Bool.and_eq_true, decide_eq_true_eq] at this
 exact this.1
theorem no_ab {T : List Int} {m a i : Int} (hs : okS T m = true) (ha : 0 ≤ a ∧ a ≤ (T.length : Int) - 1) (hi : 0 ≤ i ∧ i ≤ T.getD a.toNat 0) : (a * 9 + i).toNat = a.toNat * 9 + i.toNat ∧ (a * 9 + i).toNat / 9 = a.toNat ∧ (a * 9 + i).toNat % 9 = i.toNat := by
 obtain ⟨h1, _, h2⟩ := okS_all hs
 have := h2 a.toNat (by omega)
 omega
theorem true_isT {T : List Int} {m : Int} {L : List Rdg} {N : Nat} {Y : Nat → List Int} (h : truE T m L N Y = true) : isT T m L (errE N Y) := by
 simp only [truE, Bool.and_eq_true, decide_eq_true_eq] at h
 obtain ⟨h0, hh, hL2⟩ := h
 obtain ⟨hs, hL⟩ := chk_0.1 h0
 obtain ⟨hT1, hm, hT⟩ := okS_all hs
 obtain ⟨hN, hrow⟩ := haveE_row hh
 refine ⟨fun n => ?_, fun r hr => ?_⟩
 ·have q : n / 9 < N → ((Y (n / 9)).length : Int) = T.getD (n / 9) 0 + 1 ∧ (Y (n / 9)).getD 0 0 = 0 ∧ ∀ j, j < (Y (n / 9)).length → -m ≤ (Y (n / 9)).getD j 0 ∧ (Y (n / 9)).getD j 0 ≤ m := hrow _
  show (wd T m T.length 0 n).1 ≤ errE N Y n ∧ errE N Y n ≤ (wd T m T.length 0 n).2
  unfold wd errE
  by_cases hn : n / 9 < N
  ·obtain ⟨q1, q2, q3⟩ := q hn
   rw [if_pos hn]
   by_cases hc : (n / 9 < T.length ∨ n / 9 = T.length ∧ n % 9 ≤ 0) ∧ 1 ≤ n % 9 ∧ ((n % 9 : Nat) : Int) ≤ T.getD (n / 9) 0
   ·rw [if_pos hc]
    exact q3 _ (by omega)
   ·rw [if_neg hc]
    have hz : (Y (n / 9)).getD (n % 9) 0 = 0 := by
     by_cases h9 : n % 9 = 0
     ·rw [h9]; exact q2
     ·have : (Y (n / 9)).length ≤ n % 9 := by
       by_cases h8 : (Y (n / 9)).length ≤ n % 9
       ·exact h8
       ·exact absurd ⟨.inl (by omega), by omega, by omega⟩ hc
      rw [List.getD_eq_getElem?_getD, List.getElem?_eq_none this]; rfl
    rw [hz]; exact ⟨Int.le_refl _, Int.le_refl _⟩
  ·rw [if_neg hn]
   by_cases hc : (n / 9 < T.length ∨ n / 9 = T.length ∧ n % 9 ≤ 0) ∧ 1 ≤ n % 9 ∧ ((n % 9 : Nat) : Int) ≤ T.getD (n / 9) 0
   ·obtain ⟨hc1, hc2, hc3⟩ := hc
    exfalso; omega
   ·rw [if_neg hc]; exact ⟨Int.le_refl _, Int.le_refl _⟩
 ·obtain ⟨⟨a1, a2⟩, b1, b2⟩ := okL_row hL r hr
  obtain ⟨_, na1, na2⟩ := no_ab hs a1 a2
  obtain ⟨_, nb1, nb2⟩ := no_ab hs b1 b2
  have this : -r.W ≤ hdE Y r - r.V ∧ hdE Y r - r.V ≤ r.W := of_decide_eq_true (List.all_eq_true.1 hL2 r hr)
  unfold hdE at this
  have ea : errE N Y r.na = (Y r.A.toNat).getD r.I.toNat 0 := by
   unfold errE Rdg.na; rw [na1, na2, if_pos (by omega)]
  have eb : errE N Y r.nb = (Y r.B.toNat).getD r.J.toNat 0 := by
   unfold errE Rdg.nb; rw [nb1, nb2, if_pos (by omega)]
  unfold hld
  rw [ea, eb]; omega
def rowsE (T : List Int) (e : Nat → Int) (i : Nat) : List Int := (List.range (spN T i)).map fun j => e (i * 9 + j)
theorem rowsE_len {T : List Int} {e : Nat → Int} {i : Nat} : (rowsE T e i).length = spN T i := by simp [rowsE]
theorem rowsE_get {T : List Int} {e : Nat → Int} {i j : Nat} (h : j < spN T i) : (rowsE T e i).getD j 0 = e (i * 9 + j) := by simp [rowsE, List.getD, h]
theorem isT_true {T : List Int} {m : Int} {L : List Rdg} {e : Nat → Int} (h0 : chk T m L = 0) (h : isT T m L e) : truE T m L T.length (rowsE T e) = true := by
 obtain ⟨hs, hL⟩ := chk_0.1 h0
 obtain ⟨hT1, hm, hT⟩ := okS_all hs
 simp only [truE, Bool.and_eq_true, decide_eq_true_eq]
 have hz : ∀ i j, i < T.length → j < 9 → -m ≤ e (i * 9 + j) ∧ e (i * 9 + j) ≤ m := fun i j hi hj => by
  have := h.1 (i * 9 + j)
  unfold wdS wd at this
  split at this <;> simp only at this <;> omega
 refine ⟨h0, haveE_mk rfl fun i hi => ?_, List.all_eq_true.2 fun r hr => ?_⟩
 ·have ht := hT i hi
  have hsp : ((spN T i : Nat) : Int) = T.getD i 0 + 1 := by unfold spN; omega
  simp only [rowE, Bool.and_eq_true, decide_eq_true_eq, List.all_eq_true]
  refine ⟨by rw [rowsE_len]; exact hsp, ?_, fun x hx => ?_⟩
  ·rw [rowsE_get (by omega)]
   have := h.1 (i * 9 + 0)
   unfold wdS wd at this
   rw [if_neg (by omega)] at this
   simp only at this; omega
  ·simp only [rowsE, List.mem_map, List.mem_range] at hx
   obtain ⟨j, hj, rfl⟩ := hx
   exact hz i j hi (by omega)
 ·obtain ⟨⟨a1, a2⟩, b1, b2⟩ := okL_row hL r hr
  obtain ⟨na0, na1, na2⟩ := no_ab hs a1 a2
  obtain ⟨nb0, nb1, nb2⟩ := no_ab hs b1 b2
  have ta := hT r.A.toNat (by omega)
  have tb := hT r.B.toNat (by omega)
  have := h.2 r hr
  unfold hld Rdg.na Rdg.nb at this
  rw [na0, nb0] at this
  have eh : hdE (rowsE T e) r = e (r.A.toNat * 9 + r.I.toNat) - e (r.B.toNat * 9 + r.J.toNat) := by
   unfold hdE; rw [rowsE_get (by unfold spN; omega), rowsE_get (by unfold spN; omega)]
  unfold holdE
  rw [eh]
  exact decide_eq_true (by omega)
theorem Lw_cl2 {N : Nat} {s : St} {fr2 : List SV} {hp hp2 : List Blk} (n i : Nat) (y : SV) {x : SV} (h : Lw N s ⟨st fr2 i y, hp⟩) (e : clV n hp y = some (x, hp2)) (hg : gt (st fr2 i y) i = y) (hf : st (st fr2 i y) i x = fr2) : Lw N s ⟨fr2, hp2⟩ := by
 intro E a hN hn hr
 obtain ⟨E1, x1, w1, r1⟩ := h E a hN hn hr
 obtain ⟨E2, x2, w2, r2⟩ := Lw_cl (N := N) n i (by rw [hg]; exact e) E1 a (by have := x1.n0; omega) (by have := x1.n0; have := x1.n; omega) r1
 rw [hf] at r2
 exact ⟨E2, x1.trans x2, w2.trans w1, r2⟩
def endV (b : Bool) : List SV → Int
 | [.int .i64 lo, .int .i64 hi] => if b = true then hi else lo
 | _ => 0
def endR (b : Bool) : List SV → List Int
 | [.clipr 2 k h] => (List.range k).map fun j => endV b (h j)
 | _ => []
def endD (b : Bool) (d : Dst) (n : Nat) : Int := if b = true then (d n).2 else (d n).1
theorem endR_sp {b : Bool} {T : List Int} {d : Dst} {i : Nat} : endR b (spW T d i) = rowsE T (endD b d) i := rfl
def F43 : FC := fun args => match args with
 | [.rd 1 N g, .lit (.bool b)] => some (∃ (T : List Int) (m : Int) (d : Dst), okS T m = true ∧ N = T.length ∧ g = spW T d, .rd 1 N fun i => [.ints .i64 (endR b (g i))])
 | _ => none
theorem p43 : PureOk Try.prog 43 (fcC F43) := by
 refine pure_of (T := []) trivial Try.func43 k43 ?_
 intro args K hC
 unfold fcC F43 at hC
 split at hC <;> first | (exact hC.elim) | skip
 rename_i h
 split at h <;> first | (cases h; done) | skip
 cases h
 rename_i N g b
 obtain ⟨⟨T, m, d, hs, rfl, rfl⟩, hK⟩ := hC
 obtain ⟨hT1, hm, hT⟩ := okS_all hs
 simp only [endR_sp] at hK
 have hsnoc : ∀ i j, (List.range (j + 1)).map (fun k => endD b d (i * 9 + k)) = (List.range j).map (fun k => endD b d (i * 9 + k)) ++ [endD b d (i * 9 + j)] := fun i j => by rw [List.range_succ, List.map_append]; rfl
 have hb : (b = true ∧ ∀ n, endD b d n = (d n).2) ∨ (b = false ∧ ∀ n, endD b d n = (d n).1) := by
  cases b
  ·exact .inr ⟨rfl, fun _ => rfl⟩
  ·exact .inl ⟨rfl, fun _ => rfl⟩
 simp only [e_reg, e_seq, e_block, e_loop, o_nil, o_cons, gd_none, putK_e, runK_e, vK_e, evh_v, seqK_n, evp, st, putf, X.get, mkfr, rep, undef, Nat.reduceSub, true_and, s43, r43]
 refine loop_at2 (G := Nat) (fun i => [(6, .int .i64 i), (5, .own 0)]) (fun i => [.orw 22 1 i (fun k => [.ints .i64 (rowsE T (endD b d) k)])]) (fun i => i ≤ T.length) (fun i => T.length - i) 0 (Nat.zero_le _) ?_
 (intro fr1 hf1; simp only [forget, dstC, dstO, st] at hf1; subst hf1)
 refine ⟨?_, ?_⟩
 ·refine Lw_re 0 [none] (Nat.zero_le _) (by simp [ln]) (by simp [ln]) rfl ?_ ?_
  ·simp only [reL, reX, rn, List.getElem?_cons_zero, Nat.reduceSub, Nat.lt_irrefl, Nat.le_refl, reduceCtorEq, or_true, inb, ln, sts, st, Nat.reduceLT, Nat.reduceAdd, and_self, Int.natCast_zero, implies_true]
  ·simp only [reH, reN, newB, and_self]
 ·intro i hi1
  by_cases hi2 : i < T.length
  ·have n0 : ((i : Int) < (T.length : Int)) = True := eq_true (by omega)
   have ht := hT i hi2
   have hsp : spN T i ≤ 9 := by unfold spN; omega
   simp only [condK_bt, decide_true, e_skip, e_reg, e_seq, e_cond, e_block, e_loop, o_nil, o_cons, gd_none, putK_e, runK_e, vK_e, evh_v, seqK_n, evp, bin, gt, st, putf, X.get, lens, true_and, sts, n0]
   have i00 : (0 < spN T i) = True := eq_true (by unfold spN; omega)
   refine loop_at2 (G := Nat) (fun j => [(8, .int .i64 j), (7, if j < spN T i then .own 1 else .ints .i64 (rowsE T (endD b d) i))]) (fun j => if j < spN T i then [.orw 22 1 i (fun k => [.ints .i64 (rowsE T (endD b d) k)]), .oi .i64 3 ((List.range j).map fun k => endD b d (i * 9 + k))] else [.orw 22 1 i (fun k => [.ints .i64 (rowsE T (endD b d) k)]), .fz (.ints .i64 (rowsE T (endD b d) i))]) (fun j => j ≤ spN T i) (fun j => spN T i - j) 0 (Nat.zero_le _) ?_
   (intro fr1 hf1; simp only [forget, dstC, dstO, st] at hf1; subst hf1)
   refine ⟨?_, ?_⟩
   ·simp only [i00, if_true]
    refine Lw_re 1 [none] (Nat.zero_le _) (by simp [ln]) (by simp [ln]) rfl ?_ ?_
    ·simp only [reL, reX, rn, List.getElem?_cons_zero, Nat.reduceSub, Nat.reduceLeDiff, Nat.lt_irrefl, Nat.le_refl, or_false, reduceCtorEq, or_true, inb, ln, sts, st, Nat.reduceLT, Nat.reduceAdd, and_true, and_self, Int.natCast_zero, implies_true]
    ·simp only [reH, reB, reN, newB, and_self, implies_true, List.range_zero, List.map_nil]
   ·intro j hj1
    by_cases hj2 : j < spN T i
    ·have m0 : ((j : Int) < ((spN T i : Nat) : Int)) = True := eq_true (by omega)
     have i0 : (j < spN T i) = True := eq_true hj2
     rcases hb with ⟨rfl, hv⟩ | ⟨rfl, hv⟩
     ·simp only [condK_bt, decide_true, inr64, ↓reduceIte, e_skip, e_reg, e_seq, e_cond, e_block, o_nil, o_cons, gd_none, putK_e, runK_e, vK_e, bslK_e, appK2_oi, appK_e, evh_v, evh_bsl, evh_app, loopK_n, seqK_n, condK_t, blockK_n, evp, bin, gt, gq, st, putf, X.get, getp, ld, lda, lens, ixs, sp, sp.spl, lay, ll, cs1, one, gb, sb, pb, ln, Nat.reduceAdd, beq_self_eq_true, true_and, and_true, sts, m0, i0, Int.toNat_natCast, spW, spC, List.length_map, List.length_range]
      repeat' (first | omega | (with_reducible refine And.intro ?_ ?_))
      by_cases hj3 : j + 1 < spN T i
      ·have i1 : (j + 1 < spN T i) = True := eq_true hj3
       refine Nx.mk (j + 1) (by show j + 1 ≤ spN T i; omega) (by show spN T i - (j + 1) < spN T i - j; omega) ?_
       simp only [i1, if_true]
       refine Lw_re 1 [some 3] (Nat.zero_le _) (by simp [ln]) (by simp [ln]) rfl ?_ ?_
       ·simp only [reL, reX, rn, List.getElem?_cons_zero, Nat.reduceSub, Nat.reduceLeDiff, Nat.lt_irrefl, Nat.le_refl, false_and, or_false, and_false, or_true, inb, ln, Nat.reduceLT, Nat.reduceAdd, and_true, and_self, Int.natCast_add, Int.natCast_one, implies_true]
       ·simp only [reH, reB, reM, reN, gb, Nat.reduceLeDiff, ln, Nat.reduceLT, Nat.reduceAdd, and_self, implies_true, hv, List.range_succ, List.map_append, List.map_cons, List.map_nil]
      ·have i1 : (j + 1 < spN T i) = False := eq_false hj3
       have ej : spN T i = j + 1 := by omega
       refine Nx.mk (j + 1) (by show j + 1 ≤ spN T i; omega) (by show spN T i - (j + 1) < spN T i - j; omega) ?_
       simp only [i1, if_false]
       refine Lw_cl2 8 7 (.own 1) (hp := [.orw 22 1 i (fun k => [.ints .i64 (rowsE T (endD true d) k)]), .oi .i64 3 (rowsE T (endD true d) i)]) ?_ rfl rfl rfl
       refine Lw_re 1 [some 3] (Nat.zero_le _) (by simp [ln]) (by simp [ln]) rfl ?_ ?_
       ·simp only [reL, reX, rn, List.getElem?_cons_zero, Nat.reduceSub, Nat.reduceLeDiff, Nat.lt_irrefl, Nat.le_refl, false_and, or_false, and_false, or_true, inb, ln, st, Nat.reduceLT, Nat.reduceAdd, and_true, and_self, Int.natCast_add, Int.natCast_one, implies_true]
       ·simp only [reH, reB, reM, reN, gb, Nat.reduceLeDiff, ln, Nat.reduceLT, Nat.reduceAdd, and_self, implies_true, rowsE, ej, hv, List.range_succ, List.map_append, List.map_cons, List.map_nil]
     ·simp only [condK_bt, decide_true, inr64, ↓reduceIte, e_skip, e_reg, e_seq, e_cond, e_block, o_nil, o_cons, gd_none, putK_e, runK_e, vK_e, bslK_e, appK2_oi, appK_e, evh_v, evh_bsl, evh_app, loopK_n, seqK_n, condK_f, blockK_n, evp, bin, gt, gq, st, putf, X.get, getp, ld, lda, lens, ixs, sp, sp.spl, lay, ll, cs1, one, gb, sb, pb, ln, Nat.reduceAdd, beq_self_eq_true, true_and, and_true, sts, m0, i0, Int.toNat_natCast, spW, spC, List.length_map, List.length_range]
      repeat' (first | omega | (with_reducible refine And.intro ?_ ?_))
      by_cases hj3 : j + 1 < spN T i
      ·have i1 : (j + 1 < spN T i) = True := eq_true hj3
       refine Nx.mk (j + 1) (by show j + 1 ≤ spN T i; omega) (by show spN T i - (j + 1) < spN T i - j; omega) ?_
       simp only [i1, if_true]
       refine Lw_re 1 [some 3] (Nat.zero_le _) (by simp [ln]) (by simp [ln]) rfl ?_ ?_
       ·simp only [reL, reX, rn, List.getElem?_cons_zero, Nat.reduceSub, Nat.reduceLeDiff, Nat.lt_irrefl, Nat.le_refl, false_and, or_false, and_false, or_true, inb, ln, Nat.reduceLT, Nat.reduceAdd, and_true, and_self, Int.natCast_add, Int.natCast_one, implies_true]
       ·simp only [reH, reB, reM, reN, gb, Nat.reduceLeDiff, ln, Nat.reduceLT, Nat.reduceAdd, and_self, implies_true, hv, List.range_succ, List.map_append, List.map_cons, List.map_nil]
      ·have i1 : (j + 1 < spN T i) = False := eq_false hj3
       have ej : spN T i = j + 1 := by omega
       refine Nx.mk (j + 1) (by show j + 1 ≤ spN T i; omega) (by show spN T i - (j + 1) < spN T i - j; omega) ?_
       simp only [i1, if_false]
       refine Lw_cl2 8 7 (.own 1) (hp := [.orw 22 1 i (fun k => [.ints .i64 (rowsE T (endD false d) k)]), .oi .i64 3 (rowsE T (endD false d) i)]) ?_ rfl rfl rfl
       refine Lw_re 1 [some 3] (Nat.zero_le _) (by simp [ln]) (by simp [ln]) rfl ?_ ?_
       ·simp only [reL, reX, rn, List.getElem?_cons_zero, Nat.reduceSub, Nat.reduceLeDiff, Nat.lt_irrefl, Nat.le_refl, false_and, or_false, and_false, or_true, inb, ln, st, Nat.reduceLT, Nat.reduceAdd, and_true, and_self, Int.natCast_add, Int.natCast_one, implies_true]
       ·simp only [reH, reB, reM, reN, gb, Nat.reduceLeDiff, ln, Nat.reduceLT, Nat.reduceAdd, and_self, implies_true, rowsE, ej, hv, List.range_succ, List.map_append, List.map_cons, List.map_nil]
    ·have m0 : ((j : Int) < ((spN T i : Nat) : Int)) = False := eq_false (by omega)
     have i0 : (j < spN T i) = False := eq_false hj2
     have hrow : ∀ k, k < i + 1 → (if k < i then [SV.ints .i64 (rowsE T (endD b d) k)] else [SV.ints .i64 (rowsE T (endD b d) i)]) = [SV.ints .i64 (rowsE T (endD b d) k)] := fun k hk => by
      by_cases h : k < i
      ·rw [if_pos h]
      ·obtain rfl : k = i := by omega
       rw [if_neg h]
     simp only [condK_bf, decide_false, inr64, ↓reduceIte, e_reg, e_seq, e_cond, e_exit, o_nil, o_cons, gd_none, putK_e, runK_e, vK_e, bslK_e, appK2_or, appK_e, evh_v, evh_bsl, evh_app, loopK_n, loopK_x, seqK_n, seqK_x, exitK_t, blockK_x, blockK_n, evp, bin, gt, gq, st, putf, X.get, getp, clo, clo.clos, ld, lda, lens, ixs, sp, sp.spl, lay, ll, cs1, one, allOne, gb, sb, pb, ln, Bool.and_true, Nat.reduceAdd, beq_self_eq_true, true_and, sts, m0, i0, Int.toNat_natCast, spW]
     repeat' (first | omega | (with_reducible refine And.intro ?_ ?_))
     refine Nx.mk (i + 1) (by show i + 1 ≤ T.length; omega) (by show T.length - (i + 1) < T.length - i; omega) (Lw_re 0 [some 3] (Nat.zero_le _) (by simp [ln]) (by simp [ln]) rfl ?_ ?_)
     ·simp only [reL, reX, rn, List.getElem?_cons_zero, Nat.reduceSub, Nat.lt_irrefl, Nat.le_refl, and_false, or_true, inb, ln, Nat.reduceLT, Nat.reduceAdd, and_self, Int.natCast_add, Int.natCast_one, implies_true]
     ·simp only [reH, reM, reN, gb, Nat.reduceLeDiff, ln, Nat.reduceLT, Nat.reduceAdd, true_and, and_true, and_self]
      exact hrow
  ·have n0 : ((i : Int) < (T.length : Int)) = False := eq_false (by omega)
   obtain rfl : i = T.length := by omega
   simp only [condK_bf, decide_false, e_reg, e_seq, e_cond, e_exit, e_ret, o_nil, o_cons, gd_none, putK_e, runK_e, vK_e, evh_v, loopK_x, seqK_n, seqK_x, exitK_t, blockK_x, ends_r, endK1_e, endK2_e, evp, bin, gt, st, putf, X.get, rdR, tupled, clV, lens, gb, sb, beq_self_eq_true, true_and, sts, n0]
   exact res hK (by simp [leR])
end Go.Proofs.Ytbbbpdajikblbaa
