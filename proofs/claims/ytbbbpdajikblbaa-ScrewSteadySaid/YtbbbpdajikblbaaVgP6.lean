/- ScrewSteady: the law's contract. -/
import Derived.Test.YtbbbpdajikblbaaVgP5
namespace Go.Proofs.Ytbbbpdajikblbaa
open Go Go.Vg
set_option linter.unusedSimpArgs false
set_option linter.unusedVariables false
set_option maxRecDepth 10000
set_option maxHeartbeats 1000000
/- 13: octant/octantlaw02.ScrewSteady -/
def s13 : SC :=
  (.seq (.reg [⟨(some 4), none, .v (.mov (.c (.lit (.bool false))))⟩])
  (.seq (.reg [⟨(some 19), none, .v (.mov (.t 0))⟩,
    ⟨(some 20), none, .call (.c (.fn 36 [])) [(.t 19)]⟩,
    ⟨(some 18), none, .v (.mov (.t 20))⟩,
    ⟨(some 21), none, .v (.ext (.t 18) 0)⟩,
    ⟨(some 22), none, .v (.ext (.t 18) 1)⟩,
    ⟨(some 5), none, .v (.mov (.t 21))⟩,
    ⟨(some 6), none, .v (.mov (.t 22))⟩])
  (.seq (.seq (.reg [⟨(some 23), none, .v (.mov (.t 6))⟩,
    ⟨(some 24), none, .v (.bin .neq (.t 23) (.c (.int .i64 (0))))⟩,
    ⟨(some 25), none, .v (.mov (.t 24))⟩,
    ⟨(some 26), (some (25, false)), .v (.mov (.t 0))⟩,
    ⟨(some 27), (some (25, false)), .v (.len (.t 26))⟩,
    ⟨(some 28), (some (25, false)), .v (.bin .gtr (.t 27) (.c (.int .i64 (64))))⟩,
    ⟨(some 29), none, .v (.pick (.t 25) (.c (.lit (.bool true))) (.t 28))⟩])
  (.cond (.t 29)
    (.seq (.reg [⟨(some 30), none, .v (.mov (.t 6))⟩,
      ⟨(some 31), none, .v (.bin .neq (.t 30) (.c (.int .i64 (0))))⟩,
      ⟨(some 32), none, .v (.mov (.t 31))⟩,
      ⟨(some 33), (some (32, true)), .v (.mov (.t 5))⟩,
      ⟨(some 34), (some (32, true)), .v (.len (.t 33))⟩,
      ⟨(some 35), (some (32, true)), .v (.bin .eql (.t 34) (.c (.int .i64 (0))))⟩,
      ⟨(some 36), none, .v (.pick (.t 32) (.t 35) (.c (.lit (.bool false))))⟩,
      ⟨(some 37), none, .v (.mov (.t 36))⟩,
      ⟨(some 38), (some (37, true)), .call (.c (.fn 24 [])) []⟩,
      ⟨(some 39), none, .v (.pick (.t 37) (.t 38) (.c (.lit (.bool false))))⟩,
      ⟨(some 4), none, .v (.mov (.t 39))⟩])
    .ret)
    .skip))
  (.seq (.seq (.reg [⟨(some 40), none, .v (.mov (.t 5))⟩,
    ⟨(some 41), none, .v (.mov (.t 0))⟩,
    ⟨(some 42), none, .v (.len (.t 41))⟩,
    ⟨(some 43), none, .v (.bin .add (.t 42) (.c (.int .i64 (1))))⟩,
    ⟨(some 44), none, .call (.c (.fn 46 [])) [(.t 40), (.t 43)]⟩,
    ⟨(some 45), none, .v (.not (.t 44))⟩,
    ⟨(some 46), none, .v (.mov (.t 45))⟩,
    ⟨(some 47), (some (46, false)), .v (.mov (.t 5))⟩,
    ⟨(some 48), (some (46, false)), .v (.mov (.t 0))⟩,
    ⟨(some 49), (some (46, false)), .v (.len (.t 48))⟩,
    ⟨(some 50), (some (46, false)), .call (.c (.fn 47 [])) [(.t 47), (.t 49)]⟩,
    ⟨(some 51), (some (46, false)), .v (.bin .lss (.t 50) (.c (.int .i64 (0))))⟩,
    ⟨(some 52), none, .v (.pick (.t 46) (.c (.lit (.bool true))) (.t 51))⟩,
    ⟨(some 53), none, .v (.mov (.t 52))⟩,
    ⟨(some 54), (some (53, false)), .v (.mov (.t 5))⟩,
    ⟨(some 55), (some (53, false)), .call (.c (.fn 47 [])) [(.t 54), (.c (.int .i64 (0)))]⟩,
    ⟨(some 56), (some (53, false)), .v (.bin .geq (.t 55) (.c (.int .i64 (0))))⟩,
    ⟨(some 57), none, .v (.pick (.t 53) (.c (.lit (.bool true))) (.t 56))⟩])
  (.cond (.t 57)
    (.seq (.reg [⟨(some 4), none, .v (.mov (.c (.lit (.bool false))))⟩])
    .ret)
    .skip))
  (.seq (.reg [⟨(some 7), none, .v (.mov (.c (.lit (.slice none 0 0))))⟩])
  (.seq (.reg [⟨(some 58), none, .v (.mov (.t 1))⟩,
    ⟨(some 59), none, .call (.c (.fn 50 [])) [(.t 58), (.c (.int .i64 (0)))]⟩,
    ⟨(some 60), none, .v (.mov (.t 0))⟩,
    ⟨(some 61), none, .v (.len (.t 60))⟩,
    ⟨(some 62), none, .call (.c (.fn 38 [])) [(.t 59), (.t 61)]⟩,
    ⟨(some 63), none, .v (.bin .add (.c (.int .i64 (1))) (.t 62))⟩,
    ⟨(some 8), none, .v (.mov (.t 63))⟩])
  (.seq (.reg [⟨(some 9), none, .v (.mov (.c (.lit (.slice none 0 0))))⟩])
  (.seq (.seq (.reg [⟨(some 10), none, .v (.mov (.c (.int .i64 (0))))⟩])
  (.block 0 (.loop
    (.seq (.seq (.reg [⟨(some 64), none, .v (.mov (.t 10))⟩,
      ⟨(some 65), none, .v (.mov (.t 0))⟩,
      ⟨(some 66), none, .v (.len (.t 65))⟩,
      ⟨(some 67), none, .v (.bin .lss (.t 64) (.t 66))⟩])
    (.cond (.t 67)
      .skip
      (.exit 0)))
    (.seq (.block 1 (.seq (.reg [⟨(some 70), none, .v (.mov (.t 1))⟩,
      ⟨(some 71), none, .v (.mov (.t 10))⟩,
      ⟨(some 72), none, .v (.bin .add (.t 71) (.c (.int .i64 (1))))⟩,
      ⟨(some 73), none, .call (.c (.fn 50 [])) [(.t 70), (.t 72)]⟩,
      ⟨(some 74), none, .call (.c (.fn 38 [])) [(.t 73), (.c (.int .i64 (5)))]⟩,
      ⟨(some 11), none, .v (.mov (.t 74))⟩])
    (.seq (.drw [(0, ⟨(some 75), none, .v (.mov (.t 7))⟩, false),
      (1, ⟨(some 76), none, .v (.mov (.t 0))⟩, false),
      (2, ⟨(some 77), none, .v (.mov (.t 10))⟩, false),
      (3, ⟨(some 78), none, .v (.ixa (.t 76) (.t 77) 2)⟩, false),
      (4, ⟨(some 79), none, .v (.off (.t 78) 0)⟩, false),
      (5, ⟨(some 80), none, .v (.load (.t 79) none)⟩, false),
      (6, ⟨(some 81), none, .v (.mov (.t 11))⟩, false),
      (7, ⟨(some 82), none, .v (.bin .sub (.t 80) (.t 81))⟩, false),
      (8, ⟨(some 83), none, .v (.max2 (.c (.int .i64 (-1000000))) (.t 82))⟩, false),
      (9, ⟨(some 84), none, .v (.mov (.t 0))⟩, false),
      (10, ⟨(some 85), none, .v (.mov (.t 10))⟩, false),
      (11, ⟨(some 86), none, .v (.ixa (.t 84) (.t 85) 2)⟩, false),
      (12, ⟨(some 87), none, .v (.off (.t 86) 1)⟩, false),
      (13, ⟨(some 88), none, .v (.load (.t 87) none)⟩, false),
      (14, ⟨(some 89), none, .v (.mov (.t 11))⟩, false),
      (15, ⟨(some 90), none, .v (.bin .add (.t 88) (.t 89))⟩, false),
      (16, ⟨(some 91), none, .v (.min2 (.c (.int .i64 (1000000))) (.t 90))⟩, false),
      (17, ⟨(some 92), none, .call (.c (.fn 51 [])) [(.t 83), (.t 91)]⟩, false)]
      (some ⟨(some 93), none, .bsl 63 1 [(.int .i64 (0)), (.int .i64 (0))] [(0, 2, (.t 92))]⟩)
      [⟨(some 94), none, .app 63 2 16 (.t 75) (.t 93)⟩,
      ⟨(some 7), none, .v (.mov (.t 94))⟩])
    (.seq (.reg [⟨(some 95), none, .v (.mov (.t 1))⟩,
      ⟨(some 96), none, .v (.mov (.t 10))⟩,
      ⟨(some 97), none, .v (.mov (.t 8))⟩,
      ⟨(some 98), none, .v (.bin .rem (.t 96) (.t 97))⟩,
      ⟨(some 99), none, .call (.c (.fn 50 [])) [(.t 95), (.t 98)]⟩,
      ⟨(some 100), none, .call (.c (.fn 38 [])) [(.t 99), (.c (.int .i64 (100)))]⟩,
      ⟨(some 12), none, .v (.mov (.t 100))⟩])
    (.reg [⟨(some 101), none, .v (.mov (.t 9))⟩,
      ⟨(some 102), none, .v (.mov (.t 12))⟩,
      ⟨(some 103), none, .v (.mov (.t 11))⟩,
      ⟨(some 104), none, .v (.bin .sub (.t 102) (.t 103))⟩,
      ⟨(some 105), none, .v (.mov (.t 12))⟩,
      ⟨(some 106), none, .v (.mov (.t 1))⟩,
      ⟨(some 107), none, .v (.mov (.t 10))⟩,
      ⟨(some 108), none, .v (.bin .add (.t 107) (.c (.int .i64 (2))))⟩,
      ⟨(some 109), none, .call (.c (.fn 50 [])) [(.t 106), (.t 108)]⟩,
      ⟨(some 110), none, .call (.c (.fn 38 [])) [(.t 109), (.c (.int .i64 (3)))]⟩,
      ⟨(some 111), none, .v (.bin .add (.t 105) (.t 110))⟩,
      ⟨(some 112), none, .call (.c (.fn 51 [])) [(.t 104), (.t 111)]⟩,
      ⟨(some 113), none, .bsl 63 1 [(.int .i64 (0)), (.int .i64 (0))] [(0, 2, (.t 112))]⟩,
      ⟨(some 114), none, .app 63 2 16 (.t 101) (.t 113)⟩,
      ⟨(some 9), none, .v (.mov (.t 114))⟩])))))
    (.reg [⟨(some 68), none, .v (.mov (.t 10))⟩,
      ⟨(some 69), none, .v (.bin .add (.t 68) (.c (.int .i64 (1))))⟩,
      ⟨(some 10), none, .v (.mov (.t 69))⟩]))))))
  (.seq (.reg [⟨(some 116), none, .v (.mov (.t 7))⟩,
    ⟨(some 117), none, .call (.c (.fn 36 [])) [(.t 116)]⟩,
    ⟨(some 115), none, .v (.mov (.t 117))⟩,
    ⟨(some 118), none, .v (.ext (.t 115) 0)⟩,
    ⟨(some 119), none, .v (.ext (.t 115) 1)⟩,
    ⟨(some 13), none, .v (.mov (.t 118))⟩,
    ⟨(some 6), none, .v (.mov (.t 119))⟩])
  (.seq (.reg [⟨(some 121), none, .v (.mov (.t 9))⟩,
    ⟨(some 122), none, .call (.c (.fn 36 [])) [(.t 121)]⟩,
    ⟨(some 120), none, .v (.mov (.t 122))⟩,
    ⟨(some 123), none, .v (.ext (.t 120) 0)⟩,
    ⟨(some 124), none, .v (.ext (.t 120) 1)⟩,
    ⟨(some 14), none, .v (.mov (.t 123))⟩,
    ⟨(some 15), none, .v (.mov (.t 124))⟩])
  (.seq (.seq (.reg [⟨(some 125), none, .v (.mov (.t 6))⟩,
    ⟨(some 126), none, .v (.bin .neq (.t 125) (.c (.int .i64 (0))))⟩,
    ⟨(some 127), none, .v (.mov (.t 126))⟩,
    ⟨(some 128), (some (127, false)), .v (.mov (.t 15))⟩,
    ⟨(some 129), (some (127, false)), .v (.bin .neq (.t 128) (.c (.int .i64 (0))))⟩,
    ⟨(some 130), none, .v (.pick (.t 127) (.c (.lit (.bool true))) (.t 129))⟩,
    ⟨(some 131), none, .v (.mov (.t 130))⟩,
    ⟨(some 132), (some (131, false)), .v (.mov (.t 14))⟩,
    ⟨(some 133), (some (131, false)), .v (.mov (.t 8))⟩,
    ⟨(some 134), (some (131, false)), .call (.c (.fn 47 [])) [(.t 132), (.t 133)]⟩,
    ⟨(some 135), (some (131, false)), .v (.bin .lss (.t 134) (.c (.int .i64 (0))))⟩,
    ⟨(some 136), none, .v (.pick (.t 131) (.c (.lit (.bool true))) (.t 135))⟩])
  (.cond (.t 136)
    (.seq (.reg [⟨(some 4), none, .v (.mov (.c (.lit (.bool false))))⟩])
    .ret)
    .skip))
  (.seq (.seq (.reg [⟨(some 16), none, .v (.mov (.c (.int .i64 (0))))⟩])
  (.block 2 (.loop
    (.seq (.seq (.reg [⟨(some 137), none, .v (.mov (.t 16))⟩,
      ⟨(some 138), none, .v (.mov (.t 5))⟩,
      ⟨(some 139), none, .v (.len (.t 138))⟩,
      ⟨(some 140), none, .v (.bin .lss (.t 137) (.t 139))⟩])
    (.cond (.t 140)
      .skip
      (.exit 2)))
    (.seq (.block 3 (.seq (.seq (.reg [⟨(some 143), none, .v (.mov (.t 13))⟩,
      ⟨(some 144), none, .v (.mov (.t 5))⟩,
      ⟨(some 145), none, .v (.mov (.t 16))⟩,
      ⟨(some 146), none, .v (.ixa (.t 144) (.t 145) 1)⟩,
      ⟨(some 147), none, .v (.load (.t 146) none)⟩,
      ⟨(some 148), none, .call (.c (.fn 47 [])) [(.t 143), (.t 147)]⟩,
      ⟨(some 149), none, .v (.bin .lss (.t 148) (.c (.int .i64 (0))))⟩])
    (.cond (.t 149)
      (.seq (.reg [⟨(some 4), none, .v (.mov (.c (.lit (.bool false))))⟩])
      .ret)
      .skip))
    (.seq (.reg [⟨(some 150), none, .v (.mov (.t 5))⟩,
      ⟨(some 151), none, .v (.mov (.t 16))⟩,
      ⟨(some 152), none, .v (.ixa (.t 150) (.t 151) 1)⟩,
      ⟨(some 153), none, .v (.load (.t 152) none)⟩,
      ⟨(some 17), none, .v (.mov (.t 153))⟩])
    (.block 4 (.loop
      (.seq (.seq (.reg [⟨(some 154), none, .v (.mov (.t 17))⟩,
        ⟨(some 155), none, .v (.mov (.t 0))⟩,
        ⟨(some 156), none, .v (.len (.t 155))⟩,
        ⟨(some 157), none, .v (.bin .leq (.t 154) (.t 156))⟩])
      (.cond (.t 157)
        .skip
        (.exit 4)))
      (.seq (.block 5 (.seq (.reg [⟨(some 164), none, .v (.mov (.t 5))⟩,
        ⟨(some 165), none, .v (.mov (.t 17))⟩,
        ⟨(some 166), none, .call (.c (.fn 47 [])) [(.t 164), (.t 165)]⟩,
        ⟨(some 167), none, .v (.bin .lss (.t 166) (.c (.int .i64 (0))))⟩])
      (.cond (.t 167)
        (.seq (.reg [⟨(some 4), none, .v (.mov (.c (.lit (.bool false))))⟩])
        .ret)
        .skip)))
      (.reg [⟨(some 158), none, .v (.mov (.t 17))⟩,
        ⟨(some 159), none, .v (.mov (.t 5))⟩,
        ⟨(some 160), none, .v (.mov (.t 16))⟩,
        ⟨(some 161), none, .v (.ixa (.t 159) (.t 160) 1)⟩,
        ⟨(some 162), none, .v (.load (.t 161) none)⟩,
        ⟨(some 163), none, .v (.bin .add (.t 158) (.t 162))⟩,
        ⟨(some 17), none, .v (.mov (.t 163))⟩]))))))))
    (.reg [⟨(some 141), none, .v (.mov (.t 16))⟩,
      ⟨(some 142), none, .v (.bin .add (.t 141) (.c (.int .i64 (1))))⟩,
      ⟨(some 16), none, .v (.mov (.t 142))⟩]))))))
  (.seq (.reg [⟨(some 168), none, .call (.c (.fn 24 [])) []⟩,
    ⟨(some 4), none, .v (.mov (.t 168))⟩])
  .ret)))))))))))))
def r13 : List RV := [.t 4]
def n13 : Nat := 169
theorem k13 : (Try.f13.body.bind (cC Try.prog), cR Try.prog Try.f13.results.toList, Try.f13.ntmps) = (some s13, some r13, 169) := by kernel_rfl
theorem q13 : Known Try.prog 13 := ⟨_, Try.func13, by decide, by simp [Try.f13]⟩


def C13 : PC := fun args K => ∃ (L : List (Int × Int)) (t : List Int), args = [.rd 2 L.length (rowsS L), .ints .i64 t] ∧ K (.bool true)

theorem persL_mem {L : List (Int × Int)} {k : Nat} {x : Int} : x ∈ persL L k ↔ ∃ i : Nat, 1 ≤ i ∧ i ≤ k ∧ PerP L i ∧ x = i := by
  unfold persL
  simp only [List.mem_map, List.mem_filter, List.mem_range, perB_iff]
  constructor
  · rintro ⟨a, ⟨h1, h2⟩, rfl⟩
    exact ⟨a + 1, by omega, by omega, h2, by omega⟩
  · rintro ⟨i, h1, h2, h3, rfl⟩
    exact ⟨i - 1, ⟨by omega, by rw [show i - 1 + 1 = i by omega]; exact h3⟩, by omega⟩
theorem persL_rise (L : List (Int × Int)) (k : Nat) : (persL L k).Pairwise (· < ·) := by
  unfold persL
  rw [List.pairwise_map]
  refine List.Pairwise.imp ?_ (List.Pairwise.filter _ List.pairwise_lt_range)
  intro a b h
  omega
theorem rise_getD {l : List Int} (h : l.Pairwise (· < ·)) (i : Nat) (hi : i + 1 < l.length) : l.getD i 0 < l.getD (i + 1) 0 := by
  have := List.pairwise_iff_getElem.1 h i (i + 1) (by omega) hi (by omega)
  simpa [List.getD, hi, show i < l.length by omega] using this
theorem PerP_dvd {L : List (Int × Int)} {p q : Nat} (h : PerP L p) (d : p ∣ q) : PerP L q := by
  intro i k hi hk e
  refine h i k hi hk ?_
  have := congrArg (· % p) e
  simpa [Nat.mod_mod_of_dvd _ d] using this
theorem PerP_len {L : List (Int × Int)} (h : ∀ x, x ∈ L → spE x = true) : PerP L L.length := by
  intro i k hi1 hk e
  rw [Nat.mod_eq_of_lt hi1, Nat.mod_eq_of_lt hk] at e
  subst e
  have h' := h _ (getD_memS hi1)
  exact (spE_iff.1 h').1
def wd (L : List (Int × Int)) (t : List Int) (i : Nat) : Int × Int := (max (-1000000) (lo L i - pickL t ((i : Int) + 1) % 5), min 1000000 (hi L i + pickL t ((i : Int) + 1) % 5))
def md (t : List Int) (p i : Nat) : Int × Int := (pickL t ((i % p : Nat) : Int) % 100 - pickL t ((i : Int) + 1) % 5, pickL t ((i % p : Nat) : Int) % 100 + pickL t ((i : Int) + 2) % 3)
def upto (f : Nat → Int × Int) (n : Nat) : List (Int × Int) := (List.range n).map f
theorem len_upto (f : Nat → Int × Int) (n : Nat) : (upto f n).length = n := by simp [upto]
theorem upto_getD {f : Nat → Int × Int} {n i : Nat} (h : i < n) : (upto f n).getD i (0, 0) = f i := by simp [upto, List.getD, h]
theorem lo_upto {f : Nat → Int × Int} {n i : Nat} (h : i < n) : lo (upto f n) i = (f i).1 := by rw [lo, upto_getD h]
theorem hi_upto {f : Nat → Int × Int} {n i : Nat} (h : i < n) : hi (upto f n) i = (f i).2 := by rw [hi, upto_getD h]
theorem spans_upto {f : Nat → Int × Int} {n : Nat} (h1 : 1 ≤ n) (h2 : n ≤ 64) (h : ∀ i, i < n → spE (f i) = true) : spansB (upto f n) = true := by
  rw [spansB_iff, len_upto]
  refine ⟨⟨h1, h2⟩, fun x hx => ?_⟩
  unfold upto at hx
  rw [List.mem_map] at hx
  obtain ⟨i, hi, rfl⟩ := hx
  exact h i (List.mem_range.1 hi)
theorem wide_per {L : List (Int × Int)} {t : List Int} {p : Nat} (hs : ∀ x, x ∈ L → spE x = true) (h : PerP L p) : PerP (upto (wd L t) L.length) p := by
  intro i k hi1 hk1 e
  rw [len_upto] at hi1 hk1
  rw [lo_upto hi1, hi_upto hk1]
  have a1 := h i k hi1 hk1 e
  have a2 := spE_iff.1 (hs _ (getD_memS hi1))
  have a3 := spE_iff.1 (hs _ (getD_memS hk1))
  have b1 := Int.emod_nonneg (pickL t ((i : Int) + 1)) (show (5 : Int) ≠ 0 by decide)
  have b2 := Int.emod_nonneg (pickL t ((k : Int) + 1)) (show (5 : Int) ≠ 0 by decide)
  unfold lo hi at a1
  simp only [wd, lo, hi]
  omega
theorem made_per {t : List Int} {p n : Nat} : PerP (upto (md t p) n) p := by
  intro i k hi1 hk1 e
  rw [len_upto] at hi1 hk1
  rw [lo_upto hi1, hi_upto hk1]
  have b1 := Int.emod_nonneg (pickL t ((i : Int) + 1)) (show (5 : Int) ≠ 0 by decide)
  have b2 := Int.emod_nonneg (pickL t ((k : Int) + 2)) (show (3 : Int) ≠ 0 by decide)
  simp only [md, e]
  omega
theorem wide_spE {L : List (Int × Int)} {t : List Int} (hs : ∀ x, x ∈ L → spE x = true) {i : Nat} (h : i < L.length) : spE (wd L t i) = true := by
  have a2 := spE_iff.1 (hs _ (getD_memS h))
  have b1 := Int.emod_nonneg (pickL t ((i : Int) + 1)) (show (5 : Int) ≠ 0 by decide)
  rw [spE_iff]
  simp only [wd, lo, hi]
  omega
theorem made_spE {t : List Int} {p i : Nat} : spE (md t p i) = true := by
  have b1 := Int.emod_nonneg (pickL t ((i : Int) + 1)) (show (5 : Int) ≠ 0 by decide)
  have b2 := Int.emod_nonneg (pickL t ((i : Int) + 2)) (show (3 : Int) ≠ 0 by decide)
  have b3 := Int.emod_nonneg (pickL t ((i % p : Nat) : Int)) (show (100 : Int) ≠ 0 by decide)
  have b4 := Int.emod_lt_of_pos (pickL t ((i % p : Nat) : Int)) (show (0 : Int) < 100 by decide)
  have b5 := Int.emod_lt_of_pos (pickL t ((i : Int) + 1)) (show (0 : Int) < 5 by decide)
  have b6 := Int.emod_lt_of_pos (pickL t ((i : Int) + 2)) (show (0 : Int) < 3 by decide)
  rw [spE_iff]
  simp only [md]
  omega
theorem p13 (p24 : PureOk Try.prog 24 (fcC F24)) (q24 : Known Try.prog 24) : PureOk Try.prog 13 C13 := by
  refine pure_of (T := [(36, .pc C36), (46, .pc C46), (47, .pc C47), (50, .fc F50), (51, .fc F51), (38, .fc FM38), (24, .fc F24)]) ⟨⟨p36, q36⟩, ⟨p46, q46⟩, ⟨p47, q47⟩, ⟨p50, q50⟩, ⟨p51, q51⟩, ⟨pm38, q38⟩, ⟨p24, q24⟩, trivial⟩ Try.func13 k13 ?_
  rintro args K ⟨L, t, rfl, hK⟩
  simp only [inr64, ↓reduceIte, ite_true, ite_false, List.cons.injEq, ne_eq, not_true_eq_false, not_false_eq_true, reduceCtorEq, e_skip, e_reg, e_drw, e_seq, e_cond, e_block, e_loop, e_exit, e_ret, e_shut, e_scp, scpK_n, scpK_x, scpK_r, shutH, shut1, shutB, slQ, o_nil, o_cons, gd_none, gd_some, gdK_tt, gdK_tf, gdK_ft, gdK_ff, gdK_u, gdK_bt, gdK_bf, putK_e, runK_e, skipK_e, vK_e, boxK_e, bslK_e, bldK_e, storeK3_e, storeK2_e, storeK_e, appK2_oi, appK2_or, appK_e, conK_e, callK_e, callK_m, evh_v, evh_new, evh_box, evh_bsl, evh_bld, evh_store, evh_app, evh_call, evh_inv, evh_slc, slcK_e, appC_e, appK_c, appK_l, slO, bnd, slv, od_none, od_some, invK_e, invK2_e, lkm, dX_e, dX_b, dX_l, dG_t, dG_f, d_nil, d_cons, creK_e, tlK_n, tlK_s, evc_e, loopK_n, loopK_x, loopK_r, seqK_n, seqK_x, seqK_r, condK_t, condK_f, condK_b, exitK_t, exitK_f, blockK_x, blockK_n, blockK_r, ends_r, ends_n, endK1_e, endK2_e, gam_e, gamK_f, gamK_p, gamK_c, gamq_e, gamqK_f, pc_e, pcK_e, fcC_e, fcK_e, evp, fit, InQ, nilq, nb, bin, binB, gt, gq, st, putf, X.get, gets, getp, ap, mkfr, rep, rdR, tupled, clV, clL, clS, clo, clo.clos, asB, ld, lda, lens, ixs, tk, dr, sp, sp.spl, lay, ll, cs1, one, allOne, gb, sb, pb, ln, lk, evq, gdl, crv, Value.oneCell', undef, Bool.and_true, Bool.true_and, Bool.not_true, Bool.not_false, cond_true, cond_false, Nat.reduceSub, Nat.reduceAdd, Nat.reduceMul, Nat.reduceDiv, Nat.reduceBEq, beq_self_eq_true, true_and, and_true, decide_eq_true_eq, decide_eq_false_iff_not, Bool.not_eq_eq_eq_not, sts, s13, r13]
  refine ⟨L, rfl, ?_⟩
  by_cases hs : spansB L = true
  · rw [if_pos hs, if_pos hs]
    obtain ⟨⟨q1, q2⟩, q3⟩ := spansB_iff.1 hs
    have hpl := persL_len L L.length
    have hA : ∀ x, x ∈ persL L L.length → 0 ≤ x ∧ x < (L.length : Int) + 1 := fun x hx => by
      obtain ⟨i, h1, h2, h3, rfl⟩ := persL_mem.1 hx
      omega
    simp only [inr64, ↓reduceIte, ite_true, ite_false, List.cons.injEq, ne_eq, not_true_eq_false, not_false_eq_true, reduceCtorEq, e_skip, e_reg, e_drw, e_seq, e_cond, e_block, e_loop, e_exit, e_ret, e_shut, e_scp, scpK_n, scpK_x, scpK_r, shutH, shut1, shutB, slQ, o_nil, o_cons, gd_none, gd_some, gdK_tt, gdK_tf, gdK_ft, gdK_ff, gdK_u, gdK_bt, gdK_bf, putK_e, runK_e, skipK_e, vK_e, boxK_e, bslK_e, bldK_e, storeK3_e, storeK2_e, storeK_e, appK2_oi, appK2_or, appK_e, conK_e, callK_e, callK_m, evh_v, evh_new, evh_box, evh_bsl, evh_bld, evh_store, evh_app, evh_call, evh_inv, evh_slc, slcK_e, appC_e, appK_c, appK_l, slO, bnd, slv, od_none, od_some, invK_e, invK2_e, lkm, dX_e, dX_b, dX_l, dG_t, dG_f, d_nil, d_cons, creK_e, tlK_n, tlK_s, evc_e, loopK_n, loopK_x, loopK_r, seqK_n, seqK_x, seqK_r, condK_t, condK_f, condK_b, exitK_t, exitK_f, blockK_x, blockK_n, blockK_r, ends_r, ends_n, endK1_e, endK2_e, gam_e, gamK_f, gamK_p, gamK_c, gamq_e, gamqK_f, pc_e, pcK_e, fcC_e, fcK_e, evp, fit, InQ, nilq, nb, bin, binB, gt, gq, st, putf, X.get, gets, getp, ap, mkfr, rep, rdR, tupled, clV, clL, clS, clo, clo.clos, asB, ld, lda, lens, ixs, tk, dr, sp, sp.spl, lay, ll, cs1, one, allOne, gb, sb, pb, ln, lk, evq, gdl, crv, Value.oneCell', undef, Bool.and_true, Bool.true_and, Bool.not_true, Bool.not_false, cond_true, cond_false, Nat.reduceSub, Nat.reduceAdd, Nat.reduceMul, Nat.reduceDiv, Nat.reduceBEq, beq_self_eq_true, true_and, and_true, decide_eq_true_eq, decide_eq_false_iff_not, Bool.not_eq_eq_eq_not, sts, F50, F51, FM38, F24]
    refine ⟨fun _ => ⟨fun h => absurd h (by omega), fun _ => ⟨by omega, persL L L.length, L.length + 1, by simp, ⟨by omega, by omega⟩, by simpa using hA, rise_getD (persL_rise L _), ?_⟩⟩, fun h => h.elim⟩
    simp only [inr64, ↓reduceIte, ite_true, ite_false, List.cons.injEq, ne_eq, not_true_eq_false, not_false_eq_true, reduceCtorEq, e_skip, e_reg, e_drw, e_seq, e_cond, e_block, e_loop, e_exit, e_ret, e_shut, e_scp, scpK_n, scpK_x, scpK_r, shutH, shut1, shutB, slQ, o_nil, o_cons, gd_none, gd_some, gdK_tt, gdK_tf, gdK_ft, gdK_ff, gdK_u, gdK_bt, gdK_bf, putK_e, runK_e, skipK_e, vK_e, boxK_e, bslK_e, bldK_e, storeK3_e, storeK2_e, storeK_e, appK2_oi, appK2_or, appK_e, conK_e, callK_e, callK_m, evh_v, evh_new, evh_box, evh_bsl, evh_bld, evh_store, evh_app, evh_call, evh_inv, evh_slc, slcK_e, appC_e, appK_c, appK_l, slO, bnd, slv, od_none, od_some, invK_e, invK2_e, lkm, dX_e, dX_b, dX_l, dG_t, dG_f, d_nil, d_cons, creK_e, tlK_n, tlK_s, evc_e, loopK_n, loopK_x, loopK_r, seqK_n, seqK_x, seqK_r, condK_t, condK_f, condK_b, exitK_t, exitK_f, blockK_x, blockK_n, blockK_r, ends_r, ends_n, endK1_e, endK2_e, gam_e, gamK_f, gamK_p, gamK_c, gamq_e, gamqK_f, pc_e, pcK_e, fcC_e, fcK_e, evp, fit, InQ, nilq, nb, bin, binB, gt, gq, st, putf, X.get, gets, getp, ap, mkfr, rep, rdR, tupled, clV, clL, clS, clo, clo.clos, asB, ld, lda, lens, ixs, tk, dr, sp, sp.spl, lay, ll, cs1, one, allOne, gb, sb, pb, ln, lk, evq, gdl, crv, Value.oneCell', undef, Bool.and_true, Bool.true_and, Bool.not_true, Bool.not_false, cond_true, cond_false, Nat.reduceSub, Nat.reduceAdd, Nat.reduceMul, Nat.reduceDiv, Nat.reduceBEq, beq_self_eq_true, true_and, and_true, decide_eq_true_eq, decide_eq_false_iff_not, Bool.not_eq_eq_eq_not, sts, F50, F51, FM38, F24]
    refine ⟨fun _ => ⟨persL L L.length, L.length, rfl, by omega, fun r hr => ?_⟩, fun h => h.elim⟩
    have hr0 := hr.2 (persL_mem.2 ⟨L.length, by omega, by omega, PerP_len q3, rfl⟩)
    simp only [inr64, ↓reduceIte, ite_true, ite_false, List.cons.injEq, ne_eq, not_true_eq_false, not_false_eq_true, reduceCtorEq, e_skip, e_reg, e_drw, e_seq, e_cond, e_block, e_loop, e_exit, e_ret, e_shut, e_scp, scpK_n, scpK_x, scpK_r, shutH, shut1, shutB, slQ, o_nil, o_cons, gd_none, gd_some, gdK_tt, gdK_tf, gdK_ft, gdK_ff, gdK_u, gdK_bt, gdK_bf, putK_e, runK_e, skipK_e, vK_e, boxK_e, bslK_e, bldK_e, storeK3_e, storeK2_e, storeK_e, appK2_oi, appK2_or, appK_e, conK_e, callK_e, callK_m, evh_v, evh_new, evh_box, evh_bsl, evh_bld, evh_store, evh_app, evh_call, evh_inv, evh_slc, slcK_e, appC_e, appK_c, appK_l, slO, bnd, slv, od_none, od_some, invK_e, invK2_e, lkm, dX_e, dX_b, dX_l, dG_t, dG_f, d_nil, d_cons, creK_e, tlK_n, tlK_s, evc_e, loopK_n, loopK_x, loopK_r, seqK_n, seqK_x, seqK_r, condK_t, condK_f, condK_b, exitK_t, exitK_f, blockK_x, blockK_n, blockK_r, ends_r, ends_n, endK1_e, endK2_e, gam_e, gamK_f, gamK_p, gamK_c, gamq_e, gamqK_f, pc_e, pcK_e, fcC_e, fcK_e, evp, fit, InQ, nilq, nb, bin, binB, gt, gq, st, putf, X.get, gets, getp, ap, mkfr, rep, rdR, tupled, clV, clL, clS, clo, clo.clos, asB, ld, lda, lens, ixs, tk, dr, sp, sp.spl, lay, ll, cs1, one, allOne, gb, sb, pb, ln, lk, evq, gdl, crv, Value.oneCell', undef, Bool.and_true, Bool.true_and, Bool.not_true, Bool.not_false, cond_true, cond_false, Nat.reduceSub, Nat.reduceAdd, Nat.reduceMul, Nat.reduceDiv, Nat.reduceBEq, beq_self_eq_true, true_and, and_true, decide_eq_true_eq, decide_eq_false_iff_not, Bool.not_eq_eq_eq_not, sts, F50, F51, FM38, F24]
    refine ⟨fun _ => ⟨persL L L.length, 0, rfl, by omega, fun r2 hr2 => ?_⟩, fun h => absurd h (by omega)⟩
    have hr20 : ¬ 0 ≤ r2 := fun h => by
      obtain ⟨i, h1, h2, h3, h4⟩ := persL_mem.1 (hr2.1 h)
      omega
    have e1 := Int.emod_nonneg (pickL t 0) (show (L.length : Int) ≠ 0 by omega)
    have e2 := Int.emod_lt_of_pos (pickL t 0) (show (0 : Int) < L.length by omega)
    obtain ⟨p, hp⟩ : ∃ p : Nat, 1 + pickL t 0 % L.length = p := ⟨(1 + pickL t 0 % L.length).toNat, by omega⟩
    simp only [inr64, ↓reduceIte, ite_true, ite_false, List.cons.injEq, ne_eq, not_true_eq_false, not_false_eq_true, reduceCtorEq, e_skip, e_reg, e_drw, e_seq, e_cond, e_block, e_loop, e_exit, e_ret, e_shut, e_scp, scpK_n, scpK_x, scpK_r, shutH, shut1, shutB, slQ, o_nil, o_cons, gd_none, gd_some, gdK_tt, gdK_tf, gdK_ft, gdK_ff, gdK_u, gdK_bt, gdK_bf, putK_e, runK_e, skipK_e, vK_e, boxK_e, bslK_e, bldK_e, storeK3_e, storeK2_e, storeK_e, appK2_oi, appK2_or, appK_e, conK_e, callK_e, callK_m, evh_v, evh_new, evh_box, evh_bsl, evh_bld, evh_store, evh_app, evh_call, evh_inv, evh_slc, slcK_e, appC_e, appK_c, appK_l, slO, bnd, slv, od_none, od_some, invK_e, invK2_e, lkm, dX_e, dX_b, dX_l, dG_t, dG_f, d_nil, d_cons, creK_e, tlK_n, tlK_s, evc_e, loopK_n, loopK_x, loopK_r, seqK_n, seqK_x, seqK_r, condK_t, condK_f, condK_b, exitK_t, exitK_f, blockK_x, blockK_n, blockK_r, ends_r, ends_n, endK1_e, endK2_e, gam_e, gamK_f, gamK_p, gamK_c, gamq_e, gamqK_f, pc_e, pcK_e, fcC_e, fcK_e, evp, fit, InQ, nilq, nb, bin, binB, gt, gq, st, putf, X.get, gets, getp, ap, mkfr, rep, rdR, tupled, clV, clL, clS, clo, clo.clos, asB, ld, lda, lens, ixs, tk, dr, sp, sp.spl, lay, ll, cs1, one, allOne, gb, sb, pb, ln, lk, evq, gdl, crv, Value.oneCell', undef, Bool.and_true, Bool.true_and, Bool.not_true, Bool.not_false, cond_true, cond_false, Nat.reduceSub, Nat.reduceAdd, Nat.reduceMul, Nat.reduceDiv, Nat.reduceBEq, beq_self_eq_true, true_and, and_true, decide_eq_true_eq, decide_eq_false_iff_not, Bool.not_eq_eq_eq_not, sts, F50, F51, FM38, F24, hp]
    have hp1 : 1 ≤ p := by omega
    have hp2 : p ≤ L.length := by omega
    refine ⟨fun h => absurd h hr20, fun _ => ⟨by omega, ⟨by omega, .inr (by omega)⟩, by omega, ?_⟩⟩
    refine loop_at2 (G := Nat) (fun i => [(10, .int .i64 i), (7, .own 0), (9, .own 1)]) (fun i => [.orw 63 2 i (rowsS (upto (wd L t) i)), .orw 63 2 i (rowsS (upto (md t p) i))]) (fun i => i ≤ L.length) (fun i => L.length - i) 0 (Nat.zero_le _) ?_
    (intro fr1 hf1; simp only [forget, dstC, dstO, dstD, dst1, st] at hf1; subst hf1)
    refine ⟨?_, ?_⟩
    · refine Lw_re 0 [none, none] (Nat.zero_le _) (by simp [ln]) (by simp [ln]) rfl ?_ ?_
      · simp only [reL, reX, reH, reB, reM, reN, newB, rn, once, gb, List.getElem?_cons_zero, List.getElem?_cons_succ, Nat.reduceSub, Nat.reduceLeDiff, Nat.lt_irrefl, Nat.le_refl, false_and, or_false, false_or, and_false, reduceCtorEq, true_or, or_true, leL, leX, leH, leB, news, inb, inb.inbs, ln, sts, st, Bool.and_self, Bool.and_true, Bool.true_and, Nat.reduceLT, Nat.reduceAdd, decide_true, true_and, and_true, and_self, SV.agg.injEq, Int.natCast_zero, implies_true]
      · simp only [reL, reX, reH, reB, reM, reN, newB, rn, once, gb, List.getElem?_cons_zero, List.getElem?_cons_succ, Nat.reduceSub, Nat.reduceLeDiff, Nat.lt_irrefl, Nat.le_refl, false_and, or_false, false_or, and_false, reduceCtorEq, true_or, or_true, leL, leX, leH, leB, news, inb, inb.inbs, ln, sts, st, Bool.and_self, Bool.and_true, Bool.true_and, Nat.reduceLT, Nat.reduceAdd, decide_true, true_and, and_true, and_self, SV.agg.injEq]
    · intro i hi1
      simp only [inr64, ↓reduceIte, ite_true, ite_false, List.cons.injEq, ne_eq, not_true_eq_false, not_false_eq_true, reduceCtorEq, e_skip, e_reg, e_drw, e_seq, e_cond, e_block, e_loop, e_exit, e_ret, e_shut, e_scp, scpK_n, scpK_x, scpK_r, shutH, shut1, shutB, slQ, o_nil, o_cons, gd_none, gd_some, gdK_tt, gdK_tf, gdK_ft, gdK_ff, gdK_u, gdK_bt, gdK_bf, putK_e, runK_e, skipK_e, vK_e, boxK_e, bslK_e, bldK_e, storeK3_e, storeK2_e, storeK_e, appK2_oi, appK2_or, appK_e, conK_e, callK_e, callK_m, evh_v, evh_new, evh_box, evh_bsl, evh_bld, evh_store, evh_app, evh_call, evh_inv, evh_slc, slcK_e, appC_e, appK_c, appK_l, slO, bnd, slv, od_none, od_some, invK_e, invK2_e, lkm, dX_e, dX_b, dX_l, dG_t, dG_f, d_nil, d_cons, creK_e, tlK_n, tlK_s, evc_e, loopK_n, loopK_x, loopK_r, seqK_n, seqK_x, seqK_r, condK_t, condK_f, condK_b, exitK_t, exitK_f, blockK_x, blockK_n, blockK_r, ends_r, ends_n, endK1_e, endK2_e, gam_e, gamK_f, gamK_p, gamK_c, gamq_e, gamqK_f, pc_e, pcK_e, fcC_e, fcK_e, evp, fit, InQ, nilq, nb, bin, binB, gt, gq, st, putf, X.get, gets, getp, ap, mkfr, rep, rdR, tupled, clV, clL, clS, clo, clo.clos, asB, ld, lda, lens, ixs, tk, dr, sp, sp.spl, lay, ll, cs1, one, allOne, gb, sb, pb, ln, lk, evq, gdl, crv, Value.oneCell', undef, Bool.and_true, Bool.true_and, Bool.not_true, Bool.not_false, cond_true, cond_false, Nat.reduceSub, Nat.reduceAdd, Nat.reduceMul, Nat.reduceDiv, Nat.reduceBEq, beq_self_eq_true, true_and, and_true, decide_eq_true_eq, decide_eq_false_iff_not, Bool.not_eq_eq_eq_not, sts, Int.toNat_natCast, rowsS, F50, F51, FM38, F24]
      refine ⟨fun h => ?_, fun h => ?_⟩
      · have hi' : i < L.length := by omega
        have ht : ((i : Int)).tmod p = ((i % p : Nat) : Int) := by
          rw [Int.tmod_eq_emod_of_nonneg (by omega)]; exact (Int.natCast_emod i p).symm
        rw [ht]
        have a1 := spE_iff.1 (q3 _ (getD_memS hi'))
        have a2 : -1000000 ≤ lo L i := a1.2.1
        have a3 : hi L i ≤ 1000000 := a1.2.2
        have a4 : lo L i ≤ hi L i := a1.1
        have b1 := Int.emod_nonneg (pickL t ((i : Int) + 1)) (show (5 : Int) ≠ 0 by decide)
        have b2 := Int.emod_nonneg (pickL t ((i : Int) + 2)) (show (3 : Int) ≠ 0 by decide)
        have b3 := Int.emod_nonneg (pickL t ((i % p : Nat) : Int)) (show (100 : Int) ≠ 0 by decide)
        have b4 := Int.emod_lt_of_pos (pickL t ((i % p : Nat) : Int)) (show (0 : Int) < 100 by decide)
        have b5 := Int.emod_lt_of_pos (pickL t ((i : Int) + 1)) (show (0 : Int) < 5 by decide)
        have b6 := Int.emod_lt_of_pos (pickL t ((i : Int) + 2)) (show (0 : Int) < 3 by decide)
        refine ⟨by omega, by omega, ⟨by omega, .inr (by omega)⟩, by omega, by omega, by omega, by omega, by omega, by omega, by omega, ⟨by omega, .inr (by omega)⟩, by omega, by omega, by omega, ⟨by omega, .inr (by omega)⟩, by omega, by omega, by omega, ?_⟩
        refine Nx.mk (i + 1) (by show i + 1 ≤ L.length; omega) (by show L.length - (i + 1) < L.length - i; omega) (Lw_re 0 [some 3, some 5] (Nat.zero_le _) (by simp [ln]) (by simp [ln]) rfl ?_ ?_)
        · simp only [reL, reX, reH, reB, reM, reN, newB, rn, once, gb, List.getElem?_cons_zero, List.getElem?_cons_succ, Nat.reduceSub, Nat.reduceLeDiff, Nat.lt_irrefl, Nat.le_refl, false_and, or_false, false_or, and_false, reduceCtorEq, true_or, or_true, leL, leX, leH, leB, news, inb, inb.inbs, ln, sts, st, Bool.and_self, Bool.and_true, Bool.true_and, Nat.reduceLT, Nat.reduceAdd, decide_true, true_and, and_true, and_self, SV.agg.injEq, Int.natCast_add, Int.natCast_one, implies_true]
        · simp only [reL, reX, reH, reB, reM, reN, newB, rn, once, gb, List.getElem?_cons_zero, List.getElem?_cons_succ, Nat.reduceSub, Nat.reduceLeDiff, Nat.lt_irrefl, Nat.le_refl, false_and, or_false, false_or, and_false, reduceCtorEq, true_or, or_true, leL, leX, leH, leB, news, inb, inb.inbs, ln, sts, st, Bool.and_self, Bool.and_true, Bool.true_and, Nat.reduceLT, Nat.reduceAdd, decide_true, true_and, and_true, and_self, SV.agg.injEq]
          refine ⟨fun j hj => ?_, fun j hj => ?_⟩
          · unfold rowsS
            rw [lo_upto hj, hi_upto hj]
            by_cases hji : j < i
            · rw [if_pos hji, lo_upto hji, hi_upto hji]
            · obtain rfl : j = i := by omega
              rw [if_neg hji]
              simp only [wd, List.cons.injEq, SV.int.injEq, true_and, and_true]
              exact ⟨by split <;> omega, by split <;> omega⟩
          · unfold rowsS
            rw [lo_upto hj, hi_upto hj]
            by_cases hji : j < i
            · rw [if_pos hji, lo_upto hji, hi_upto hji]
            · obtain rfl : j = i := by omega
              rw [if_neg hji]
              simp only [md]
      · have e : i = L.length := by omega
        subst e
        refine ⟨upto (wd L t) L.length, by rw [len_upto], ?_⟩
        rw [if_pos (spans_upto q1 q2 fun i hi => wide_spE q3 hi), if_pos (spans_upto q1 q2 fun i hi => wide_spE q3 hi), len_upto]
        simp only [inr64, ↓reduceIte, ite_true, ite_false, List.cons.injEq, ne_eq, not_true_eq_false, not_false_eq_true, reduceCtorEq, e_skip, e_reg, e_drw, e_seq, e_cond, e_block, e_loop, e_exit, e_ret, e_shut, e_scp, scpK_n, scpK_x, scpK_r, shutH, shut1, shutB, slQ, o_nil, o_cons, gd_none, gd_some, gdK_tt, gdK_tf, gdK_ft, gdK_ff, gdK_u, gdK_bt, gdK_bf, putK_e, runK_e, skipK_e, vK_e, boxK_e, bslK_e, bldK_e, storeK3_e, storeK2_e, storeK_e, appK2_oi, appK2_or, appK_e, conK_e, callK_e, callK_m, evh_v, evh_new, evh_box, evh_bsl, evh_bld, evh_store, evh_app, evh_call, evh_inv, evh_slc, slcK_e, appC_e, appK_c, appK_l, slO, bnd, slv, od_none, od_some, invK_e, invK2_e, lkm, dX_e, dX_b, dX_l, dG_t, dG_f, d_nil, d_cons, creK_e, tlK_n, tlK_s, evc_e, loopK_n, loopK_x, loopK_r, seqK_n, seqK_x, seqK_r, condK_t, condK_f, condK_b, exitK_t, exitK_f, blockK_x, blockK_n, blockK_r, ends_r, ends_n, endK1_e, endK2_e, gam_e, gamK_f, gamK_p, gamK_c, gamq_e, gamqK_f, pc_e, pcK_e, fcC_e, fcK_e, evp, fit, InQ, nilq, nb, bin, binB, gt, gq, st, putf, X.get, gets, getp, ap, mkfr, rep, rdR, tupled, clV, clL, clS, clo, clo.clos, asB, ld, lda, lens, ixs, tk, dr, sp, sp.spl, lay, ll, cs1, one, allOne, gb, sb, pb, ln, lk, evq, gdl, crv, Value.oneCell', undef, Bool.and_true, Bool.true_and, Bool.not_true, Bool.not_false, cond_true, cond_false, Nat.reduceSub, Nat.reduceAdd, Nat.reduceMul, Nat.reduceDiv, Nat.reduceBEq, beq_self_eq_true, true_and, and_true, decide_eq_true_eq, decide_eq_false_iff_not, Bool.not_eq_eq_eq_not, sts, F24]
        refine ⟨upto (md t p) L.length, by rw [len_upto], ?_⟩
        rw [if_pos (spans_upto q1 q2 fun i hi => made_spE), if_pos (spans_upto q1 q2 fun i hi => made_spE), len_upto]
        simp only [inr64, ↓reduceIte, ite_true, ite_false, List.cons.injEq, ne_eq, not_true_eq_false, not_false_eq_true, reduceCtorEq, e_skip, e_reg, e_drw, e_seq, e_cond, e_block, e_loop, e_exit, e_ret, e_shut, e_scp, scpK_n, scpK_x, scpK_r, shutH, shut1, shutB, slQ, o_nil, o_cons, gd_none, gd_some, gdK_tt, gdK_tf, gdK_ft, gdK_ff, gdK_u, gdK_bt, gdK_bf, putK_e, runK_e, skipK_e, vK_e, boxK_e, bslK_e, bldK_e, storeK3_e, storeK2_e, storeK_e, appK2_oi, appK2_or, appK_e, conK_e, callK_e, callK_m, evh_v, evh_new, evh_box, evh_bsl, evh_bld, evh_store, evh_app, evh_call, evh_inv, evh_slc, slcK_e, appC_e, appK_c, appK_l, slO, bnd, slv, od_none, od_some, invK_e, invK2_e, lkm, dX_e, dX_b, dX_l, dG_t, dG_f, d_nil, d_cons, creK_e, tlK_n, tlK_s, evc_e, loopK_n, loopK_x, loopK_r, seqK_n, seqK_x, seqK_r, condK_t, condK_f, condK_b, exitK_t, exitK_f, blockK_x, blockK_n, blockK_r, ends_r, ends_n, endK1_e, endK2_e, gam_e, gamK_f, gamK_p, gamK_c, gamq_e, gamqK_f, pc_e, pcK_e, fcC_e, fcK_e, evp, fit, InQ, nilq, nb, bin, binB, gt, gq, st, putf, X.get, gets, getp, ap, mkfr, rep, rdR, tupled, clV, clL, clS, clo, clo.clos, asB, ld, lda, lens, ixs, tk, dr, sp, sp.spl, lay, ll, cs1, one, allOne, gb, sb, pb, ln, lk, evq, gdl, crv, Value.oneCell', undef, Bool.and_true, Bool.true_and, Bool.not_true, Bool.not_false, cond_true, cond_false, Nat.reduceSub, Nat.reduceAdd, Nat.reduceMul, Nat.reduceDiv, Nat.reduceBEq, beq_self_eq_true, true_and, and_true, decide_eq_true_eq, decide_eq_false_iff_not, Bool.not_eq_eq_eq_not, sts, F24]
        have hpm := persL_len (upto (md t p) L.length) L.length
        refine ⟨fun _ => ⟨fun _ => ⟨persL (upto (md t p) L.length) L.length, p, rfl, by omega, fun r3 hr3 => ?_⟩, fun h => h.elim⟩, fun h => h.elim⟩
        have hr30 := hr3.2 (persL_mem.2 ⟨p, hp1, hp2, made_per, rfl⟩)
        simp only [inr64, ↓reduceIte, ite_true, ite_false, List.cons.injEq, ne_eq, not_true_eq_false, not_false_eq_true, reduceCtorEq, e_skip, e_reg, e_drw, e_seq, e_cond, e_block, e_loop, e_exit, e_ret, e_shut, e_scp, scpK_n, scpK_x, scpK_r, shutH, shut1, shutB, slQ, o_nil, o_cons, gd_none, gd_some, gdK_tt, gdK_tf, gdK_ft, gdK_ff, gdK_u, gdK_bt, gdK_bf, putK_e, runK_e, skipK_e, vK_e, boxK_e, bslK_e, bldK_e, storeK3_e, storeK2_e, storeK_e, appK2_oi, appK2_or, appK_e, conK_e, callK_e, callK_m, evh_v, evh_new, evh_box, evh_bsl, evh_bld, evh_store, evh_app, evh_call, evh_inv, evh_slc, slcK_e, appC_e, appK_c, appK_l, slO, bnd, slv, od_none, od_some, invK_e, invK2_e, lkm, dX_e, dX_b, dX_l, dG_t, dG_f, d_nil, d_cons, creK_e, tlK_n, tlK_s, evc_e, loopK_n, loopK_x, loopK_r, seqK_n, seqK_x, seqK_r, condK_t, condK_f, condK_b, exitK_t, exitK_f, blockK_x, blockK_n, blockK_r, ends_r, ends_n, endK1_e, endK2_e, gam_e, gamK_f, gamK_p, gamK_c, gamq_e, gamqK_f, pc_e, pcK_e, fcC_e, fcK_e, evp, fit, InQ, nilq, nb, bin, binB, gt, gq, st, putf, X.get, gets, getp, ap, mkfr, rep, rdR, tupled, clV, clL, clS, clo, clo.clos, asB, ld, lda, lens, ixs, tk, dr, sp, sp.spl, lay, ll, cs1, one, allOne, gb, sb, pb, ln, lk, evq, gdl, crv, Value.oneCell', undef, Bool.and_true, Bool.true_and, Bool.not_true, Bool.not_false, cond_true, cond_false, Nat.reduceSub, Nat.reduceAdd, Nat.reduceMul, Nat.reduceDiv, Nat.reduceBEq, beq_self_eq_true, true_and, and_true, decide_eq_true_eq, decide_eq_false_iff_not, Bool.not_eq_eq_eq_not, sts, F24]
        refine ⟨fun h => absurd h (by omega), fun _ => ?_⟩
        have hpw := persL_len (upto (wd L t) L.length) L.length
        refine loop_at2 (G := Nat) (fun j => [(16, .int .i64 j)]) (fun j => [.fz (.rd 2 L.length (rowsS (upto (wd L t) L.length))), .fz (.rd 2 L.length (rowsS (upto (md t p) L.length)))]) (fun j => j ≤ (persL L L.length).length) (fun j => (persL L L.length).length - j) 0 (Nat.zero_le _) ?_
        (intro fr1 hf1; simp only [forget, dstC, dstO, dstD, dst1, st] at hf1; subst hf1)
        refine ⟨?_, ?_⟩
        · refine Lw_re 2 [] (Nat.zero_le _) (by simp [ln]) (by simp [ln]) rfl ?_ ?_
          · simp only [reL, reX, reH, reB, reM, reN, newB, rn, once, gb, List.getElem?_cons_zero, List.getElem?_cons_succ, Nat.reduceSub, Nat.reduceLeDiff, Nat.lt_irrefl, Nat.le_refl, false_and, or_false, false_or, and_false, reduceCtorEq, true_or, or_true, leL, leX, leH, leB, news, inb, inb.inbs, ln, sts, st, Bool.and_self, Bool.and_true, Bool.true_and, Nat.reduceLT, Nat.reduceAdd, decide_true, true_and, and_true, and_self, SV.agg.injEq, Int.natCast_zero, implies_true]
          · simp only [reL, reX, reH, reB, reM, reN, newB, rn, once, gb, List.getElem?_cons_zero, List.getElem?_cons_succ, Nat.reduceSub, Nat.reduceLeDiff, Nat.lt_irrefl, Nat.le_refl, false_and, or_false, false_or, and_false, reduceCtorEq, true_or, or_true, leL, leX, leH, leB, news, inb, inb.inbs, ln, sts, st, Bool.and_self, Bool.and_true, Bool.true_and, Nat.reduceLT, Nat.reduceAdd, decide_true, true_and, and_true, and_self, SV.agg.injEq, implies_true]
        · intro j hj
          simp only [inr64, ↓reduceIte, ite_true, ite_false, List.cons.injEq, ne_eq, not_true_eq_false, not_false_eq_true, reduceCtorEq, e_skip, e_reg, e_drw, e_seq, e_cond, e_block, e_loop, e_exit, e_ret, e_shut, e_scp, scpK_n, scpK_x, scpK_r, shutH, shut1, shutB, slQ, o_nil, o_cons, gd_none, gd_some, gdK_tt, gdK_tf, gdK_ft, gdK_ff, gdK_u, gdK_bt, gdK_bf, putK_e, runK_e, skipK_e, vK_e, boxK_e, bslK_e, bldK_e, storeK3_e, storeK2_e, storeK_e, appK2_oi, appK2_or, appK_e, conK_e, callK_e, callK_m, evh_v, evh_new, evh_box, evh_bsl, evh_bld, evh_store, evh_app, evh_call, evh_inv, evh_slc, slcK_e, appC_e, appK_c, appK_l, slO, bnd, slv, od_none, od_some, invK_e, invK2_e, lkm, dX_e, dX_b, dX_l, dG_t, dG_f, d_nil, d_cons, creK_e, tlK_n, tlK_s, evc_e, loopK_n, loopK_x, loopK_r, seqK_n, seqK_x, seqK_r, condK_t, condK_f, condK_b, exitK_t, exitK_f, blockK_x, blockK_n, blockK_r, ends_r, ends_n, endK1_e, endK2_e, gam_e, gamK_f, gamK_p, gamK_c, gamq_e, gamqK_f, pc_e, pcK_e, fcC_e, fcK_e, evp, fit, InQ, nilq, nb, bin, binB, gt, gq, st, putf, X.get, gets, getp, ap, mkfr, rep, rdR, tupled, clV, clL, clS, clo, clo.clos, asB, ld, lda, lens, ixs, tk, dr, sp, sp.spl, lay, ll, cs1, one, allOne, gb, sb, pb, ln, lk, evq, gdl, crv, Value.oneCell', undef, Bool.and_true, Bool.true_and, Bool.not_true, Bool.not_false, cond_true, cond_false, Nat.reduceSub, Nat.reduceAdd, Nat.reduceMul, Nat.reduceDiv, Nat.reduceBEq, beq_self_eq_true, true_and, and_true, decide_eq_true_eq, decide_eq_false_iff_not, Bool.not_eq_eq_eq_not, sts, Int.toNat_natCast, F24]
          refine ⟨fun h => ?_, fun h => ?_⟩
          · have hj' : j < (persL L L.length).length := by omega
            obtain ⟨q, u1, u2, u3, u4⟩ := persL_mem.1 (getD_mem hj')
            refine ⟨by omega, persL (upto (wd L t) L.length) L.length, _, rfl, by omega, fun r4 hr4 => ?_⟩
            have hr40 := hr4.2 (persL_mem.2 ⟨q, u1, u2, wide_per q3 u3, u4⟩)
            simp only [inr64, ↓reduceIte, ite_true, ite_false, List.cons.injEq, ne_eq, not_true_eq_false, not_false_eq_true, reduceCtorEq, e_skip, e_reg, e_drw, e_seq, e_cond, e_block, e_loop, e_exit, e_ret, e_shut, e_scp, scpK_n, scpK_x, scpK_r, shutH, shut1, shutB, slQ, o_nil, o_cons, gd_none, gd_some, gdK_tt, gdK_tf, gdK_ft, gdK_ff, gdK_u, gdK_bt, gdK_bf, putK_e, runK_e, skipK_e, vK_e, boxK_e, bslK_e, bldK_e, storeK3_e, storeK2_e, storeK_e, appK2_oi, appK2_or, appK_e, conK_e, callK_e, callK_m, evh_v, evh_new, evh_box, evh_bsl, evh_bld, evh_store, evh_app, evh_call, evh_inv, evh_slc, slcK_e, appC_e, appK_c, appK_l, slO, bnd, slv, od_none, od_some, invK_e, invK2_e, lkm, dX_e, dX_b, dX_l, dG_t, dG_f, d_nil, d_cons, creK_e, tlK_n, tlK_s, evc_e, loopK_n, loopK_x, loopK_r, seqK_n, seqK_x, seqK_r, condK_t, condK_f, condK_b, exitK_t, exitK_f, blockK_x, blockK_n, blockK_r, ends_r, ends_n, endK1_e, endK2_e, gam_e, gamK_f, gamK_p, gamK_c, gamq_e, gamqK_f, pc_e, pcK_e, fcC_e, fcK_e, evp, fit, InQ, nilq, nb, bin, binB, gt, gq, st, putf, X.get, gets, getp, ap, mkfr, rep, rdR, tupled, clV, clL, clS, clo, clo.clos, asB, ld, lda, lens, ixs, tk, dr, sp, sp.spl, lay, ll, cs1, one, allOne, gb, sb, pb, ln, lk, evq, gdl, crv, Value.oneCell', undef, Bool.and_true, Bool.true_and, Bool.not_true, Bool.not_false, cond_true, cond_false, Nat.reduceSub, Nat.reduceAdd, Nat.reduceMul, Nat.reduceDiv, Nat.reduceBEq, beq_self_eq_true, true_and, and_true, decide_eq_true_eq, decide_eq_false_iff_not, Bool.not_eq_eq_eq_not, sts, Int.toNat_natCast, F24, u4]
            refine ⟨fun h => absurd h (by omega), fun _ => ⟨by omega, ?_⟩⟩
            refine loop_at2 (G := Nat) (fun k => [(17, .int .i64 k)]) (fun k => [.fz (.rd 2 L.length (rowsS (upto (wd L t) L.length))), .fz (.rd 2 L.length (rowsS (upto (md t p) L.length)))]) (fun k => (1 ≤ k ∧ q ∣ k) ∧ k ≤ L.length + q) (fun k => L.length + q - k) q ⟨⟨u1, Nat.dvd_refl q⟩, by omega⟩ ?_
            (intro fr1 hf1; simp only [forget, dstC, dstO, dstD, dst1, st] at hf1; subst hf1)
            refine ⟨?_, ?_⟩
            · refine Lw_re 2 [] (Nat.zero_le _) (by simp [ln]) (by simp [ln]) rfl ?_ ?_
              · simp only [reL, reX, reH, reB, reM, reN, newB, rn, once, gb, List.getElem?_cons_zero, List.getElem?_cons_succ, Nat.reduceSub, Nat.reduceLeDiff, Nat.lt_irrefl, Nat.le_refl, false_and, or_false, false_or, and_false, reduceCtorEq, true_or, or_true, leL, leX, leH, leB, news, inb, inb.inbs, ln, sts, st, Bool.and_self, Bool.and_true, Bool.true_and, Nat.reduceLT, Nat.reduceAdd, decide_true, true_and, and_true, and_self, SV.agg.injEq, implies_true]
              · simp only [reL, reX, reH, reB, reM, reN, newB, rn, once, gb, List.getElem?_cons_zero, List.getElem?_cons_succ, Nat.reduceSub, Nat.reduceLeDiff, Nat.lt_irrefl, Nat.le_refl, false_and, or_false, false_or, and_false, reduceCtorEq, true_or, or_true, leL, leX, leH, leB, news, inb, inb.inbs, ln, sts, st, Bool.and_self, Bool.and_true, Bool.true_and, Nat.reduceLT, Nat.reduceAdd, decide_true, true_and, and_true, and_self, SV.agg.injEq, implies_true]
            · rintro k ⟨⟨k1, k2⟩, k3⟩
              simp only [inr64, ↓reduceIte, ite_true, ite_false, List.cons.injEq, ne_eq, not_true_eq_false, not_false_eq_true, reduceCtorEq, e_skip, e_reg, e_drw, e_seq, e_cond, e_block, e_loop, e_exit, e_ret, e_shut, e_scp, scpK_n, scpK_x, scpK_r, shutH, shut1, shutB, slQ, o_nil, o_cons, gd_none, gd_some, gdK_tt, gdK_tf, gdK_ft, gdK_ff, gdK_u, gdK_bt, gdK_bf, putK_e, runK_e, skipK_e, vK_e, boxK_e, bslK_e, bldK_e, storeK3_e, storeK2_e, storeK_e, appK2_oi, appK2_or, appK_e, conK_e, callK_e, callK_m, evh_v, evh_new, evh_box, evh_bsl, evh_bld, evh_store, evh_app, evh_call, evh_inv, evh_slc, slcK_e, appC_e, appK_c, appK_l, slO, bnd, slv, od_none, od_some, invK_e, invK2_e, lkm, dX_e, dX_b, dX_l, dG_t, dG_f, d_nil, d_cons, creK_e, tlK_n, tlK_s, evc_e, loopK_n, loopK_x, loopK_r, seqK_n, seqK_x, seqK_r, condK_t, condK_f, condK_b, exitK_t, exitK_f, blockK_x, blockK_n, blockK_r, ends_r, ends_n, endK1_e, endK2_e, gam_e, gamK_f, gamK_p, gamK_c, gamq_e, gamqK_f, pc_e, pcK_e, fcC_e, fcK_e, evp, fit, InQ, nilq, nb, bin, binB, gt, gq, st, putf, X.get, gets, getp, ap, mkfr, rep, rdR, tupled, clV, clL, clS, clo, clo.clos, asB, ld, lda, lens, ixs, tk, dr, sp, sp.spl, lay, ll, cs1, one, allOne, gb, sb, pb, ln, lk, evq, gdl, crv, Value.oneCell', undef, Bool.and_true, Bool.true_and, Bool.not_true, Bool.not_false, cond_true, cond_false, Nat.reduceSub, Nat.reduceAdd, Nat.reduceMul, Nat.reduceDiv, Nat.reduceBEq, beq_self_eq_true, true_and, and_true, decide_eq_true_eq, decide_eq_false_iff_not, Bool.not_eq_eq_eq_not, sts, Int.toNat_natCast, F24, u4]
              refine ⟨fun h => ?_, fun h => ⟨by omega, ?_⟩⟩
              · refine ⟨persL L L.length, _, rfl, by omega, fun r5 hr5 => ?_⟩
                have hr50 := hr5.2 (persL_mem.2 ⟨k, k1, by omega, PerP_dvd u3 k2, rfl⟩)
                simp only [inr64, ↓reduceIte, ite_true, ite_false, List.cons.injEq, ne_eq, not_true_eq_false, not_false_eq_true, reduceCtorEq, e_skip, e_reg, e_drw, e_seq, e_cond, e_block, e_loop, e_exit, e_ret, e_shut, e_scp, scpK_n, scpK_x, scpK_r, shutH, shut1, shutB, slQ, o_nil, o_cons, gd_none, gd_some, gdK_tt, gdK_tf, gdK_ft, gdK_ff, gdK_u, gdK_bt, gdK_bf, putK_e, runK_e, skipK_e, vK_e, boxK_e, bslK_e, bldK_e, storeK3_e, storeK2_e, storeK_e, appK2_oi, appK2_or, appK_e, conK_e, callK_e, callK_m, evh_v, evh_new, evh_box, evh_bsl, evh_bld, evh_store, evh_app, evh_call, evh_inv, evh_slc, slcK_e, appC_e, appK_c, appK_l, slO, bnd, slv, od_none, od_some, invK_e, invK2_e, lkm, dX_e, dX_b, dX_l, dG_t, dG_f, d_nil, d_cons, creK_e, tlK_n, tlK_s, evc_e, loopK_n, loopK_x, loopK_r, seqK_n, seqK_x, seqK_r, condK_t, condK_f, condK_b, exitK_t, exitK_f, blockK_x, blockK_n, blockK_r, ends_r, ends_n, endK1_e, endK2_e, gam_e, gamK_f, gamK_p, gamK_c, gamq_e, gamqK_f, pc_e, pcK_e, fcC_e, fcK_e, evp, fit, InQ, nilq, nb, bin, binB, gt, gq, st, putf, X.get, gets, getp, ap, mkfr, rep, rdR, tupled, clV, clL, clS, clo, clo.clos, asB, ld, lda, lens, ixs, tk, dr, sp, sp.spl, lay, ll, cs1, one, allOne, gb, sb, pb, ln, lk, evq, gdl, crv, Value.oneCell', undef, Bool.and_true, Bool.true_and, Bool.not_true, Bool.not_false, cond_true, cond_false, Nat.reduceSub, Nat.reduceAdd, Nat.reduceMul, Nat.reduceDiv, Nat.reduceBEq, beq_self_eq_true, true_and, and_true, decide_eq_true_eq, decide_eq_false_iff_not, Bool.not_eq_eq_eq_not, sts, Int.toNat_natCast, F24, u4]
                refine ⟨fun h => absurd h (by omega), fun _ => ⟨by omega, by omega, ?_⟩⟩
                refine Nx.mk (k + q) ⟨⟨by omega, Nat.dvd_add k2 (Nat.dvd_refl q)⟩, by omega⟩ (by show L.length + q - (k + q) < L.length + q - k; omega) (Lw_re 2 [] (Nat.zero_le _) (by simp [ln]) (by simp [ln]) rfl ?_ ?_)
                · simp only [reL, reX, reH, reB, reM, reN, newB, rn, once, gb, List.getElem?_cons_zero, List.getElem?_cons_succ, Nat.reduceSub, Nat.reduceLeDiff, Nat.lt_irrefl, Nat.le_refl, false_and, or_false, false_or, and_false, reduceCtorEq, true_or, or_true, leL, leX, leH, leB, news, inb, inb.inbs, ln, sts, st, Bool.and_self, Bool.and_true, Bool.true_and, Nat.reduceLT, Nat.reduceAdd, decide_true, true_and, and_true, and_self, SV.agg.injEq, Int.natCast_add, implies_true]
                · simp only [reL, reX, reH, reB, reM, reN, newB, rn, once, gb, List.getElem?_cons_zero, List.getElem?_cons_succ, Nat.reduceSub, Nat.reduceLeDiff, Nat.lt_irrefl, Nat.le_refl, false_and, or_false, false_or, and_false, reduceCtorEq, true_or, or_true, leL, leX, leH, leB, news, inb, inb.inbs, ln, sts, st, Bool.and_self, Bool.and_true, Bool.true_and, Nat.reduceLT, Nat.reduceAdd, decide_true, true_and, and_true, and_self, SV.agg.injEq, implies_true]
              · refine Nx.mk (j + 1) (by show j + 1 ≤ (persL L L.length).length; omega) (by show (persL L L.length).length - (j + 1) < (persL L L.length).length - j; omega) (Lw_re 2 [] (Nat.zero_le _) (by simp [ln]) (by simp [ln]) rfl ?_ ?_)
                · simp only [reL, reX, reH, reB, reM, reN, newB, rn, once, gb, List.getElem?_cons_zero, List.getElem?_cons_succ, Nat.reduceSub, Nat.reduceLeDiff, Nat.lt_irrefl, Nat.le_refl, false_and, or_false, false_or, and_false, reduceCtorEq, true_or, or_true, leL, leX, leH, leB, news, inb, inb.inbs, ln, sts, st, Bool.and_self, Bool.and_true, Bool.true_and, Nat.reduceLT, Nat.reduceAdd, decide_true, true_and, and_true, and_self, SV.agg.injEq, Int.natCast_add, Int.natCast_one, implies_true]
                · simp only [reL, reX, reH, reB, reM, reN, newB, rn, once, gb, List.getElem?_cons_zero, List.getElem?_cons_succ, Nat.reduceSub, Nat.reduceLeDiff, Nat.lt_irrefl, Nat.le_refl, false_and, or_false, false_or, and_false, reduceCtorEq, true_or, or_true, leL, leX, leH, leB, news, inb, inb.inbs, ln, sts, st, Bool.and_self, Bool.and_true, Bool.true_and, Nat.reduceLT, Nat.reduceAdd, decide_true, true_and, and_true, and_self, SV.agg.injEq, implies_true]
          · exact res hK (by simp [leR])
  · rw [if_neg hs, if_neg hs]
    simp only [inr64, ↓reduceIte, ite_true, ite_false, List.cons.injEq, ne_eq, not_true_eq_false, not_false_eq_true, reduceCtorEq, e_skip, e_reg, e_drw, e_seq, e_cond, e_block, e_loop, e_exit, e_ret, e_shut, e_scp, scpK_n, scpK_x, scpK_r, shutH, shut1, shutB, slQ, o_nil, o_cons, gd_none, gd_some, gdK_tt, gdK_tf, gdK_ft, gdK_ff, gdK_u, gdK_bt, gdK_bf, putK_e, runK_e, skipK_e, vK_e, boxK_e, bslK_e, bldK_e, storeK3_e, storeK2_e, storeK_e, appK2_oi, appK2_or, appK_e, conK_e, callK_e, callK_m, evh_v, evh_new, evh_box, evh_bsl, evh_bld, evh_store, evh_app, evh_call, evh_inv, evh_slc, slcK_e, appC_e, appK_c, appK_l, slO, bnd, slv, od_none, od_some, invK_e, invK2_e, lkm, dX_e, dX_b, dX_l, dG_t, dG_f, d_nil, d_cons, creK_e, tlK_n, tlK_s, evc_e, loopK_n, loopK_x, loopK_r, seqK_n, seqK_x, seqK_r, condK_t, condK_f, condK_b, exitK_t, exitK_f, blockK_x, blockK_n, blockK_r, ends_r, ends_n, endK1_e, endK2_e, gam_e, gamK_f, gamK_p, gamK_c, gamq_e, gamqK_f, pc_e, pcK_e, fcC_e, fcK_e, evp, fit, InQ, nilq, nb, bin, binB, gt, gq, st, putf, X.get, gets, getp, ap, mkfr, rep, rdR, tupled, clV, clL, clS, clo, clo.clos, asB, ld, lda, lens, ixs, tk, dr, sp, sp.spl, lay, ll, cs1, one, allOne, gb, sb, pb, ln, lk, evq, gdl, crv, Value.oneCell', undef, Bool.and_true, Bool.true_and, Bool.not_true, Bool.not_false, cond_true, cond_false, Nat.reduceSub, Nat.reduceAdd, Nat.reduceMul, Nat.reduceDiv, Nat.reduceBEq, beq_self_eq_true, true_and, and_true, decide_eq_true_eq, decide_eq_false_iff_not, Bool.not_eq_eq_eq_not, sts, F24]
    exact ⟨fun h => absurd h (by decide), fun _ => ⟨fun _ => ⟨fun _ => res hK (by simp [leR]), fun h => absurd rfl h⟩, fun h => absurd h (by decide)⟩⟩
end Go.Proofs.Ytbbbpdajikblbaa
