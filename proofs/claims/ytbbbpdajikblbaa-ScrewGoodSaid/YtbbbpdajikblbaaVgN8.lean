/- ScrewGood: the law's code, for all places, nuts and limits. -/
import Derived.Test.YtbbbpdajikblbaaVgW1
namespace Go.Proofs.Ytbbbpdajikblbaa
open Go Go.Vg
set_option linter.unusedSimpArgs false
set_option linter.unusedVariables false
set_option maxRecDepth 10000
/- 12: octant/octantlaw02.ScrewGood -/
def s12 : SC :=
  (.seq (.reg [⟨(some 8), none, .v (.mov (.c (.lit (.bool false))))⟩])
  (.seq (.reg [⟨(some 20), none, .v (.mov (.t 0))⟩,
    ⟨(some 21), none, .v (.mov (.t 1))⟩,
    ⟨(some 22), none, .v (.mov (.t 2))⟩,
    ⟨(some 23), none, .call (.c (.fn 34 [])) [(.t 20), (.t 21), (.t 22)]⟩,
    ⟨(some 19), none, .v (.mov (.t 23))⟩,
    ⟨(some 24), none, .v (.ext (.t 19) 0)⟩,
    ⟨(some 25), none, .v (.ext (.t 19) 1)⟩,
    ⟨(some 9), none, .v (.mov (.t 24))⟩,
    ⟨(some 10), none, .v (.mov (.t 25))⟩])
  (.seq (.seq (.reg [⟨(some 26), none, .v (.mov (.t 10))⟩,
    ⟨(some 27), none, .v (.bin .neq (.t 26) (.c (.int .i64 (0))))⟩,
    ⟨(some 28), none, .v (.mov (.t 27))⟩,
    ⟨(some 29), (some (28, true)), .v (.mov (.t 10))⟩,
    ⟨(some 30), (some (28, true)), .v (.bin .neq (.t 29) (.c (.int .i64 (4))))⟩,
    ⟨(some 31), none, .v (.pick (.t 28) (.t 30) (.c (.lit (.bool false))))⟩,
    ⟨(some 32), none, .v (.mov (.t 31))⟩,
    ⟨(some 33), (some (32, false)), .v (.mov (.t 0))⟩,
    ⟨(some 34), (some (32, false)), .v (.len (.t 33))⟩,
    ⟨(some 35), (some (32, false)), .call (.c (.fn 39 [])) [(.t 34), (.c (.int .i64 (1))), (.c (.int .i64 (64)))]⟩,
    ⟨(some 36), (some (32, false)), .v (.not (.t 35))⟩,
    ⟨(some 37), none, .v (.pick (.t 32) (.c (.lit (.bool true))) (.t 36))⟩,
    ⟨(some 38), none, .v (.mov (.t 37))⟩,
    ⟨(some 39), (some (38, false)), .v (.mov (.t 1))⟩,
    ⟨(some 40), (some (38, false)), .v (.mov (.t 0))⟩,
    ⟨(some 41), (some (38, false)), .v (.len (.t 40))⟩,
    ⟨(some 42), (some (38, false)), .call (.c (.fn 39 [])) [(.t 39), (.c (.int .i64 (1))), (.t 41)]⟩,
    ⟨(some 43), (some (38, false)), .v (.not (.t 42))⟩,
    ⟨(some 44), none, .v (.pick (.t 38) (.c (.lit (.bool true))) (.t 43))⟩,
    ⟨(some 45), none, .v (.mov (.t 44))⟩,
    ⟨(some 46), (some (45, false)), .v (.mov (.t 2))⟩,
    ⟨(some 47), (some (45, false)), .call (.c (.fn 39 [])) [(.t 46), (.c (.int .i64 (0))), (.c (.int .i64 (2000000)))]⟩,
    ⟨(some 48), (some (45, false)), .v (.not (.t 47))⟩,
    ⟨(some 49), none, .v (.pick (.t 45) (.c (.lit (.bool true))) (.t 48))⟩])
  (.cond (.t 49)
    (.seq (.reg [⟨(some 50), none, .v (.mov (.t 9))⟩,
      ⟨(some 51), none, .v (.bin .eql (.t 50) (.c (.int .i64 (0))))⟩,
      ⟨(some 52), none, .v (.mov (.t 51))⟩,
      ⟨(some 53), (some (52, true)), .v (.mov (.t 10))⟩,
      ⟨(some 54), (some (52, true)), .v (.bin .eql (.t 53) (.c (.int .i64 (25))))⟩,
      ⟨(some 55), (some (52, true)), .v (.mov (.t 54))⟩,
      ⟨(some 56), (some (55, false)), .v (.mov (.t 10))⟩,
      ⟨(some 57), (some (55, false)), .v (.bin .eql (.t 56) (.c (.int .i64 (7))))⟩,
      ⟨(some 58), (some (52, true)), .v (.pick (.t 55) (.c (.lit (.bool true))) (.t 57))⟩,
      ⟨(some 59), none, .v (.pick (.t 52) (.t 58) (.c (.lit (.bool false))))⟩,
      ⟨(some 60), none, .v (.mov (.t 59))⟩,
      ⟨(some 61), (some (60, true)), .call (.c (.fn 24 [])) []⟩,
      ⟨(some 62), none, .v (.pick (.t 60) (.t 61) (.c (.lit (.bool false))))⟩,
      ⟨(some 8), none, .v (.mov (.t 62))⟩])
    .ret)
    .skip))
  (.seq (.reg [⟨(some 63), none, .emp 1⟩,
    ⟨(some 64), none, .v (.mov (.t 0))⟩,
    ⟨(some 65), none, .app 3 1 8 (.t 63) (.t 64)⟩,
    ⟨(some 66), none, .v (.mov (.t 2))⟩,
    ⟨(some 11), none, .v (.mov (.t 65))⟩,
    ⟨(some 12), none, .v (.mov (.t 66))⟩])
  (.seq (.seq (.reg [⟨(some 13), none, .v (.mov (.c (.int .i64 (0))))⟩])
  (.block 0 (.loop
    (.seq (.seq (.reg [⟨(some 67), none, .v (.mov (.t 13))⟩,
      ⟨(some 68), none, .v (.bin .leq (.t 67) (.c (.int .i64 (4))))⟩])
    (.cond (.t 68)
      .skip
      (.exit 0)))
    (.seq (.block 1 (.seq (.seq (.reg [⟨(some 71), none, .v (.mov (.t 11))⟩,
      ⟨(some 72), none, .call (.c (.fn 48 [])) [(.t 71)]⟩,
      ⟨(some 73), none, .v (.mov (.t 12))⟩,
      ⟨(some 74), none, .v (.bin .leq (.t 72) (.t 73))⟩,
      ⟨(some 14), none, .v (.mov (.t 74))⟩])
    (.seq (.reg [⟨(some 75), none, .v (.mov (.t 14))⟩,
      ⟨(some 76), none, .v (.mov (.t 10))⟩,
      ⟨(some 77), none, .v (.bin .eql (.t 76) (.c (.int .i64 (0))))⟩,
      ⟨(some 78), none, .v (.mov (.t 77))⟩,
      ⟨(some 79), (some (78, true)), .v (.mov (.t 13))⟩,
      ⟨(some 80), (some (78, true)), .v (.mov (.t 9))⟩,
      ⟨(some 81), (some (78, true)), .v (.bin .eql (.t 79) (.t 80))⟩,
      ⟨(some 82), none, .v (.pick (.t 78) (.t 81) (.c (.lit (.bool false))))⟩,
      ⟨(some 83), none, .v (.binb .neq (.t 75) (.t 82))⟩,
      ⟨(some 84), none, .v (.mov (.t 83))⟩,
      ⟨(some 85), (some (84, true)), .v (.mov (.t 10))⟩,
      ⟨(some 86), (some (84, true)), .v (.bin .neq (.t 85) (.c (.int .i64 (0))))⟩,
      ⟨(some 87), (some (84, true)), .v (.mov (.t 86))⟩,
      ⟨(some 88), (some (87, false)), .v (.mov (.t 13))⟩,
      ⟨(some 89), (some (87, false)), .v (.mov (.t 9))⟩,
      ⟨(some 90), (some (87, false)), .v (.bin .lss (.t 88) (.t 89))⟩,
      ⟨(some 91), (some (84, true)), .v (.pick (.t 87) (.c (.lit (.bool true))) (.t 90))⟩,
      ⟨(some 92), none, .v (.pick (.t 84) (.t 91) (.c (.lit (.bool false))))⟩])
    (.cond (.t 92)
      (.seq (.reg [⟨(some 8), none, .v (.mov (.c (.lit (.bool false))))⟩])
      .ret)
      .skip)))
    (.seq (.seq (.reg [⟨(some 93), none, .v (.mov (.t 10))⟩,
      ⟨(some 94), none, .v (.bin .eql (.t 93) (.c (.int .i64 (0))))⟩,
      ⟨(some 95), none, .v (.mov (.t 94))⟩,
      ⟨(some 96), (some (95, true)), .v (.mov (.t 13))⟩,
      ⟨(some 97), (some (95, true)), .v (.mov (.t 9))⟩,
      ⟨(some 98), (some (95, true)), .v (.bin .eql (.t 96) (.t 97))⟩,
      ⟨(some 99), none, .v (.pick (.t 95) (.t 98) (.c (.lit (.bool false))))⟩,
      ⟨(some 100), none, .v (.mov (.t 99))⟩,
      ⟨(some 101), (some (100, false)), .v (.mov (.t 11))⟩,
      ⟨(some 102), (some (100, false)), .v (.len (.t 101))⟩,
      ⟨(some 103), (some (100, false)), .v (.mov (.t 1))⟩,
      ⟨(some 104), (some (100, false)), .v (.bin .lss (.t 102) (.t 103))⟩,
      ⟨(some 105), none, .v (.pick (.t 100) (.c (.lit (.bool true))) (.t 104))⟩])
    (.cond (.t 105)
      (.exit 0)
      .skip))
    (.seq (.reg [⟨(some 106), none, .v (.mov (.t 11))⟩,
      ⟨(some 107), none, .v (.len (.t 106))⟩,
      ⟨(some 108), none, .v (.mov (.t 1))⟩,
      ⟨(some 109), none, .v (.bin .sub (.t 107) (.t 108))⟩,
      ⟨(some 110), none, .v (.bin .add (.t 109) (.c (.int .i64 (1))))⟩,
      ⟨(some 111), none, .mki 3 .i64 (.t 110) (.t 110)⟩,
      ⟨(some 15), none, .v (.mov (.t 111))⟩])
    (.seq (.seq (.reg [⟨(some 16), none, .v (.mov (.c (.int .i64 (0))))⟩])
    (.block 2 (.loop
      (.seq (.seq (.reg [⟨(some 112), none, .v (.mov (.t 16))⟩,
        ⟨(some 113), none, .v (.mov (.t 15))⟩,
        ⟨(some 114), none, .v (.len (.t 113))⟩,
        ⟨(some 115), none, .v (.bin .lss (.t 112) (.t 114))⟩])
      (.cond (.t 115)
        .skip
        (.exit 2)))
      (.seq (.block 3 (.reg [⟨(some 118), none, .v (.mov (.t 15))⟩,
        ⟨(some 119), none, .v (.mov (.t 16))⟩,
        ⟨(some 120), none, .v (.mov (.t 11))⟩,
        ⟨(some 121), none, .v (.mov (.t 16))⟩,
        ⟨(some 122), none, .v (.mov (.t 16))⟩,
        ⟨(some 123), none, .v (.mov (.t 1))⟩,
        ⟨(some 124), none, .v (.bin .add (.t 122) (.t 123))⟩,
        ⟨(some 125), none, .slc (.t 120) (some (.t 121)) (some (.t 124)) none 1⟩,
        ⟨(some 126), none, .call (.c (.fn 49 [])) [(.t 125)]⟩,
        ⟨(some 127), none, .v (.ixa (.t 118) (.t 119) 1)⟩,
        ⟨none, none, .store 1 (.t 127) (.t 126)⟩]))
      (.reg [⟨(some 116), none, .v (.mov (.t 16))⟩,
        ⟨(some 117), none, .v (.bin .add (.t 116) (.c (.int .i64 (1))))⟩,
        ⟨(some 16), none, .v (.mov (.t 117))⟩]))))))
    (.reg [⟨(some 128), none, .v (.mov (.t 15))⟩,
      ⟨(some 129), none, .v (.mov (.t 12))⟩,
      ⟨(some 130), none, .v (.mov (.t 1))⟩,
      ⟨(some 131), none, .v (.bin .mul (.t 129) (.t 130))⟩,
      ⟨(some 11), none, .v (.mov (.t 128))⟩,
      ⟨(some 12), none, .v (.mov (.t 131))⟩]))))))
    (.reg [⟨(some 69), none, .v (.mov (.t 13))⟩,
      ⟨(some 70), none, .v (.bin .add (.t 69) (.c (.int .i64 (1))))⟩,
      ⟨(some 13), none, .v (.mov (.t 70))⟩]))))))
  (.seq (.reg [⟨(some 133), none, .v (.mov (.t 0))⟩,
    ⟨(some 134), none, .v (.mov (.t 1))⟩,
    ⟨(some 135), none, .v (.mov (.t 2))⟩,
    ⟨(some 136), none, .v (.mov (.t 3))⟩,
    ⟨(some 137), none, .call (.c (.fn 38 [])) [(.t 136), (.c (.int .i64 (1000)))]⟩,
    ⟨(some 138), none, .v (.bin .add (.t 135) (.t 137))⟩,
    ⟨(some 139), none, .v (.min2 (.c (.int .i64 (2000000))) (.t 138))⟩,
    ⟨(some 140), none, .call (.c (.fn 34 [])) [(.t 133), (.t 134), (.t 139)]⟩,
    ⟨(some 132), none, .v (.mov (.t 140))⟩,
    ⟨(some 141), none, .v (.ext (.t 132) 0)⟩,
    ⟨(some 142), none, .v (.ext (.t 132) 1)⟩,
    ⟨(some 17), none, .v (.mov (.t 141))⟩,
    ⟨(some 18), none, .v (.mov (.t 142))⟩])
  (.seq (.reg [⟨(some 143), none, .v (.mov (.t 10))⟩,
    ⟨(some 144), none, .v (.bin .neq (.t 143) (.c (.int .i64 (0))))⟩,
    ⟨(some 145), none, .v (.mov (.t 144))⟩,
    ⟨(some 146), (some (145, false)), .v (.mov (.t 18))⟩,
    ⟨(some 147), (some (145, false)), .v (.bin .eql (.t 146) (.c (.int .i64 (0))))⟩,
    ⟨(some 148), (some (145, false)), .v (.mov (.t 147))⟩,
    ⟨(some 149), (some (148, true)), .v (.mov (.t 17))⟩,
    ⟨(some 150), (some (148, true)), .v (.mov (.t 9))⟩,
    ⟨(some 151), (some (148, true)), .v (.bin .leq (.t 149) (.t 150))⟩,
    ⟨(some 152), (some (145, false)), .v (.pick (.t 148) (.t 151) (.c (.lit (.bool false))))⟩,
    ⟨(some 153), (some (145, false)), .v (.mov (.t 152))⟩,
    ⟨(some 154), (some (153, true)), .v (.mov (.t 9))⟩,
    ⟨(some 155), (some (153, true)), .call (.c (.fn 39 [])) [(.t 154), (.c (.int .i64 (0))), (.c (.int .i64 (4)))]⟩,
    ⟨(some 156), (some (145, false)), .v (.pick (.t 153) (.t 155) (.c (.lit (.bool false))))⟩,
    ⟨(some 157), none, .v (.pick (.t 145) (.c (.lit (.bool true))) (.t 156))⟩,
    ⟨(some 158), none, .v (.mov (.t 157))⟩,
    ⟨(some 159), (some (158, true)), .call (.c (.fn 24 [])) []⟩,
    ⟨(some 160), none, .v (.pick (.t 158) (.t 159) (.c (.lit (.bool false))))⟩,
    ⟨(some 8), none, .v (.mov (.t 160))⟩])
  .ret)))))))
def r12 : List RV := [.t 8]
def n12 : Nat := 161
theorem k12 : (Try.f12.body.bind (cC Try.prog), cR Try.prog Try.f12.results.toList, Try.f12.ntmps) = (some s12, some r12, 161) := by kernel_rfl
theorem q12 : Known Try.prog 12 := ⟨_, Try.func12, by decide, by simp [Try.f12]⟩



theorem lapsG_ge {n : Int} : ∀ {k d : Nat} {l : List Int} {lim : Int} {r : Nat}, lapsG n k d l lim = some r → d ≤ r ∧ r < d + k
  | 0, d, l, lim, r, h => by cases h
  | k + 1, d, l, lim, r, h => by
    rw [lapsG_succ] at h
    split at h
    · cases h; omega
    · split at h
      · cases h
      · have := lapsG_ge h; omega
theorem lapsG_mono {n : Int} (hn : 0 ≤ n) : ∀ {k d : Nat} {l : List Int} {lim lim' : Int} {r : Nat}, lim ≤ lim' → lapsG n k d l lim = some r → ∃ r', lapsG n k d l lim' = some r' ∧ r' ≤ r
  | 0, d, l, lim, lim', r, _, h => by cases h
  | k + 1, d, l, lim, lim', r, hl, h => by
    rw [lapsG_succ] at h ⊢
    split at h
    · cases h
      rw [if_pos (by omega)]
      exact ⟨d, rfl, Nat.le_refl _⟩
    · split at h
      · cases h
      · rename_i h1 h2
        split
        · have := (lapsG_ge h).1; exact ⟨d, rfl, by omega⟩
        · exact lapsG_mono hn (Int.mul_le_mul_of_nonneg_right hl hn) h
theorem set_wins {xs : List Int} {m c i : Nat} (h : i < c) : (wins xs m i ++ List.replicate (c - i) (0 : Int)).set i ((xs.drop i).take m).sum = wins xs m (i + 1) ++ List.replicate (c - (i + 1)) 0 := by
  have e : List.replicate (c - i) (0 : Int) = 0 :: List.replicate (c - (i + 1)) 0 := by
    rw [show c - i = (c - (i + 1)) + 1 by omega, List.replicate_succ]
  rw [e, wins_snoc, List.set_append_right _ _ (by simp [len_wins])]
  simp [len_wins]
def F12 : FC := fun args => match args with
  | [.ints .i64 l, .int .i64 n, .int .i64 lim, .int .i64 q] => some (True, .bool true)
  | _ => none
set_option maxHeartbeats 4000000 in
theorem p12 (p24 : PureOk Try.prog 24 (fcC F24)) (q24 : Known Try.prog 24) : PureOk Try.prog 12 (fcC F12) := by
  refine pure_of (T := [(34, .fc F34), (39, .fc F39), (48, .fc F48), (49, .fc F49), (38, .fc F38), (24, .fc F24)]) ⟨⟨p34, q34⟩, ⟨p39, q39⟩, ⟨p48, q48⟩, ⟨p49, q49⟩, ⟨p38, q38⟩, ⟨p24, q24⟩, trivial⟩ Try.func12 k12 ?_
  intro args K hC
  unfold fcC F12 at hC
  split at hC <;> first | (exact hC.elim) | skip
  rename_i h
  split at h <;> first | (cases h; done) | skip
  cases h
  rename_i l n lim q
  obtain ⟨-, hK⟩ := hC
  have tt : ∃ r', K r' ∧ leR 4 (SV.lit (Value.bool true)) r' := res hK (by simp [leR])
  have l04 : ((0 : Int) = 4) = False := by simp
  have l40 : ((4 : Int) = 0) = False := by simp
  have l70 : ((7 : Int) = 0) = False := by simp
  have l74 : ((7 : Int) = 4) = False := by simp
  have l725 : ((7 : Int) = 25) = False := by simp
  have l250 : ((25 : Int) = 0) = False := by simp
  have l254 : ((25 : Int) = 4) = False := by simp
  by_cases hp : places2 l n = true
  · by_cases hlim : 0 ≤ lim ∧ lim ≤ 2000000
    · obtain ⟨hI, hn1, hn2, hn3⟩ := lapI0 hp hlim
      have hl0 := hI.l0
      have hl1 := hI.l1
      have hln : (1 ≤ (l.length : Int) ∧ (l.length : Int) ≤ 64) = True := by simp; omega
      have hnn : (1 ≤ n ∧ n ≤ (l.length : Int)) = True := by simp; omega
      have hll : (0 ≤ lim ∧ lim ≤ 2000000) = True := by simp; omega
      cases hG : lapsG n 5 0 l lim with
      | some d =>
        have hE : lapsE l n lim = 0 := by simp [lapsE, hp, hlim, hG]
        have hA : lapsA l n lim = d := by simp [lapsA, hp, hlim, hG]
        have hX : lim ≤ (if lim + q % 1000 < 2000000 then lim + q % 1000 else 2000000) ∧ (0 ≤ (if lim + q % 1000 < 2000000 then lim + q % 1000 else 2000000) ∧ (if lim + q % 1000 < 2000000 then lim + q % 1000 else 2000000) ≤ 2000000) := by
          have := Int.emod_nonneg q (show (1000 : Int) ≠ 0 by omega)
          split <;> omega
        obtain ⟨r', hr', hrd⟩ := lapsG_mono (by omega) hX.1 hG
        have hd5 := (lapsG_ge hG).2
        have hE' : lapsE l n (if lim + q % 1000 < 2000000 then lim + q % 1000 else 2000000) = 0 := by simp only [lapsE, hp, hX.2, hr']; simp
        have hA' : lapsA l n (if lim + q % 1000 < 2000000 then lim + q % 1000 else 2000000) = r' := by simp only [lapsA, hp, hX.2, hr']; simp
        have hq0 := Int.emod_nonneg q (show (1000 : Int) ≠ 0 by omega)
        have hq1 := Int.emod_lt_of_pos q (show (0 : Int) < 1000 by omega)
        have fin : (0 < (1000 : Int) ∧ (1000 : Int) ≤ 9223372036854775807) ∧ (-9223372036854775808 ≤ lim + q % 1000 ∧ lim + q % 1000 ≤ 9223372036854775807) ∧
            (lapsE l n (if lim + q % 1000 < 2000000 then lim + q % 1000 else 2000000) = 0 → (lapsA l n (if lim + q % 1000 < 2000000 then lim + q % 1000 else 2000000) ≤ (d : Int) →
              (0 ≤ (d : Int) ∧ (d : Int) ≤ 4 → ∃ r', K r' ∧ leR 4 (SV.lit (Value.bool true)) r') ∧ (¬(0 ≤ (d : Int) ∧ (d : Int) ≤ 4) → ∃ r', K r' ∧ leR 4 (SV.lit (Value.bool false)) r')) ∧
              (¬lapsA l n (if lim + q % 1000 < 2000000 then lim + q % 1000 else 2000000) ≤ (d : Int) → ∃ r', K r' ∧ leR 4 (SV.lit (Value.bool false)) r')) ∧
            (¬lapsE l n (if lim + q % 1000 < 2000000 then lim + q % 1000 else 2000000) = 0 → ∃ r', K r' ∧ leR 4 (SV.lit (Value.bool false)) r') :=
          ⟨by omega, by omega, fun _ => ⟨fun _ => ⟨fun _ => tt, fun h => absurd (by omega) h⟩, fun h => absurd (by rw [hA']; omega) h⟩, fun h => absurd hE' h⟩
        simp (maxSteps := 3000000) only [inr64, ↓reduceIte, ite_true, ite_false, List.cons.injEq, ne_eq, not_true_eq_false, not_false_eq_true, reduceCtorEq, e_skip, e_reg, e_drw, e_seq, e_cond, e_block, e_loop, e_exit, e_ret, e_shut, e_scp, scpK_n, scpK_x, scpK_r, shutH, shut1, shutB, slQ, o_nil, o_cons, gd_none, gd_some, gdK_tt, gdK_tf, gdK_ft, gdK_ff, gdK_u, gdK_bt, gdK_bf, putK_e, runK_e, skipK_e, vK_e, boxK_e, bslK_e, bldK_e, storeK3_e, storeK2_e, storeK_e, storeK_p, storeE_e, appK2_oi, appK2_or, appK_e, conK_e, callK_e, callK_m, evh_v, evh_new, evh_box, evh_bsl, evh_bld, evh_store, evh_app, evh_mki, evh_emp, mkiK_e, appK_i, evh_call, evh_inv, evh_slc, slcK_e, appC_e, appK_c, appK_l, slO, bnd, slv, od_none, od_some, invK_e, invK2_e, lkm, dX_e, dX_b, dX_l, dG_t, dG_f, d_nil, d_cons, creK_e, tlK_n, tlK_s, evc_e, loopK_n, loopK_x, loopK_r, seqK_n, seqK_x, seqK_r, condK_t, condK_f, condK_b, exitK_t, exitK_f, blockK_x, blockK_n, blockK_r, ends_r, ends_n, endK1_e, endK2_e, gam_e, gamK_f, gamK_p, gamK_c, gamq_e, gamqK_f, pc_e, pcK_e, fcC_e, fcK_e, evp, fit, InQ, nilq, nb, bin, binB, gt, gq, st, putf, X.get, gets, getp, ap, mkfr, rep, rdR, tupled, clV, clL, clS, clo, clo.clos, asB, ld, lda, lens, ixs, tk, dr, sp, sp.spl, lay, ll, cs1, one, allOne, gb, sb, pb, ln, lk, evq, gdl, crv, Value.oneCell', undef, Bool.and_true, Bool.true_and, Bool.not_true, Bool.not_false, cond_true, cond_false, Nat.reduceSub, Nat.reduceAdd, Nat.reduceMul, Nat.reduceDiv, Nat.reduceBEq, beq_self_eq_true, true_and, and_true, decide_eq_true_eq, decide_eq_false_iff_not, Bool.not_eq_eq_eq_not, sts, s12, r12, F34, F39, F48, F49, F38, F24, hE, hA, hln, hnn, hll, l04, l40, l70, l74, not_true, not_false_eq_true, false_implies, true_implies, and_self, decide_true, Bool.not_true]
        refine ⟨⟨hl0, by omega, by omega⟩, ?_⟩
        refine loop_at2 (G := Nat × List Int × Int) (fun g => [(13, .int .i64 g.1), (11, .own 0), (12, .int .i64 g.2.2), (65, .any)]) (fun g => [.oi .i64 3 g.2.1]) (fun g => LapI n g.1 g.2.1 g.2.2 ∧ lapsG n 5 0 l lim = lapsG n (5 - g.1) g.1 g.2.1 g.2.2) (fun g => 5 - g.1) (0, l, lim) ⟨hI, rfl⟩ ?_
        (intro fr1 hf1; simp only [forget, dstC, dstO, dstD, dst1, st] at hf1; subst hf1)
        refine ⟨?_, ?_⟩
        · refine Lw_re 0 [some 0] (Nat.zero_le _) (by simp [ln]) (by simp [ln]) rfl ?_ ?_
          · simp only [reL, reX, reH, reB, reM, reN, newB, rn, once, gb, List.getElem?_cons_zero, List.getElem?_cons_succ, Nat.reduceSub, Nat.reduceLeDiff, Nat.lt_irrefl, Nat.le_refl, false_and, or_false, false_or, and_false, reduceCtorEq, true_or, or_true, leL, leX, leH, leB, news, inb, inb.inbs, ln, sts, st, Bool.and_self, Bool.and_true, Bool.true_and, Nat.reduceLT, Nat.reduceAdd, decide_true, true_and, and_true, and_self, SV.agg.injEq, Int.natCast_zero]
          · simp only [reL, reX, reH, reB, reM, reN, newB, rn, once, gb, List.getElem?_cons_zero, List.getElem?_cons_succ, Nat.reduceSub, Nat.reduceLeDiff, Nat.lt_irrefl, Nat.le_refl, false_and, or_false, false_or, and_false, reduceCtorEq, true_or, or_true, leL, leX, leH, leB, news, inb, inb.inbs, ln, sts, st, Bool.and_self, Bool.and_true, Bool.true_and, Nat.reduceLT, Nat.reduceAdd, decide_true, true_and, and_true, and_self, SV.agg.injEq]
        · rintro ⟨k, xs, mo⟩ ⟨hi, hg⟩
          dsimp only at hi hg
          rw [hG] at hg
          simp (maxSteps := 3000000) only [inr64, ↓reduceIte, ite_true, ite_false, List.cons.injEq, ne_eq, not_true_eq_false, not_false_eq_true, reduceCtorEq, e_skip, e_reg, e_drw, e_seq, e_cond, e_block, e_loop, e_exit, e_ret, e_shut, e_scp, scpK_n, scpK_x, scpK_r, shutH, shut1, shutB, slQ, o_nil, o_cons, gd_none, gd_some, gdK_tt, gdK_tf, gdK_ft, gdK_ff, gdK_u, gdK_bt, gdK_bf, putK_e, runK_e, skipK_e, vK_e, boxK_e, bslK_e, bldK_e, storeK3_e, storeK2_e, storeK_e, storeK_p, storeE_e, appK2_oi, appK2_or, appK_e, conK_e, callK_e, callK_m, evh_v, evh_new, evh_box, evh_bsl, evh_bld, evh_store, evh_app, evh_mki, evh_emp, mkiK_e, appK_i, evh_call, evh_inv, evh_slc, slcK_e, appC_e, appK_c, appK_l, slO, bnd, slv, od_none, od_some, invK_e, invK2_e, lkm, dX_e, dX_b, dX_l, dG_t, dG_f, d_nil, d_cons, creK_e, tlK_n, tlK_s, evc_e, loopK_n, loopK_x, loopK_r, seqK_n, seqK_x, seqK_r, condK_t, condK_f, condK_b, exitK_t, exitK_f, blockK_x, blockK_n, blockK_r, ends_r, ends_n, endK1_e, endK2_e, gam_e, gamK_f, gamK_p, gamK_c, gamq_e, gamqK_f, pc_e, pcK_e, fcC_e, fcK_e, evp, fit, InQ, nilq, nb, bin, binB, gt, gq, st, putf, X.get, gets, getp, ap, mkfr, rep, rdR, tupled, clV, clL, clS, clo, clo.clos, asB, ld, lda, lens, ixs, tk, dr, sp, sp.spl, lay, ll, cs1, one, allOne, gb, sb, pb, ln, lk, evq, gdl, crv, Value.oneCell', undef, Bool.and_true, Bool.true_and, Bool.not_true, Bool.not_false, cond_true, cond_false, Nat.reduceSub, Nat.reduceAdd, Nat.reduceMul, Nat.reduceDiv, Nat.reduceBEq, beq_self_eq_true, true_and, and_true, decide_eq_true_eq, decide_eq_false_iff_not, Bool.not_eq_eq_eq_not, sts, Int.toNat_natCast, F34, F39, F48, F49, F38, F24, hE, hA, l04, l40, l70, l74, not_true, not_false_eq_true, false_implies, true_implies, and_self, decide_true, Bool.not_true]
          refine ⟨fun hk => ?_, fun hk => fin⟩
          have hk5 : k < 5 := by omega
          have hb := hi.b1 hk5
          have x0 := hi.l0
          have x1 := hi.l1
          have m3 := hi.m3 hk5 hn1 hn2
          obtain ⟨j, hj⟩ : ∃ j, 5 - k = j + 1 := ⟨4 - k, by omega⟩
          have hj' : 5 - (k + 1) = j := by omega
          rw [hj, lapsG_succ] at hg
          refine ⟨⟨hb, by omega⟩, ?_⟩
          by_cases hs : spreadL xs ≤ mo
          · rw [if_pos hs] at hg
            cases hg
            exact ⟨fun h => absurd h (by simp [hs]), fun h => ⟨fun hne => absurd rfl hne, fun _ => fin⟩⟩
          · rw [if_neg hs] at hg
            by_cases hx : (xs.length : Int) < n
            · rw [if_pos hx] at hg; cases hg
            · rw [if_neg hx] at hg
              have hge := (lapsG_ge hg.symm).1
              have hkd : ¬ (k : Int) = d := by omega
              refine ⟨fun h => absurd h (by simp [hs, hkd]), fun h => ⟨fun hne => ⟨fun hl => absurd hl hx, fun hl => ⟨by omega, by omega, by omega, ?_⟩⟩, fun he => absurd he hkd⟩⟩
              obtain ⟨m, rfl⟩ : ∃ m : Nat, n = m := ⟨n.toNat, by omega⟩
              have hm1 : 1 ≤ m := by omega
              have hmx : m ≤ xs.length := by omega
              have hc : ((xs.length : Int) - m + 1).toNat = xs.length + 1 - m := by omega
              have hlen : ∀ i, i ≤ xs.length + 1 - m → (wins xs m i ++ List.replicate (xs.length + 1 - m - i) (0 : Int)).length = xs.length + 1 - m := fun i h => by simp [len_wins]; omega
              simp only [hc]
              refine loop_at2 (G := Nat) (fun i => [(16, .int .i64 i)]) (fun i => [.fz (.ints .i64 xs), .oi .i64 3 (wins xs m i ++ List.replicate (xs.length + 1 - m - i) 0)]) (fun i => i ≤ xs.length + 1 - m) (fun i => xs.length + 1 - m - i) 0 (Nat.zero_le _) ?_
              (intro fr1 hf1; simp only [forget, dstC, dstO, dstD, dst1, st] at hf1; subst hf1)
              refine ⟨?_, ?_⟩
              · refine Lw_re 2 [] (Nat.zero_le _) (by simp [ln]) (by simp [ln]) rfl ?_ ?_
                · simp only [reL, reX, reH, reB, reM, reN, newB, rn, once, gb, List.getElem?_cons_zero, List.getElem?_cons_succ, Nat.reduceSub, Nat.reduceLeDiff, Nat.lt_irrefl, Nat.le_refl, false_and, or_false, false_or, and_false, reduceCtorEq, true_or, or_true, leL, leX, leH, leB, news, inb, inb.inbs, ln, sts, st, Bool.and_self, Bool.and_true, Bool.true_and, Nat.reduceLT, Nat.reduceAdd, decide_true, true_and, and_true, and_self, SV.agg.injEq, Int.natCast_zero]
                · simp only [reL, reX, reH, reB, reM, reN, newB, rn, once, gb, List.getElem?_cons_zero, List.getElem?_cons_succ, Nat.reduceSub, Nat.reduceLeDiff, Nat.lt_irrefl, Nat.le_refl, false_and, or_false, false_or, and_false, reduceCtorEq, true_or, or_true, leL, leX, leH, leB, news, inb, inb.inbs, ln, sts, st, Bool.and_self, Bool.and_true, Bool.true_and, Nat.reduceLT, Nat.reduceAdd, decide_true, true_and, and_true, and_self, SV.agg.injEq, wins, List.range_zero, List.map_nil, List.nil_append, Nat.sub_zero]
              · intro i hi2
                simp (maxSteps := 3000000) only [inr64, ↓reduceIte, ite_true, ite_false, List.cons.injEq, ne_eq, not_true_eq_false, not_false_eq_true, reduceCtorEq, e_skip, e_reg, e_drw, e_seq, e_cond, e_block, e_loop, e_exit, e_ret, e_shut, e_scp, scpK_n, scpK_x, scpK_r, shutH, shut1, shutB, slQ, o_nil, o_cons, gd_none, gd_some, gdK_tt, gdK_tf, gdK_ft, gdK_ff, gdK_u, gdK_bt, gdK_bf, putK_e, runK_e, skipK_e, vK_e, boxK_e, bslK_e, bldK_e, storeK3_e, storeK2_e, storeK_e, storeK_p, storeE_e, appK2_oi, appK2_or, appK_e, conK_e, callK_e, callK_m, evh_v, evh_new, evh_box, evh_bsl, evh_bld, evh_store, evh_app, evh_mki, evh_emp, mkiK_e, appK_i, evh_call, evh_inv, evh_slc, slcK_e, appC_e, appK_c, appK_l, slO, bnd, slv, od_none, od_some, invK_e, invK2_e, lkm, dX_e, dX_b, dX_l, dG_t, dG_f, d_nil, d_cons, creK_e, tlK_n, tlK_s, evc_e, loopK_n, loopK_x, loopK_r, seqK_n, seqK_x, seqK_r, condK_t, condK_f, condK_b, exitK_t, exitK_f, blockK_x, blockK_n, blockK_r, ends_r, ends_n, endK1_e, endK2_e, gam_e, gamK_f, gamK_p, gamK_c, gamq_e, gamqK_f, pc_e, pcK_e, fcC_e, fcK_e, evp, fit, InQ, nilq, nb, bin, binB, gt, gq, st, putf, X.get, gets, getp, ap, mkfr, rep, rdR, tupled, clV, clL, clS, clo, clo.clos, asB, ld, lda, lens, ixs, tk, dr, sp, sp.spl, lay, ll, cs1, one, allOne, gb, sb, pb, ln, lk, evq, gdl, crv, Value.oneCell', undef, Bool.and_true, Bool.true_and, Bool.not_true, Bool.not_false, cond_true, cond_false, Nat.reduceSub, Nat.reduceAdd, Nat.reduceMul, Nat.reduceDiv, Nat.reduceBEq, beq_self_eq_true, true_and, and_true, decide_eq_true_eq, decide_eq_false_iff_not, Bool.not_eq_eq_eq_not, sts, Int.toNat_natCast, F49]
                rw [hlen i hi2]
                refine ⟨fun h => ?_, fun h => ?_⟩
                · have e1 : ((i : Int) + m - i).toNat = m := by omega
                  rw [e1]
                  refine ⟨by omega, by omega, ⟨within_take (within_drop hb i) m, by simp; omega⟩, by omega, by omega, by omega, ?_⟩
                  rw [set_wins (show i < xs.length + 1 - m by omega)]
                  refine Nx.mk (i + 1) (by show i + 1 ≤ xs.length + 1 - m; omega) (by show xs.length + 1 - m - (i + 1) < xs.length + 1 - m - i; omega) (Lw_re 2 [] (Nat.zero_le _) (by simp [ln]) (by simp [ln]) rfl ?_ ?_)
                  · simp only [reL, reX, reH, reB, reM, reN, newB, rn, once, gb, List.getElem?_cons_zero, List.getElem?_cons_succ, Nat.reduceSub, Nat.reduceLeDiff, Nat.lt_irrefl, Nat.le_refl, false_and, or_false, false_or, and_false, reduceCtorEq, true_or, or_true, leL, leX, leH, leB, news, inb, inb.inbs, ln, sts, st, Bool.and_self, Bool.and_true, Bool.true_and, Nat.reduceLT, Nat.reduceAdd, decide_true, true_and, and_true, and_self, SV.agg.injEq, Int.natCast_add, Int.natCast_one]
                  · simp only [reL, reX, reH, reB, reM, reN, newB, rn, once, gb, List.getElem?_cons_zero, List.getElem?_cons_succ, Nat.reduceSub, Nat.reduceLeDiff, Nat.lt_irrefl, Nat.le_refl, false_and, or_false, false_or, and_false, reduceCtorEq, true_or, or_true, leL, leX, leH, leB, news, inb, inb.inbs, ln, sts, st, Bool.and_self, Bool.and_true, Bool.true_and, Nat.reduceLT, Nat.reduceAdd, decide_true, true_and, and_true, and_self, SV.agg.injEq]
                · have e2 : i = xs.length + 1 - m := by omega
                  have e3 : wins xs m i ++ List.replicate (xs.length + 1 - m - i) (0 : Int) = winL xs m := by rw [e2]; simp [winL]
                  rw [e3]
                  refine ⟨m3, by omega, ?_⟩
                  refine Nx.mk (k + 1, winL xs m, mo * m) ⟨hi.next hk5 (by omega) (by omega), by rw [hG, hg, hj']⟩ (by show 5 - (k + 1) < 5 - k; omega) (Lw_re 0 [some 1] (Nat.zero_le _) (by simp [ln]) (by simp [ln]) rfl ?_ ?_)
                  · simp only [reL, reX, reH, reB, reM, reN, newB, rn, once, gb, List.getElem?_cons_zero, List.getElem?_cons_succ, Nat.reduceSub, Nat.reduceLeDiff, Nat.lt_irrefl, Nat.le_refl, false_and, or_false, false_or, and_false, reduceCtorEq, true_or, or_true, leL, leX, leH, leB, news, inb, inb.inbs, ln, sts, st, Bool.and_self, Bool.and_true, Bool.true_and, Nat.reduceLT, Nat.reduceAdd, decide_true, true_and, and_true, and_self, SV.agg.injEq, Int.natCast_add, Int.natCast_one]
                  · simp only [reL, reX, reH, reB, reM, reN, newB, rn, once, gb, List.getElem?_cons_zero, List.getElem?_cons_succ, Nat.reduceSub, Nat.reduceLeDiff, Nat.lt_irrefl, Nat.le_refl, false_and, or_false, false_or, and_false, reduceCtorEq, true_or, or_true, leL, leX, leH, leB, news, inb, inb.inbs, ln, sts, st, Bool.and_self, Bool.and_true, Bool.true_and, Nat.reduceLT, Nat.reduceAdd, decide_true, true_and, and_true, and_self, SV.agg.injEq]
      | none =>
        have hE : lapsE l n lim = 4 := by simp [lapsE, hp, hlim, hG]
        have hA : lapsA l n lim = 0 := by simp [lapsA, hp, hlim, hG]
        have hq0 := Int.emod_nonneg q (show (1000 : Int) ≠ 0 by omega)
        have hq1 := Int.emod_lt_of_pos q (show (0 : Int) < 1000 by omega)
        have fin : (0 < (1000 : Int) ∧ (1000 : Int) ≤ 9223372036854775807) ∧ (-9223372036854775808 ≤ lim + q % 1000 ∧ lim + q % 1000 ≤ 9223372036854775807) ∧ ∃ r', K r' ∧ leR 4 (SV.lit (Value.bool true)) r' := ⟨by omega, by omega, tt⟩
        simp (maxSteps := 3000000) only [inr64, ↓reduceIte, ite_true, ite_false, List.cons.injEq, ne_eq, not_true_eq_false, not_false_eq_true, reduceCtorEq, e_skip, e_reg, e_drw, e_seq, e_cond, e_block, e_loop, e_exit, e_ret, e_shut, e_scp, scpK_n, scpK_x, scpK_r, shutH, shut1, shutB, slQ, o_nil, o_cons, gd_none, gd_some, gdK_tt, gdK_tf, gdK_ft, gdK_ff, gdK_u, gdK_bt, gdK_bf, putK_e, runK_e, skipK_e, vK_e, boxK_e, bslK_e, bldK_e, storeK3_e, storeK2_e, storeK_e, storeK_p, storeE_e, appK2_oi, appK2_or, appK_e, conK_e, callK_e, callK_m, evh_v, evh_new, evh_box, evh_bsl, evh_bld, evh_store, evh_app, evh_mki, evh_emp, mkiK_e, appK_i, evh_call, evh_inv, evh_slc, slcK_e, appC_e, appK_c, appK_l, slO, bnd, slv, od_none, od_some, invK_e, invK2_e, lkm, dX_e, dX_b, dX_l, dG_t, dG_f, d_nil, d_cons, creK_e, tlK_n, tlK_s, evc_e, loopK_n, loopK_x, loopK_r, seqK_n, seqK_x, seqK_r, condK_t, condK_f, condK_b, exitK_t, exitK_f, blockK_x, blockK_n, blockK_r, ends_r, ends_n, endK1_e, endK2_e, gam_e, gamK_f, gamK_p, gamK_c, gamq_e, gamqK_f, pc_e, pcK_e, fcC_e, fcK_e, evp, fit, InQ, nilq, nb, bin, binB, gt, gq, st, putf, X.get, gets, getp, ap, mkfr, rep, rdR, tupled, clV, clL, clS, clo, clo.clos, asB, ld, lda, lens, ixs, tk, dr, sp, sp.spl, lay, ll, cs1, one, allOne, gb, sb, pb, ln, lk, evq, gdl, crv, Value.oneCell', undef, Bool.and_true, Bool.true_and, Bool.not_true, Bool.not_false, cond_true, cond_false, Nat.reduceSub, Nat.reduceAdd, Nat.reduceMul, Nat.reduceDiv, Nat.reduceBEq, beq_self_eq_true, true_and, and_true, decide_eq_true_eq, decide_eq_false_iff_not, Bool.not_eq_eq_eq_not, sts, s12, r12, F34, F39, F48, F49, F38, F24, hE, hA, hln, hnn, hll, l04, l40, l70, l74, not_true, not_false_eq_true, false_implies, true_implies, and_self, decide_true, Bool.not_true]
        refine ⟨⟨hl0, by omega, by omega⟩, ?_⟩
        refine loop_at2 (G := Nat × List Int × Int) (fun g => [(13, .int .i64 g.1), (11, .own 0), (12, .int .i64 g.2.2), (65, .any)]) (fun g => [.oi .i64 3 g.2.1]) (fun g => LapI n g.1 g.2.1 g.2.2 ∧ lapsG n 5 0 l lim = lapsG n (5 - g.1) g.1 g.2.1 g.2.2) (fun g => 5 - g.1) (0, l, lim) ⟨hI, rfl⟩ ?_
        (intro fr1 hf1; simp only [forget, dstC, dstO, dstD, dst1, st] at hf1; subst hf1)
        refine ⟨?_, ?_⟩
        · refine Lw_re 0 [some 0] (Nat.zero_le _) (by simp [ln]) (by simp [ln]) rfl ?_ ?_
          · simp only [reL, reX, reH, reB, reM, reN, newB, rn, once, gb, List.getElem?_cons_zero, List.getElem?_cons_succ, Nat.reduceSub, Nat.reduceLeDiff, Nat.lt_irrefl, Nat.le_refl, false_and, or_false, false_or, and_false, reduceCtorEq, true_or, or_true, leL, leX, leH, leB, news, inb, inb.inbs, ln, sts, st, Bool.and_self, Bool.and_true, Bool.true_and, Nat.reduceLT, Nat.reduceAdd, decide_true, true_and, and_true, and_self, SV.agg.injEq, Int.natCast_zero]
          · simp only [reL, reX, reH, reB, reM, reN, newB, rn, once, gb, List.getElem?_cons_zero, List.getElem?_cons_succ, Nat.reduceSub, Nat.reduceLeDiff, Nat.lt_irrefl, Nat.le_refl, false_and, or_false, false_or, and_false, reduceCtorEq, true_or, or_true, leL, leX, leH, leB, news, inb, inb.inbs, ln, sts, st, Bool.and_self, Bool.and_true, Bool.true_and, Nat.reduceLT, Nat.reduceAdd, decide_true, true_and, and_true, and_self, SV.agg.injEq]
        · rintro ⟨k, xs, mo⟩ ⟨hi, hg⟩
          dsimp only at hi hg
          rw [hG] at hg
          simp (maxSteps := 3000000) only [inr64, ↓reduceIte, ite_true, ite_false, List.cons.injEq, ne_eq, not_true_eq_false, not_false_eq_true, reduceCtorEq, e_skip, e_reg, e_drw, e_seq, e_cond, e_block, e_loop, e_exit, e_ret, e_shut, e_scp, scpK_n, scpK_x, scpK_r, shutH, shut1, shutB, slQ, o_nil, o_cons, gd_none, gd_some, gdK_tt, gdK_tf, gdK_ft, gdK_ff, gdK_u, gdK_bt, gdK_bf, putK_e, runK_e, skipK_e, vK_e, boxK_e, bslK_e, bldK_e, storeK3_e, storeK2_e, storeK_e, storeK_p, storeE_e, appK2_oi, appK2_or, appK_e, conK_e, callK_e, callK_m, evh_v, evh_new, evh_box, evh_bsl, evh_bld, evh_store, evh_app, evh_mki, evh_emp, mkiK_e, appK_i, evh_call, evh_inv, evh_slc, slcK_e, appC_e, appK_c, appK_l, slO, bnd, slv, od_none, od_some, invK_e, invK2_e, lkm, dX_e, dX_b, dX_l, dG_t, dG_f, d_nil, d_cons, creK_e, tlK_n, tlK_s, evc_e, loopK_n, loopK_x, loopK_r, seqK_n, seqK_x, seqK_r, condK_t, condK_f, condK_b, exitK_t, exitK_f, blockK_x, blockK_n, blockK_r, ends_r, ends_n, endK1_e, endK2_e, gam_e, gamK_f, gamK_p, gamK_c, gamq_e, gamqK_f, pc_e, pcK_e, fcC_e, fcK_e, evp, fit, InQ, nilq, nb, bin, binB, gt, gq, st, putf, X.get, gets, getp, ap, mkfr, rep, rdR, tupled, clV, clL, clS, clo, clo.clos, asB, ld, lda, lens, ixs, tk, dr, sp, sp.spl, lay, ll, cs1, one, allOne, gb, sb, pb, ln, lk, evq, gdl, crv, Value.oneCell', undef, Bool.and_true, Bool.true_and, Bool.not_true, Bool.not_false, cond_true, cond_false, Nat.reduceSub, Nat.reduceAdd, Nat.reduceMul, Nat.reduceDiv, Nat.reduceBEq, beq_self_eq_true, true_and, and_true, decide_eq_true_eq, decide_eq_false_iff_not, Bool.not_eq_eq_eq_not, sts, Int.toNat_natCast, F34, F39, F48, F49, F38, F24, hE, hA, l04, l40, l70, l74, not_true, not_false_eq_true, false_implies, true_implies, and_self, decide_true, Bool.not_true]
          refine ⟨fun hk => ?_, fun hk => fin⟩
          have hk5 : k < 5 := by omega
          have hb := hi.b1 hk5
          have x0 := hi.l0
          have x1 := hi.l1
          have m3 := hi.m3 hk5 hn1 hn2
          obtain ⟨j, hj⟩ : ∃ j, 5 - k = j + 1 := ⟨4 - k, by omega⟩
          have hj' : 5 - (k + 1) = j := by omega
          rw [hj, lapsG_succ] at hg
          refine ⟨⟨hb, by omega⟩, ?_⟩
          by_cases hs : spreadL xs ≤ mo
          · rw [if_pos hs] at hg; cases hg
          · rw [if_neg hs] at hg
            by_cases hx : (xs.length : Int) < n
            · exact ⟨fun h => absurd h (by simp [hs]), fun h => ⟨fun hl => fin, fun hl => absurd hx hl⟩⟩
            · rw [if_neg hx] at hg
              refine ⟨fun h => absurd h (by simp [hs]), fun h => ⟨fun hl => absurd hl hx, fun hl => ⟨by omega, by omega, by omega, ?_⟩⟩⟩
              obtain ⟨m, rfl⟩ : ∃ m : Nat, n = m := ⟨n.toNat, by omega⟩
              have hm1 : 1 ≤ m := by omega
              have hmx : m ≤ xs.length := by omega
              have hc : ((xs.length : Int) - m + 1).toNat = xs.length + 1 - m := by omega
              have hlen : ∀ i, i ≤ xs.length + 1 - m → (wins xs m i ++ List.replicate (xs.length + 1 - m - i) (0 : Int)).length = xs.length + 1 - m := fun i h => by simp [len_wins]; omega
              simp only [hc]
              refine loop_at2 (G := Nat) (fun i => [(16, .int .i64 i)]) (fun i => [.fz (.ints .i64 xs), .oi .i64 3 (wins xs m i ++ List.replicate (xs.length + 1 - m - i) 0)]) (fun i => i ≤ xs.length + 1 - m) (fun i => xs.length + 1 - m - i) 0 (Nat.zero_le _) ?_
              (intro fr1 hf1; simp only [forget, dstC, dstO, dstD, dst1, st] at hf1; subst hf1)
              refine ⟨?_, ?_⟩
              · refine Lw_re 2 [] (Nat.zero_le _) (by simp [ln]) (by simp [ln]) rfl ?_ ?_
                · simp only [reL, reX, reH, reB, reM, reN, newB, rn, once, gb, List.getElem?_cons_zero, List.getElem?_cons_succ, Nat.reduceSub, Nat.reduceLeDiff, Nat.lt_irrefl, Nat.le_refl, false_and, or_false, false_or, and_false, reduceCtorEq, true_or, or_true, leL, leX, leH, leB, news, inb, inb.inbs, ln, sts, st, Bool.and_self, Bool.and_true, Bool.true_and, Nat.reduceLT, Nat.reduceAdd, decide_true, true_and, and_true, and_self, SV.agg.injEq, Int.natCast_zero]
                · simp only [reL, reX, reH, reB, reM, reN, newB, rn, once, gb, List.getElem?_cons_zero, List.getElem?_cons_succ, Nat.reduceSub, Nat.reduceLeDiff, Nat.lt_irrefl, Nat.le_refl, false_and, or_false, false_or, and_false, reduceCtorEq, true_or, or_true, leL, leX, leH, leB, news, inb, inb.inbs, ln, sts, st, Bool.and_self, Bool.and_true, Bool.true_and, Nat.reduceLT, Nat.reduceAdd, decide_true, true_and, and_true, and_self, SV.agg.injEq, wins, List.range_zero, List.map_nil, List.nil_append, Nat.sub_zero]
              · intro i hi2
                simp (maxSteps := 3000000) only [inr64, ↓reduceIte, ite_true, ite_false, List.cons.injEq, ne_eq, not_true_eq_false, not_false_eq_true, reduceCtorEq, e_skip, e_reg, e_drw, e_seq, e_cond, e_block, e_loop, e_exit, e_ret, e_shut, e_scp, scpK_n, scpK_x, scpK_r, shutH, shut1, shutB, slQ, o_nil, o_cons, gd_none, gd_some, gdK_tt, gdK_tf, gdK_ft, gdK_ff, gdK_u, gdK_bt, gdK_bf, putK_e, runK_e, skipK_e, vK_e, boxK_e, bslK_e, bldK_e, storeK3_e, storeK2_e, storeK_e, storeK_p, storeE_e, appK2_oi, appK2_or, appK_e, conK_e, callK_e, callK_m, evh_v, evh_new, evh_box, evh_bsl, evh_bld, evh_store, evh_app, evh_mki, evh_emp, mkiK_e, appK_i, evh_call, evh_inv, evh_slc, slcK_e, appC_e, appK_c, appK_l, slO, bnd, slv, od_none, od_some, invK_e, invK2_e, lkm, dX_e, dX_b, dX_l, dG_t, dG_f, d_nil, d_cons, creK_e, tlK_n, tlK_s, evc_e, loopK_n, loopK_x, loopK_r, seqK_n, seqK_x, seqK_r, condK_t, condK_f, condK_b, exitK_t, exitK_f, blockK_x, blockK_n, blockK_r, ends_r, ends_n, endK1_e, endK2_e, gam_e, gamK_f, gamK_p, gamK_c, gamq_e, gamqK_f, pc_e, pcK_e, fcC_e, fcK_e, evp, fit, InQ, nilq, nb, bin, binB, gt, gq, st, putf, X.get, gets, getp, ap, mkfr, rep, rdR, tupled, clV, clL, clS, clo, clo.clos, asB, ld, lda, lens, ixs, tk, dr, sp, sp.spl, lay, ll, cs1, one, allOne, gb, sb, pb, ln, lk, evq, gdl, crv, Value.oneCell', undef, Bool.and_true, Bool.true_and, Bool.not_true, Bool.not_false, cond_true, cond_false, Nat.reduceSub, Nat.reduceAdd, Nat.reduceMul, Nat.reduceDiv, Nat.reduceBEq, beq_self_eq_true, true_and, and_true, decide_eq_true_eq, decide_eq_false_iff_not, Bool.not_eq_eq_eq_not, sts, Int.toNat_natCast, F49]
                rw [hlen i hi2]
                refine ⟨fun h => ?_, fun h => ?_⟩
                · have e1 : ((i : Int) + m - i).toNat = m := by omega
                  rw [e1]
                  refine ⟨by omega, by omega, ⟨within_take (within_drop hb i) m, by simp; omega⟩, by omega, by omega, by omega, ?_⟩
                  rw [set_wins (show i < xs.length + 1 - m by omega)]
                  refine Nx.mk (i + 1) (by show i + 1 ≤ xs.length + 1 - m; omega) (by show xs.length + 1 - m - (i + 1) < xs.length + 1 - m - i; omega) (Lw_re 2 [] (Nat.zero_le _) (by simp [ln]) (by simp [ln]) rfl ?_ ?_)
                  · simp only [reL, reX, reH, reB, reM, reN, newB, rn, once, gb, List.getElem?_cons_zero, List.getElem?_cons_succ, Nat.reduceSub, Nat.reduceLeDiff, Nat.lt_irrefl, Nat.le_refl, false_and, or_false, false_or, and_false, reduceCtorEq, true_or, or_true, leL, leX, leH, leB, news, inb, inb.inbs, ln, sts, st, Bool.and_self, Bool.and_true, Bool.true_and, Nat.reduceLT, Nat.reduceAdd, decide_true, true_and, and_true, and_self, SV.agg.injEq, Int.natCast_add, Int.natCast_one]
                  · simp only [reL, reX, reH, reB, reM, reN, newB, rn, once, gb, List.getElem?_cons_zero, List.getElem?_cons_succ, Nat.reduceSub, Nat.reduceLeDiff, Nat.lt_irrefl, Nat.le_refl, false_and, or_false, false_or, and_false, reduceCtorEq, true_or, or_true, leL, leX, leH, leB, news, inb, inb.inbs, ln, sts, st, Bool.and_self, Bool.and_true, Bool.true_and, Nat.reduceLT, Nat.reduceAdd, decide_true, true_and, and_true, and_self, SV.agg.injEq]
                · have e2 : i = xs.length + 1 - m := by omega
                  have e3 : wins xs m i ++ List.replicate (xs.length + 1 - m - i) (0 : Int) = winL xs m := by rw [e2]; simp [winL]
                  rw [e3]
                  refine ⟨m3, by omega, ?_⟩
                  refine Nx.mk (k + 1, winL xs m, mo * m) ⟨hi.next hk5 (by omega) (by omega), by rw [hG, hg, hj']⟩ (by show 5 - (k + 1) < 5 - k; omega) (Lw_re 0 [some 1] (Nat.zero_le _) (by simp [ln]) (by simp [ln]) rfl ?_ ?_)
                  · simp only [reL, reX, reH, reB, reM, reN, newB, rn, once, gb, List.getElem?_cons_zero, List.getElem?_cons_succ, Nat.reduceSub, Nat.reduceLeDiff, Nat.lt_irrefl, Nat.le_refl, false_and, or_false, false_or, and_false, reduceCtorEq, true_or, or_true, leL, leX, leH, leB, news, inb, inb.inbs, ln, sts, st, Bool.and_self, Bool.and_true, Bool.true_and, Nat.reduceLT, Nat.reduceAdd, decide_true, true_and, and_true, and_self, SV.agg.injEq, Int.natCast_add, Int.natCast_one]
                  · simp only [reL, reX, reH, reB, reM, reN, newB, rn, once, gb, List.getElem?_cons_zero, List.getElem?_cons_succ, Nat.reduceSub, Nat.reduceLeDiff, Nat.lt_irrefl, Nat.le_refl, false_and, or_false, false_or, and_false, reduceCtorEq, true_or, or_true, leL, leX, leH, leB, news, inb, inb.inbs, ln, sts, st, Bool.and_self, Bool.and_true, Bool.true_and, Nat.reduceLT, Nat.reduceAdd, decide_true, true_and, and_true, and_self, SV.agg.injEq]
    · have hE : lapsE l n lim = 7 := by simp [lapsE, hp, hlim]
      have hA : lapsA l n lim = 0 := by simp [lapsA, hp, hlim]
      simp (maxSteps := 3000000) only [inr64, ↓reduceIte, ite_true, ite_false, List.cons.injEq, ne_eq, not_true_eq_false, not_false_eq_true, reduceCtorEq, e_skip, e_reg, e_drw, e_seq, e_cond, e_block, e_loop, e_exit, e_ret, e_shut, e_scp, scpK_n, scpK_x, scpK_r, shutH, shut1, shutB, slQ, o_nil, o_cons, gd_none, gd_some, gdK_tt, gdK_tf, gdK_ft, gdK_ff, gdK_u, gdK_bt, gdK_bf, putK_e, runK_e, skipK_e, vK_e, boxK_e, bslK_e, bldK_e, storeK3_e, storeK2_e, storeK_e, storeK_p, storeE_e, appK2_oi, appK2_or, appK_e, conK_e, callK_e, callK_m, evh_v, evh_new, evh_box, evh_bsl, evh_bld, evh_store, evh_app, evh_mki, evh_emp, mkiK_e, appK_i, evh_call, evh_inv, evh_slc, slcK_e, appC_e, appK_c, appK_l, slO, bnd, slv, od_none, od_some, invK_e, invK2_e, lkm, dX_e, dX_b, dX_l, dG_t, dG_f, d_nil, d_cons, creK_e, tlK_n, tlK_s, evc_e, loopK_n, loopK_x, loopK_r, seqK_n, seqK_x, seqK_r, condK_t, condK_f, condK_b, exitK_t, exitK_f, blockK_x, blockK_n, blockK_r, ends_r, ends_n, endK1_e, endK2_e, gam_e, gamK_f, gamK_p, gamK_c, gamq_e, gamqK_f, pc_e, pcK_e, fcC_e, fcK_e, evp, fit, InQ, nilq, nb, bin, binB, gt, gq, st, putf, X.get, gets, getp, ap, mkfr, rep, rdR, tupled, clV, clL, clS, clo, clo.clos, asB, ld, lda, lens, ixs, tk, dr, sp, sp.spl, lay, ll, cs1, one, allOne, gb, sb, pb, ln, lk, evq, gdl, crv, Value.oneCell', undef, Bool.and_true, Bool.true_and, Bool.not_true, Bool.not_false, cond_true, cond_false, Nat.reduceSub, Nat.reduceAdd, Nat.reduceMul, Nat.reduceDiv, Nat.reduceBEq, beq_self_eq_true, true_and, and_true, decide_eq_true_eq, decide_eq_false_iff_not, Bool.not_eq_eq_eq_not, sts, s12, r12, F34, F39, F48, F49, F38, F24, hE, hA, l04, l40, l70, l74, l725, l250, l254, not_true, not_false_eq_true, false_implies, true_implies, and_self, decide_true, Bool.not_true]
      exact tt
  · have hp' : places2 l n = false := by simpa using hp
    have hE : lapsE l n lim = 25 := by simp [lapsE, hp']
    have hA : lapsA l n lim = 0 := by simp [lapsA, hp']
    simp (maxSteps := 3000000) only [inr64, ↓reduceIte, ite_true, ite_false, List.cons.injEq, ne_eq, not_true_eq_false, not_false_eq_true, reduceCtorEq, e_skip, e_reg, e_drw, e_seq, e_cond, e_block, e_loop, e_exit, e_ret, e_shut, e_scp, scpK_n, scpK_x, scpK_r, shutH, shut1, shutB, slQ, o_nil, o_cons, gd_none, gd_some, gdK_tt, gdK_tf, gdK_ft, gdK_ff, gdK_u, gdK_bt, gdK_bf, putK_e, runK_e, skipK_e, vK_e, boxK_e, bslK_e, bldK_e, storeK3_e, storeK2_e, storeK_e, storeK_p, storeE_e, appK2_oi, appK2_or, appK_e, conK_e, callK_e, callK_m, evh_v, evh_new, evh_box, evh_bsl, evh_bld, evh_store, evh_app, evh_mki, evh_emp, mkiK_e, appK_i, evh_call, evh_inv, evh_slc, slcK_e, appC_e, appK_c, appK_l, slO, bnd, slv, od_none, od_some, invK_e, invK2_e, lkm, dX_e, dX_b, dX_l, dG_t, dG_f, d_nil, d_cons, creK_e, tlK_n, tlK_s, evc_e, loopK_n, loopK_x, loopK_r, seqK_n, seqK_x, seqK_r, condK_t, condK_f, condK_b, exitK_t, exitK_f, blockK_x, blockK_n, blockK_r, ends_r, ends_n, endK1_e, endK2_e, gam_e, gamK_f, gamK_p, gamK_c, gamq_e, gamqK_f, pc_e, pcK_e, fcC_e, fcK_e, evp, fit, InQ, nilq, nb, bin, binB, gt, gq, st, putf, X.get, gets, getp, ap, mkfr, rep, rdR, tupled, clV, clL, clS, clo, clo.clos, asB, ld, lda, lens, ixs, tk, dr, sp, sp.spl, lay, ll, cs1, one, allOne, gb, sb, pb, ln, lk, evq, gdl, crv, Value.oneCell', undef, Bool.and_true, Bool.true_and, Bool.not_true, Bool.not_false, cond_true, cond_false, Nat.reduceSub, Nat.reduceAdd, Nat.reduceMul, Nat.reduceDiv, Nat.reduceBEq, beq_self_eq_true, true_and, and_true, decide_eq_true_eq, decide_eq_false_iff_not, Bool.not_eq_eq_eq_not, sts, s12, r12, F34, F39, F48, F49, F38, F24, hE, hA, l04, l40, l70, l74, l725, l250, l254, not_true, not_false_eq_true, false_implies, true_implies, and_self, decide_true, Bool.not_true]
    exact tt
end Go.Proofs.Ytbbbpdajikblbaa
