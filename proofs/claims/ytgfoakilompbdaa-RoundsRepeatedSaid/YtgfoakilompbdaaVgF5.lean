/- Rounds: RoundsRepeated, given works(). -/
import Derived.Test.YtgfoakilompbdaaVgF4
namespace Go.Proofs.Ytgfoakilompbdaa
open Go Go.Vg
set_option linter.unusedSimpArgs false
set_option linter.unusedVariables false
set_option maxRecDepth 10000
/- 6: octant/octantlaw06.RoundsRepeated -/
def s6 : SC :=
  (.seq (.reg [⟨(some 3), none, .box 25 (.t 0)⟩,
    ⟨(some 5), none, .box 56 (.t 2)⟩,
    ⟨(some 6), none, .v (.mov (.c (.lit (.bool false))))⟩])
  (.seq (.drw [(0, ⟨(some 19), none, .v (.mov (.t 1))⟩, false),
    (1, ⟨(some 20), none, .call (.c (.fn 33 [])) [(.t 19), (.c (.int .i64 (1296000)))]⟩, false),
    (2, ⟨(some 21), none, .v (.off (.t 3) 2)⟩, false),
    (3, ⟨(some 22), none, .v (.load (.t 21) none)⟩, false),
    (4, ⟨(some 23), none, .call (.c (.fn 33 [])) [(.t 22), (.c (.int .i64 (100)))]⟩, false),
    (5, ⟨(some 24), none, .v (.bin .add (.c (.int .i64 (1))) (.t 23))⟩, false),
    (6, ⟨(some 25), none, .v (.off (.t 3) 5)⟩, false),
    (7, ⟨(some 26), none, .v (.load (.t 25) none)⟩, false),
    (8, ⟨(some 27), none, .call (.c (.fn 33 [])) [(.t 26), (.c (.int .i64 (10001)))]⟩, false),
    (9, ⟨(some 1), none, .v (.mov (.t 20))⟩, false)]
    none
    [⟨(some 7), none, .v (.mov (.t 24))⟩,
    ⟨(some 8), none, .v (.mov (.t 27))⟩])
  (.seq (.reg [⟨(some 28), none, .v (.off (.t 3) 0)⟩,
    ⟨(some 29), none, .v (.load (.t 28) none)⟩,
    ⟨(some 30), none, .call (.c (.fn 33 [])) [(.t 29), (.c (.int .i64 (1296000)))]⟩,
    ⟨(some 9), none, .v (.mov (.t 30))⟩])
  (.seq (.reg [⟨(some 31), none, .v (.mov (.t 9))⟩,
    ⟨(some 32), none, .v (.mov (.t 7))⟩,
    ⟨(some 33), none, .v (.mov (.t 1))⟩,
    ⟨(some 34), none, .v (.bin .mul (.t 32) (.t 33))⟩,
    ⟨(some 35), none, .v (.bin .add (.t 31) (.t 34))⟩,
    ⟨(some 36), none, .v (.ixarr (.t 5) (.c (.int .i64 (0))) 2 1)⟩,
    ⟨(some 37), none, .v (.load (.t 36) none)⟩,
    ⟨(some 38), none, .v (.mov (.t 8))⟩,
    ⟨(some 39), none, .v (.bin .mul (.c (.int .i64 (4))) (.t 38))⟩,
    ⟨(some 40), none, .v (.bin .add (.t 39) (.c (.int .i64 (1))))⟩,
    ⟨(some 41), none, .call (.c (.fn 33 [])) [(.t 37), (.t 40)]⟩,
    ⟨(some 42), none, .v (.bin .add (.t 35) (.t 41))⟩,
    ⟨(some 43), none, .v (.mov (.t 8))⟩,
    ⟨(some 44), none, .v (.bin .mul (.c (.int .i64 (2))) (.t 43))⟩,
    ⟨(some 45), none, .v (.bin .sub (.t 42) (.t 44))⟩,
    ⟨(some 46), none, .call (.c (.fn 33 [])) [(.t 45), (.c (.int .i64 (1296000)))]⟩,
    ⟨(some 10), none, .v (.mov (.t 46))⟩])
  (.seq (.drw [(0, ⟨(some 47), none, .v (.mov (.t 1))⟩, false),
    (1, ⟨(some 48), none, .v (.off (.t 3) 3)⟩, false),
    (2, ⟨(some 49), none, .v (.off (.t 48) 0)⟩, false),
    (3, ⟨(some 50), none, .v (.load (.t 49) none)⟩, false),
    (4, ⟨(some 51), none, .call (.c (.fn 33 [])) [(.t 50), (.c (.int .i64 (400000)))]⟩, false),
    (5, ⟨(some 52), none, .v (.bin .sub (.t 47) (.t 51))⟩, false),
    (6, ⟨(some 53), none, .v (.max2 (.c (.int .i64 (0))) (.t 52))⟩, false),
    (7, ⟨(some 54), none, .v (.mov (.t 1))⟩, false),
    (8, ⟨(some 55), none, .v (.off (.t 3) 3)⟩, false),
    (9, ⟨(some 56), none, .v (.off (.t 55) 1)⟩, false),
    (10, ⟨(some 57), none, .v (.load (.t 56) none)⟩, false),
    (11, ⟨(some 58), none, .call (.c (.fn 33 [])) [(.t 57), (.c (.int .i64 (400000)))]⟩, false),
    (12, ⟨(some 59), none, .v (.bin .add (.t 54) (.t 58))⟩, false),
    (13, ⟨(some 60), none, .v (.min2 (.c (.int .i64 (1295999))) (.t 59))⟩, false),
    (14, ⟨(some 61), none, .call (.c (.fn 34 [])) [(.t 53), (.t 60)]⟩, false)]
    (some ⟨(some 11), none, .new 23 [(.int .i64 (0)), (.int .i64 (0))]⟩)
    [⟨none, none, .store 2 (.t 11) (.t 61)⟩])
  (.seq (.reg [⟨(some 63), none, .v (.mov (.t 9))⟩,
    ⟨(some 64), none, .v (.mov (.t 10))⟩,
    ⟨(some 65), none, .v (.mov (.t 7))⟩,
    ⟨(some 66), none, .v (.load (.t 11) (some 2))⟩,
    ⟨(some 67), none, .v (.mov (.t 8))⟩,
    ⟨(some 68), none, .bld [(.int .i64 (0)), (.int .i64 (0)), (.int .i64 (0)), (.int .i64 (0)), (.int .i64 (0)), (.int .i64 (0))] [(0, 1, (.t 63)), (1, 1, (.t 64)), (2, 1, (.t 65)), (3, 2, (.t 66)), (5, 1, (.t 67))]⟩,
    ⟨(some 69), none, .call (.c (.fn 14 [])) [(.t 68)]⟩,
    ⟨(some 62), none, .v (.mov (.t 69))⟩,
    ⟨(some 70), none, .v (.ext (.t 62) 0)⟩,
    ⟨(some 71), none, .v (.ext (.t 62) 1)⟩,
    ⟨(some 12), none, .v (.mov (.t 70))⟩,
    ⟨(some 13), none, .v (.mov (.t 71))⟩])
  (.seq (.reg [⟨(some 72), none, .v (.ixarr (.t 5) (.c (.int .i64 (1))) 2 1)⟩,
    ⟨(some 73), none, .v (.load (.t 72) none)⟩,
    ⟨(some 74), none, .call (.c (.fn 33 [])) [(.t 73), (.c (.int .i64 (1296000)))]⟩,
    ⟨(some 14), none, .v (.mov (.t 74))⟩])
  (.seq (.drw [(0, ⟨(some 76), none, .v (.mov (.t 14))⟩, false),
    (1, ⟨(some 77), none, .v (.mov (.t 14))⟩, false),
    (2, ⟨(some 78), none, .v (.mov (.t 10))⟩, false),
    (3, ⟨(some 79), none, .v (.mov (.t 9))⟩, false),
    (4, ⟨(some 80), none, .v (.bin .sub (.t 78) (.t 79))⟩, false),
    (5, ⟨(some 81), none, .call (.c (.fn 33 [])) [(.t 80), (.c (.int .i64 (1296000)))]⟩, false),
    (6, ⟨(some 82), none, .v (.bin .add (.t 77) (.t 81))⟩, false),
    (7, ⟨(some 83), none, .v (.bin .rem (.t 82) (.c (.int .i64 (1296000))))⟩, false),
    (8, ⟨(some 84), none, .v (.mov (.t 7))⟩, false),
    (9, ⟨(some 85), none, .v (.load (.t 11) (some 2))⟩, false),
    (10, ⟨(some 86), none, .v (.mov (.t 8))⟩, false),
    (11, ⟨(some 87), none, .bld [(.int .i64 (0)), (.int .i64 (0)), (.int .i64 (0)), (.int .i64 (0)), (.int .i64 (0)), (.int .i64 (0))] [(0, 1, (.t 76)), (1, 1, (.t 83)), (2, 1, (.t 84)), (3, 2, (.t 85)), (5, 1, (.t 86))]⟩, false),
    (12, ⟨(some 88), none, .call (.c (.fn 14 [])) [(.t 87)]⟩, false),
    (13, ⟨(some 75), none, .v (.mov (.t 88))⟩, false),
    (14, ⟨(some 89), none, .v (.ext (.t 75) 0)⟩, false),
    (15, ⟨(some 90), none, .v (.ext (.t 75) 1)⟩, false),
    (16, ⟨(some 15), none, .v (.mov (.t 89))⟩, false)]
    none
    [⟨(some 16), none, .v (.mov (.t 90))⟩])
  (.seq (.seq (.reg [⟨(some 91), none, .v (.mov (.t 13))⟩,
    ⟨(some 92), none, .v (.bin .neq (.t 91) (.c (.int .i64 (0))))⟩,
    ⟨(some 93), none, .v (.mov (.t 92))⟩,
    ⟨(some 94), (some (93, false)), .v (.mov (.t 16))⟩,
    ⟨(some 95), (some (93, false)), .v (.bin .neq (.t 94) (.c (.int .i64 (0))))⟩,
    ⟨(some 96), none, .v (.pick (.t 93) (.c (.lit (.bool true))) (.t 95))⟩,
    ⟨(some 97), none, .v (.mov (.t 96))⟩,
    ⟨(some 98), (some (97, false)), .v (.mov (.t 12))⟩,
    ⟨(some 99), (some (97, false)), .v (.mov (.t 15))⟩,
    ⟨(some 100), (some (97, false)), .call (.c (.fn 16 [])) [(.t 98), (.t 99)]⟩,
    ⟨(some 101), (some (97, false)), .v (.not (.t 100))⟩,
    ⟨(some 102), none, .v (.pick (.t 97) (.c (.lit (.bool true))) (.t 101))⟩])
  (.cond (.t 102)
    (.seq (.reg [⟨(some 6), none, .v (.mov (.c (.lit (.bool false))))⟩])
    .ret)
    .skip))
  (.seq (.reg [⟨(some 17), none, .v (.mov (.c (.lit (.bool false))))⟩])
  (.seq (.seq (.reg [⟨(some 18), none, .v (.mov (.c (.int .i64 (0))))⟩])
  (.block 0 (.loop
    (.seq (.seq (.reg [⟨(some 103), none, .v (.mov (.t 18))⟩,
      ⟨(some 104), none, .v (.mov (.t 12))⟩,
      ⟨(some 105), none, .v (.len (.t 104))⟩,
      ⟨(some 106), none, .v (.bin .lss (.t 103) (.t 105))⟩])
    (.cond (.t 106)
      .skip
      (.exit 0)))
    (.seq (.block 1 (.seq (.reg [⟨(some 109), none, .v (.mov (.t 17))⟩,
      ⟨(some 110), none, .v (.mov (.t 109))⟩,
      ⟨(some 111), (some (110, false)), .v (.mov (.t 12))⟩,
      ⟨(some 112), (some (110, false)), .v (.mov (.t 18))⟩,
      ⟨(some 113), (some (110, false)), .v (.ixa (.t 111) (.t 112) 2)⟩,
      ⟨(some 114), (some (110, false)), .v (.load (.t 113) (some 2))⟩,
      ⟨(some 115), (some (110, false)), .v (.mov (.t 1))⟩,
      ⟨(some 116), (some (110, false)), .call (.c (.fn 35 [])) [(.t 114), (.t 115)]⟩,
      ⟨(some 117), none, .v (.pick (.t 110) (.c (.lit (.bool true))) (.t 116))⟩,
      ⟨(some 17), none, .v (.mov (.t 117))⟩])
    (.seq (.drw [(0, ⟨(some 118), none, .v (.mov (.t 12))⟩, false),
      (1, ⟨(some 119), none, .v (.mov (.t 18))⟩, false),
      (2, ⟨(some 120), none, .v (.ixa (.t 118) (.t 119) 2)⟩, false),
      (3, ⟨(some 121), none, .v (.off (.t 120) 0)⟩, false),
      (4, ⟨(some 122), none, .v (.load (.t 121) none)⟩, false),
      (5, ⟨(some 123), none, .v (.off (.t 11) 0)⟩, false),
      (6, ⟨(some 124), none, .v (.load (.t 123) none)⟩, false),
      (7, ⟨(some 125), none, .v (.bin .lss (.t 122) (.t 124))⟩, false),
      (8, ⟨(some 126), none, .v (.mov (.t 125))⟩, true),
      (9, ⟨(some 127), (some (126, false)), .v (.mov (.t 12))⟩, false),
      (10, ⟨(some 128), (some (126, false)), .v (.mov (.t 18))⟩, false),
      (11, ⟨(some 129), (some (126, false)), .v (.ixa (.t 127) (.t 128) 2)⟩, false),
      (12, ⟨(some 130), (some (126, false)), .v (.off (.t 129) 1)⟩, false),
      (13, ⟨(some 131), (some (126, false)), .v (.load (.t 130) none)⟩, false),
      (14, ⟨(some 132), (some (126, false)), .v (.off (.t 11) 1)⟩, false),
      (15, ⟨(some 133), (some (126, false)), .v (.load (.t 132) none)⟩, false),
      (16, ⟨(some 134), (some (126, false)), .v (.bin .gtr (.t 131) (.t 133))⟩, false),
      (17, ⟨(some 135), none, .v (.pick (.t 126) (.c (.lit (.bool true))) (.t 134))⟩, false),
      (18, ⟨(some 136), none, .v (.mov (.t 135))⟩, true),
      (19, ⟨(some 137), (some (136, false)), .v (.mov (.t 12))⟩, false),
      (20, ⟨(some 138), (some (136, false)), .v (.mov (.t 18))⟩, false),
      (21, ⟨(some 139), (some (136, false)), .v (.ixa (.t 137) (.t 138) 2)⟩, false),
      (22, ⟨(some 140), (some (136, false)), .v (.off (.t 139) 0)⟩, false),
      (23, ⟨(some 141), (some (136, false)), .v (.load (.t 140) none)⟩, false),
      (24, ⟨(some 142), (some (136, false)), .v (.mov (.t 12))⟩, false),
      (25, ⟨(some 143), (some (136, false)), .v (.mov (.t 18))⟩, false),
      (26, ⟨(some 144), (some (136, false)), .v (.ixa (.t 142) (.t 143) 2)⟩, false),
      (27, ⟨(some 145), (some (136, false)), .v (.off (.t 144) 1)⟩, false),
      (28, ⟨(some 146), (some (136, false)), .v (.load (.t 145) none)⟩, false),
      (29, ⟨(some 147), (some (136, false)), .v (.bin .gtr (.t 141) (.t 146))⟩, false),
      (30, ⟨(some 148), none, .v (.pick (.t 136) (.c (.lit (.bool true))) (.t 147))⟩, false),
      (31, ⟨(some 149), none, .v (.mov (.t 148))⟩, true),
      (32, ⟨(some 150), (some (149, false)), .v (.mov (.t 12))⟩, false),
      (33, ⟨(some 151), (some (149, false)), .v (.mov (.t 18))⟩, false),
      (34, ⟨(some 152), (some (149, false)), .v (.ixa (.t 150) (.t 151) 2)⟩, false),
      (35, ⟨(some 153), (some (149, false)), .v (.off (.t 152) 1)⟩, false),
      (36, ⟨(some 154), (some (149, false)), .v (.load (.t 153) none)⟩, false),
      (37, ⟨(some 155), (some (149, false)), .v (.mov (.t 12))⟩, false),
      (38, ⟨(some 156), (some (149, false)), .v (.mov (.t 18))⟩, false),
      (39, ⟨(some 157), (some (149, false)), .v (.ixa (.t 155) (.t 156) 2)⟩, false),
      (40, ⟨(some 158), (some (149, false)), .v (.off (.t 157) 0)⟩, false),
      (41, ⟨(some 159), (some (149, false)), .v (.load (.t 158) none)⟩, false),
      (42, ⟨(some 160), (some (149, false)), .v (.bin .sub (.t 154) (.t 159))⟩, false),
      (43, ⟨(some 161), (some (149, false)), .v (.mov (.t 7))⟩, false),
      (44, ⟨(some 162), (some (149, false)), .v (.bin .mul (.t 160) (.t 161))⟩, false),
      (45, ⟨(some 163), (some (149, false)), .v (.mov (.t 8))⟩, false),
      (46, ⟨(some 164), (some (149, false)), .v (.bin .mul (.c (.int .i64 (4))) (.t 163))⟩, false),
      (47, ⟨(some 165), (some (149, false)), .v (.bin .gtr (.t 162) (.t 164))⟩, false),
      (48, ⟨(some 166), none, .v (.pick (.t 149) (.c (.lit (.bool true))) (.t 165))⟩, false),
      (49, ⟨(some 167), none, .v (.mov (.t 166))⟩, true),
      (50, ⟨(some 168), (some (167, false)), .v (.mov (.t 18))⟩, false),
      (51, ⟨(some 169), (some (167, false)), .v (.bin .gtr (.t 168) (.c (.int .i64 (0))))⟩, false),
      (52, ⟨(some 170), (some (167, false)), .v (.mov (.t 169))⟩, true),
      (53, ⟨(some 171), (some (170, true)), .v (.mov (.t 12))⟩, false),
      (54, ⟨(some 172), (some (170, true)), .v (.mov (.t 18))⟩, false),
      (55, ⟨(some 173), (some (170, true)), .v (.bin .sub (.t 172) (.c (.int .i64 (1))))⟩, false),
      (56, ⟨(some 174), (some (170, true)), .v (.ixa (.t 171) (.t 173) 2)⟩, false),
      (57, ⟨(some 175), (some (170, true)), .v (.off (.t 174) 1)⟩, false),
      (58, ⟨(some 176), (some (170, true)), .v (.load (.t 175) none)⟩, false),
      (59, ⟨(some 177), (some (170, true)), .v (.bin .add (.t 176) (.c (.int .i64 (1))))⟩, false),
      (60, ⟨(some 178), (some (170, true)), .v (.mov (.t 12))⟩, false),
      (61, ⟨(some 179), (some (170, true)), .v (.mov (.t 18))⟩, false),
      (62, ⟨(some 180), (some (170, true)), .v (.ixa (.t 178) (.t 179) 2)⟩, false),
      (63, ⟨(some 181), (some (170, true)), .v (.off (.t 180) 0)⟩, false),
      (64, ⟨(some 182), (some (170, true)), .v (.load (.t 181) none)⟩, false)]
      none
      [⟨(some 183), (some (170, true)), .v (.bin .geq (.t 177) (.t 182))⟩,
      ⟨(some 184), (some (167, false)), .v (.pick (.t 170) (.t 183) (.c (.lit (.bool false))))⟩,
      ⟨(some 185), none, .v (.pick (.t 167) (.c (.lit (.bool true))) (.t 184))⟩])
    (.cond (.t 185)
      (.seq (.reg [⟨(some 6), none, .v (.mov (.c (.lit (.bool false))))⟩])
      .ret)
      .skip))))
    (.reg [⟨(some 107), none, .v (.mov (.t 18))⟩,
      ⟨(some 108), none, .v (.bin .add (.t 107) (.c (.int .i64 (1))))⟩,
      ⟨(some 18), none, .v (.mov (.t 108))⟩]))))))
  (.seq (.reg [⟨(some 186), none, .v (.mov (.t 17))⟩,
    ⟨(some 187), none, .v (.mov (.t 186))⟩,
    ⟨(some 188), (some (187, true)), .call (.c (.fn 19 [])) []⟩,
    ⟨(some 189), none, .v (.pick (.t 187) (.t 188) (.c (.lit (.bool false))))⟩,
    ⟨(some 6), none, .v (.mov (.t 189))⟩])
  .ret))))))))))))
def r6 : List RV := [.t 6]
def n6 : Nat := 190
theorem k6 : (Try.f6.body.bind (cC Try.prog), cR Try.prog Try.f6.results.toList, Try.f6.ntmps) = (some s6, some r6, 190) := by kernel_rfl
theorem q6 : Known Try.prog 6 := ⟨_, Try.func6, by decide, by simp [Try.f6]⟩



def F14 : FC := fun args => match args with
  | [.agg [.int .i64 f, .int .i64 l, .int .i64 t, .int .i64 a, .int .i64 b, .int .i64 w]] => some (True, .tup [.rd 2 (Rp.R ⟨f, l, t, a, b, w⟩).length (rowsS (Rp.R ⟨f, l, t, a, b, w⟩)), .int .i64 (Rp.e ⟨f, l, t, a, b, w⟩)])
  | _ => none
theorem p14' : PureOk Try.prog 14 (fcC F14) := by
  intro w im args vs K him ha hC
  unfold fcC F14 at hC
  split at hC <;> first | (exact hC.elim) | skip
  rename_i h
  split at h <;> first | (cases h; done) | skip
  cases h
  exact p14 w im _ vs K him ha ⟨⟨_, _, _, _, _, _⟩, rfl, hC.2⟩
theorem acc_in {w : Nat → Int × Int} : ∀ {n i : Nat}, i < n → (w i).1 ≤ (w i).2 → w i ∈ acc w n
  | 0, i, hi, _ => by omega
  | n + 1, i, hi, h => by
    unfold acc
    by_cases hn : i = n
    · subst hn; rw [if_pos h]; simp
    · have := acc_in (n := n) (i := i) (by omega) h
      split
      · exact List.mem_append_left _ this
      · exact this
theorem acc_gap {w : Nat → Int × Int} (h : ∀ i j, i < j → (w i).2 + 1 < (w j).1) : ∀ n, (acc w n).Pairwise fun e e' => e.2 + 1 < e'.1
  | 0 => .nil
  | n + 1 => by
    unfold acc
    split
    · rw [List.pairwise_append]
      refine ⟨acc_gap h n, List.pairwise_singleton _ _, fun e he e' he' => ?_⟩
      obtain ⟨i, hi, rfl⟩ := acc_mem he
      have : e' = w n := by simpa using he'
      subst this
      exact h i n hi
    · exact acc_gap h n
/-- What is said of a row of spans. -/
structure RpF (v : Rp) (A : Int) : Prop where
  e : v.e = 0
  in_ : ∃ i, i < v.R.length ∧ lo v.R i ≤ A ∧ A ≤ hi v.R i
  b : ∀ i, i < v.R.length → v.a ≤ lo v.R i ∧ hi v.R i ≤ v.b ∧ lo v.R i ≤ hi v.R i ∧ (hi v.R i - lo v.R i) * v.t ≤ 4 * v.w
  gap : ∀ i, i + 1 < v.R.length → hi v.R i + 1 < lo v.R (i + 1)
theorem Rp.facts {v : Rp} (ho : v.ok) {A : Int} (hA : v.a ≤ A ∧ A ≤ v.b) (hd : ∃ c : Nat, c < (v.t + 2).toNat ∧ A * v.t - 2 * v.w ≤ v.d + ((c : Int) - 1) * 1296000 ∧ v.d + ((c : Int) - 1) * 1296000 ≤ A * v.t + 2 * v.w) : RpF v A := by
  have hR : v.R = v.pl := by unfold Rp.R; rw [if_pos ho]
  have h0 := ho
  unfold Rp.ok at h0
  have mem : ∀ i, i < v.pl.length → ∃ k, v.pl.getD i (0, 0) = v.pw k ∧ (v.pw k).1 ≤ (v.pw k).2 := fun i hi => by
    have hm : v.pl.getD i (0, 0) ∈ v.pl := by simp [List.getD, hi]
    have h2 := acc_lt hm
    obtain ⟨k, _, e⟩ := acc_mem hm
    exact ⟨k, e, by rw [← e]; exact h2⟩
  obtain ⟨c, hc, h1, h2⟩ := hd
  have hw : (v.pw c).1 ≤ A ∧ A ≤ (v.pw c).2 := by
    have t0 : 0 < v.t := by omega
    have e1 : -(v.d + ((c : Int) - 1) * 1296000 - 2 * v.w) / v.t ≥ -A := by
      rw [ge_iff_le, Int.le_ediv_iff_mul_le t0]
      rw [Int.neg_mul]; omega
    have e2 : A ≤ (v.d + ((c : Int) - 1) * 1296000 + 2 * v.w) / v.t := by
      rw [Int.le_ediv_iff_mul_le t0]; omega
    unfold Rp.pw Rp.win
    simp only
    omega
  have hin := acc_in (w := v.pw) hc (by omega)
  obtain ⟨i, hi1, hi2⟩ := List.getElem_of_mem hin
  have hpl : acc v.pw (v.t + 2).toNat = v.pl := rfl
  refine ⟨?_, ?_, ?_, ?_⟩
  · unfold Rp.e
    rw [if_pos ho, if_neg]
    rw [← hpl]; omega
  · rw [hR]
    refine ⟨i, hi1, ?_⟩
    have : v.pl.getD i (0, 0) = v.pw c := by rw [← hi2]; simp [List.getD, ← hpl, hi1]
    unfold lo hi
    rw [this]; exact hw
  · rw [hR]
    intro i hi'
    obtain ⟨k, e, h3⟩ := mem i hi'
    unfold lo hi
    rw [e]
    have h4 : v.a ≤ (v.pw k).1 ∧ (v.pw k).2 ≤ v.b := v.win_b _
    have h5 := v.win_hi ho (v.d + ((k : Int) - 1) * 1296000)
    have h6 := v.win_lo ho (v.d + ((k : Int) - 1) * 1296000)
    refine ⟨h4.1, h4.2, h3, ?_⟩
    show ((v.win (v.d + ((k : Int) - 1) * 1296000)).2 - (v.win (v.d + ((k : Int) - 1) * 1296000)).1) * v.t ≤ 4 * v.w
    rw [Int.sub_mul]
    omega
  · rw [hR]
    intro i hi'
    have hp := acc_gap (w := v.pw) (fun i j hij => by
      have := v.gap ho (v.d + ((i : Int) - 1) * 1296000) (v.d + ((j : Int) - 1) * 1296000) (by omega)
      show (v.win _).2 + 1 < (v.win _).1
      omega) (v.t + 2).toNat
    have := List.pairwise_iff_getElem.1 hp i (i + 1) (by rw [hpl]; omega) (by rw [hpl]; omega) (by omega)
    unfold lo hi
    simp only [List.getD, hpl] at this ⊢
    rw [List.getElem?_eq_getElem (by omega), List.getElem?_eq_getElem (by omega)]
    exact this
/-- The same in all, whatever the first reading was. -/
theorem Rp.same {v u : Rp} (hv : v.ok) (hu : u.ok) (hd : v.d = u.d) (ht : v.t = u.t) (ha : v.a = u.a) (hb : v.b = u.b) (hw : v.w = u.w) : v.R = u.R ∧ v.e = u.e := by
  have : v.pl = u.pl := by
    have e : v.pw = u.pw := by
      funext c
      unfold Rp.pw Rp.win
      rw [hd, ht, ha, hb, hw]
    unfold Rp.pl
    rw [e, ht]
  unfold Rp.R Rp.e
  rw [if_pos hv, if_pos hu, if_pos hv, if_pos hu, this]
  exact ⟨rfl, rfl⟩
def C6 : PC := fun args K => ∃ (f l t a b w angle o0 o1 : Int), args = [.agg [.int .i64 f, .int .i64 l, .int .i64 t, .int .i64 a, .int .i64 b, .int .i64 w], .int .i64 angle, .agg [.int .i64 o0, .int .i64 o1]] ∧ K (.lit (.bool true))
set_option maxHeartbeats 2000000 in
theorem p6 (p19 : PureOk Try.prog 19 (fcC F19)) (q19 : Known Try.prog 19) : PureOk Try.prog 6 C6 := by
  refine pure_of (T := [(14, .fc F14), (16, .pc C16), (33, .fc Fmod), (34, .fc Fto), (35, .fc Fhol), (19, .fc F19)]) ⟨⟨p14', q14⟩, ⟨p16, q16⟩, ⟨p33, q33⟩, ⟨p34, q34⟩, ⟨p35, q35⟩, ⟨p19, q19⟩, trivial⟩ Try.func6 k6 ?_
  rintro args K ⟨f, l, t, a, b, w, angle, o0, o1, rfl, hK⟩
  have hF : 0 ≤ f % 1296000 ∧ f % 1296000 ≤ 1295999 := by omega
  have hT : 1 ≤ 1 + t % 100 ∧ 1 + t % 100 ≤ 100 := by omega
  have hA : 0 ≤ angle % 1296000 ∧ angle % 1296000 ≤ 1295999 := by omega
  have hW : 0 ≤ w % 10001 ∧ w % 10001 ≤ 10000 := by omega
  have hO : 0 ≤ o0 % (4 * (w % 10001) + 1) ∧ o0 % (4 * (w % 10001) + 1) ≤ 4 * (w % 10001) := by
    have h1 := Int.emod_nonneg o0 (show 4 * (w % 10001) + 1 ≠ 0 by omega)
    have h2 := Int.emod_lt_of_pos o0 (show 0 < 4 * (w % 10001) + 1 by omega)
    omega
  have ha : 0 ≤ a % 400000 ∧ a % 400000 < 400000 := by omega
  have hb : 0 ≤ b % 400000 ∧ b % 400000 < 400000 := by omega
  have hO1 : 0 ≤ o1 % 1296000 ∧ o1 % 1296000 ≤ 1295999 := by omega
  simp only [inr64, ↓reduceIte, ne_eq, e_reg, and_self, e_drw, e_seq, e_cond, e_ret, o_nil, o_cons, gd_none, gd_some, gdK_tf, gdK_ff, gdK_bf, putK_e, runK_e, skipK_e, vK_e, boxK_e, bldK_e, storeK3_e, storeK2_e, storeK_e, conK_e, callK_e, evh_v, evh_box, evh_bld, evh_store, evh_call, dX_e, dG_t, d_nil, d_cons, creK_e, tlK_n, tlK_s, evc_e, seqK_n, seqK_r, condK_t, ends_r, endK1_e, endK2_e, gam_e, gamK_f, gamK_p, gamq_e, gamqK_f, pc_e, pcK_e, fcC_e, fcK_e, evp, bin, gt, gq, st, putf, X.get, gets, getp, ap, mkfr, rep, rdR, tupled, clV, clL, clS, clo, clo.clos, ld, lda, tk, dr, sp, sp.spl, lay, ll, cs1, one, allOne, gb, sb, pb, ln, lk, evq, gdl, crv, Value.oneCell', undef, Bool.and_true, Bool.not_true, Bool.not_false, Nat.reduceSub, Nat.reduceAdd, Nat.reduceMul, Nat.reduceBEq, beq_self_eq_true, true_and, decide_eq_true_eq, decide_eq_false_iff_not, Bool.not_eq_eq_eq_not, s6, r6, Fmod, Fto, F14, mx_eq, mn_eq, gq, Int.reduceToNat]
  generalize f % 1296000 = F at hF ⊢
  generalize 1 + t % 100 = T at hT ⊢
  generalize angle % 1296000 = A at hA ⊢
  generalize o0 % (4 * (w % 10001) + 1) = O at hO ⊢
  generalize w % 10001 = W at hW hO ⊢
  generalize o1 % 1296000 = G at hO1 ⊢
  generalize a % 400000 = aa at ha ⊢
  generalize b % 400000 = bb at hb ⊢
  have hTA : 0 ≤ T * A ∧ T * A ≤ 129599900 := by
    have h1 := Int.mul_nonneg (show 0 ≤ T by omega) hA.1
    have h2 := Int.mul_le_mul hT.2 hA.2 hA.1 (show (0 : Int) ≤ 100 by omega)
    omega
  have hL : 0 ≤ (F + T * A + O - 2 * W) % 1296000 ∧ (F + T * A + O - 2 * W) % 1296000 ≤ 1295999 := by omega
  have hra : 0 ≤ max 0 (A - aa) ∧ max 0 (A - aa) ≤ A := by omega
  have hrb : A ≤ min 1295999 (A + bb) ∧ min 1295999 (A + bb) ≤ 1295999 := by omega
  have hD : ((F + T * A + O - 2 * W) % 1296000 - F) % 1296000 = (T * A + O - 2 * W) % 1296000 := by omega
  rw [hD]
  generalize hLe : (F + T * A + O - 2 * W) % 1296000 = L at hL hD ⊢
  have hDB : 0 ≤ (T * A + O - 2 * W) % 1296000 ∧ (T * A + O - 2 * W) % 1296000 ≤ 1295999 := by omega
  have hk : -1 ≤ (T * A + O - 2 * W) / 1296000 ∧ (T * A + O - 2 * W) / 1296000 ≤ T ∧ (T * A + O - 2 * W) % 1296000 + 1296000 * ((T * A + O - 2 * W) / 1296000) = T * A + O - 2 * W := by
    have h1 : T * A ≤ T * 1295999 := Int.mul_le_mul_of_nonneg_left hA.2 (by omega)
    omega
  generalize (T * A + O - 2 * W) / 1296000 = k at hk
  generalize (T * A + O - 2 * W) % 1296000 = D at hD hDB hk ⊢
  have hG : (G + D).tmod 1296000 = (G + D) % 1296000 := Int.tmod_eq_emod_of_nonneg (by omega)
  rw [hG]
  have hG2 : 0 ≤ (G + D) % 1296000 ∧ (G + D) % 1296000 ≤ 1295999 := by omega
  have hG3 : ((G + D) % 1296000 - G) % 1296000 = D := by omega
  generalize (G + D) % 1296000 = L2 at hG2 hG3 ⊢
  generalize max 0 (A - aa) = ra at hra ⊢
  generalize min 1295999 (A + bb) = rb at hrb ⊢
  generalize hv : (⟨F, L, T, ra, rb, W⟩ : Rp) = v
  generalize hu : (⟨G, L2, T, ra, rb, W⟩ : Rp) = u
  have hvo : v.ok := by subst hv; unfold Rp.ok; simp only; omega
  have huo : u.ok := by subst hu; unfold Rp.ok; simp only; omega
  have hvd : v.d = D := by subst hv; exact hD
  have hud : u.d = D := by subst hu; exact hG3
  have hvt : v.t = T ∧ v.a = ra ∧ v.b = rb ∧ v.w = W := by subst hv; exact ⟨rfl, rfl, rfl, rfl⟩
  have hut : u.t = T ∧ u.a = ra ∧ u.b = rb ∧ u.w = W := by subst hu; exact ⟨rfl, rfl, rfl, rfl⟩
  have hf : RpF v A := Rp.facts hvo (by omega) ⟨(k + 1).toNat, by omega, by rw [hvd, hvt.1, hvt.2.2.2, Int.mul_comm A T]; omega, by rw [hvd, hvt.1, hvt.2.2.2, Int.mul_comm A T]; omega⟩
  obtain ⟨hs1, hs2⟩ := Rp.same huo hvo (by rw [hud, hvd]) (by rw [hvt.1, hut.1]) (by rw [hvt.2.1, hut.2.1]) (by rw [hvt.2.2.1, hut.2.2.1]) (by rw [hvt.2.2.2, hut.2.2.2])
  rw [hs1, hs2, hf.e]
  refine ⟨by omega, by omega, by omega, by omega, by omega, by omega, by omega, by omega, by omega, by omega, by omega, by omega, by omega, by omega, by omega, by omega, by omega, by omega, by omega, by omega, by omega, by omega, by omega, by omega, by omega, ⟨fun _ => ⟨fun _ => ⟨v.R, v.R, rfl, v.Rlen, v.RB, v.RB, ?_⟩, fun h => absurd rfl h⟩, fun h => absurd rfl h⟩⟩
  simp only [not_true_eq_false, e_skip, e_reg, e_seq, e_cond, e_block, e_loop, e_ret, o_nil, o_cons, gd_none, putK_e, runK_e, vK_e, evh_v, seqK_n, seqK_r, condK_b, ends_r, endK1_e, endK2_e, evp, gt, st, putf, X.get, rdR, tupled, clV, clS, clo, Bool.not_true, Bool.not_false, true_and, decide_eq_true_eq, decide_eq_false_iff_not, Bool.not_eq_eq_eq_not]
  refine ⟨fun h => h.elim, fun _ => ?_⟩
  have hlen := v.Rlen
  refine loop_at2 (G := Nat × Bool) (fun g => [(18, .int .i64 g.1), (17, .bool g.2)]) (fun g => [.box 25 [.int .i64 f, .int .i64 l, .int .i64 t, .int .i64 a, .int .i64 b, .int .i64 w], .box 56 [.int .i64 o0, .int .i64 o1], .box 23 [.int .i64 ra, .int .i64 rb]])
      (fun g => g.1 ≤ v.R.length ∧ (g.2 = true ↔ ∃ j, j < g.1 ∧ lo v.R j ≤ A ∧ A ≤ hi v.R j)) (fun g => v.R.length - g.1) (0, false) ⟨Nat.zero_le _, by simp⟩ ?_
  (intro fr1 hf1; simp only [forget, dstC, dstO, dstD, dst1, st] at hf1; subst hf1)
  refine ⟨?_, ?_⟩
  · refine Lw_re 3 [] (Nat.zero_le _) (by simp [ln]) (by simp [ln]) rfl ?_ ?_
    · simp only [reL, reX, inb, inb.inbs, ln, sts, st, Bool.and_self, Nat.reduceLT, Nat.reduceAdd, decide_true, and_self, Int.natCast_zero, implies_true]
    · simp only [reL, reX, reH, reB, reN, inb, and_self]
  · rintro ⟨i, d⟩ ⟨hi1, hp⟩
    dsimp only at hi1 hp
    by_cases hlt : i < v.R.length
    · obtain ⟨b1, b2, b3, b4⟩ := hf.b i hlt
      rw [hvt.2.1] at b1
      rw [hvt.2.2.1] at b2
      rw [hvt.1, hvt.2.2.2] at b4
      have bd := v.RB i
      have bd2 := v.RB (i - 1)
      have n0 : ((i : Int) < (v.R.length : Int)) = True := by simp; omega
      have n1 : (lo v.R i < ra) = False := by simp; omega
      have n2 : (rb < hi v.R i) = False := by simp; omega
      have n3 : (hi v.R i < lo v.R i) = False := by simp; omega
      have n4 : (4 * W < (hi v.R i - lo v.R i) * T) = False := by simp; omega
      have n8 : 0 ≤ (hi v.R i - lo v.R i) * T := Int.mul_nonneg (by omega) (by omega)
      rcases d with _ | _
      · by_cases hi0 : i = 0
        · have n5 : (0 < (i : Int)) = False := by simp; omega
          simp only [dX_bf, gdK_bff, condK_bt, decide_true, decide_false, inr64, e_skip, e_reg, e_drw, e_seq, e_cond, e_block, o_nil, o_cons, gd_none, gd_some, gdK_ft, gdK_ff, putK_e, runK_e, skipK_e, vK_e, conK_e, callK_e, evh_v, evh_call, dX_e, dG_t, dG_f, d_nil, d_cons, tlK_n, loopK_n, seqK_n, condK_f, blockK_n, gam_e, gamK_f, pc_e, pcK_e, fcC_e, fcK_e, evp, bin, gt, gq, st, putf, X.get, gets, ap, clV, clL, clS, clo, ld, lda, lens, ixs, tk, dr, gb, lk, evq, gdl, undef, Bool.not_true, Bool.not_false, Nat.reduceAdd, Nat.reduceBEq, beq_self_eq_true, true_and, and_true, sts, rowsS, Int.toNat_natCast, Fhol, n0, n1, n2, n3, n4, n5]
          repeat refine And.intro (by omega) ?_
          refine Nx.mk (i + 1, decide (lo v.R i ≤ A ∧ A ≤ hi v.R i)) ⟨by simp only; omega, ?_⟩ (by simp only; omega) (Lw_re 3 [] (Nat.zero_le _) (by simp [ln]) (by simp [ln]) rfl ?_ ?_)
          · simp only [decide_eq_true_eq]; exact ⟨fun h => ⟨i, by omega, h⟩, fun ⟨j, h1, h2⟩ => by
              by_cases hj : j = i
              · subst hj; exact h2
              · exact absurd (hp.2 ⟨j, by omega, h2⟩) (by simp)⟩
          · simp only [reL, reX, inb, inb.inbs, Bool.and_self, Nat.reduceLT, decide_true, and_self, Int.natCast_add, Int.natCast_one, implies_true]
          · simp only [reL, reX, reH, reB, reN, inb, and_self]
        · have n5 : (0 < (i : Int)) = True := by simp; omega
          have n6 : ((i : Int) - 1).toNat = i - 1 := by omega
          have n7 : (lo v.R i ≤ hi v.R (i - 1) + 1) = False := by
            have := hf.gap (i - 1) (by omega)
            rw [show i - 1 + 1 = i by omega] at this
            simp; omega
          simp only [dX_bt, dX_bf, gdK_bff, condK_bt, condK_bf, decide_true, decide_false, inr64, e_skip, e_reg, e_drw, e_seq, e_cond, e_block, o_nil, o_cons, gd_none, gd_some, gdK_tt, gdK_ff, putK_e, runK_e, vK_e, conK_e, callK_e, evh_v, evh_call, dX_e, dG_t, d_nil, d_cons, tlK_n, loopK_n, seqK_n, blockK_n, gam_e, gamK_f, pc_e, pcK_e, fcC_e, fcK_e, evp, bin, gt, gq, st, putf, X.get, gets, ap, clV, clL, clS, clo, ld, lda, lens, ixs, tk, dr, gb, lk, evq, gdl, Bool.not_true, Bool.not_false, Nat.reduceAdd, Nat.reduceBEq, beq_self_eq_true, true_and, and_true, sts, rowsS, Int.toNat_natCast, Fhol, n0, n1, n2, n3, n4, n5, n6, n7]
          repeat refine And.intro (by omega) ?_
          refine Nx.mk (i + 1, decide (lo v.R i ≤ A ∧ A ≤ hi v.R i)) ⟨by simp only; omega, ?_⟩ (by simp only; omega) (Lw_re 3 [] (Nat.zero_le _) (by simp [ln]) (by simp [ln]) rfl ?_ ?_)
          · simp only [decide_eq_true_eq]; exact ⟨fun h => ⟨i, by omega, h⟩, fun ⟨j, h1, h2⟩ => by
              by_cases hj : j = i
              · subst hj; exact h2
              · exact absurd (hp.2 ⟨j, by omega, h2⟩) (by simp)⟩
          · simp only [reL, reX, inb, inb.inbs, Bool.and_self, Nat.reduceLT, decide_true, and_self, Int.natCast_add, Int.natCast_one, implies_true]
          · simp only [reL, reX, reH, reB, reN, inb, and_self]
      · by_cases hi0 : i = 0
        · have n5 : (0 < (i : Int)) = False := by simp; omega
          simp only [dX_bf, gdK_bft, condK_bt, decide_true, decide_false, inr64, e_skip, e_reg, e_drw, e_seq, e_cond, e_block, o_nil, o_cons, gd_none, gd_some, gdK_tf, gdK_ft, gdK_ff, putK_e, runK_e, skipK_e, vK_e, evh_v, dX_e, dG_t, dG_f, d_nil, d_cons, tlK_n, loopK_n, seqK_n, condK_f, blockK_n, evp, bin, gt, gq, st, putf, X.get, ld, lda, lens, ixs, gb, evq, gdl, undef, Bool.not_true, Bool.not_false, Nat.reduceAdd, true_and, and_true, sts, rowsS, Int.toNat_natCast, n0, n1, n2, n3, n4, n5]
          repeat refine And.intro (by omega) ?_
          refine Nx.mk (i + 1, true) ⟨by simp only; omega, ?_⟩ (by simp only; omega) (Lw_re 3 [] (Nat.zero_le _) (by simp [ln]) (by simp [ln]) rfl ?_ ?_)
          · simp only [true_iff]; obtain ⟨j, h1, h2⟩ := hp.1 rfl; exact ⟨j, by omega, h2⟩
          · simp only [reL, reX, inb, inb.inbs, Bool.and_self, Nat.reduceLT, decide_true, and_self, Int.natCast_add, Int.natCast_one, implies_true]
          · simp only [reL, reX, reH, reB, reN, inb, and_self]
        · have n5 : (0 < (i : Int)) = True := by simp; omega
          have n6 : ((i : Int) - 1).toNat = i - 1 := by omega
          have n7 : (lo v.R i ≤ hi v.R (i - 1) + 1) = False := by
            have := hf.gap (i - 1) (by omega)
            rw [show i - 1 + 1 = i by omega] at this
            simp; omega
          simp only [dX_bt, dX_bf, gdK_bft, condK_bt, condK_bf, decide_true, decide_false, inr64, e_skip, e_reg, e_drw, e_seq, e_cond, e_block, o_nil, o_cons, gd_none, gd_some, gdK_tt, gdK_tf, gdK_ff, putK_e, runK_e, skipK_e, vK_e, evh_v, dX_e, dG_t, d_nil, d_cons, tlK_n, loopK_n, seqK_n, blockK_n, evp, bin, gt, gq, st, putf, X.get, ld, lda, lens, ixs, gb, evq, gdl, undef, Bool.not_true, Bool.not_false, Nat.reduceAdd, true_and, and_true, sts, rowsS, Int.toNat_natCast, n0, n1, n2, n3, n4, n5, n6, n7]
          repeat refine And.intro (by omega) ?_
          refine Nx.mk (i + 1, true) ⟨by simp only; omega, ?_⟩ (by simp only; omega) (Lw_re 3 [] (Nat.zero_le _) (by simp [ln]) (by simp [ln]) rfl ?_ ?_)
          · simp only [true_iff]; obtain ⟨j, h1, h2⟩ := hp.1 rfl; exact ⟨j, by omega, h2⟩
          · simp only [reL, reX, inb, inb.inbs, Bool.and_self, Nat.reduceLT, decide_true, and_self, Int.natCast_add, Int.natCast_one, implies_true]
          · simp only [reL, reX, reH, reB, reN, inb, and_self]
    · have n0 : ((i : Int) < (v.R.length : Int)) = False := by simp; omega
      obtain ⟨j, j1, j2⟩ := hf.in_
      have hd : d = true := hp.2 ⟨j, by omega, j2⟩
      subst hd
      simp only [gdK_btt, condK_bf, decide_true, decide_false, e_reg, e_seq, e_cond, e_exit, e_ret, o_nil, o_cons, gd_none, gd_some, putK_e, runK_e, vK_e, conK_e, callK_e, evh_v, evh_call, loopK_x, seqK_n, seqK_x, exitK_t, blockK_x, ends_r, endK1_e, endK2_e, gam_e, gamK_f, pc_e, pcK_e, fcC_e, fcK_e, evp, bin, gt, st, putf, X.get, gets, ap, rdR, tupled, clV, clL, clS, clo, lens, lk, Bool.not_true, Nat.reduceBEq, beq_self_eq_true, true_and, sts, n0, F19]
      exact res hK (by simp [leR])
end Go.Proofs.Ytgfoakilompbdaa
