/- Rounds: the repetition, what the program and the specification return for all arguments. -/
import Derived.Test.YtgfoakilompbdaaVgF2
namespace Go.Proofs.Ytgfoakilompbdaa
open Go Go.Vg
set_option linter.unusedSimpArgs false
set_option linter.unusedVariables false
set_option maxRecDepth 10000
/- 46: (octant/rounds.repetition).valid -/
def s46 : SC :=
  (.seq (.reg [⟨(some 1), none, .box 82 (.t 0)⟩,
    ⟨(some 2), none, .v (.mov (.c (.lit (.bool false))))⟩])
  (.seq (.reg [⟨(some 3), none, .v (.off (.t 1) 0)⟩,
    ⟨(some 4), none, .v (.off (.t 3) 0)⟩,
    ⟨(some 5), none, .v (.load (.t 4) none)⟩,
    ⟨(some 6), none, .call (.c (.fn 70 [])) [(.t 5)]⟩,
    ⟨(some 7), none, .v (.mov (.t 6))⟩,
    ⟨(some 8), (some (7, true)), .v (.off (.t 1) 0)⟩,
    ⟨(some 9), (some (7, true)), .v (.off (.t 8) 1)⟩,
    ⟨(some 10), (some (7, true)), .v (.load (.t 9) none)⟩,
    ⟨(some 11), (some (7, true)), .call (.c (.fn 70 [])) [(.t 10)]⟩,
    ⟨(some 12), none, .v (.pick (.t 7) (.t 11) (.c (.lit (.bool false))))⟩,
    ⟨(some 13), none, .v (.mov (.t 12))⟩,
    ⟨(some 14), (some (13, true)), .v (.off (.t 1) 0)⟩,
    ⟨(some 15), (some (13, true)), .v (.off (.t 14) 2)⟩,
    ⟨(some 16), (some (13, true)), .v (.load (.t 15) none)⟩,
    ⟨(some 17), (some (13, true)), .call (.c (.fn 71 [])) [(.t 16), (.c (.int .i64 (1))), (.c (.int .i64 (100)))]⟩,
    ⟨(some 18), none, .v (.pick (.t 13) (.t 17) (.c (.lit (.bool false))))⟩,
    ⟨(some 19), none, .v (.mov (.t 18))⟩,
    ⟨(some 20), (some (19, true)), .v (.off (.t 1) 0)⟩,
    ⟨(some 21), (some (19, true)), .v (.off (.t 20) 3)⟩,
    ⟨(some 22), (some (19, true)), .v (.load (.t 21) (some 2))⟩,
    ⟨(some 23), (some (19, true)), .call (.c (.fn 72 [])) [(.t 22), (.c (.int .i64 (0))), (.c (.int .i64 (1295999)))]⟩,
    ⟨(some 24), none, .v (.pick (.t 19) (.t 23) (.c (.lit (.bool false))))⟩,
    ⟨(some 25), none, .v (.mov (.t 24))⟩,
    ⟨(some 26), (some (25, true)), .v (.off (.t 1) 0)⟩,
    ⟨(some 27), (some (25, true)), .v (.off (.t 26) 5)⟩,
    ⟨(some 28), (some (25, true)), .v (.load (.t 27) none)⟩,
    ⟨(some 29), (some (25, true)), .call (.c (.fn 71 [])) [(.t 28), (.c (.int .i64 (0))), (.c (.int .i64 (10000)))]⟩,
    ⟨(some 30), none, .v (.pick (.t 25) (.t 29) (.c (.lit (.bool false))))⟩,
    ⟨(some 2), none, .v (.mov (.t 30))⟩])
  .ret))
def r46 : List RV := [.t 2]
def n46 : Nat := 31
theorem k46 : (Try.f46.body.bind (cC Try.prog), cR Try.prog Try.f46.results.toList, Try.f46.ntmps) = (some s46, some r46, 31) := by kernel_rfl
theorem q46 : Known Try.prog 46 := ⟨_, Try.func46, by decide, by simp [Try.f46]⟩

/- 47: (octant/rounds.repetition).angles -/
def s47 : SC :=
  (.seq (.reg [⟨(some 1), none, .box 82 (.t 0)⟩,
    ⟨(some 2), none, .v (.mov (.c (.lit (.slice none 0 0))))⟩])
  (.seq (.reg [⟨(some 3), none, .v (.mov (.c (.lit (.slice none 0 0))))⟩])
  (.seq (.reg [⟨(some 8), none, .v (.off (.t 1) 0)⟩,
    ⟨(some 9), none, .v (.off (.t 8) 1)⟩,
    ⟨(some 10), none, .v (.load (.t 9) none)⟩,
    ⟨(some 11), none, .v (.off (.t 1) 0)⟩,
    ⟨(some 12), none, .v (.off (.t 11) 0)⟩,
    ⟨(some 13), none, .v (.load (.t 12) none)⟩,
    ⟨(some 14), none, .v (.bin .sub (.t 10) (.t 13))⟩,
    ⟨(some 15), none, .call (.c (.fn 73 [])) [(.t 14)]⟩,
    ⟨(some 4), none, .v (.mov (.t 15))⟩])
  (.seq (.seq (.reg [⟨(some 16), none, .v (.off (.t 1) 0)⟩,
    ⟨(some 17), none, .v (.off (.t 16) 2)⟩,
    ⟨(some 18), none, .v (.load (.t 17) none)⟩,
    ⟨(some 19), none, .v (.bin .add (.t 18) (.c (.int .i64 (2))))⟩,
    ⟨(some 20), none, .v (.mov (.c (.int .i64 (0))))⟩])
  (.block 0 (.loop
    (.seq (.reg [⟨(some 21), none, .v (.bin .lss (.t 20) (.t 19))⟩])
    (.seq (.cond (.t 21)
      .skip
      (.exit 0))
    (.seq (.block 1 (.seq (.reg [⟨(some 22), none, .v (.mov (.t 20))⟩,
      ⟨(some 5), none, .v (.mov (.t 22))⟩])
    (.seq (.reg [⟨(some 23), none, .v (.mov (.t 4))⟩,
      ⟨(some 24), none, .v (.mov (.t 5))⟩,
      ⟨(some 25), none, .v (.bin .sub (.t 24) (.c (.int .i64 (1))))⟩,
      ⟨(some 26), none, .v (.bin .mul (.t 25) (.c (.int .i64 (1296000))))⟩,
      ⟨(some 27), none, .v (.bin .add (.t 23) (.t 26))⟩,
      ⟨(some 6), none, .v (.mov (.t 27))⟩])
    (.seq (.drw [(0, ⟨(some 28), none, .v (.off (.t 1) 0)⟩, false),
      (1, ⟨(some 29), none, .v (.off (.t 28) 3)⟩, false),
      (2, ⟨(some 30), none, .v (.load (.t 29) (some 2))⟩, false),
      (3, ⟨(some 31), none, .v (.mov (.t 6))⟩, false),
      (4, ⟨(some 32), none, .v (.off (.t 1) 0)⟩, false),
      (5, ⟨(some 33), none, .v (.off (.t 32) 5)⟩, false),
      (6, ⟨(some 34), none, .v (.load (.t 33) none)⟩, false),
      (7, ⟨(some 35), none, .v (.bin .mul (.c (.int .i64 (2))) (.t 34))⟩, false),
      (8, ⟨(some 36), none, .v (.bin .sub (.t 31) (.t 35))⟩, false),
      (9, ⟨(some 37), none, .v (.off (.t 1) 0)⟩, false),
      (10, ⟨(some 38), none, .v (.off (.t 37) 2)⟩, false),
      (11, ⟨(some 39), none, .v (.load (.t 38) none)⟩, false),
      (12, ⟨(some 40), none, .call (.c (.fn 75 [])) [(.t 36), (.t 39)]⟩, false),
      (13, ⟨(some 41), none, .v (.mov (.t 6))⟩, false),
      (14, ⟨(some 42), none, .v (.off (.t 1) 0)⟩, false),
      (15, ⟨(some 43), none, .v (.off (.t 42) 5)⟩, false),
      (16, ⟨(some 44), none, .v (.load (.t 43) none)⟩, false),
      (17, ⟨(some 45), none, .v (.bin .mul (.c (.int .i64 (2))) (.t 44))⟩, false),
      (18, ⟨(some 46), none, .v (.bin .add (.t 41) (.t 45))⟩, false),
      (19, ⟨(some 47), none, .v (.off (.t 1) 0)⟩, false),
      (20, ⟨(some 48), none, .v (.off (.t 47) 2)⟩, false),
      (21, ⟨(some 49), none, .v (.load (.t 48) none)⟩, false),
      (22, ⟨(some 50), none, .call (.c (.fn 76 [])) [(.t 46), (.t 49)]⟩, false),
      (23, ⟨(some 51), none, .bld [(.int .i64 (0)), (.int .i64 (0))] [(0, 1, (.t 40)), (1, 1, (.t 50))]⟩, false),
      (24, ⟨(some 52), none, .call (.c (.fn 74 [])) [(.t 30), (.t 51)]⟩, false)]
      (some ⟨(some 7), none, .new 23 [(.int .i64 (0)), (.int .i64 (0))]⟩)
      [⟨none, none, .store 2 (.t 7) (.t 52)⟩])
    (.seq (.drw [(0, ⟨(some 53), none, .v (.load (.t 7) (some 2))⟩, false),
      (1, ⟨(some 54), none, .call (.c (.fn 54 [])) []⟩, false)]
      none
      [⟨(some 55), none, .v (.eqs [(some .i64), (some .i64)] true (.t 53) (.t 54))⟩])
    (.cond (.t 55)
      (.reg [⟨(some 56), none, .v (.mov (.t 3))⟩,
        ⟨(some 57), none, .v (.load (.t 7) (some 2))⟩,
        ⟨(some 58), none, .bsl 23 1 [(.int .i64 (0)), (.int .i64 (0))] [(0, 2, (.t 57))]⟩,
        ⟨(some 59), none, .app 23 2 16 (.t 56) (.t 58)⟩,
        ⟨(some 3), none, .v (.mov (.t 59))⟩])
      .skip))))))
    (.reg [⟨(some 60), none, .v (.bin .add (.t 20) (.c (.int .i64 (1))))⟩,
      ⟨(some 20), none, .v (.mov (.t 60))⟩])))))))
  (.seq (.reg [⟨(some 61), none, .v (.mov (.t 3))⟩,
    ⟨(some 2), none, .v (.mov (.t 61))⟩])
  .ret)))))
def r47 : List RV := [.t 2]
def n47 : Nat := 62
theorem k47 : (Try.f47.body.bind (cC Try.prog), cR Try.prog Try.f47.results.toList, Try.f47.ntmps) = (some s47, some r47, 62) := by kernel_rfl
theorem q47 : Known Try.prog 47 := ⟨_, Try.func47, by decide, by simp [Try.f47]⟩

/- 14: octant/rounds.Repeat -/
def s14 : SC :=
  (.seq (.reg [⟨(some 1), none, .box 25 (.t 0)⟩,
    ⟨(some 2), none, .v (.mov (.c (.lit (.slice none 0 0))))⟩,
    ⟨(some 3), none, .v (.mov (.c (.int .i64 (0))))⟩])
  (.seq (.reg [⟨(some 6), none, .v (.load (.t 1) (some 6))⟩,
    ⟨(some 7), none, .bld [(.int .i64 (0)), (.int .i64 (0)), (.int .i64 (0)), (.int .i64 (0)), (.int .i64 (0)), (.int .i64 (0))] [(0, 6, (.t 6))]⟩,
    ⟨(some 4), none, .new 82 [(.int .i64 (0)), (.int .i64 (0)), (.int .i64 (0)), (.int .i64 (0)), (.int .i64 (0)), (.int .i64 (0))]⟩,
    ⟨none, none, .store 6 (.t 4) (.t 7)⟩])
  (.seq (.seq (.reg [⟨(some 8), none, .v (.load (.t 4) (some 6))⟩,
    ⟨(some 9), none, .call (.c (.fn 46 [])) [(.t 8)]⟩,
    ⟨(some 10), none, .v (.not (.t 9))⟩])
  (.cond (.t 10)
    (.seq (.reg [⟨(some 2), none, .v (.mov (.c (.lit (.slice none 0 0))))⟩,
      ⟨(some 3), none, .v (.mov (.c (.int .i64 (62))))⟩])
    .ret)
    .skip))
  (.seq (.reg [⟨(some 11), none, .v (.load (.t 4) (some 6))⟩,
    ⟨(some 12), none, .call (.c (.fn 47 [])) [(.t 11)]⟩,
    ⟨(some 5), none, .v (.mov (.t 12))⟩])
  (.seq (.seq (.reg [⟨(some 13), none, .v (.mov (.t 5))⟩,
    ⟨(some 14), none, .v (.len (.t 13))⟩,
    ⟨(some 15), none, .v (.bin .eql (.t 14) (.c (.int .i64 (0))))⟩])
  (.cond (.t 15)
    (.seq (.reg [⟨(some 2), none, .v (.mov (.c (.lit (.slice none 0 0))))⟩,
      ⟨(some 3), none, .v (.mov (.c (.int .i64 (4))))⟩])
    .ret)
    .skip))
  (.seq (.reg [⟨(some 16), none, .v (.mov (.t 5))⟩,
    ⟨(some 2), none, .v (.mov (.t 16))⟩,
    ⟨(some 3), none, .v (.mov (.c (.int .i64 (0))))⟩])
  .ret))))))
def r14 : List RV := [.t 2, .t 3]
def n14 : Nat := 17
theorem k14 : (Try.f14.body.bind (cC Try.prog), cR Try.prog Try.f14.results.toList, Try.f14.ntmps) = (some s14, some r14, 17) := by kernel_rfl
theorem q14 : Known Try.prog 14 := ⟨_, Try.func14, by decide, by simp [Try.f14]⟩

/- 15: octant/octantref06.Repeat -/
def s15 : SC :=
  (.seq (.reg [⟨(some 1), none, .box 25 (.t 0)⟩,
    ⟨(some 2), none, .v (.mov (.c (.lit (.slice none 0 0))))⟩,
    ⟨(some 3), none, .v (.mov (.c (.int .i64 (0))))⟩])
  (.seq (.seq (.reg [⟨(some 9), none, .v (.off (.t 1) 0)⟩,
    ⟨(some 10), none, .v (.load (.t 9) none)⟩,
    ⟨(some 11), none, .call (.c (.fn 48 [])) [(.t 10), (.c (.int .i64 (0))), (.c (.int .i64 (1295999)))]⟩,
    ⟨(some 12), none, .v (.not (.t 11))⟩,
    ⟨(some 13), none, .v (.mov (.t 12))⟩,
    ⟨(some 14), (some (13, false)), .v (.off (.t 1) 1)⟩,
    ⟨(some 15), (some (13, false)), .v (.load (.t 14) none)⟩,
    ⟨(some 16), (some (13, false)), .call (.c (.fn 48 [])) [(.t 15), (.c (.int .i64 (0))), (.c (.int .i64 (1295999)))]⟩,
    ⟨(some 17), (some (13, false)), .v (.not (.t 16))⟩,
    ⟨(some 18), none, .v (.pick (.t 13) (.c (.lit (.bool true))) (.t 17))⟩,
    ⟨(some 19), none, .v (.mov (.t 18))⟩,
    ⟨(some 20), (some (19, false)), .v (.off (.t 1) 2)⟩,
    ⟨(some 21), (some (19, false)), .v (.load (.t 20) none)⟩,
    ⟨(some 22), (some (19, false)), .call (.c (.fn 48 [])) [(.t 21), (.c (.int .i64 (1))), (.c (.int .i64 (100)))]⟩,
    ⟨(some 23), (some (19, false)), .v (.not (.t 22))⟩,
    ⟨(some 24), none, .v (.pick (.t 19) (.c (.lit (.bool true))) (.t 23))⟩,
    ⟨(some 25), none, .v (.mov (.t 24))⟩,
    ⟨(some 26), (some (25, false)), .v (.off (.t 1) 3)⟩,
    ⟨(some 27), (some (25, false)), .v (.load (.t 26) (some 2))⟩,
    ⟨(some 28), (some (25, false)), .call (.c (.fn 49 [])) [(.t 27), (.c (.int .i64 (0))), (.c (.int .i64 (1295999)))]⟩,
    ⟨(some 29), (some (25, false)), .v (.not (.t 28))⟩,
    ⟨(some 30), none, .v (.pick (.t 25) (.c (.lit (.bool true))) (.t 29))⟩,
    ⟨(some 31), none, .v (.mov (.t 30))⟩,
    ⟨(some 32), (some (31, false)), .v (.off (.t 1) 5)⟩,
    ⟨(some 33), (some (31, false)), .v (.load (.t 32) none)⟩,
    ⟨(some 34), (some (31, false)), .call (.c (.fn 48 [])) [(.t 33), (.c (.int .i64 (0))), (.c (.int .i64 (10000)))]⟩,
    ⟨(some 35), (some (31, false)), .v (.not (.t 34))⟩,
    ⟨(some 36), none, .v (.pick (.t 31) (.c (.lit (.bool true))) (.t 35))⟩])
  (.cond (.t 36)
    (.seq (.reg [⟨(some 2), none, .v (.mov (.c (.lit (.slice none 0 0))))⟩,
      ⟨(some 3), none, .v (.mov (.c (.int .i64 (62))))⟩])
    .ret)
    .skip))
  (.seq (.reg [⟨(some 4), none, .v (.mov (.c (.lit (.slice none 0 0))))⟩])
  (.seq (.seq (.reg [⟨(some 5), none, .v (.mov (.c (.int .i64 (-1))))⟩])
  (.block 0 (.loop
    (.seq (.seq (.reg [⟨(some 37), none, .v (.mov (.t 5))⟩,
      ⟨(some 38), none, .v (.off (.t 1) 2)⟩,
      ⟨(some 39), none, .v (.load (.t 38) none)⟩,
      ⟨(some 40), none, .v (.bin .add (.t 39) (.c (.int .i64 (1))))⟩,
      ⟨(some 41), none, .v (.bin .leq (.t 37) (.t 40))⟩])
    (.cond (.t 41)
      .skip
      (.exit 0)))
    (.seq (.block 1 (.seq (.reg [⟨(some 44), none, .v (.off (.t 1) 1)⟩,
      ⟨(some 45), none, .v (.load (.t 44) none)⟩,
      ⟨(some 46), none, .v (.off (.t 1) 0)⟩,
      ⟨(some 47), none, .v (.load (.t 46) none)⟩,
      ⟨(some 48), none, .v (.bin .sub (.t 45) (.t 47))⟩,
      ⟨(some 49), none, .v (.mov (.t 5))⟩,
      ⟨(some 50), none, .v (.bin .mul (.c (.int .i64 (1296000))) (.t 49))⟩,
      ⟨(some 51), none, .v (.bin .add (.t 48) (.t 50))⟩,
      ⟨(some 6), none, .v (.mov (.t 51))⟩])
    (.seq (.drw [(0, ⟨(some 52), none, .v (.off (.t 1) 3)⟩, false),
      (1, ⟨(some 53), none, .v (.off (.t 52) 0)⟩, false),
      (2, ⟨(some 54), none, .v (.load (.t 53) none)⟩, false),
      (3, ⟨(some 55), none, .v (.mov (.t 6))⟩, false),
      (4, ⟨(some 56), none, .v (.off (.t 1) 5)⟩, false),
      (5, ⟨(some 57), none, .v (.load (.t 56) none)⟩, false),
      (6, ⟨(some 58), none, .v (.bin .mul (.c (.int .i64 (2))) (.t 57))⟩, false),
      (7, ⟨(some 59), none, .v (.bin .sub (.t 55) (.t 58))⟩, false),
      (8, ⟨(some 60), none, .v (.off (.t 1) 2)⟩, false),
      (9, ⟨(some 61), none, .v (.load (.t 60) none)⟩, false),
      (10, ⟨(some 62), none, .call (.c (.fn 50 [])) [(.t 59), (.t 61)]⟩, false),
      (11, ⟨(some 63), none, .v (.max2 (.t 54) (.t 62))⟩, false),
      (12, ⟨(some 64), none, .v (.off (.t 1) 3)⟩, false),
      (13, ⟨(some 65), none, .v (.off (.t 64) 1)⟩, false),
      (14, ⟨(some 66), none, .v (.load (.t 65) none)⟩, false),
      (15, ⟨(some 67), none, .v (.mov (.t 6))⟩, false),
      (16, ⟨(some 68), none, .v (.off (.t 1) 5)⟩, false),
      (17, ⟨(some 69), none, .v (.load (.t 68) none)⟩, false),
      (18, ⟨(some 70), none, .v (.bin .mul (.c (.int .i64 (2))) (.t 69))⟩, false),
      (19, ⟨(some 71), none, .v (.bin .add (.t 67) (.t 70))⟩, false),
      (20, ⟨(some 72), none, .v (.off (.t 1) 2)⟩, false),
      (21, ⟨(some 73), none, .v (.load (.t 72) none)⟩, false),
      (22, ⟨(some 74), none, .call (.c (.fn 51 [])) [(.t 71), (.t 73)]⟩, false),
      (23, ⟨(some 75), none, .v (.min2 (.t 66) (.t 74))⟩, false),
      (24, ⟨(some 7), none, .v (.mov (.t 63))⟩, false)]
      none
      [⟨(some 8), none, .v (.mov (.t 75))⟩])
    (.seq (.seq (.reg [⟨(some 76), none, .v (.mov (.t 7))⟩,
      ⟨(some 77), none, .v (.mov (.t 8))⟩,
      ⟨(some 78), none, .v (.bin .gtr (.t 76) (.t 77))⟩])
    (.cond (.t 78)
      (.exit 1)
      .skip))
    (.seq (.reg [⟨(some 79), none, .v (.mov (.t 4))⟩,
      ⟨(some 80), none, .v (.len (.t 79))⟩,
      ⟨(some 81), none, .v (.bin .gtr (.t 80) (.c (.int .i64 (0))))⟩,
      ⟨(some 82), none, .v (.mov (.t 81))⟩,
      ⟨(some 83), (some (82, true)), .v (.mov (.t 4))⟩,
      ⟨(some 84), (some (82, true)), .v (.mov (.t 4))⟩,
      ⟨(some 85), (some (82, true)), .v (.len (.t 84))⟩,
      ⟨(some 86), (some (82, true)), .v (.bin .sub (.t 85) (.c (.int .i64 (1))))⟩,
      ⟨(some 87), (some (82, true)), .v (.ixa (.t 83) (.t 86) 2)⟩,
      ⟨(some 88), (some (82, true)), .v (.off (.t 87) 1)⟩,
      ⟨(some 89), (some (82, true)), .v (.load (.t 88) none)⟩,
      ⟨(some 90), (some (82, true)), .v (.bin .add (.t 89) (.c (.int .i64 (1))))⟩,
      ⟨(some 91), (some (82, true)), .v (.mov (.t 7))⟩,
      ⟨(some 92), (some (82, true)), .v (.bin .geq (.t 90) (.t 91))⟩,
      ⟨(some 93), none, .v (.pick (.t 82) (.t 92) (.c (.lit (.bool false))))⟩])
    (.cond (.t 93)
      (.reg [⟨(some 94), none, .v (.mov (.t 4))⟩,
        ⟨(some 95), none, .v (.mov (.t 4))⟩,
        ⟨(some 96), none, .v (.len (.t 95))⟩,
        ⟨(some 97), none, .v (.bin .sub (.t 96) (.c (.int .i64 (1))))⟩,
        ⟨(some 98), none, .v (.mov (.t 8))⟩,
        ⟨(some 99), none, .v (.ixa (.t 94) (.t 97) 2)⟩,
        ⟨(some 100), none, .v (.off (.t 99) 1)⟩,
        ⟨none, none, .store 1 (.t 100) (.t 98)⟩])
      (.reg [⟨(some 101), none, .v (.mov (.t 4))⟩,
        ⟨(some 102), none, .v (.mov (.t 7))⟩,
        ⟨(some 103), none, .v (.mov (.t 8))⟩,
        ⟨(some 104), none, .bld [(.int .i64 (0)), (.int .i64 (0))] [(0, 1, (.t 102)), (1, 1, (.t 103))]⟩,
        ⟨(some 105), none, .bsl 23 1 [(.int .i64 (0)), (.int .i64 (0))] [(0, 2, (.t 104))]⟩,
        ⟨(some 106), none, .app 23 2 16 (.t 101) (.t 105)⟩,
        ⟨(some 4), none, .v (.mov (.t 106))⟩])))))))
    (.reg [⟨(some 42), none, .v (.mov (.t 5))⟩,
      ⟨(some 43), none, .v (.bin .add (.t 42) (.c (.int .i64 (1))))⟩,
      ⟨(some 5), none, .v (.mov (.t 43))⟩]))))))
  (.seq (.seq (.reg [⟨(some 107), none, .v (.mov (.t 4))⟩,
    ⟨(some 108), none, .v (.len (.t 107))⟩,
    ⟨(some 109), none, .v (.bin .eql (.t 108) (.c (.int .i64 (0))))⟩])
  (.cond (.t 109)
    (.seq (.reg [⟨(some 2), none, .v (.mov (.c (.lit (.slice none 0 0))))⟩,
      ⟨(some 3), none, .v (.mov (.c (.int .i64 (4))))⟩])
    .ret)
    .skip))
  (.seq (.reg [⟨(some 110), none, .v (.mov (.t 4))⟩,
    ⟨(some 2), none, .v (.mov (.t 110))⟩,
    ⟨(some 3), none, .v (.mov (.c (.int .i64 (0))))⟩])
  .ret))))))
def r15 : List RV := [.t 2, .t 3]
def n15 : Nat := 111
theorem k15 : (Try.f15.body.bind (cC Try.prog), cR Try.prog Try.f15.results.toList, Try.f15.ntmps) = (some s15, some r15, 111) := by kernel_rfl
theorem q15 : Known Try.prog 15 := ⟨_, Try.func15, by decide, by simp [Try.f15]⟩



def lo (L : List (Int × Int)) (i : Nat) : Int := (L.getD i (0, 0)).1
def hi (L : List (Int × Int)) (i : Nat) : Int := (L.getD i (0, 0)).2
def rowsS (L : List (Int × Int)) (i : Nat) : List SV := [.int .i64 (lo L i), .int .i64 (hi L i)]
theorem rowsS_snoc (L : List (Int × Int)) (p : Int × Int) (i : Nat) (h : i < L.length + 1) : (if i < L.length then rowsS L i else [.int .i64 p.1, .int .i64 p.2]) = rowsS (L ++ [p]) i := by
  unfold rowsS lo hi
  by_cases hi : i < L.length
  · rw [if_pos hi]; simp [List.getD, hi, List.getElem?_append_left]
  · have : i = L.length := by omega
    subst this
    simp [List.getD]
/-- The windows that are not empty. -/
def acc (w : Nat → Int × Int) : Nat → List (Int × Int)
  | 0 => []
  | n + 1 => if (w n).1 ≤ (w n).2 then acc w n ++ [w n] else acc w n
theorem acc_len (w : Nat → Int × Int) : ∀ n, (acc w n).length ≤ n
  | 0 => Nat.le_refl _
  | n + 1 => by
    have := acc_len w n
    unfold acc
    split
    · simp; omega
    · omega
/-- A repetition. -/
structure Rp where
  (f l t a b w : Int)
def Rp.sv (v : Rp) : SV := .agg [.int .i64 v.f, .int .i64 v.l, .int .i64 v.t, .int .i64 v.a, .int .i64 v.b, .int .i64 v.w]
def Rp.ok (v : Rp) : Prop := (0 ≤ v.f ∧ v.f ≤ 1295999) ∧ (0 ≤ v.l ∧ v.l ≤ 1295999) ∧ (1 ≤ v.t ∧ v.t ≤ 100) ∧ ((0 ≤ v.a ∧ v.a ≤ v.b) ∧ v.b ≤ 1295999) ∧ (0 ≤ v.w ∧ v.w ≤ 10000)
instance (v : Rp) : Decidable v.ok := by unfold Rp.ok; infer_instance
def F46 : FC := fun args => match args with
  | [.agg [.int .i64 f, .int .i64 l, .int .i64 t, .int .i64 a, .int .i64 b, .int .i64 w]] => some (True, .bool (decide (Rp.ok ⟨f, l, t, a, b, w⟩)))
  | _ => none
theorem p46 : PureOk Try.prog 46 (fcC F46) := by
  refine pure_of (T := [(70, .fc Fdir), (71, .fc Fin), (72, .fc Fsp)]) ⟨⟨p70, q70⟩, ⟨p71, q71⟩, ⟨p72, q72⟩, trivial⟩ Try.func46 k46 ?_
  intro args K hC
  unfold fcC F46 at hC
  split at hC <;> first | (exact hC.elim) | skip
  rename_i h
  split at h <;> first | (cases h; done) | skip
  cases h
  obtain ⟨-, hK⟩ := hC
  unfold Rp.ok at hK
  simp only [e_reg, e_seq, e_ret, o_nil, o_cons, gd_none, gd_some, gdK_tt, gdK_ft, gdK_bt, putK_e, runK_e, skipK_e, vK_e, boxK_e, conK_e, callK_e, evh_v, evh_box, evh_call, seqK_n, ends_r, endK1_e, endK2_e, gam_e, gamK_f, pc_e, pcK_e, fcC_e, fcK_e, evp, gt, gq, st, putf, X.get, gets, ap, mkfr, rep, rdR, tupled, clV, clL, clS, clo, ld, lda, tk, dr, cs1, gb, pb, ln, lk, undef, Nat.reduceSub, Nat.reduceAdd, Nat.reduceBEq, beq_self_eq_true, true_and, decide_eq_true_eq, decide_eq_false_iff_not, s46, r46, Fdir, Fin, Fsp]
  exact ⟨fun h1 => ⟨fun h2 => ⟨fun h3 => ⟨fun h4 => res hK (by simp [leR, h1, h2, h3, h4]), fun h4 => res hK (by simp [leR, h4])⟩, fun h3 => res hK (by simp [leR, h3])⟩, fun h2 => res hK (by simp [leR, h2])⟩, fun h1 => res hK (by simp [leR, h1])⟩
/-- The window of an angle, if so much was turned in all. -/
def Rp.win (v : Rp) (all : Int) : Int × Int := (max v.a (-(-(all - 2 * v.w) / v.t)), min v.b ((all + 2 * v.w) / v.t))
def Rp.d (v : Rp) : Int := (v.l - v.f) % 1296000
def Rp.pw (v : Rp) (c : Nat) : Int × Int := v.win (v.d + ((c : Int) - 1) * 1296000)
def Rp.pl (v : Rp) : List (Int × Int) := acc v.pw (v.t + 2).toNat
theorem Rp.dB (v : Rp) : 0 ≤ v.d ∧ v.d ≤ 1295999 := by
  have h1 := Int.emod_nonneg (v.l - v.f) (show (1296000 : Int) ≠ 0 by omega)
  have h2 := Int.emod_lt_of_pos (v.l - v.f) (show (0 : Int) < 1296000 by omega)
  unfold Rp.d; omega
theorem com_win {v : Rp} {all : Int} : com v.a v.b (-(-(all - 2 * v.w) / v.t)) ((all + 2 * v.w) / v.t) = if (v.win all).1 ≤ (v.win all).2 then v.win all else (1, 0) := rfl
def C47 : PC := fun args K => ∃ v : Rp, args = [v.sv] ∧ v.ok ∧ K (.rd 2 v.pl.length (rowsS v.pl))
theorem p47 : PureOk Try.prog 47 C47 := by
  refine pure_of (T := [(73, .fc Fcir), (75, .fc Fup), (76, .fc Fdwn), (74, .fc Fcom), (54, .fc Fno)]) ⟨⟨p73, q73⟩, ⟨p75, q75⟩, ⟨p76, q76⟩, ⟨p74, q74⟩, ⟨p54, q54⟩, trivial⟩ Try.func47 k47 ?_
  rintro args K ⟨v, rfl, hok, hK⟩
  have hd := v.dB
  have hdd : (v.l - v.f) % 1296000 = v.d := rfl
  have h0 := hok
  unfold Rp.ok at h0
  simp only [Rp.sv]
  simp only [inr64, e_reg, e_seq, e_block, e_loop, o_nil, o_cons, gd_none, putK_e, runK_e, vK_e, boxK_e, conK_e, callK_e, evh_v, evh_box, evh_call, seqK_n, gam_e, gamK_f, pc_e, pcK_e, fcC_e, fcK_e, evp, bin, gt, gq, st, putf, X.get, gets, ap, mkfr, rep, clV, clL, clS, clo, ld, lda, cs1, gb, pb, ln, lk, undef, Nat.reduceSub, Nat.reduceAdd, beq_self_eq_true, true_and, s47, r47, Fcir, hdd]
  refine ⟨by omega, by omega, by omega, ?_⟩
  refine loop_at2 (G := Nat) (fun c => [(20, .int .i64 c), (3, .own 1)]) (fun c => [.box 82 [.int .i64 v.f, .int .i64 v.l, .int .i64 v.t, .int .i64 v.a, .int .i64 v.b, .int .i64 v.w], .orw 23 2 (acc v.pw c).length (rowsS (acc v.pw c))]) (fun c => c ≤ (v.t + 2).toNat) (fun c => (v.t + 2).toNat - c) 0 (Nat.zero_le _) ?_
  (intro fr1 hf1; simp only [forget, dstC, dstO, dstD, dst1, st] at hf1; subst hf1)
  refine ⟨?_, ?_⟩
  · refine Lw_re 1 [none] (Nat.zero_le _) (by simp [ln]) (by simp [ln]) rfl ?_ ?_
    · simp only [reL, reX, rn, List.getElem?_cons_zero, Nat.reduceSub, Nat.lt_irrefl, Nat.le_refl, reduceCtorEq, or_true, inb, inb.inbs, ln, sts, st, Bool.and_self, Nat.reduceLT, Nat.reduceAdd, decide_true, and_self, Int.natCast_zero]
    · simp only [reL, reX, reH, reB, reN, newB, inb, and_self, acc, List.length_nil]
  · intro c hc
    have hpw : v.win (v.d + ((c : Int) - 1) * 1296000) = v.pw c := rfl
    have hal := acc_len v.pw c
    by_cases hq : (v.pw c).1 ≤ (v.pw c).2
    · have hb : 0 ≤ (v.pw c).1 ∧ (v.pw c).2 ≤ 1295999 := by
        unfold Rp.pw Rp.win; simp only; omega
      have ha : acc v.pw (c + 1) = acc v.pw c ++ [v.pw c] := by simp only [acc, if_pos hq]
      simp only [inr64, ↓reduceIte, List.cons.injEq, e_skip, e_reg, and_self, e_drw, e_seq, e_cond, e_block, e_exit, e_ret, o_nil, o_cons, gd_none, putK_e, runK_e, vK_e, bslK_e, storeK3_e, storeK2_e, storeK_e, appK2_or, appK_e, evh_v, evh_bsl, evh_store, evh_app, dX_e, dG_t, d_nil, d_cons, creK_e, tlK_n, tlK_s, evc_e, loopK_n, loopK_x, seqK_n, seqK_x, condK_b, exitK_t, blockK_x, blockK_n, ends_r, endK1_e, endK2_e, gamq_e, gamqK_f, evp, fit, InQ, bin, gt, gq, st, putf, X.get, gets, getp, ap, rdR, tupled, clV, clo, clo.clos, ld, lda, tk, dr, sp, sp.spl, lay, ll, cs1, one, allOne, gb, sb, pb, ln, lk, evq, gdl, crv, Bool.and_true, Bool.not_true, Bool.not_false, cond_true, Nat.reduceAdd, Nat.reduceBEq, beq_self_eq_true, true_and, and_true, decide_eq_true_eq, decide_eq_false_iff_not, Bool.not_eq_eq_eq_not, sts, Fup, Fdwn, Fcom, Fno, com_win, hpw, hq]
      refine ⟨fun h => ⟨by omega, by omega, by omega, by omega, by omega, by omega, by omega, by omega, by omega, by omega, fun h2 => ⟨by omega, by omega, ?_⟩, fun h2 => by exfalso; omega⟩, fun h => ?_⟩
      · refine Nx.mk (c + 1) (by omega) (by omega) (Lw_re 1 [some 4] (Nat.zero_le _) (by simp [ln]) (by simp [ln]) rfl ?_ ?_)
        · simp only [reL, reX, rn, List.getElem?_cons_zero, Nat.reduceSub, Nat.lt_irrefl, Nat.le_refl, and_false, or_true, inb, inb.inbs, ln, Bool.and_self, Nat.reduceLT, Nat.reduceAdd, decide_true, and_self, Int.natCast_add, Int.natCast_one]
        · simp only [reL, reX, reH, reB, reM, reN, gb, Nat.reduceLeDiff, inb, ln, Nat.reduceLT, Nat.reduceAdd, true_and, and_true, and_self, ha, List.length_append, List.length_cons, List.length_nil]
          exact fun i hi => rowsS_snoc _ _ _ hi
      · have e : c = (v.t + 2).toNat := by omega
        refine ⟨_, hK, ?_⟩
        subst e
        simp [leR, Rp.pl]
    · have ha : acc v.pw (c + 1) = acc v.pw c := by simp only [acc, if_neg hq]
      simp only [inr64, ↓reduceIte, not_true_eq_false, e_skip, e_reg, and_self, e_drw, e_seq, e_cond, e_block, e_exit, e_ret, o_nil, o_cons, gd_none, putK_e, runK_e, vK_e, bslK_e, storeK3_e, storeK2_e, storeK_e, appK2_or, appK_e, evh_v, evh_bsl, evh_store, evh_app, dX_e, dG_t, d_nil, d_cons, creK_e, tlK_n, tlK_s, evc_e, loopK_n, loopK_x, seqK_n, seqK_x, condK_b, exitK_t, blockK_x, blockK_n, ends_r, endK1_e, endK2_e, gamq_e, gamqK_f, evp, fit, InQ, bin, gt, gq, st, putf, X.get, gets, getp, ap, rdR, tupled, clV, clo, clo.clos, ld, lda, tk, dr, sp, sp.spl, lay, ll, cs1, one, allOne, gb, sb, pb, ln, lk, evq, gdl, crv, Bool.and_true, Bool.not_true, Bool.not_false, cond_true, Nat.reduceAdd, Nat.reduceBEq, beq_self_eq_true, true_and, and_true, decide_eq_true_eq, decide_eq_false_iff_not, Bool.not_eq_eq_eq_not, sts, Fup, Fdwn, Fcom, Fno, com_win, hpw, hq]
      refine ⟨fun h => ⟨by omega, by omega, by omega, by omega, by omega, by omega, by omega, by omega, by omega, by omega, ?_⟩, fun h => ?_⟩
      · refine ⟨fun h => h.elim, fun _ => ⟨by omega, ?_⟩⟩
        refine Nx.mk (c + 1) (by omega) (by omega) (Lw_re 2 [] (Nat.zero_le _) (by simp [ln]) (by simp [ln]) rfl ?_ ?_)
        · simp only [reL, reX, rn, Nat.reduceSub, Nat.reduceLeDiff, false_and, or_false, reduceCtorEq, inb, inb.inbs, ln, Bool.and_self, Nat.reduceLT, Nat.reduceAdd, decide_true, and_true, and_self, Int.natCast_add, Int.natCast_one]
        · simp only [reL, reX, reH, reB, reN, inb, and_self, ha, implies_true]
      · have e : c = (v.t + 2).toNat := by omega
        refine ⟨_, hK, ?_⟩
        subst e
        simp [leR, Rp.pl]
def Rp.R (v : Rp) : List (Int × Int) := if v.ok then v.pl else []
def Rp.e (v : Rp) : Int := if v.ok then (if v.pl.length = 0 then 4 else 0) else 62
theorem rows_nil (f : Nat → List SV) : leR 4 (.lit (.slice none 0 0)) (.rd 2 0 f) := by simp [leR]
def C14 : PC := fun args K => ∃ v : Rp, args = [v.sv] ∧ K (.tup [.rd 2 v.R.length (rowsS v.R), .int .i64 v.e])
theorem p14 : PureOk Try.prog 14 C14 := by
  refine pure_of (T := [(46, .fc F46), (47, .pc C47)]) ⟨⟨p46, q46⟩, ⟨p47, q47⟩, trivial⟩ Try.func14 k14 ?_
  rintro args K ⟨v, rfl, hK⟩
  have hv : (⟨v.f, v.l, v.t, v.a, v.b, v.w⟩ : Rp) = v := rfl
  simp only [Rp.sv]
  simp only [e_skip, e_reg, and_self, e_seq, e_cond, e_ret, o_nil, o_cons, gd_none, putK_e, runK_e, vK_e, boxK_e, bldK_e, storeK3_e, storeK2_e, storeK_e, conK_e, callK_e, evh_v, evh_new, evh_box, evh_bld, evh_store, evh_call, seqK_n, seqK_r, condK_b, ends_r, endK1_e, endK2_e, gam_e, gamK_f, gamK_p, pc_e, pcK_e, fcC_e, fcK_e, evp, gt, st, putf, X.get, gets, getp, ap, mkfr, rep, rdR, tupled, clV, clL, clS, clo, ld, lda, lens, tk, dr, sp, sp.spl, lay, ll, cs1, one, allOne, gb, sb, pb, ln, lk, undef, Bool.and_true, Bool.not_true, Bool.not_false, Nat.reduceSub, Nat.reduceAdd, Nat.reduceBEq, beq_self_eq_true, true_and, decide_eq_true_eq, decide_eq_false_iff_not, Bool.not_eq_eq_eq_not, s14, r14, F46, hv]
  refine ⟨fun h => res hK ?_, fun h => ⟨v, rfl, h, ?_⟩⟩
  · unfold Rp.R Rp.e
    simp [leR, leR.leRs, h]
  · simp only [e_skip, e_reg, e_seq, e_cond, e_ret, o_nil, o_cons, gd_none, putK_e, runK_e, vK_e, evh_v, seqK_n, seqK_r, condK_b, ends_r, endK1_e, endK2_e, evp, bin, gt, st, putf, X.get, rdR, tupled, clV, clL, clS, clo, true_and, decide_eq_true_eq, decide_eq_false_iff_not]
    refine ⟨fun h2 => res hK ?_, fun h2 => res hK ?_⟩
    · have h2 : v.pl.length = 0 := by omega
      have h3 : v.pl = [] := List.eq_nil_of_length_eq_zero h2
      unfold Rp.R Rp.e
      simp [leR, leR.leRs, h, h3]
    · have h2 : ¬ v.pl.length = 0 := by omega
      unfold Rp.R Rp.e
      simp only [if_pos h, if_neg h2]
      simp [leR, leR.leRs]
/-- The windows of the specification. -/
def Rp.rw (v : Rp) (j : Nat) : Int × Int := v.win ((v.l - v.f) + 1296000 * ((j : Int) - 1))
theorem Rp.win_hi (v : Rp) (hv : v.ok) (all : Int) : (v.win all).2 * v.t ≤ all + 2 * v.w := by
  unfold Rp.ok at hv
  have h1 : (all + 2 * v.w) / v.t * v.t ≤ all + 2 * v.w := Int.ediv_mul_le _ (by omega)
  have h2 : (v.win all).2 ≤ (all + 2 * v.w) / v.t := by unfold Rp.win; simp only; omega
  exact Int.le_trans (Int.mul_le_mul_of_nonneg_right h2 (by omega)) h1
theorem Rp.win_lo (v : Rp) (hv : v.ok) (all : Int) : all - 2 * v.w ≤ (v.win all).1 * v.t := by
  unfold Rp.ok at hv
  have h1 : -(all - 2 * v.w) / v.t * v.t ≤ -(all - 2 * v.w) := Int.ediv_mul_le _ (by omega)
  have h2 : -(-(all - 2 * v.w) / v.t) ≤ (v.win all).1 := by unfold Rp.win; simp only; omega
  have h3 := Int.mul_le_mul_of_nonneg_right h2 (show 0 ≤ v.t by omega)
  rw [Int.neg_mul] at h3
  omega
theorem Rp.win_b (v : Rp) (all : Int) : v.a ≤ (v.win all).1 ∧ (v.win all).2 ≤ v.b := by unfold Rp.win; simp only; omega
theorem acc_mem {w : Nat → Int × Int} {e : Int × Int} : ∀ {n : Nat}, e ∈ acc w n → ∃ i, i < n ∧ e = w i
  | 0, h => by simp [acc] at h
  | n + 1, h => by
    unfold acc at h
    split at h
    · rcases List.mem_append.1 h with h | h
      · obtain ⟨i, h1, h2⟩ := acc_mem h; exact ⟨i, by omega, h2⟩
      · exact ⟨n, by omega, by simpa using h⟩
    · obtain ⟨i, h1, h2⟩ := acc_mem h; exact ⟨i, by omega, h2⟩
theorem acc_lt {w : Nat → Int × Int} : ∀ {n : Nat} {e : Int × Int}, e ∈ acc w n → e.1 ≤ e.2
  | 0, e, h => by simp [acc] at h
  | n + 1, e, h => by
    unfold acc at h
    split at h
    · rcases List.mem_append.1 h with h | h
      · exact acc_lt h
      · rename_i h1 _; have : e = w n := by simpa using h
        subst this; exact h1
    · exact acc_lt h
/-- Windows never touch. -/
theorem Rp.gap (v : Rp) (hv : v.ok) (x y : Int) (h : x + 1296000 ≤ y) : (v.win x).2 + 12560 ≤ (v.win y).1 := by
  have h1 := v.win_hi hv x
  have h2 := v.win_lo hv y
  unfold Rp.ok at hv
  refine Classical.byContradiction fun h3 => ?_
  have h4 : (v.win y).1 - (v.win x).2 ≤ 12559 := by omega
  have h5 := Int.mul_le_mul_of_nonneg_right h4 (show 0 ≤ v.t by omega)
  rw [Int.sub_mul] at h5
  omega
theorem acc_shift {w w' : Nat → Int × Int} (h0 : ¬ (w 0).1 ≤ (w 0).2) (h : ∀ c, w (c + 1) = w' c) : ∀ c, acc w (c + 1) = acc w' c
  | 0 => by simp only [acc, if_neg h0]
  | c + 1 => by
    have ih := acc_shift h0 h c
    show (if (w (c + 1)).1 ≤ (w (c + 1)).2 then acc w (c + 1) ++ [w (c + 1)] else acc w (c + 1)) = _
    rw [h c, ih]
    rfl
theorem Rp.rl (v : Rp) (hv : v.ok) : acc v.rw ((v.t + 2).toNat + 1) = v.pl := by
  have h0 := hv
  unfold Rp.ok at h0
  by_cases hd : 0 ≤ v.l - v.f
  · have e : v.d = v.l - v.f := by unfold Rp.d; omega
    have e2 : v.rw = v.pw := by funext c; unfold Rp.rw Rp.pw; rw [e, Int.mul_comm]
    have h1 := v.win_lo hv ((v.l - v.f) + 1296000 * (((v.t + 2).toNat : Int) - 1))
    have h2 := v.win_b ((v.l - v.f) + 1296000 * (((v.t + 2).toNat : Int) - 1))
    have h3 : ¬ (v.rw (v.t + 2).toNat).1 ≤ (v.rw (v.t + 2).toNat).2 := by
      intro h4
      have h4 : (v.win ((v.l - v.f) + 1296000 * (((v.t + 2).toNat : Int) - 1))).1 ≤ 1295999 := by unfold Rp.rw at h4; omega
      have h5 := Int.mul_le_mul_of_nonneg_right h4 (show 0 ≤ v.t by omega)
      omega
    show (if (v.rw (v.t + 2).toNat).1 ≤ (v.rw (v.t + 2).toNat).2 then _ else acc v.rw (v.t + 2).toNat) = _
    rw [if_neg h3, e2]
    rfl
  · have e : v.d = v.l - v.f + 1296000 := by unfold Rp.d; omega
    refine acc_shift (w := v.rw) (w' := v.pw) ?_ (fun c => ?_) _
    · have h1 := v.win_hi hv ((v.l - v.f) + 1296000 * (((0 : Nat) : Int) - 1))
      have h2 := v.win_b ((v.l - v.f) + 1296000 * (((0 : Nat) : Int) - 1))
      intro h4
      have h4 : 0 ≤ (v.win ((v.l - v.f) + 1296000 * (((0 : Nat) : Int) - 1))).2 := by unfold Rp.rw at h4; omega
      have h5 := Int.mul_nonneg h4 (show 0 ≤ v.t by omega)
      omega
    · unfold Rp.rw Rp.pw
      rw [e]
      congr 1
      push_cast
      omega
theorem p15 : PureOk Try.prog 15 C14 := by
  refine pure_of (T := [(48, .fc Fin), (49, .fc Fsp), (50, .fc Fup), (51, .fc Fdwn)]) ⟨⟨p48, q48⟩, ⟨p49, q49⟩, ⟨p50, q50⟩, ⟨p51, q51⟩, trivial⟩ Try.func15 k15 ?_
  rintro args K ⟨v, rfl, hK⟩
  simp only [Rp.sv]
  simp only [e_skip, e_reg, e_seq, e_cond, e_block, e_loop, e_ret, o_nil, o_cons, gd_none, gd_some, gdK_tf, gdK_ff, gdK_bf, putK_e, runK_e, skipK_e, vK_e, boxK_e, conK_e, callK_e, evh_v, evh_box, evh_call, seqK_n, seqK_r, condK_t, condK_b, ends_r, endK1_e, endK2_e, gam_e, gamK_f, pc_e, pcK_e, fcC_e, fcK_e, evp, gt, gq, st, putf, X.get, gets, ap, mkfr, rep, rdR, tupled, clV, clL, clS, clo, ld, lda, tk, dr, cs1, gb, pb, ln, lk, undef, Bool.not_true, Bool.not_false, Nat.reduceSub, Nat.reduceAdd, Nat.reduceBEq, beq_self_eq_true, true_and, decide_eq_true_eq, decide_eq_false_iff_not, Bool.not_eq_eq_eq_not, s15, r15, Fin, Fsp]
  have hok : v.ok ↔ (0 ≤ v.f ∧ v.f ≤ 1295999) ∧ (0 ≤ v.l ∧ v.l ≤ 1295999) ∧ (1 ≤ v.t ∧ v.t ≤ 100) ∧ ((0 ≤ v.a ∧ v.a ≤ v.b) ∧ v.b ≤ 1295999) ∧ (0 ≤ v.w ∧ v.w ≤ 10000) := Iff.rfl
  have no : ¬ v.ok → ∃ r', K r' ∧ leR 4 (.tup [.lit (.slice none 0 0), .int .i64 62]) r' := fun h => res hK (by
    unfold Rp.R Rp.e
    simp [leR, leR.leRs, h])
  refine ⟨fun h1 => ⟨fun h2 => ⟨fun h3 => ⟨fun h4 => ⟨fun h5 => no fun h => h5 h.2.2.2.2, fun h5 => ?_⟩, fun h4 => no fun h => h4 h.2.2.2.1⟩, fun h3 => no fun h => h3 h.2.2.1⟩, fun h2 => no fun h => h2 h.2.1⟩, fun h1 => no fun h => h1 h.1⟩
  have ho := hok.2 ⟨h1, h2, h3, h4, h5⟩
  have hrl := v.rl ho
  refine loop_at2 (G := Nat) (fun c => [(5, .int .i64 ((c : Int) - 1)), (4, .own 1)]) (fun c => [.box 25 [.int .i64 v.f, .int .i64 v.l, .int .i64 v.t, .int .i64 v.a, .int .i64 v.b, .int .i64 v.w], .orw 23 2 (acc v.rw c).length (rowsS (acc v.rw c))]) (fun c => c ≤ (v.t + 2).toNat + 1) (fun c => (v.t + 2).toNat + 1 - c) 0 (Nat.zero_le _) ?_
  (intro fr1 hf1; simp only [forget, dstC, dstO, dstD, dst1, st] at hf1; subst hf1)
  refine ⟨?_, ?_⟩
  · refine Lw_re 1 [none] (Nat.zero_le _) (by simp [ln]) (by simp [ln]) rfl ?_ ?_
    · simp only [reL, reX, rn, List.getElem?_cons_zero, Nat.reduceSub, Nat.lt_irrefl, Nat.le_refl, reduceCtorEq, or_true, inb, inb.inbs, ln, sts, st, Bool.and_self, Nat.reduceLT, Nat.reduceAdd, decide_true, and_self, Int.natCast_zero, Int.zero_sub]
    · simp only [reL, reX, reH, reB, reN, newB, inb, and_self, acc, List.length_nil]
  · intro c hc
    have hpw : (max v.a (-(-(v.l - v.f + 1296000 * ((c : Int) - 1) - 2 * v.w) / v.t))) = (v.rw c).1 := rfl
    have hpw2 : (min v.b ((v.l - v.f + 1296000 * ((c : Int) - 1) + 2 * v.w) / v.t)) = (v.rw c).2 := rfl
    have hal := acc_len v.rw c
    have hb : v.a ≤ (v.rw c).1 ∧ (v.rw c).2 ≤ v.b := v.win_b _
    simp only [inr64, ↓reduceIte, e_skip, e_reg, e_drw, e_seq, e_cond, e_block, e_exit, e_ret, o_nil, o_cons, gd_none, gd_some, gdK_tt, gdK_ft, gdK_bt, putK_e, runK_e, skipK_e, vK_e, bslK_e, bldK_e, appK2_or, appK_e, evh_v, evh_bsl, evh_bld, evh_store, evh_app, storeK_r, storeR_o, storeR1_e, dX_e, dG_t, d_nil, d_cons, tlK_n, loopK_n, loopK_x, seqK_n, seqK_x, seqK_r, condK_f, condK_b, exitK_t, blockK_x, blockK_n, ends_r, endK1_e, endK2_e, gamq_e, gamqK_f, evp, bin, gt, gq, st, putf, X.get, gets, getp, ap, rdR, tupled, clV, clL, clS, clo, clo.clos, ld, lda, lens, ixs, sp, sp.spl, lay, ll, cs1, one, allOne, gb, sb, pb, ln, lk, evq, gdl, undef, Bool.and_true, Nat.reduceAdd, Nat.reduceBEq, beq_self_eq_true, true_and, decide_eq_true_eq, decide_eq_false_iff_not, sts, Fup, Fdwn, mx_eq, mn_eq, hpw, hpw2, rowsS, gq]
    have key : 0 < (acc v.rw c).length → hi (acc v.rw c) (((acc v.rw c).length : Int) - 1).toNat + 12560 ≤ (v.rw c).1 ∧ 0 ≤ hi (acc v.rw c) (((acc v.rw c).length : Int) - 1).toNat := by
      intro hl
      have hlt : (((acc v.rw c).length : Int) - 1).toNat < (acc v.rw c).length := by omega
      generalize (((acc v.rw c).length : Int) - 1).toNat = i at hlt
      have hm : (acc v.rw c).getD i (0, 0) ∈ acc v.rw c := by simp [List.getD, hlt]
      have e0 : hi (acc v.rw c) i = ((acc v.rw c).getD i (0, 0)).2 := rfl
      rw [e0]
      have h6 := acc_lt hm
      obtain ⟨k, h7, h8⟩ := acc_mem hm
      rw [h8] at h6 ⊢
      have h9 : v.a ≤ (v.rw k).1 ∧ (v.rw k).2 ≤ v.b := v.win_b _
      exact ⟨v.gap ho _ _ (by omega), by omega⟩
    have fin : ¬ ((c : Int) - 1 ≤ v.t + 1) → acc v.rw c = v.pl := fun h => by
      have : c = (v.t + 2).toNat + 1 := by omega
      rw [this]; exact hrl
    refine ⟨by omega, fun h => ⟨by omega, by omega, by omega, by omega, by omega, by omega, by omega, by omega, by omega, fun h6 => ⟨by omega, ?_⟩, fun h6 => ⟨fun h7 => ?_, fun h7 => ?_⟩⟩, fun h => ?_⟩
    · have ha : acc v.rw (c + 1) = acc v.rw c := by simp only [acc, if_neg (show ¬ (v.rw c).1 ≤ (v.rw c).2 by omega)]
      refine Nx.mk (c + 1) (by omega) (by omega) (Lw_re 2 [] (Nat.zero_le _) (by simp [ln]) (by simp [ln]) rfl ?_ ?_)
      · simp only [reL, reX, rn, Nat.reduceSub, Nat.reduceLeDiff, false_and, or_false, reduceCtorEq, inb, inb.inbs, ln, Bool.and_self, Nat.reduceLT, Nat.reduceAdd, decide_true, true_and, and_true, and_self, Int.natCast_add, Int.natCast_one]
        rw [SV.int.injEq]; exact ⟨rfl, by omega⟩
      · simp only [reL, reX, reH, reB, reN, inb, and_self, ha, implies_true]
    · obtain ⟨k1, k2⟩ := key (by omega)
      have ha : acc v.rw (c + 1) = acc v.rw c ++ [v.rw c] := by simp only [acc, if_pos (show (v.rw c).1 ≤ (v.rw c).2 by omega)]
      refine ⟨by omega, by omega, by omega, by omega, fun h8 => by exfalso; omega, fun h8 => ⟨by omega, by omega, ?_⟩⟩
      refine Nx.mk (c + 1) (by omega) (by omega) (Lw_re 1 [some 3] (Nat.zero_le _) (by simp [ln]) (by simp [ln]) rfl ?_ ?_)
      · simp only [reL, reX, rn, List.getElem?_cons_zero, Nat.reduceSub, Nat.lt_irrefl, Nat.le_refl, and_false, or_true, inb, inb.inbs, ln, Bool.and_self, Nat.reduceLT, Nat.reduceAdd, decide_true, true_and, and_true, and_self, Int.natCast_add, Int.natCast_one]
        rw [SV.int.injEq]; exact ⟨rfl, by omega⟩
      · simp only [reL, reX, reH, reB, reM, reN, gb, Nat.reduceLeDiff, inb, ln, Nat.reduceLT, Nat.reduceAdd, true_and, and_true, and_self, ha, List.length_append, List.length_cons, List.length_nil]
        exact fun i hi => rowsS_snoc _ _ _ hi
    · have ha : acc v.rw (c + 1) = acc v.rw c ++ [v.rw c] := by simp only [acc, if_pos (show (v.rw c).1 ≤ (v.rw c).2 by omega)]
      refine ⟨by omega, by omega, ?_⟩
      refine Nx.mk (c + 1) (by omega) (by omega) (Lw_re 1 [some 3] (Nat.zero_le _) (by simp [ln]) (by simp [ln]) rfl ?_ ?_)
      · simp only [reL, reX, rn, List.getElem?_cons_zero, Nat.reduceSub, Nat.lt_irrefl, Nat.le_refl, and_false, or_true, inb, inb.inbs, ln, Bool.and_self, Nat.reduceLT, Nat.reduceAdd, decide_true, true_and, and_true, and_self, Int.natCast_add, Int.natCast_one]
        rw [SV.int.injEq]; exact ⟨rfl, by omega⟩
      · simp only [reL, reX, reH, reB, reM, reN, gb, Nat.reduceLeDiff, inb, ln, Nat.reduceLT, Nat.reduceAdd, true_and, and_true, and_self, ha, List.length_append, List.length_cons, List.length_nil]
        exact fun i hi => rowsS_snoc _ _ _ hi
    · have hf := fin h
      rw [hf]
      refine ⟨fun h6 => res hK ?_, fun h6 => res hK ?_⟩
      · have h7 : v.pl.length = 0 := by omega
        have h8 : v.pl = [] := List.eq_nil_of_length_eq_zero h7
        unfold Rp.R Rp.e
        simp [leR, leR.leRs, ho, h8]
      · have h7 : ¬ v.pl.length = 0 := by omega
        unfold Rp.R Rp.e
        simp only [if_pos ho, if_neg h7]
        simp [leR, leR.leRs]
end Go.Proofs.Ytgfoakilompbdaa
