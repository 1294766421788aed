/- Rounds: the faces, what the program and the specification return for all arguments. -/
import Derived.Test.YtgfoakilompbdaaVgF1
namespace Go.Proofs.Ytgfoakilompbdaa
open Go Go.Vg
set_option linter.unusedSimpArgs false
set_option linter.unusedVariables false
set_option maxRecDepth 10000
/- 52: (octant/rounds.faces).valid -/
def s52 : SC :=
  (.seq (.reg [⟨(some 1), none, .box 87 (.t 0)⟩,
    ⟨(some 2), none, .v (.mov (.c (.lit (.bool false))))⟩])
  (.seq (.reg [⟨(some 3), none, .v (.off (.t 1) 0)⟩,
    ⟨(some 4), none, .v (.off (.t 3) 0)⟩,
    ⟨(some 5), none, .v (.load (.t 4) none)⟩,
    ⟨(some 6), none, .call (.c (.fn 70 [])) [(.t 5)]⟩,
    ⟨(some 7), none, .v (.mov (.t 6))⟩,
    ⟨(some 8), (some (7, true)), .v (.off (.t 1) 0)⟩,
    ⟨(some 9), (some (7, true)), .v (.off (.t 8) 1)⟩,
    ⟨(some 10), (some (7, true)), .v (.load (.t 9) none)⟩,
    ⟨(some 11), (some (7, true)), .call (.c (.fn 70 [])) [(.t 10)]⟩,
    ⟨(some 12), none, .v (.pick (.t 7) (.t 11) (.c (.lit (.bool false))))⟩,
    ⟨(some 13), none, .v (.mov (.t 12))⟩,
    ⟨(some 14), (some (13, true)), .v (.off (.t 1) 0)⟩,
    ⟨(some 15), (some (13, true)), .v (.off (.t 14) 2)⟩,
    ⟨(some 16), (some (13, true)), .v (.load (.t 15) none)⟩,
    ⟨(some 17), (some (13, true)), .call (.c (.fn 71 [])) [(.t 16), (.c (.int .i64 (0))), (.c (.int .i64 (10000)))]⟩,
    ⟨(some 18), none, .v (.pick (.t 13) (.t 17) (.c (.lit (.bool false))))⟩,
    ⟨(some 19), none, .v (.mov (.t 18))⟩,
    ⟨(some 20), (some (19, true)), .v (.off (.t 1) 0)⟩,
    ⟨(some 21), (some (19, true)), .v (.off (.t 20) 3)⟩,
    ⟨(some 22), (some (19, true)), .v (.load (.t 21) none)⟩,
    ⟨(some 23), (some (19, true)), .call (.c (.fn 71 [])) [(.t 22), (.c (.int .i64 (0))), (.c (.int .i64 (100000)))]⟩,
    ⟨(some 24), none, .v (.pick (.t 19) (.t 23) (.c (.lit (.bool false))))⟩,
    ⟨(some 2), none, .v (.mov (.t 24))⟩])
  .ret))
def r52 : List RV := [.t 2]
def n52 : Nat := 25
theorem k52 : (Try.f52.body.bind (cC Try.prog), cR Try.prog Try.f52.results.toList, Try.f52.ntmps) = (some s52, some r52, 25) := by kernel_rfl
theorem q52 : Known Try.prog 52 := ⟨_, Try.func52, by decide, by simp [Try.f52]⟩

/- 77: (octant/rounds.faces).apart -/
def s77 : SC :=
  (.seq (.reg [⟨(some 1), none, .box 87 (.t 0)⟩,
    ⟨(some 2), none, .v (.mov (.c (.int .i64 (0))))⟩])
  (.seq (.reg [⟨(some 3), none, .v (.off (.t 1) 0)⟩,
    ⟨(some 4), none, .v (.off (.t 3) 1)⟩,
    ⟨(some 5), none, .v (.load (.t 4) none)⟩,
    ⟨(some 6), none, .v (.off (.t 1) 0)⟩,
    ⟨(some 7), none, .v (.off (.t 6) 0)⟩,
    ⟨(some 8), none, .v (.load (.t 7) none)⟩,
    ⟨(some 9), none, .v (.bin .sub (.t 5) (.t 8))⟩,
    ⟨(some 10), none, .call (.c (.fn 73 [])) [(.t 9)]⟩,
    ⟨(some 11), none, .v (.bin .sub (.t 10) (.c (.int .i64 (648000))))⟩,
    ⟨(some 2), none, .v (.mov (.t 11))⟩])
  .ret))
def r77 : List RV := [.t 2]
def n77 : Nat := 12
theorem k77 : (Try.f77.body.bind (cC Try.prog), cR Try.prog Try.f77.results.toList, Try.f77.ntmps) = (some s77, some r77, 12) := by kernel_rfl
theorem q77 : Known Try.prog 77 := ⟨_, Try.func77, by decide, by simp [Try.f77]⟩

/- 53: (octant/rounds.faces).leans -/
def s53 : SC :=
  (.seq (.reg [⟨(some 1), none, .box 87 (.t 0)⟩,
    ⟨(some 2), none, .new 23 [(.int .i64 (0)), (.int .i64 (0))]⟩])
  (.seq (.drw [(0, ⟨(some 4), none, .v (.load (.t 1) (some 4))⟩, false),
    (1, ⟨(some 5), none, .call (.c (.fn 77 [])) [(.t 4)]⟩, false),
    (2, ⟨(some 6), none, .v (.neg (.t 5))⟩, false),
    (3, ⟨(some 7), none, .v (.off (.t 1) 0)⟩, false),
    (4, ⟨(some 8), none, .v (.off (.t 7) 2)⟩, false),
    (5, ⟨(some 9), none, .v (.load (.t 8) none)⟩, false),
    (6, ⟨(some 10), none, .v (.bin .mul (.c (.int .i64 (2))) (.t 9))⟩, false),
    (7, ⟨(some 11), none, .v (.bin .sub (.t 6) (.t 10))⟩, false),
    (8, ⟨(some 12), none, .v (.load (.t 1) (some 4))⟩, false),
    (9, ⟨(some 13), none, .call (.c (.fn 77 [])) [(.t 12)]⟩, false),
    (10, ⟨(some 14), none, .v (.neg (.t 13))⟩, false),
    (11, ⟨(some 15), none, .v (.off (.t 1) 0)⟩, false),
    (12, ⟨(some 16), none, .v (.off (.t 15) 2)⟩, false),
    (13, ⟨(some 17), none, .v (.load (.t 16) none)⟩, false),
    (14, ⟨(some 18), none, .v (.bin .mul (.c (.int .i64 (2))) (.t 17))⟩, false),
    (15, ⟨(some 19), none, .v (.bin .add (.t 14) (.t 18))⟩, false),
    (16, ⟨(some 20), none, .bld [(.int .i64 (0)), (.int .i64 (0))] [(0, 1, (.t 11)), (1, 1, (.t 19))]⟩, false)]
    (some ⟨(some 3), none, .new 23 [(.int .i64 (0)), (.int .i64 (0))]⟩)
    [⟨none, none, .store 2 (.t 3) (.t 20)⟩])
  (.seq (.drw [(0, ⟨(some 21), none, .v (.off (.t 1) 0)⟩, false),
    (1, ⟨(some 22), none, .v (.off (.t 21) 3)⟩, false),
    (2, ⟨(some 23), none, .v (.load (.t 22) none)⟩, false),
    (3, ⟨(some 24), none, .v (.neg (.t 23))⟩, false),
    (4, ⟨(some 25), none, .v (.off (.t 1) 0)⟩, false),
    (5, ⟨(some 26), none, .v (.off (.t 25) 3)⟩, false),
    (6, ⟨(some 27), none, .v (.load (.t 26) none)⟩, false),
    (7, ⟨(some 28), none, .bld [(.int .i64 (0)), (.int .i64 (0))] [(0, 1, (.t 24)), (1, 1, (.t 27))]⟩, false),
    (8, ⟨(some 29), none, .v (.off (.t 3) 0)⟩, false),
    (9, ⟨(some 30), none, .v (.load (.t 29) none)⟩, false),
    (10, ⟨(some 31), none, .call (.c (.fn 75 [])) [(.t 30), (.c (.int .i64 (2)))]⟩, false),
    (11, ⟨(some 32), none, .v (.off (.t 3) 1)⟩, false),
    (12, ⟨(some 33), none, .v (.load (.t 32) none)⟩, false),
    (13, ⟨(some 34), none, .call (.c (.fn 76 [])) [(.t 33), (.c (.int .i64 (2)))]⟩, false),
    (14, ⟨(some 35), none, .bld [(.int .i64 (0)), (.int .i64 (0))] [(0, 1, (.t 31)), (1, 1, (.t 34))]⟩, false)]
    none
    [⟨(some 36), none, .call (.c (.fn 74 [])) [(.t 28), (.t 35)]⟩,
    ⟨none, none, .store 2 (.t 2) (.t 36)⟩])
  .ret)))
def r53 : List RV := [.c 2 (some 2)]
def n53 : Nat := 37
theorem k53 : (Try.f53.body.bind (cC Try.prog), cR Try.prog Try.f53.results.toList, Try.f53.ntmps) = (some s53, some r53, 37) := by kernel_rfl
theorem q53 : Known Try.prog 53 := ⟨_, Try.func53, by decide, by simp [Try.f53]⟩

/- 55: (octant/rounds.faces).directions -/
def s55 : SC :=
  (.seq (.reg [⟨(some 2), none, .box 87 (.t 0)⟩,
    ⟨(some 3), none, .box 23 (.t 1)⟩,
    ⟨(some 4), none, .new 23 [(.int .i64 (0)), (.int .i64 (0))]⟩])
  (.seq (.drw [(0, ⟨(some 8), none, .v (.load (.t 2) (some 4))⟩, false),
    (1, ⟨(some 9), none, .call (.c (.fn 77 [])) [(.t 8)]⟩, false),
    (2, ⟨(some 10), none, .v (.neg (.t 9))⟩, false),
    (3, ⟨(some 11), none, .call (.c (.fn 76 [])) [(.t 10), (.c (.int .i64 (2)))]⟩, false),
    (4, ⟨(some 12), none, .v (.off (.t 3) 0)⟩, false),
    (5, ⟨(some 13), none, .v (.load (.t 12) none)⟩, false),
    (6, ⟨(some 14), none, .v (.max2 (.t 11) (.t 13))⟩, false),
    (7, ⟨(some 15), none, .v (.off (.t 3) 1)⟩, false),
    (8, ⟨(some 16), none, .v (.load (.t 15) none)⟩, false)]
    none
    [⟨(some 17), none, .v (.min2 (.t 14) (.t 16))⟩,
    ⟨(some 5), none, .v (.mov (.t 17))⟩])
  (.seq (.reg [⟨(some 18), none, .v (.off (.t 2) 0)⟩,
    ⟨(some 19), none, .v (.off (.t 18) 0)⟩,
    ⟨(some 20), none, .v (.load (.t 19) none)⟩,
    ⟨(some 21), none, .v (.mov (.t 5))⟩,
    ⟨(some 22), none, .v (.bin .sub (.t 20) (.t 21))⟩,
    ⟨(some 23), none, .v (.off (.t 2) 0)⟩,
    ⟨(some 24), none, .v (.off (.t 23) 2)⟩,
    ⟨(some 25), none, .v (.load (.t 24) none)⟩,
    ⟨(some 26), none, .v (.bin .sub (.t 22) (.t 25))⟩,
    ⟨(some 27), none, .v (.off (.t 2) 0)⟩,
    ⟨(some 28), none, .v (.off (.t 27) 0)⟩,
    ⟨(some 29), none, .v (.load (.t 28) none)⟩,
    ⟨(some 30), none, .v (.mov (.t 5))⟩,
    ⟨(some 31), none, .v (.bin .sub (.t 29) (.t 30))⟩,
    ⟨(some 32), none, .v (.off (.t 2) 0)⟩,
    ⟨(some 33), none, .v (.off (.t 32) 2)⟩,
    ⟨(some 34), none, .v (.load (.t 33) none)⟩,
    ⟨(some 35), none, .v (.bin .add (.t 31) (.t 34))⟩,
    ⟨(some 36), none, .bld [(.int .i64 (0)), (.int .i64 (0))] [(0, 1, (.t 26)), (1, 1, (.t 35))]⟩,
    ⟨(some 6), none, .new 23 [(.int .i64 (0)), (.int .i64 (0))]⟩,
    ⟨none, none, .store 2 (.t 6) (.t 36)⟩])
  (.seq (.drw [(0, ⟨(some 37), none, .v (.off (.t 2) 0)⟩, false),
    (1, ⟨(some 38), none, .v (.off (.t 37) 0)⟩, false),
    (2, ⟨(some 39), none, .v (.load (.t 38) none)⟩, false),
    (3, ⟨(some 40), none, .v (.load (.t 2) (some 4))⟩, false),
    (4, ⟨(some 41), none, .call (.c (.fn 77 [])) [(.t 40)]⟩, false),
    (5, ⟨(some 42), none, .v (.bin .add (.t 39) (.t 41))⟩, false),
    (6, ⟨(some 43), none, .v (.mov (.t 5))⟩, false),
    (7, ⟨(some 44), none, .v (.bin .add (.t 42) (.t 43))⟩, false),
    (8, ⟨(some 45), none, .v (.off (.t 2) 0)⟩, false),
    (9, ⟨(some 46), none, .v (.off (.t 45) 2)⟩, false),
    (10, ⟨(some 47), none, .v (.load (.t 46) none)⟩, false),
    (11, ⟨(some 48), none, .v (.bin .sub (.t 44) (.t 47))⟩, false),
    (12, ⟨(some 49), none, .v (.off (.t 2) 0)⟩, false),
    (13, ⟨(some 50), none, .v (.off (.t 49) 0)⟩, false),
    (14, ⟨(some 51), none, .v (.load (.t 50) none)⟩, false),
    (15, ⟨(some 52), none, .v (.load (.t 2) (some 4))⟩, false),
    (16, ⟨(some 53), none, .call (.c (.fn 77 [])) [(.t 52)]⟩, false),
    (17, ⟨(some 54), none, .v (.bin .add (.t 51) (.t 53))⟩, false),
    (18, ⟨(some 55), none, .v (.mov (.t 5))⟩, false),
    (19, ⟨(some 56), none, .v (.bin .add (.t 54) (.t 55))⟩, false),
    (20, ⟨(some 57), none, .v (.off (.t 2) 0)⟩, false),
    (21, ⟨(some 58), none, .v (.off (.t 57) 2)⟩, false),
    (22, ⟨(some 59), none, .v (.load (.t 58) none)⟩, false),
    (23, ⟨(some 60), none, .v (.bin .add (.t 56) (.t 59))⟩, false),
    (24, ⟨(some 61), none, .bld [(.int .i64 (0)), (.int .i64 (0))] [(0, 1, (.t 48)), (1, 1, (.t 60))]⟩, false)]
    (some ⟨(some 7), none, .new 23 [(.int .i64 (0)), (.int .i64 (0))]⟩)
    [⟨none, none, .store 2 (.t 7) (.t 61)⟩])
  (.seq (.reg [⟨(some 62), none, .v (.load (.t 6) (some 2))⟩,
    ⟨(some 63), none, .v (.load (.t 7) (some 2))⟩,
    ⟨(some 64), none, .call (.c (.fn 74 [])) [(.t 62), (.t 63)]⟩,
    ⟨none, none, .store 2 (.t 4) (.t 64)⟩])
  .ret)))))
def r55 : List RV := [.c 4 (some 2)]
def n55 : Nat := 65
theorem k55 : (Try.f55.body.bind (cC Try.prog), cR Try.prog Try.f55.results.toList, Try.f55.ntmps) = (some s55, some r55, 65) := by kernel_rfl
theorem q55 : Known Try.prog 55 := ⟨_, Try.func55, by decide, by simp [Try.f55]⟩

/- 17: octant/rounds.Faces -/
def s17 : SC :=
  (.seq (.reg [⟨(some 1), none, .box 27 (.t 0)⟩,
    ⟨(some 2), none, .new 23 [(.int .i64 (0)), (.int .i64 (0))]⟩,
    ⟨(some 3), none, .new 23 [(.int .i64 (0)), (.int .i64 (0))]⟩,
    ⟨(some 4), none, .v (.mov (.c (.int .i64 (0))))⟩])
  (.seq (.reg [⟨(some 6), none, .v (.load (.t 1) (some 4))⟩,
    ⟨(some 7), none, .bld [(.int .i64 (0)), (.int .i64 (0)), (.int .i64 (0)), (.int .i64 (0))] [(0, 4, (.t 6))]⟩,
    ⟨(some 5), none, .new 87 [(.int .i64 (0)), (.int .i64 (0)), (.int .i64 (0)), (.int .i64 (0))]⟩,
    ⟨none, none, .store 4 (.t 5) (.t 7)⟩])
  (.seq (.seq (.reg [⟨(some 8), none, .v (.load (.t 5) (some 4))⟩,
    ⟨(some 9), none, .call (.c (.fn 52 [])) [(.t 8)]⟩,
    ⟨(some 10), none, .v (.not (.t 9))⟩])
  (.cond (.t 10)
    (.seq (.reg [⟨(some 11), none, .bld [(.int .i64 (0)), (.int .i64 (0))] []⟩,
      ⟨(some 12), none, .bld [(.int .i64 (0)), (.int .i64 (0))] []⟩,
      ⟨none, none, .store 2 (.t 2) (.t 11)⟩,
      ⟨none, none, .store 2 (.t 3) (.t 12)⟩,
      ⟨(some 4), none, .v (.mov (.c (.int .i64 (62))))⟩])
    .ret)
    .skip))
  (.seq (.reg [⟨(some 13), none, .v (.load (.t 5) (some 4))⟩,
    ⟨(some 14), none, .call (.c (.fn 53 [])) [(.t 13)]⟩,
    ⟨none, none, .store 2 (.t 3) (.t 14)⟩])
  (.seq (.seq (.drw [(0, ⟨(some 15), none, .v (.load (.t 3) (some 2))⟩, false),
    (1, ⟨(some 16), none, .call (.c (.fn 54 [])) []⟩, false)]
    none
    [⟨(some 17), none, .v (.eqs [(some .i64), (some .i64)] false (.t 15) (.t 16))⟩])
  (.cond (.t 17)
    (.seq (.reg [⟨(some 18), none, .bld [(.int .i64 (0)), (.int .i64 (0))] []⟩,
      ⟨(some 19), none, .bld [(.int .i64 (0)), (.int .i64 (0))] []⟩,
      ⟨none, none, .store 2 (.t 2) (.t 18)⟩,
      ⟨none, none, .store 2 (.t 3) (.t 19)⟩,
      ⟨(some 4), none, .v (.mov (.c (.int .i64 (4))))⟩])
    .ret)
    .skip))
  (.seq (.tre (.op ⟨(some 20), none, .v (.load (.t 5) (some 4))⟩ (.op ⟨(some 21), none, .v (.load (.t 3) (some 2))⟩ (.op ⟨(some 22), none, .call (.c (.fn 55 [])) [(.t 20), (.t 21)]⟩ (.op ⟨(some 23), none, .v (.load (.t 3) (some 2))⟩ (.op ⟨none, none, .store 2 (.t 2) (.t 22)⟩ (.op ⟨none, none, .store 2 (.t 3) (.t 23)⟩ (.op ⟨(some 4), none, .v (.mov (.c (.int .i64 (0))))⟩ .leaf
    .stop)
    .stop)
    .stop)
    (.op ⟨none, none, .store 2 (.t 2) (.t 22)⟩ (.op ⟨(some 23), none, .v (.load (.t 3) (some 2))⟩ (.op ⟨none, none, .store 2 (.t 3) (.t 23)⟩ (.op ⟨(some 4), none, .v (.mov (.c (.int .i64 (0))))⟩ .leaf
    .stop)
    .stop)
    .stop)
    .stop))
    (.op ⟨(some 23), none, .v (.load (.t 3) (some 2))⟩ (.op ⟨(some 22), none, .call (.c (.fn 55 [])) [(.t 20), (.t 21)]⟩ (.op ⟨none, none, .store 2 (.t 2) (.t 22)⟩ (.op ⟨none, none, .store 2 (.t 3) (.t 23)⟩ (.op ⟨(some 4), none, .v (.mov (.c (.int .i64 (0))))⟩ .leaf
    .stop)
    .stop)
    .stop)
    .stop)
    .stop))
    (.op ⟨(some 23), none, .v (.load (.t 3) (some 2))⟩ (.op ⟨(some 21), none, .v (.load (.t 3) (some 2))⟩ (.op ⟨(some 22), none, .call (.c (.fn 55 [])) [(.t 20), (.t 21)]⟩ (.op ⟨none, none, .store 2 (.t 2) (.t 22)⟩ (.op ⟨none, none, .store 2 (.t 3) (.t 23)⟩ (.op ⟨(some 4), none, .v (.mov (.c (.int .i64 (0))))⟩ .leaf
    .stop)
    .stop)
    .stop)
    .stop)
    .stop)
    .stop))
    (.op ⟨(some 21), none, .v (.load (.t 3) (some 2))⟩ (.op ⟨(some 20), none, .v (.load (.t 5) (some 4))⟩ (.op ⟨(some 22), none, .call (.c (.fn 55 [])) [(.t 20), (.t 21)]⟩ (.op ⟨(some 23), none, .v (.load (.t 3) (some 2))⟩ (.op ⟨none, none, .store 2 (.t 2) (.t 22)⟩ (.op ⟨none, none, .store 2 (.t 3) (.t 23)⟩ (.op ⟨(some 4), none, .v (.mov (.c (.int .i64 (0))))⟩ .leaf
    .stop)
    .stop)
    .stop)
    (.op ⟨none, none, .store 2 (.t 2) (.t 22)⟩ (.op ⟨(some 23), none, .v (.load (.t 3) (some 2))⟩ (.op ⟨none, none, .store 2 (.t 3) (.t 23)⟩ (.op ⟨(some 4), none, .v (.mov (.c (.int .i64 (0))))⟩ .leaf
    .stop)
    .stop)
    .stop)
    .stop))
    (.op ⟨(some 23), none, .v (.load (.t 3) (some 2))⟩ (.op ⟨(some 22), none, .call (.c (.fn 55 [])) [(.t 20), (.t 21)]⟩ (.op ⟨none, none, .store 2 (.t 2) (.t 22)⟩ (.op ⟨none, none, .store 2 (.t 3) (.t 23)⟩ (.op ⟨(some 4), none, .v (.mov (.c (.int .i64 (0))))⟩ .leaf
    .stop)
    .stop)
    .stop)
    .stop)
    .stop))
    (.op ⟨(some 23), none, .v (.load (.t 3) (some 2))⟩ (.op ⟨(some 20), none, .v (.load (.t 5) (some 4))⟩ (.op ⟨(some 22), none, .call (.c (.fn 55 [])) [(.t 20), (.t 21)]⟩ (.op ⟨none, none, .store 2 (.t 2) (.t 22)⟩ (.op ⟨none, none, .store 2 (.t 3) (.t 23)⟩ (.op ⟨(some 4), none, .v (.mov (.c (.int .i64 (0))))⟩ .leaf
    .stop)
    .stop)
    .stop)
    .stop)
    .stop)
    .stop))
    (.op ⟨(some 23), none, .v (.load (.t 3) (some 2))⟩ (.op ⟨(some 20), none, .v (.load (.t 5) (some 4))⟩ (.op ⟨(some 21), none, .v (.load (.t 3) (some 2))⟩ (.op ⟨(some 22), none, .call (.c (.fn 55 [])) [(.t 20), (.t 21)]⟩ (.op ⟨none, none, .store 2 (.t 2) (.t 22)⟩ (.op ⟨none, none, .store 2 (.t 3) (.t 23)⟩ (.op ⟨(some 4), none, .v (.mov (.c (.int .i64 (0))))⟩ .leaf
    .stop)
    .stop)
    .stop)
    .stop)
    .stop)
    (.op ⟨(some 21), none, .v (.load (.t 3) (some 2))⟩ (.op ⟨(some 20), none, .v (.load (.t 5) (some 4))⟩ (.op ⟨(some 22), none, .call (.c (.fn 55 [])) [(.t 20), (.t 21)]⟩ (.op ⟨none, none, .store 2 (.t 2) (.t 22)⟩ (.op ⟨none, none, .store 2 (.t 3) (.t 23)⟩ (.op ⟨(some 4), none, .v (.mov (.c (.int .i64 (0))))⟩ .leaf
    .stop)
    .stop)
    .stop)
    .stop)
    .stop)
    .stop))
    .stop))))
  .ret))))))
def r17 : List RV := [.c 2 (some 2), .c 3 (some 2), .t 4]
def n17 : Nat := 24
theorem k17 : (Try.f17.body.bind (cC Try.prog), cR Try.prog Try.f17.results.toList, Try.f17.ntmps) = (some s17, some r17, 24) := by kernel_rfl
theorem q17 : Known Try.prog 17 := ⟨_, Try.func17, by decide, by simp [Try.f17]⟩

/- 18: octant/octantref06.Faces -/
def s18 : SC :=
  (.seq (.reg [⟨(some 1), none, .box 27 (.t 0)⟩,
    ⟨(some 2), none, .new 23 [(.int .i64 (0)), (.int .i64 (0))]⟩,
    ⟨(some 3), none, .new 23 [(.int .i64 (0)), (.int .i64 (0))]⟩,
    ⟨(some 4), none, .v (.mov (.c (.int .i64 (0))))⟩])
  (.seq (.reg [⟨(some 5), none, .new 23 [(.int .i64 (0)), (.int .i64 (0))]⟩,
    ⟨(some 6), none, .new 23 [(.int .i64 (0)), (.int .i64 (0))]⟩])
  (.seq (.seq (.reg [⟨(some 12), none, .v (.off (.t 1) 0)⟩,
    ⟨(some 13), none, .v (.load (.t 12) none)⟩,
    ⟨(some 14), none, .call (.c (.fn 48 [])) [(.t 13), (.c (.int .i64 (0))), (.c (.int .i64 (1295999)))]⟩,
    ⟨(some 15), none, .v (.not (.t 14))⟩,
    ⟨(some 16), none, .v (.mov (.t 15))⟩,
    ⟨(some 17), (some (16, false)), .v (.off (.t 1) 1)⟩,
    ⟨(some 18), (some (16, false)), .v (.load (.t 17) none)⟩,
    ⟨(some 19), (some (16, false)), .call (.c (.fn 48 [])) [(.t 18), (.c (.int .i64 (0))), (.c (.int .i64 (1295999)))]⟩,
    ⟨(some 20), (some (16, false)), .v (.not (.t 19))⟩,
    ⟨(some 21), none, .v (.pick (.t 16) (.c (.lit (.bool true))) (.t 20))⟩,
    ⟨(some 22), none, .v (.mov (.t 21))⟩,
    ⟨(some 23), (some (22, false)), .v (.off (.t 1) 2)⟩,
    ⟨(some 24), (some (22, false)), .v (.load (.t 23) none)⟩,
    ⟨(some 25), (some (22, false)), .call (.c (.fn 48 [])) [(.t 24), (.c (.int .i64 (0))), (.c (.int .i64 (10000)))]⟩,
    ⟨(some 26), (some (22, false)), .v (.not (.t 25))⟩,
    ⟨(some 27), none, .v (.pick (.t 22) (.c (.lit (.bool true))) (.t 26))⟩,
    ⟨(some 28), none, .v (.mov (.t 27))⟩,
    ⟨(some 29), (some (28, false)), .v (.off (.t 1) 3)⟩,
    ⟨(some 30), (some (28, false)), .v (.load (.t 29) none)⟩,
    ⟨(some 31), (some (28, false)), .call (.c (.fn 48 [])) [(.t 30), (.c (.int .i64 (0))), (.c (.int .i64 (100000)))]⟩,
    ⟨(some 32), (some (28, false)), .v (.not (.t 31))⟩,
    ⟨(some 33), none, .v (.pick (.t 28) (.c (.lit (.bool true))) (.t 32))⟩])
  (.cond (.t 33)
    (.seq (.tre (.op ⟨(some 34), none, .v (.load (.t 5) (some 2))⟩ (.op ⟨(some 35), none, .v (.load (.t 6) (some 2))⟩ (.op ⟨none, none, .store 2 (.t 2) (.t 34)⟩ (.op ⟨none, none, .store 2 (.t 3) (.t 35)⟩ (.op ⟨(some 4), none, .v (.mov (.c (.int .i64 (62))))⟩ .leaf
    .stop)
    .stop)
    .stop)
    (.op ⟨none, none, .store 2 (.t 2) (.t 34)⟩ (.op ⟨(some 35), none, .v (.load (.t 6) (some 2))⟩ (.op ⟨none, none, .store 2 (.t 3) (.t 35)⟩ (.op ⟨(some 4), none, .v (.mov (.c (.int .i64 (62))))⟩ .leaf
    .stop)
    .stop)
    .stop)
    .stop))
    (.op ⟨(some 35), none, .v (.load (.t 6) (some 2))⟩ (.op ⟨(some 34), none, .v (.load (.t 5) (some 2))⟩ (.op ⟨none, none, .store 2 (.t 2) (.t 34)⟩ (.op ⟨none, none, .store 2 (.t 3) (.t 35)⟩ (.op ⟨(some 4), none, .v (.mov (.c (.int .i64 (62))))⟩ .leaf
    .stop)
    .stop)
    .stop)
    .stop)
    .stop)))
    .ret)
    .skip))
  (.seq (.reg [⟨(some 36), none, .v (.off (.t 1) 1)⟩,
    ⟨(some 37), none, .v (.load (.t 36) none)⟩,
    ⟨(some 38), none, .v (.off (.t 1) 0)⟩,
    ⟨(some 39), none, .v (.load (.t 38) none)⟩,
    ⟨(some 40), none, .v (.bin .sub (.t 37) (.t 39))⟩,
    ⟨(some 41), none, .call (.c (.fn 33 [])) [(.t 40), (.c (.int .i64 (1296000)))]⟩,
    ⟨(some 42), none, .v (.bin .sub (.t 41) (.c (.int .i64 (648000))))⟩,
    ⟨(some 7), none, .v (.mov (.t 42))⟩])
  (.seq (.reg [⟨(some 8), none, .v (.mov (.c (.lit (.bool true))))⟩])
  (.seq (.seq (.reg [⟨(some 43), none, .v (.off (.t 1) 3)⟩,
    ⟨(some 44), none, .v (.load (.t 43) none)⟩,
    ⟨(some 45), none, .v (.neg (.t 44))⟩,
    ⟨(some 9), none, .v (.mov (.t 45))⟩])
  (.block 0 (.loop
    (.seq (.seq (.reg [⟨(some 46), none, .v (.mov (.t 9))⟩,
      ⟨(some 47), none, .v (.off (.t 1) 3)⟩,
      ⟨(some 48), none, .v (.load (.t 47) none)⟩,
      ⟨(some 49), none, .v (.bin .leq (.t 46) (.t 48))⟩])
    (.cond (.t 49)
      .skip
      (.exit 0)))
    (.seq (.block 1 (.seq (.drw [(0, ⟨(some 52), none, .v (.off (.t 1) 2)⟩, false),
      (1, ⟨(some 53), none, .v (.load (.t 52) none)⟩, false),
      (2, ⟨(some 54), none, .v (.neg (.t 53))⟩, false),
      (3, ⟨(some 55), none, .v (.mov (.t 9))⟩, false),
      (4, ⟨(some 56), none, .v (.bin .sub (.t 54) (.t 55))⟩, false),
      (5, ⟨(some 57), none, .v (.mov (.t 7))⟩, false),
      (6, ⟨(some 58), none, .v (.off (.t 1) 2)⟩, false),
      (7, ⟨(some 59), none, .v (.load (.t 58) none)⟩, false),
      (8, ⟨(some 60), none, .v (.bin .sub (.t 57) (.t 59))⟩, false),
      (9, ⟨(some 61), none, .v (.mov (.t 9))⟩, false),
      (10, ⟨(some 62), none, .v (.bin .add (.t 60) (.t 61))⟩, false),
      (11, ⟨(some 63), none, .v (.max2 (.t 56) (.t 62))⟩, false),
      (12, ⟨(some 64), none, .v (.off (.t 1) 2)⟩, false),
      (13, ⟨(some 65), none, .v (.load (.t 64) none)⟩, false),
      (14, ⟨(some 66), none, .v (.mov (.t 9))⟩, false),
      (15, ⟨(some 67), none, .v (.bin .sub (.t 65) (.t 66))⟩, false),
      (16, ⟨(some 68), none, .v (.mov (.t 7))⟩, false),
      (17, ⟨(some 69), none, .v (.off (.t 1) 2)⟩, false),
      (18, ⟨(some 70), none, .v (.load (.t 69) none)⟩, false),
      (19, ⟨(some 71), none, .v (.bin .add (.t 68) (.t 70))⟩, false),
      (20, ⟨(some 72), none, .v (.mov (.t 9))⟩, false),
      (21, ⟨(some 73), none, .v (.bin .add (.t 71) (.t 72))⟩, false),
      (22, ⟨(some 74), none, .v (.min2 (.t 67) (.t 73))⟩, false),
      (23, ⟨(some 10), none, .v (.mov (.t 63))⟩, false)]
      none
      [⟨(some 11), none, .v (.mov (.t 74))⟩])
    (.seq (.seq (.reg [⟨(some 75), none, .v (.mov (.t 10))⟩,
      ⟨(some 76), none, .v (.mov (.t 11))⟩,
      ⟨(some 77), none, .v (.bin .gtr (.t 75) (.t 76))⟩])
    (.cond (.t 77)
      (.exit 1)
      .skip))
    (.seq (.drw [(0, ⟨(some 78), none, .v (.load (.t 5) (some 2))⟩, false),
      (1, ⟨(some 79), none, .v (.off (.t 1) 0)⟩, false),
      (2, ⟨(some 80), none, .v (.load (.t 79) none)⟩, false),
      (3, ⟨(some 81), none, .v (.mov (.t 10))⟩, false),
      (4, ⟨(some 82), none, .v (.bin .add (.t 80) (.t 81))⟩, false),
      (5, ⟨(some 83), none, .v (.mov (.t 8))⟩, false),
      (6, ⟨(some 84), none, .call (.c (.fn 56 [])) [(.t 78), (.t 82), (.t 83)]⟩, false),
      (7, ⟨(some 85), none, .v (.off (.t 1) 0)⟩, false),
      (8, ⟨(some 86), none, .v (.load (.t 85) none)⟩, false),
      (9, ⟨(some 87), none, .v (.mov (.t 11))⟩, false),
      (10, ⟨(some 88), none, .v (.bin .add (.t 86) (.t 87))⟩, false),
      (11, ⟨(some 89), none, .call (.c (.fn 56 [])) [(.t 84), (.t 88), (.c (.lit (.bool false)))]⟩, false),
      (12, ⟨(some 90), none, .v (.load (.t 6) (some 2))⟩, false),
      (13, ⟨(some 91), none, .v (.mov (.t 9))⟩, false),
      (14, ⟨(some 92), none, .v (.mov (.t 8))⟩, false)]
      none
      [⟨(some 93), none, .call (.c (.fn 56 [])) [(.t 90), (.t 91), (.t 92)]⟩,
      ⟨none, none, .store 2 (.t 5) (.t 89)⟩,
      ⟨none, none, .store 2 (.t 6) (.t 93)⟩])
    (.reg [⟨(some 8), none, .v (.mov (.c (.lit (.bool false))))⟩])))))
    (.reg [⟨(some 50), none, .v (.mov (.t 9))⟩,
      ⟨(some 51), none, .v (.bin .add (.t 50) (.c (.int .i64 (1))))⟩,
      ⟨(some 9), none, .v (.mov (.t 51))⟩]))))))
  (.seq (.seq (.reg [⟨(some 94), none, .v (.mov (.t 8))⟩])
  (.cond (.t 94)
    (.seq (.tre (.op ⟨(some 95), none, .v (.load (.t 5) (some 2))⟩ (.op ⟨(some 96), none, .v (.load (.t 6) (some 2))⟩ (.op ⟨none, none, .store 2 (.t 2) (.t 95)⟩ (.op ⟨none, none, .store 2 (.t 3) (.t 96)⟩ (.op ⟨(some 4), none, .v (.mov (.c (.int .i64 (4))))⟩ .leaf
    .stop)
    .stop)
    .stop)
    (.op ⟨none, none, .store 2 (.t 2) (.t 95)⟩ (.op ⟨(some 96), none, .v (.load (.t 6) (some 2))⟩ (.op ⟨none, none, .store 2 (.t 3) (.t 96)⟩ (.op ⟨(some 4), none, .v (.mov (.c (.int .i64 (4))))⟩ .leaf
    .stop)
    .stop)
    .stop)
    .stop))
    (.op ⟨(some 96), none, .v (.load (.t 6) (some 2))⟩ (.op ⟨(some 95), none, .v (.load (.t 5) (some 2))⟩ (.op ⟨none, none, .store 2 (.t 2) (.t 95)⟩ (.op ⟨none, none, .store 2 (.t 3) (.t 96)⟩ (.op ⟨(some 4), none, .v (.mov (.c (.int .i64 (4))))⟩ .leaf
    .stop)
    .stop)
    .stop)
    .stop)
    .stop)))
    .ret)
    .skip))
  (.seq (.tre (.op ⟨(some 97), none, .v (.load (.t 5) (some 2))⟩ (.op ⟨(some 98), none, .v (.load (.t 6) (some 2))⟩ (.op ⟨none, none, .store 2 (.t 2) (.t 97)⟩ (.op ⟨none, none, .store 2 (.t 3) (.t 98)⟩ (.op ⟨(some 4), none, .v (.mov (.c (.int .i64 (0))))⟩ .leaf
    .stop)
    .stop)
    .stop)
    (.op ⟨none, none, .store 2 (.t 2) (.t 97)⟩ (.op ⟨(some 98), none, .v (.load (.t 6) (some 2))⟩ (.op ⟨none, none, .store 2 (.t 3) (.t 98)⟩ (.op ⟨(some 4), none, .v (.mov (.c (.int .i64 (0))))⟩ .leaf
    .stop)
    .stop)
    .stop)
    .stop))
    (.op ⟨(some 98), none, .v (.load (.t 6) (some 2))⟩ (.op ⟨(some 97), none, .v (.load (.t 5) (some 2))⟩ (.op ⟨none, none, .store 2 (.t 2) (.t 97)⟩ (.op ⟨none, none, .store 2 (.t 3) (.t 98)⟩ (.op ⟨(some 4), none, .v (.mov (.c (.int .i64 (0))))⟩ .leaf
    .stop)
    .stop)
    .stop)
    .stop)
    .stop)))
  .ret))))))))
def r18 : List RV := [.c 2 (some 2), .c 3 (some 2), .t 4]
def n18 : Nat := 99
theorem k18 : (Try.f18.body.bind (cC Try.prog), cR Try.prog Try.f18.results.toList, Try.f18.ntmps) = (some s18, some r18, 99) := by kernel_rfl
theorem q18 : Known Try.prog 18 := ⟨_, Try.func18, by decide, by simp [Try.f18]⟩



/-- Faces. -/
structure Fc where
  (l r w n : Int)
def Fc.sv (v : Fc) : SV := .agg [.int .i64 v.l, .int .i64 v.r, .int .i64 v.w, .int .i64 v.n]
def Fc.ok (v : Fc) : Prop := (0 ≤ v.l ∧ v.l ≤ 1295999) ∧ (0 ≤ v.r ∧ v.r ≤ 1295999) ∧ (0 ≤ v.w ∧ v.w ≤ 10000) ∧ (0 ≤ v.n ∧ v.n ≤ 100000)
instance (v : Fc) : Decidable v.ok := by unfold Fc.ok; infer_instance
def F52 : FC := fun args => match args with
  | [.agg [.int .i64 l, .int .i64 r, .int .i64 w, .int .i64 n]] => some (True, .bool (decide (Fc.ok ⟨l, r, w, n⟩)))
  | _ => none
theorem p52 : PureOk Try.prog 52 (fcC F52) := by
  refine pure_of (T := [(70, .fc Fdir), (71, .fc Fin)]) ⟨⟨p70, q70⟩, ⟨p71, q71⟩, trivial⟩ Try.func52 k52 ?_
  intro args K hC
  unfold fcC F52 at hC
  split at hC <;> first | (exact hC.elim) | skip
  rename_i h
  split at h <;> first | (cases h; done) | skip
  cases h
  obtain ⟨-, hK⟩ := hC
  unfold Fc.ok at hK
  simp only [e_reg, e_seq, e_ret, o_nil, o_cons, gd_none, gd_some, gdK_tt, gdK_ft, gdK_bt, putK_e, runK_e, skipK_e, vK_e, boxK_e, conK_e, callK_e, evh_v, evh_box, evh_call, seqK_n, ends_r, endK1_e, endK2_e, gam_e, gamK_f, pc_e, pcK_e, fcC_e, fcK_e, evp, gt, gq, st, putf, X.get, gets, ap, mkfr, rep, rdR, tupled, clV, clL, clS, clo, ld, lda, cs1, gb, pb, ln, lk, undef, Nat.reduceSub, Nat.reduceAdd, Nat.reduceBEq, beq_self_eq_true, true_and, decide_eq_true_eq, decide_eq_false_iff_not, s52, r52, Fdir, Fin]
  exact ⟨fun h1 => ⟨fun h2 => ⟨fun h3 => res hK (by simp [leR, h1, h2, h3]), fun h3 => res hK (by simp [leR, h3])⟩, fun h2 => res hK (by simp [leR, h2])⟩, fun h1 => res hK (by simp [leR, h1])⟩
/-- How far the faces are apart. -/
def Fc.a (v : Fc) : Int := (v.r - v.l) % 1296000 - 648000
theorem Fc.aB (v : Fc) : -648000 ≤ v.a ∧ v.a ≤ 647999 := by
  have h1 := Int.emod_nonneg (v.r - v.l) (show (1296000 : Int) ≠ 0 by omega)
  have h2 := Int.emod_lt_of_pos (v.r - v.l) (show (0 : Int) < 1296000 by omega)
  unfold Fc.a; omega
def F77 : FC := fun args => match args with
  | [.agg [.int .i64 l, .int .i64 r, .int .i64 w, .int .i64 n]] => some (Fc.ok ⟨l, r, w, n⟩, .int .i64 (Fc.a ⟨l, r, w, n⟩))
  | _ => none
theorem p77 : PureOk Try.prog 77 (fcC F77) := by
  refine pure_of (T := [(73, .fc Fcir)]) ⟨⟨p73, q73⟩, trivial⟩ Try.func77 k77 ?_
  intro args K hC
  unfold fcC F77 at hC
  split at hC <;> first | (exact hC.elim) | skip
  rename_i h
  split at h <;> first | (cases h; done) | skip
  cases h
  rename_i l r w n
  obtain ⟨h1, hK⟩ := hC
  unfold Fc.ok at h1
  have h2 := Fc.aB ⟨l, r, w, n⟩
  unfold Fc.a at h2 hK
  simp only at h1 h2
  simp only [inr64, e_reg, e_seq, e_ret, o_nil, o_cons, gd_none, putK_e, runK_e, vK_e, boxK_e, conK_e, callK_e, evh_v, evh_box, evh_call, seqK_n, ends_r, endK1_e, endK2_e, gam_e, gamK_f, pc_e, pcK_e, fcC_e, fcK_e, evp, bin, gt, gq, st, putf, X.get, gets, ap, mkfr, rep, rdR, tupled, clV, clL, clS, clo, ld, lda, cs1, gb, pb, ln, lk, undef, Nat.reduceSub, Nat.reduceAdd, beq_self_eq_true, true_and, s77, r77, Fcir]
  exact ⟨by omega, by omega, by omega, res hK (by simp [leR])⟩
def Fc.lo (v : Fc) : Int := max (-v.n) (-((v.a + 2 * v.w) / 2))
def Fc.B (v : Fc) : Int := (-v.a + 2 * v.w) / 2
def Fc.hi (v : Fc) : Int := min v.n v.B
def Fc.cl (v : Fc) (h : Int) : Int := min (max (-v.a / 2) v.lo) h
def Fc.d1 (v : Fc) (h : Int) : Int := v.l + max (-v.cl h - v.w) (v.a + v.cl h - v.w)
def Fc.d2 (v : Fc) (h : Int) : Int := v.l + min (-v.cl h + v.w) (v.a + v.cl h + v.w)
def Fc.ln (v : Fc) : Int × Int := if v.lo ≤ v.hi then (v.lo, v.hi) else (1, 0)
def F53 : FC := fun args => match args with
  | [.agg [.int .i64 l, .int .i64 r, .int .i64 w, .int .i64 n]] => some (Fc.ok ⟨l, r, w, n⟩, .agg [.int .i64 (Fc.ln ⟨l, r, w, n⟩).1, .int .i64 (Fc.ln ⟨l, r, w, n⟩).2])
  | _ => none
theorem p53 : PureOk Try.prog 53 (fcC F53) := by
  refine pure_of (T := [(77, .fc F77), (75, .fc Fup), (76, .fc Fdwn), (74, .fc Fcom)]) ⟨⟨p77, q77⟩, ⟨p75, q75⟩, ⟨p76, q76⟩, ⟨p74, q74⟩, trivial⟩ Try.func53 k53 ?_
  intro args K hC
  unfold fcC F53 at hC
  split at hC <;> first | (exact hC.elim) | skip
  rename_i h
  split at h <;> first | (cases h; done) | skip
  cases h
  rename_i l r w n
  obtain ⟨h1, hK⟩ := hC
  have h2 := Fc.aB ⟨l, r, w, n⟩
  have h3 := h1
  unfold Fc.ok at h1
  simp only at h1
  have e : com (-n) n (-(-(-Fc.a ⟨l, r, w, n⟩ - 2 * w) / 2)) ((-Fc.a ⟨l, r, w, n⟩ + 2 * w) / 2) = Fc.ln ⟨l, r, w, n⟩ := by
    have e1 : -(-Fc.a ⟨l, r, w, n⟩ - 2 * w) = Fc.a ⟨l, r, w, n⟩ + 2 * w := by omega
    unfold com Fc.ln Fc.lo Fc.hi Fc.B
    simp only [e1]
  simp only [inr64, ↓reduceIte, e_reg, and_self, e_drw, e_seq, e_ret, o_nil, o_cons, gd_none, putK_e, runK_e, boxK_e, storeK3_e, storeK2_e, storeK_e, conK_e, callK_e, evh_new, evh_box, evh_store, evh_call, dX_e, dG_t, d_nil, d_cons, creK_e, tlK_n, tlK_s, evc_e, seqK_n, ends_r, endK1_e, endK2_e, gam_e, gamK_f, gamq_e, gamqK_f, pc_e, pcK_e, fcC_e, fcK_e, evp, bin, gt, gq, st, putf, X.get, gets, getp, ap, mkfr, rep, rdR, tupled, clV, clL, clS, clo, clo.clos, ld, lda, tk, dr, sp, sp.spl, lay, ll, cs1, one, allOne, gb, sb, pb, ln, lk, evq, gdl, crv, Value.oneCell', undef, Bool.and_true, Nat.reduceSub, Nat.reduceAdd, Nat.reduceBEq, beq_self_eq_true, true_and, s53, r53, F77, Fup, Fdwn, Fcom, e]
  exact ⟨h3, by omega, by omega, by omega, h3, by omega, by omega, by omega, by omega, ⟨by omega, by omega, by omega⟩, ⟨by omega, by omega, by omega⟩, res hK (by simp [leR, leR.leRs])⟩
def F55 : FC := fun args => match args with
  | [.agg [.int .i64 l, .int .i64 r, .int .i64 w, .int .i64 n], .agg [.int .i64 x, .int .i64 y]] =>
    some (Fc.ok ⟨l, r, w, n⟩ ∧ Fc.lo ⟨l, r, w, n⟩ ≤ Fc.hi ⟨l, r, w, n⟩ ∧ x = Fc.lo ⟨l, r, w, n⟩ ∧ y = Fc.hi ⟨l, r, w, n⟩, .agg [.int .i64 (Fc.d1 ⟨l, r, w, n⟩ (Fc.hi ⟨l, r, w, n⟩)), .int .i64 (Fc.d2 ⟨l, r, w, n⟩ (Fc.hi ⟨l, r, w, n⟩))])
  | _ => none
theorem p55 : PureOk Try.prog 55 (fcC F55) := by
  refine pure_of (T := [(77, .fc F77), (76, .fc Fdwn), (74, .fc Fcom)]) ⟨⟨p77, q77⟩, ⟨p76, q76⟩, ⟨p74, q74⟩, trivial⟩ Try.func55 k55 ?_
  intro args K hC
  unfold fcC F55 at hC
  split at hC <;> first | (exact hC.elim) | skip
  rename_i h
  split at h <;> first | (cases h; done) | skip
  cases h
  rename_i l r w n x y
  obtain ⟨⟨h1, h0, rfl, rfl⟩, hK⟩ := hC
  have h2 := Fc.aB ⟨l, r, w, n⟩
  have h3 := h1
  unfold Fc.ok at h1
  simp only at h1
  unfold Fc.d1 Fc.d2 at hK
  have hc : Fc.cl ⟨l, r, w, n⟩ (Fc.hi ⟨l, r, w, n⟩) = min (max (-Fc.a ⟨l, r, w, n⟩ / 2) (Fc.lo ⟨l, r, w, n⟩)) (Fc.hi ⟨l, r, w, n⟩) := rfl
  have hb : -100000 ≤ Fc.lo ⟨l, r, w, n⟩ ∧ Fc.hi ⟨l, r, w, n⟩ ≤ 100000 := by unfold Fc.lo Fc.hi; simp only; omega
  have hA : Fc.lo ⟨l, r, w, n⟩ ≥ -((Fc.a ⟨l, r, w, n⟩ + 2 * w) / 2) := by unfold Fc.lo; simp only; omega
  have hB : Fc.hi ⟨l, r, w, n⟩ ≤ (-Fc.a ⟨l, r, w, n⟩ + 2 * w) / 2 := by unfold Fc.hi Fc.B; simp only; omega
  simp only at hK
  simp only [inr64, ↓reduceIte, e_reg, and_self, e_drw, e_seq, e_ret, o_nil, o_cons, gd_none, putK_e, runK_e, vK_e, boxK_e, bldK_e, storeK3_e, storeK2_e, storeK_e, conK_e, callK_e, evh_v, evh_new, evh_box, evh_bld, evh_store, evh_call, dX_e, dG_t, d_nil, d_cons, creK_e, tlK_n, tlK_s, evc_e, seqK_n, ends_r, endK1_e, endK2_e, gam_e, gamK_f, gamq_e, gamqK_f, pc_e, pcK_e, fcC_e, fcK_e, evp, bin, gt, gq, st, putf, X.get, gets, getp, ap, mkfr, rep, rdR, tupled, clV, clL, clS, clo, clo.clos, ld, lda, tk, dr, sp, sp.spl, lay, ll, cs1, one, allOne, gb, sb, pb, ln, lk, evq, gdl, crv, Value.oneCell', undef, Bool.and_true, Nat.reduceSub, Nat.reduceAdd, Nat.reduceBEq, beq_self_eq_true, true_and, s55, r55, F77, Fdwn, Fcom, mx_eq, mn_eq, hc.symm]
  generalize Fc.cl ⟨l, r, w, n⟩ (Fc.hi ⟨l, r, w, n⟩) = c at hc hK ⊢
  generalize Fc.a ⟨l, r, w, n⟩ = a at h2 hc hK hA hB ⊢
  generalize Fc.lo ⟨l, r, w, n⟩ = lo at h0 hc hb hA ⊢
  generalize Fc.hi ⟨l, r, w, n⟩ = hi at h0 hc hb hB ⊢
  have e : com (l - c - w) (l - c + w) (l + a + c - w) (l + a + c + w) = (l + max (-c - w) (a + c - w), l + min (-c + w) (a + c + w)) := by
    unfold com
    rw [if_pos (by omega), Prod.mk.injEq]
    omega
  rw [e]
  refine ⟨by assumption, by omega, ⟨by omega, by omega, by omega, by omega⟩, by omega, by omega, by omega, by omega, by assumption, by omega, by omega, by omega, by assumption, by omega, by omega, by omega, res hK (by simp [leR, leR.leRs])⟩
def Fc.e (v : Fc) : Int := if v.ok then (if v.lo ≤ v.hi then 0 else 4) else 62
def Fc.D (v : Fc) : Int × Int := if v.ok ∧ v.lo ≤ v.hi then (v.d1 v.hi, v.d2 v.hi) else (0, 0)
def Fc.L (v : Fc) : Int × Int := if v.ok ∧ v.lo ≤ v.hi then (v.lo, v.hi) else (0, 0)
def F17 : FC := fun args => match args with
  | [.agg [.int .i64 l, .int .i64 r, .int .i64 w, .int .i64 n]] => some (True, .tup [.agg [.int .i64 (Fc.D ⟨l, r, w, n⟩).1, .int .i64 (Fc.D ⟨l, r, w, n⟩).2], .agg [.int .i64 (Fc.L ⟨l, r, w, n⟩).1, .int .i64 (Fc.L ⟨l, r, w, n⟩).2], .int .i64 (Fc.e ⟨l, r, w, n⟩)])
  | _ => none
theorem p17 : PureOk Try.prog 17 (fcC F17) := by
  refine pure_of (T := [(52, .fc F52), (53, .fc F53), (54, .fc Fno), (55, .fc F55)]) ⟨⟨p52, q52⟩, ⟨p53, q53⟩, ⟨p54, q54⟩, ⟨p55, q55⟩, trivial⟩ Try.func17 k17 ?_
  intro args K hC
  unfold fcC F17 at hC
  split at hC <;> first | (exact hC.elim) | skip
  rename_i h
  split at h <;> first | (cases h; done) | skip
  cases h
  rename_i l r w n
  obtain ⟨-, hK⟩ := hC
  unfold Fc.D Fc.L Fc.e at hK
  simp only [List.cons.injEq, e_skip, e_reg, e_tre, t_leaf, t_stop, t_op, and_self, e_drw, e_seq, e_cond, e_ret, o_nil, o_cons, gd_none, putK_e, runK_e, vK_e, boxK_e, bldK_e, storeK3_e, storeK2_e, storeK_e, conK_e, callK_e, evh_v, evh_new, evh_box, evh_bld, evh_store, evh_call, dX_e, dG_t, d_nil, d_cons, tlK_n, seqK_n, seqK_r, condK_b, ends_r, endK1_e, endK2_e, gam_e, gamK_f, gamq_e, gamqK_f, pc_e, pcK_e, fcC_e, fcK_e, evp, fit, InQ, gt, st, putf, X.get, gets, getp, ap, mkfr, rep, rdR, tupled, clV, clL, clS, clo, clo.clos, ld, lda, tk, dr, sp, sp.spl, lay, ll, cs1, one, allOne, gb, sb, pb, ln, lk, evq, gdl, Value.oneCell', undef, Bool.and_true, Bool.not_true, Bool.not_false, cond_false, Nat.reduceSub, Nat.reduceAdd, Nat.reduceBEq, beq_self_eq_true, true_and, and_true, decide_eq_true_eq, decide_eq_false_iff_not, Bool.not_eq_eq_eq_not, s17, r17, F52, F53, Fno, F55]
  generalize hv : (⟨l, r, w, n⟩ : Fc) = v at hK ⊢
  have hb : v.ok → -100000 ≤ v.lo ∧ v.hi ≤ 100000 := by
    intro h; unfold Fc.ok at h; unfold Fc.lo Fc.hi; omega
  refine ⟨fun h => res hK (by simp [leR, leR.leRs, h]), fun h => ⟨h, ?_, ?_, ?_⟩⟩
  · have := hb h
    unfold Fc.ln
    split <;> simp only <;> omega
  · rintro ⟨h1, h2⟩
    have h3 : ¬ v.lo ≤ v.hi := by
      intro h3
      unfold Fc.ln at h1 h2
      rw [if_pos h3] at h1 h2
      simp only at h1 h2
      omega
    exact res hK (by simp [leR, leR.leRs, h, h3])
  · intro h1
    have h3 : v.lo ≤ v.hi := by
      refine Classical.byContradiction fun h3 => h1 ?_
      unfold Fc.ln
      rw [if_neg h3]
      exact ⟨rfl, rfl⟩
    have h4 : v.ln = (v.lo, v.hi) := by unfold Fc.ln; rw [if_pos h3]
    rw [h4]
    exact ⟨⟨h, h3, rfl, rfl⟩, res hK (by simp [leR, leR.leRs, h, h3])⟩
/-- What the specification has behind so many leans. -/
def Fc.hm (v : Fc) (m : Nat) : Int := min (-v.n + m - 1) v.B
def Fc.fst (v : Fc) (m : Nat) : Bool := decide (v.hm m < v.lo)
def Fc.dm (v : Fc) (m : Nat) : Int × Int := if v.hm m < v.lo then (0, 0) else (v.d1 (v.hm m), v.d2 (v.hm m))
def Fc.lm (v : Fc) (m : Nat) : Int × Int := if v.hm m < v.lo then (0, 0) else (v.lo, v.hm m)
/-- A lean that is out of question. -/
theorem Fc.skip {v : Fc} (hv : v.ok) {m : Nat} (h : min (v.w - (-v.n + m)) (v.a + v.w + (-v.n + m)) < max (-v.w - (-v.n + m)) (v.a - v.w + (-v.n + m))) :
    v.fst (m + 1) = v.fst m ∧ v.dm (m + 1) = v.dm m ∧ v.lm (m + 1) = v.lm m := by
  have key : v.hm (m + 1) = v.hm m ∨ (v.hm (m + 1) < v.lo ∧ v.hm m < v.lo) := by
    unfold Fc.ok at hv
    unfold Fc.hm Fc.lo Fc.B
    omega
  rcases key with k | ⟨k1, k2⟩
  · unfold Fc.fst Fc.dm Fc.lm; rw [k]; exact ⟨rfl, rfl, rfl⟩
  · unfold Fc.fst Fc.dm Fc.lm
    rw [if_pos k1, if_pos k2, if_pos k1, if_pos k2]
    exact ⟨by simp [k1, k2], rfl, rfl⟩
/-- A lean that agrees. -/
theorem Fc.take {v : Fc} (hv : v.ok) {m : Nat} (h : ¬ min (v.w - (-v.n + m)) (v.a + v.w + (-v.n + m)) < max (-v.w - (-v.n + m)) (v.a - v.w + (-v.n + m))) :
    v.fst (m + 1) = false ∧
    v.dm (m + 1) = wid (wid (v.dm m).1 (v.dm m).2 (v.l + max (-v.w - (-v.n + m)) (v.a - v.w + (-v.n + m))) (v.fst m)).1 (wid (v.dm m).1 (v.dm m).2 (v.l + max (-v.w - (-v.n + m)) (v.a - v.w + (-v.n + m))) (v.fst m)).2 (v.l + min (v.w - (-v.n + m)) (v.a + v.w + (-v.n + m))) false ∧
    v.lm (m + 1) = wid (v.lm m).1 (v.lm m).2 (-v.n + m) (v.fst m) := by
  have k0 : v.hm (m + 1) = -v.n + m ∧ v.hm m = -v.n + m - 1 ∧ v.lo ≤ -v.n + m := by
    unfold Fc.ok at hv
    unfold Fc.hm Fc.lo Fc.B
    omega
  obtain ⟨k1, k2, k3⟩ := k0
  have h1 : ¬ (-v.n + (m : Int) < v.lo) := by omega
  unfold Fc.fst Fc.dm Fc.lm
  rw [k1, k2]
  by_cases hc : -v.n + m - 1 < v.lo
  · have e : -v.n + (m : Int) = v.lo := by omega
    simp only [wid, hc, h1, decide_true, decide_false, if_true, Bool.false_eq_true, if_false, Fc.d1, Fc.d2, Fc.cl]
    rw [e] at h ⊢
    refine ⟨trivial, ?_, rfl⟩
    rw [Prod.mk.injEq]
    generalize v.lo = lo at *
    omega
  · simp only [wid, hc, h1, decide_false, Bool.false_eq_true, if_false, Fc.d1, Fc.d2, Fc.cl]
    refine ⟨trivial, ?_, ?_⟩
    · rw [Prod.mk.injEq]
      generalize v.lo = lo at *
      omega
    · rw [Prod.mk.injEq]
      omega
theorem p18 : PureOk Try.prog 18 (fcC F17) := by
  refine pure_of (T := [(48, .fc Fin), (33, .fc Fmod), (56, .fc Fwid)]) ⟨⟨p48, q48⟩, ⟨p33, q33⟩, ⟨p56, q56⟩, trivial⟩ Try.func18 k18 ?_
  intro args K hC
  unfold fcC F17 at hC
  split at hC <;> first | (exact hC.elim) | skip
  rename_i h
  split at h <;> first | (cases h; done) | skip
  cases h
  rename_i l r w n
  obtain ⟨-, hK⟩ := hC
  unfold Fc.D Fc.L Fc.e at hK
  simp only [inr64, e_skip, e_reg, e_tre, t_leaf, t_stop, t_op, and_self, e_seq, e_cond, e_block, e_loop, e_ret, o_nil, o_cons, gd_none, gd_some, gdK_tf, gdK_ff, gdK_bf, putK_e, runK_e, skipK_e, vK_e, boxK_e, storeK3_e, storeK2_e, storeK_e, conK_e, callK_e, evh_v, evh_new, evh_box, evh_store, evh_call, seqK_n, seqK_r, condK_t, condK_b, ends_r, endK1_e, endK2_e, gam_e, gamK_f, pc_e, pcK_e, fcC_e, fcK_e, evp, bin, gt, gq, st, putf, X.get, gets, ap, mkfr, rep, rdR, tupled, clV, clL, clS, clo, ld, lda, tk, dr, sp, sp.spl, ll, cs1, one, allOne, gb, sb, pb, ln, lk, undef, Bool.and_true, Bool.not_true, Bool.not_false, Nat.reduceSub, Nat.reduceAdd, Nat.reduceBEq, beq_self_eq_true, true_and, and_true, decide_eq_true_eq, decide_eq_false_iff_not, Bool.not_eq_eq_eq_not, s18, r18, Fin, Fmod]
  have hok : Fc.ok ⟨l, r, w, n⟩ ↔ (0 ≤ l ∧ l ≤ 1295999) ∧ (0 ≤ r ∧ r ≤ 1295999) ∧ (0 ≤ w ∧ w ≤ 10000) ∧ (0 ≤ n ∧ n ≤ 100000) := Iff.rfl
  refine ⟨fun h1 => ⟨fun h2 => ⟨fun h3 => ⟨fun h4 => res hK (by simp [leR, leR.leRs, hok, h4]), fun h4 => ⟨by omega, by omega, by omega, by omega, ?_⟩⟩, fun h3 => res hK (by simp [leR, leR.leRs, hok, h3])⟩, fun h2 => res hK (by simp [leR, leR.leRs, hok, h2])⟩, fun h1 => res hK (by simp [leR, leR.leRs, hok, h1])⟩
  have ho := hok.2 ⟨h1, h2, h3, h4⟩
  have ha : (r - l) % 1296000 - 648000 = Fc.a ⟨l, r, w, n⟩ := rfl
  have h5 := Fc.aB ⟨l, r, w, n⟩
  rw [ha]
  refine loop_at2 (G := Nat) (fun m => [(9, .int .i64 (-n + m)), (8, .bool (Fc.fst ⟨l, r, w, n⟩ m))]) (fun m => [.box 27 [.int .i64 l, .int .i64 r, .int .i64 w, .int .i64 n], .box 23 [.int .i64 0, .int .i64 0], .box 23 [.int .i64 0, .int .i64 0],
      .box 23 [.int .i64 (Fc.dm ⟨l, r, w, n⟩ m).1, .int .i64 (Fc.dm ⟨l, r, w, n⟩ m).2], .box 23 [.int .i64 (Fc.lm ⟨l, r, w, n⟩ m).1, .int .i64 (Fc.lm ⟨l, r, w, n⟩ m).2]]) (fun m => -n + m ≤ n + 1) (fun m => (2 * n + 1 - m).toNat) 0 (by omega) ?_
  (intro fr1 hf1; simp only [forget, dstC, dstO, dstD, dst1, st] at hf1; subst hf1)
  have hz : Fc.hm ⟨l, r, w, n⟩ 0 < Fc.lo ⟨l, r, w, n⟩ := by unfold Fc.hm Fc.lo; simp only; omega
  refine ⟨?_, ?_⟩
  · refine Lw_re 5 [] (Nat.zero_le _) (by simp [ln]) (by simp [ln]) rfl ?_ ?_
    · simp only [reL, reX, inb, inb.inbs, ln, sts, st, Bool.and_self, Nat.reduceLT, Nat.reduceAdd, decide_true, true_and, and_true, and_self, Int.natCast_zero, Int.add_zero]
      exact (show Fc.fst ⟨l, r, w, n⟩ 0 = true from decide_eq_true hz).symm
    · simp only [reL, reX, reH, reB, reN, inb, true_and, and_true, and_self]
      unfold Fc.dm Fc.lm
      rw [if_pos hz, if_pos hz]
      exact ⟨⟨rfl, rfl⟩, rfl, rfl⟩
  · intro m hm
    simp only [inr64, e_skip, e_reg, e_tre, t_leaf, t_stop, t_op, and_self, e_drw, e_seq, e_cond, e_block, e_exit, e_ret, o_nil, o_cons, gd_none, putK_e, runK_e, vK_e, storeK3_e, storeK2_e, storeK_e, conK_e, callK_e, evh_v, evh_store, evh_call, dX_e, dG_t, d_nil, d_cons, tlK_n, loopK_n, loopK_x, seqK_n, seqK_x, seqK_r, condK_b, exitK_t, blockK_x, blockK_n, ends_r, endK1_e, endK2_e, gam_e, gamK_f, gamq_e, gamqK_f, pc_e, pcK_e, fcC_e, fcK_e, evp, bin, gt, gq, st, putf, X.get, gets, ap, rdR, tupled, clV, clL, clS, clo, clo.clos, ld, lda, tk, dr, sp, sp.spl, ll, cs1, one, allOne, gb, sb, lk, evq, gdl, Value.oneCell', Bool.and_true, Nat.reduceAdd, Nat.reduceBEq, beq_self_eq_true, true_and, and_true, decide_eq_true_eq, decide_eq_false_iff_not, sts, Fwid, mx_eq, mn_eq]
    refine ⟨fun hc => ⟨by omega, by omega, by omega, by omega, by omega, by omega, by omega, fun hq => ⟨by omega, ?_⟩, fun hq => ⟨by omega, by omega, by omega, ?_⟩⟩, fun hc => ?_⟩
    · obtain ⟨e1, e2, e3⟩ := Fc.skip ho hq
      refine Nx.mk (m + 1) (by omega) (by omega) (Lw_re 5 [] (Nat.zero_le _) (by simp [ln]) (by simp [ln]) rfl ?_ ?_)
      · simp only [reL, reX, inb, inb.inbs, Bool.and_self, Nat.reduceLT, decide_true, true_and, and_true, and_self, Int.natCast_add, Int.natCast_one, e1]
        rw [SV.int.injEq]; exact ⟨rfl, by omega⟩
      · simp only [reL, reX, reH, reB, reN, inb, and_self, e2, e3]
    · obtain ⟨e1, e2, e3⟩ := Fc.take ho hq
      refine Nx.mk (m + 1) (by omega) (by omega) (Lw_re 5 [] (Nat.zero_le _) (by simp [ln]) (by simp [ln]) rfl ?_ ?_)
      · simp only [reL, reX, inb, inb.inbs, Bool.and_self, Nat.reduceLT, decide_true, true_and, and_true, and_self, Int.natCast_add, Int.natCast_one, e1]
        rw [SV.int.injEq]; exact ⟨rfl, by omega⟩
      · simp only at e2 e3
        simp only [reL, reX, reH, reB, reN, inb, and_self, e2, e3]
    · have hi : Fc.hm ⟨l, r, w, n⟩ m = Fc.hi ⟨l, r, w, n⟩ := by unfold Fc.hm Fc.hi; simp only; omega
      refine ⟨fun hf => ?_, fun hf => ?_⟩
      · have hf : Fc.hi ⟨l, r, w, n⟩ < Fc.lo ⟨l, r, w, n⟩ := by rw [← hi]; exact of_decide_eq_true hf
        have hf2 : ¬ Fc.lo ⟨l, r, w, n⟩ ≤ Fc.hi ⟨l, r, w, n⟩ := by omega
        refine res hK ?_
        unfold Fc.dm Fc.lm
        rw [hi]
        simp [leR, leR.leRs, ho, hf, hf2]
      · have hf : ¬ Fc.hi ⟨l, r, w, n⟩ < Fc.lo ⟨l, r, w, n⟩ := by rw [← hi]; exact of_decide_eq_false hf
        have hf2 : Fc.lo ⟨l, r, w, n⟩ ≤ Fc.hi ⟨l, r, w, n⟩ := by omega
        refine res hK ?_
        unfold Fc.dm Fc.lm
        rw [hi]
        simp [leR, leR.leRs, ho, hf, hf2]
end Go.Proofs.Ytgfoakilompbdaa
