/- Rounds: the small functions, for all arguments. -/
import Derived.Test.YtgfoakilompbdaaVgV9
import Derived.Test.YtgfoakilompbdaaProg
import Derived.KernelRfl
namespace Go.Proofs.Ytgfoakilompbdaa
open Go Go.Vg
set_option linter.unusedSimpArgs false
set_option linter.unusedVariables false
set_option maxRecDepth 10000
/- 71: octant/rounds.within -/
def s71 : SC :=
  (.seq (.reg [⟨(some 6), none, .v (.mov (.c (.lit (.bool false))))⟩])
  (.seq (.reg [⟨(some 7), none, .v (.mov (.t 1))⟩,
    ⟨(some 8), none, .v (.mov (.t 0))⟩,
    ⟨(some 9), none, .v (.bin .leq (.t 7) (.t 8))⟩,
    ⟨(some 10), none, .v (.mov (.t 9))⟩,
    ⟨(some 11), (some (10, true)), .v (.mov (.t 0))⟩,
    ⟨(some 12), (some (10, true)), .v (.mov (.t 2))⟩,
    ⟨(some 13), (some (10, true)), .v (.bin .leq (.t 11) (.t 12))⟩,
    ⟨(some 14), none, .v (.pick (.t 10) (.t 13) (.c (.lit (.bool false))))⟩,
    ⟨(some 6), none, .v (.mov (.t 14))⟩])
  .ret))
def r71 : List RV := [.t 6]
def n71 : Nat := 15
theorem k71 : (Try.f71.body.bind (cC Try.prog), cR Try.prog Try.f71.results.toList, Try.f71.ntmps) = (some s71, some r71, 15) := by kernel_rfl
theorem q71 : Known Try.prog 71 := ⟨_, Try.func71, by decide, by simp [Try.f71]⟩

/- 48: octant/octantref00.In -/
def s48 : SC :=
  (.seq (.reg [⟨(some 6), none, .v (.mov (.c (.lit (.bool false))))⟩])
  (.seq (.reg [⟨(some 7), none, .v (.mov (.t 0))⟩,
    ⟨(some 8), none, .v (.mov (.t 1))⟩,
    ⟨(some 9), none, .v (.bin .geq (.t 7) (.t 8))⟩,
    ⟨(some 10), none, .v (.mov (.t 9))⟩,
    ⟨(some 11), (some (10, true)), .v (.mov (.t 0))⟩,
    ⟨(some 12), (some (10, true)), .v (.mov (.t 2))⟩,
    ⟨(some 13), (some (10, true)), .v (.bin .leq (.t 11) (.t 12))⟩,
    ⟨(some 14), none, .v (.pick (.t 10) (.t 13) (.c (.lit (.bool false))))⟩,
    ⟨(some 6), none, .v (.mov (.t 14))⟩])
  .ret))
def r48 : List RV := [.t 6]
def n48 : Nat := 15
theorem k48 : (Try.f48.body.bind (cC Try.prog), cR Try.prog Try.f48.results.toList, Try.f48.ntmps) = (some s48, some r48, 15) := by kernel_rfl
theorem q48 : Known Try.prog 48 := ⟨_, Try.func48, by decide, by simp [Try.f48]⟩

/- 72: octant/rounds.isSpan -/
def s72 : SC :=
  (.seq (.reg [⟨(some 3), none, .box 23 (.t 0)⟩,
    ⟨(some 6), none, .v (.mov (.c (.lit (.bool false))))⟩])
  (.seq (.reg [⟨(some 7), none, .v (.mov (.t 1))⟩,
    ⟨(some 8), none, .v (.off (.t 3) 0)⟩,
    ⟨(some 9), none, .v (.load (.t 8) none)⟩,
    ⟨(some 10), none, .v (.bin .leq (.t 7) (.t 9))⟩,
    ⟨(some 11), none, .v (.mov (.t 10))⟩,
    ⟨(some 12), (some (11, true)), .v (.off (.t 3) 0)⟩,
    ⟨(some 13), (some (11, true)), .v (.load (.t 12) none)⟩,
    ⟨(some 14), (some (11, true)), .v (.off (.t 3) 1)⟩,
    ⟨(some 15), (some (11, true)), .v (.load (.t 14) none)⟩,
    ⟨(some 16), (some (11, true)), .v (.bin .leq (.t 13) (.t 15))⟩,
    ⟨(some 17), none, .v (.pick (.t 11) (.t 16) (.c (.lit (.bool false))))⟩,
    ⟨(some 18), none, .v (.mov (.t 17))⟩,
    ⟨(some 19), (some (18, true)), .v (.off (.t 3) 1)⟩,
    ⟨(some 20), (some (18, true)), .v (.load (.t 19) none)⟩,
    ⟨(some 21), (some (18, true)), .v (.mov (.t 2))⟩,
    ⟨(some 22), (some (18, true)), .v (.bin .leq (.t 20) (.t 21))⟩,
    ⟨(some 23), none, .v (.pick (.t 18) (.t 22) (.c (.lit (.bool false))))⟩,
    ⟨(some 6), none, .v (.mov (.t 23))⟩])
  .ret))
def r72 : List RV := [.t 6]
def n72 : Nat := 24
theorem k72 : (Try.f72.body.bind (cC Try.prog), cR Try.prog Try.f72.results.toList, Try.f72.ntmps) = (some s72, some r72, 24) := by kernel_rfl
theorem q72 : Known Try.prog 72 := ⟨_, Try.func72, by decide, by simp [Try.f72]⟩

/- 49: octant/octantref00.Spanned -/
def s49 : SC :=
  (.seq (.reg [⟨(some 3), none, .box 23 (.t 0)⟩,
    ⟨(some 6), none, .v (.mov (.c (.lit (.bool false))))⟩])
  (.seq (.reg [⟨(some 7), none, .v (.mov (.t 1))⟩,
    ⟨(some 8), none, .v (.off (.t 3) 0)⟩,
    ⟨(some 9), none, .v (.load (.t 8) none)⟩,
    ⟨(some 10), none, .v (.bin .leq (.t 7) (.t 9))⟩,
    ⟨(some 11), none, .v (.mov (.t 10))⟩,
    ⟨(some 12), (some (11, true)), .v (.off (.t 3) 0)⟩,
    ⟨(some 13), (some (11, true)), .v (.load (.t 12) none)⟩,
    ⟨(some 14), (some (11, true)), .v (.off (.t 3) 1)⟩,
    ⟨(some 15), (some (11, true)), .v (.load (.t 14) none)⟩,
    ⟨(some 16), (some (11, true)), .v (.bin .leq (.t 13) (.t 15))⟩,
    ⟨(some 17), none, .v (.pick (.t 11) (.t 16) (.c (.lit (.bool false))))⟩,
    ⟨(some 18), none, .v (.mov (.t 17))⟩,
    ⟨(some 19), (some (18, true)), .v (.off (.t 3) 1)⟩,
    ⟨(some 20), (some (18, true)), .v (.load (.t 19) none)⟩,
    ⟨(some 21), (some (18, true)), .v (.mov (.t 2))⟩,
    ⟨(some 22), (some (18, true)), .v (.bin .leq (.t 20) (.t 21))⟩,
    ⟨(some 23), none, .v (.pick (.t 18) (.t 22) (.c (.lit (.bool false))))⟩,
    ⟨(some 6), none, .v (.mov (.t 23))⟩])
  .ret))
def r49 : List RV := [.t 6]
def n49 : Nat := 24
theorem k49 : (Try.f49.body.bind (cC Try.prog), cR Try.prog Try.f49.results.toList, Try.f49.ntmps) = (some s49, some r49, 24) := by kernel_rfl
theorem q49 : Known Try.prog 49 := ⟨_, Try.func49, by decide, by simp [Try.f49]⟩

/- 33: octant/octantref00.Mod -/
def s33 : SC :=
  (.seq (.reg [⟨(some 4), none, .v (.mov (.c (.int .i64 (0))))⟩])
  (.seq (.reg [⟨(some 6), none, .v (.mov (.t 0))⟩,
    ⟨(some 7), none, .v (.mov (.t 1))⟩,
    ⟨(some 8), none, .v (.bin .rem (.t 6) (.t 7))⟩,
    ⟨(some 5), none, .v (.mov (.t 8))⟩])
  (.seq (.seq (.reg [⟨(some 9), none, .v (.mov (.t 5))⟩,
    ⟨(some 10), none, .v (.bin .lss (.t 9) (.c (.int .i64 (0))))⟩])
  (.cond (.t 10)
    (.reg [⟨(some 11), none, .v (.mov (.t 5))⟩,
      ⟨(some 12), none, .v (.mov (.t 1))⟩,
      ⟨(some 13), none, .v (.bin .add (.t 11) (.t 12))⟩,
      ⟨(some 5), none, .v (.mov (.t 13))⟩])
    .skip))
  (.seq (.reg [⟨(some 14), none, .v (.mov (.t 5))⟩,
    ⟨(some 4), none, .v (.mov (.t 14))⟩])
  .ret))))
def r33 : List RV := [.t 4]
def n33 : Nat := 15
theorem k33 : (Try.f33.body.bind (cC Try.prog), cR Try.prog Try.f33.results.toList, Try.f33.ntmps) = (some s33, some r33, 15) := by kernel_rfl
theorem q33 : Known Try.prog 33 := ⟨_, Try.func33, by decide, by simp [Try.f33]⟩

/- 51: octant/octantref00.Down -/
def s51 : SC :=
  (.seq (.reg [⟨(some 4), none, .v (.mov (.c (.int .i64 (0))))⟩])
  (.seq (.reg [⟨(some 5), none, .v (.mov (.t 0))⟩,
    ⟨(some 6), none, .v (.mov (.t 0))⟩,
    ⟨(some 7), none, .v (.mov (.t 1))⟩,
    ⟨(some 8), none, .call (.c (.fn 33 [])) [(.t 6), (.t 7)]⟩,
    ⟨(some 9), none, .v (.bin .sub (.t 5) (.t 8))⟩,
    ⟨(some 10), none, .v (.mov (.t 1))⟩,
    ⟨(some 11), none, .v (.bin .quo (.t 9) (.t 10))⟩,
    ⟨(some 4), none, .v (.mov (.t 11))⟩])
  .ret))
def r51 : List RV := [.t 4]
def n51 : Nat := 12
theorem k51 : (Try.f51.body.bind (cC Try.prog), cR Try.prog Try.f51.results.toList, Try.f51.ntmps) = (some s51, some r51, 12) := by kernel_rfl
theorem q51 : Known Try.prog 51 := ⟨_, Try.func51, by decide, by simp [Try.f51]⟩

/- 50: octant/octantref00.Up -/
def s50 : SC :=
  (.seq (.reg [⟨(some 4), none, .v (.mov (.c (.int .i64 (0))))⟩])
  (.seq (.reg [⟨(some 5), none, .v (.mov (.t 0))⟩,
    ⟨(some 6), none, .v (.neg (.t 5))⟩,
    ⟨(some 7), none, .v (.mov (.t 1))⟩,
    ⟨(some 8), none, .call (.c (.fn 51 [])) [(.t 6), (.t 7)]⟩,
    ⟨(some 9), none, .v (.neg (.t 8))⟩,
    ⟨(some 4), none, .v (.mov (.t 9))⟩])
  .ret))
def r50 : List RV := [.t 4]
def n50 : Nat := 10
theorem k50 : (Try.f50.body.bind (cC Try.prog), cR Try.prog Try.f50.results.toList, Try.f50.ntmps) = (some s50, some r50, 10) := by kernel_rfl
theorem q50 : Known Try.prog 50 := ⟨_, Try.func50, by decide, by simp [Try.f50]⟩

/- 76: octant/rounds.roundDown -/
def s76 : SC :=
  (.seq (.reg [⟨(some 4), none, .v (.mov (.c (.int .i64 (0))))⟩])
  (.seq (.reg [⟨(some 6), none, .v (.mov (.t 0))⟩,
    ⟨(some 7), none, .v (.mov (.t 1))⟩,
    ⟨(some 8), none, .v (.bin .quo (.t 6) (.t 7))⟩,
    ⟨(some 5), none, .v (.mov (.t 8))⟩])
  (.seq (.seq (.reg [⟨(some 9), none, .v (.mov (.t 0))⟩,
    ⟨(some 10), none, .v (.mov (.t 1))⟩,
    ⟨(some 11), none, .v (.bin .rem (.t 9) (.t 10))⟩,
    ⟨(some 12), none, .v (.bin .lss (.t 11) (.c (.int .i64 (0))))⟩])
  (.cond (.t 12)
    (.reg [⟨(some 13), none, .v (.mov (.t 5))⟩,
      ⟨(some 14), none, .v (.bin .sub (.t 13) (.c (.int .i64 (1))))⟩,
      ⟨(some 5), none, .v (.mov (.t 14))⟩])
    .skip))
  (.seq (.reg [⟨(some 15), none, .v (.mov (.t 5))⟩,
    ⟨(some 4), none, .v (.mov (.t 15))⟩])
  .ret))))
def r76 : List RV := [.t 4]
def n76 : Nat := 16
theorem k76 : (Try.f76.body.bind (cC Try.prog), cR Try.prog Try.f76.results.toList, Try.f76.ntmps) = (some s76, some r76, 16) := by kernel_rfl
theorem q76 : Known Try.prog 76 := ⟨_, Try.func76, by decide, by simp [Try.f76]⟩

/- 75: octant/rounds.roundUp -/
def s75 : SC :=
  (.seq (.reg [⟨(some 4), none, .v (.mov (.c (.int .i64 (0))))⟩])
  (.seq (.reg [⟨(some 5), none, .v (.mov (.t 0))⟩,
    ⟨(some 6), none, .v (.neg (.t 5))⟩,
    ⟨(some 7), none, .v (.mov (.t 1))⟩,
    ⟨(some 8), none, .call (.c (.fn 76 [])) [(.t 6), (.t 7)]⟩,
    ⟨(some 9), none, .v (.neg (.t 8))⟩,
    ⟨(some 4), none, .v (.mov (.t 9))⟩])
  .ret))
def r75 : List RV := [.t 4]
def n75 : Nat := 10
theorem k75 : (Try.f75.body.bind (cC Try.prog), cR Try.prog Try.f75.results.toList, Try.f75.ntmps) = (some s75, some r75, 10) := by kernel_rfl
theorem q75 : Known Try.prog 75 := ⟨_, Try.func75, by decide, by simp [Try.f75]⟩

/- 70: octant/rounds.isDirection -/
def s70 : SC :=
  (.seq (.reg [⟨(some 2), none, .v (.mov (.c (.lit (.bool false))))⟩])
  (.seq (.reg [⟨(some 3), none, .v (.mov (.t 0))⟩,
    ⟨(some 4), none, .call (.c (.fn 71 [])) [(.t 3), (.c (.int .i64 (0))), (.c (.int .i64 (1295999)))]⟩,
    ⟨(some 2), none, .v (.mov (.t 4))⟩])
  .ret))
def r70 : List RV := [.t 2]
def n70 : Nat := 5
theorem k70 : (Try.f70.body.bind (cC Try.prog), cR Try.prog Try.f70.results.toList, Try.f70.ntmps) = (some s70, some r70, 5) := by kernel_rfl
theorem q70 : Known Try.prog 70 := ⟨_, Try.func70, by decide, by simp [Try.f70]⟩

/- 73: octant/rounds.onCircle -/
def s73 : SC :=
  (.seq (.reg [⟨(some 2), none, .v (.mov (.c (.int .i64 (0))))⟩])
  (.seq (.reg [⟨(some 3), none, .v (.mov (.t 0))⟩,
    ⟨(some 4), none, .v (.mov (.t 0))⟩,
    ⟨(some 5), none, .call (.c (.fn 76 [])) [(.t 4), (.c (.int .i64 (1296000)))]⟩,
    ⟨(some 6), none, .v (.bin .mul (.c (.int .i64 (1296000))) (.t 5))⟩,
    ⟨(some 7), none, .v (.bin .sub (.t 3) (.t 6))⟩,
    ⟨(some 2), none, .v (.mov (.t 7))⟩])
  .ret))
def r73 : List RV := [.t 2]
def n73 : Nat := 8
theorem k73 : (Try.f73.body.bind (cC Try.prog), cR Try.prog Try.f73.results.toList, Try.f73.ntmps) = (some s73, some r73, 8) := by kernel_rfl
theorem q73 : Known Try.prog 73 := ⟨_, Try.func73, by decide, by simp [Try.f73]⟩

/- 54: octant/rounds.noSpan -/
def s54 : SC :=
  (.seq (.reg [⟨(some 0), none, .new 23 [(.int .i64 (0)), (.int .i64 (0))]⟩])
  (.seq (.reg [⟨(some 1), none, .bld [(.int .i64 (0)), (.int .i64 (0))] [(0, 1, (.c (.int .i64 (1)))), (1, 1, (.c (.int .i64 (0))))]⟩,
    ⟨none, none, .store 2 (.t 0) (.t 1)⟩])
  .ret))
def r54 : List RV := [.c 0 (some 2)]
def n54 : Nat := 2
theorem k54 : (Try.f54.body.bind (cC Try.prog), cR Try.prog Try.f54.results.toList, Try.f54.ntmps) = (some s54, some r54, 2) := by kernel_rfl
theorem q54 : Known Try.prog 54 := ⟨_, Try.func54, by decide, by simp [Try.f54]⟩

/- 74: octant/rounds.common -/
def s74 : SC :=
  (.seq (.reg [⟨(some 2), none, .box 23 (.t 0)⟩,
    ⟨(some 3), none, .box 23 (.t 1)⟩,
    ⟨(some 4), none, .new 23 [(.int .i64 (0)), (.int .i64 (0))]⟩])
  (.seq (.reg [⟨(some 6), none, .v (.off (.t 2) 0)⟩,
    ⟨(some 7), none, .v (.load (.t 6) none)⟩,
    ⟨(some 8), none, .v (.off (.t 3) 0)⟩,
    ⟨(some 9), none, .v (.load (.t 8) none)⟩,
    ⟨(some 10), none, .v (.max2 (.t 7) (.t 9))⟩,
    ⟨(some 11), none, .v (.off (.t 2) 1)⟩,
    ⟨(some 12), none, .v (.load (.t 11) none)⟩,
    ⟨(some 13), none, .v (.off (.t 3) 1)⟩,
    ⟨(some 14), none, .v (.load (.t 13) none)⟩,
    ⟨(some 15), none, .v (.min2 (.t 12) (.t 14))⟩,
    ⟨(some 16), none, .bld [(.int .i64 (0)), (.int .i64 (0))] [(0, 1, (.t 10)), (1, 1, (.t 15))]⟩,
    ⟨(some 5), none, .new 23 [(.int .i64 (0)), (.int .i64 (0))]⟩,
    ⟨none, none, .store 2 (.t 5) (.t 16)⟩])
  (.seq (.seq (.reg [⟨(some 17), none, .v (.off (.t 5) 0)⟩,
    ⟨(some 18), none, .v (.load (.t 17) none)⟩,
    ⟨(some 19), none, .v (.off (.t 5) 1)⟩,
    ⟨(some 20), none, .v (.load (.t 19) none)⟩,
    ⟨(some 21), none, .v (.bin .gtr (.t 18) (.t 20))⟩])
  (.cond (.t 21)
    (.seq (.reg [⟨(some 22), none, .call (.c (.fn 54 [])) []⟩,
      ⟨none, none, .store 2 (.t 4) (.t 22)⟩])
    .ret)
    .skip))
  (.seq (.reg [⟨(some 23), none, .v (.load (.t 5) (some 2))⟩,
    ⟨none, none, .store 2 (.t 4) (.t 23)⟩])
  .ret))))
def r74 : List RV := [.c 4 (some 2)]
def n74 : Nat := 24
theorem k74 : (Try.f74.body.bind (cC Try.prog), cR Try.prog Try.f74.results.toList, Try.f74.ntmps) = (some s74, some r74, 24) := by kernel_rfl
theorem q74 : Known Try.prog 74 := ⟨_, Try.func74, by decide, by simp [Try.f74]⟩

/- 35: octant/octantref00.Holds -/
def s35 : SC :=
  (.seq (.reg [⟨(some 2), none, .box 23 (.t 0)⟩,
    ⟨(some 4), none, .v (.mov (.c (.lit (.bool false))))⟩])
  (.seq (.reg [⟨(some 5), none, .v (.mov (.t 1))⟩,
    ⟨(some 6), none, .v (.off (.t 2) 0)⟩,
    ⟨(some 7), none, .v (.load (.t 6) none)⟩,
    ⟨(some 8), none, .v (.off (.t 2) 1)⟩,
    ⟨(some 9), none, .v (.load (.t 8) none)⟩,
    ⟨(some 10), none, .call (.c (.fn 48 [])) [(.t 5), (.t 7), (.t 9)]⟩,
    ⟨(some 4), none, .v (.mov (.t 10))⟩])
  .ret))
def r35 : List RV := [.t 4]
def n35 : Nat := 11
theorem k35 : (Try.f35.body.bind (cC Try.prog), cR Try.prog Try.f35.results.toList, Try.f35.ntmps) = (some s35, some r35, 11) := by kernel_rfl
theorem q35 : Known Try.prog 35 := ⟨_, Try.func35, by decide, by simp [Try.f35]⟩

/- 36: octant/octantref00.Abs -/
def s36 : SC :=
  (.seq (.reg [⟨(some 2), none, .v (.mov (.c (.int .i64 (0))))⟩])
  (.seq (.reg [⟨(some 3), none, .v (.mov (.t 0))⟩,
    ⟨(some 4), none, .v (.mov (.t 0))⟩,
    ⟨(some 5), none, .v (.neg (.t 4))⟩,
    ⟨(some 6), none, .v (.max2 (.t 3) (.t 5))⟩,
    ⟨(some 2), none, .v (.mov (.t 6))⟩])
  .ret))
def r36 : List RV := [.t 2]
def n36 : Nat := 7
theorem k36 : (Try.f36.body.bind (cC Try.prog), cR Try.prog Try.f36.results.toList, Try.f36.ntmps) = (some s36, some r36, 7) := by kernel_rfl
theorem q36 : Known Try.prog 36 := ⟨_, Try.func36, by decide, by simp [Try.f36]⟩

/- 34: octant/octantlaw06.to -/
def s34 : SC :=
  (.seq (.reg [⟨(some 4), none, .new 23 [(.int .i64 (0)), (.int .i64 (0))]⟩])
  (.seq (.reg [⟨(some 5), none, .v (.mov (.t 0))⟩,
    ⟨(some 6), none, .v (.mov (.t 1))⟩,
    ⟨(some 7), none, .bld [(.int .i64 (0)), (.int .i64 (0))] [(0, 1, (.t 5)), (1, 1, (.t 6))]⟩,
    ⟨none, none, .store 2 (.t 4) (.t 7)⟩])
  .ret))
def r34 : List RV := [.c 4 (some 2)]
def n34 : Nat := 8
theorem k34 : (Try.f34.body.bind (cC Try.prog), cR Try.prog Try.f34.results.toList, Try.f34.ntmps) = (some s34, some r34, 8) := by kernel_rfl
theorem q34 : Known Try.prog 34 := ⟨_, Try.func34, by decide, by simp [Try.f34]⟩

/- 56: octant/octantref00.Wider -/
def s56 : SC :=
  (.seq (.reg [⟨(some 3), none, .box 23 (.t 0)⟩,
    ⟨(some 6), none, .new 23 [(.int .i64 (0)), (.int .i64 (0))]⟩])
  (.seq (.seq (.reg [⟨(some 7), none, .v (.mov (.t 2))⟩])
  (.cond (.t 7)
    (.seq (.reg [⟨(some 8), none, .v (.mov (.t 1))⟩,
      ⟨(some 9), none, .v (.mov (.t 1))⟩,
      ⟨(some 10), none, .bld [(.int .i64 (0)), (.int .i64 (0))] [(0, 1, (.t 8)), (1, 1, (.t 9))]⟩,
      ⟨none, none, .store 2 (.t 6) (.t 10)⟩])
    .ret)
    .skip))
  (.seq (.reg [⟨(some 11), none, .v (.off (.t 3) 0)⟩,
    ⟨(some 12), none, .v (.load (.t 11) none)⟩,
    ⟨(some 13), none, .v (.mov (.t 1))⟩,
    ⟨(some 14), none, .v (.min2 (.t 12) (.t 13))⟩,
    ⟨(some 15), none, .v (.off (.t 3) 1)⟩,
    ⟨(some 16), none, .v (.load (.t 15) none)⟩,
    ⟨(some 17), none, .v (.mov (.t 1))⟩,
    ⟨(some 18), none, .v (.max2 (.t 16) (.t 17))⟩,
    ⟨(some 19), none, .bld [(.int .i64 (0)), (.int .i64 (0))] [(0, 1, (.t 14)), (1, 1, (.t 18))]⟩,
    ⟨none, none, .store 2 (.t 6) (.t 19)⟩])
  .ret)))
def r56 : List RV := [.c 6 (some 2)]
def n56 : Nat := 20
theorem k56 : (Try.f56.body.bind (cC Try.prog), cR Try.prog Try.f56.results.toList, Try.f56.ntmps) = (some s56, some r56, 20) := by kernel_rfl
theorem q56 : Known Try.prog 56 := ⟨_, Try.func56, by decide, by simp [Try.f56]⟩

/- 16: octant/octantref00.SameSpans -/
def s16 : SC :=
  (.seq (.reg [⟨(some 4), none, .v (.mov (.c (.lit (.bool false))))⟩])
  (.seq (.seq (.reg [⟨(some 6), none, .v (.mov (.t 0))⟩,
    ⟨(some 7), none, .v (.len (.t 6))⟩,
    ⟨(some 8), none, .v (.mov (.t 1))⟩,
    ⟨(some 9), none, .v (.len (.t 8))⟩,
    ⟨(some 10), none, .v (.bin .neq (.t 7) (.t 9))⟩])
  (.cond (.t 10)
    (.seq (.reg [⟨(some 4), none, .v (.mov (.c (.lit (.bool false))))⟩])
    .ret)
    .skip))
  (.seq (.seq (.reg [⟨(some 5), none, .v (.mov (.c (.int .i64 (0))))⟩])
  (.block 0 (.loop
    (.seq (.seq (.reg [⟨(some 11), none, .v (.mov (.t 5))⟩,
      ⟨(some 12), none, .v (.mov (.t 0))⟩,
      ⟨(some 13), none, .v (.len (.t 12))⟩,
      ⟨(some 14), none, .v (.bin .lss (.t 11) (.t 13))⟩])
    (.cond (.t 14)
      .skip
      (.exit 0)))
    (.seq (.block 1 (.seq (.drw [(0, ⟨(some 17), none, .v (.mov (.t 0))⟩, false),
      (1, ⟨(some 18), none, .v (.mov (.t 5))⟩, false),
      (2, ⟨(some 19), none, .v (.ixa (.t 17) (.t 18) 2)⟩, false),
      (3, ⟨(some 20), none, .v (.load (.t 19) (some 2))⟩, false),
      (4, ⟨(some 21), none, .v (.mov (.t 1))⟩, false),
      (5, ⟨(some 22), none, .v (.mov (.t 5))⟩, false),
      (6, ⟨(some 23), none, .v (.ixa (.t 21) (.t 22) 2)⟩, false),
      (7, ⟨(some 24), none, .v (.load (.t 23) (some 2))⟩, false)]
      none
      [⟨(some 25), none, .v (.eqs [(some .i64), (some .i64)] true (.t 20) (.t 24))⟩])
    (.cond (.t 25)
      (.seq (.reg [⟨(some 4), none, .v (.mov (.c (.lit (.bool false))))⟩])
      .ret)
      .skip)))
    (.reg [⟨(some 15), none, .v (.mov (.t 5))⟩,
      ⟨(some 16), none, .v (.bin .add (.t 15) (.c (.int .i64 (1))))⟩,
      ⟨(some 5), none, .v (.mov (.t 16))⟩]))))))
  (.seq (.reg [⟨(some 4), none, .v (.mov (.c (.lit (.bool true))))⟩])
  .ret))))
def r16 : List RV := [.t 4]
def n16 : Nat := 26
theorem k16 : (Try.f16.body.bind (cC Try.prog), cR Try.prog Try.f16.results.toList, Try.f16.ntmps) = (some s16, some r16, 26) := by kernel_rfl
theorem q16 : Known Try.prog 16 := ⟨_, Try.func16, by decide, by simp [Try.f16]⟩



/-- A result that is right as it is. -/
theorem res {K : SV → Prop} {x y : SV} (h : K y) (e : leR 4 x y) : ∃ r', K r' ∧ leR 4 x r' := ⟨y, h, e⟩
theorem mx_eq (a b : Int) : (if a < b then b else a) = max a b := by split <;> omega
theorem mn_eq (a b : Int) : (if b < a then b else a) = min a b := by split <;> omega
def Fin : FC := fun args => match args with
  | [.int .i64 x, .int .i64 lo, .int .i64 hi] => some (True, .bool (decide (lo ≤ x ∧ x ≤ hi)))
  | _ => none
theorem p71 : PureOk Try.prog 71 (fcC Fin) := by
  refine pure_of (T := []) trivial Try.func71 k71 ?_
  intro args K hC
  unfold fcC Fin at hC
  split at hC <;> first | (exact hC.elim) | skip
  rename_i h
  split at h <;> first | (cases h; done) | skip
  cases h
  simp only [e_reg, e_seq, e_ret, o_nil, o_cons, gd_none, gd_some, gdK_tt, gdK_ft, gdK_bt, putK_e, runK_e, skipK_e, vK_e, evh_v, seqK_n, ends_r, endK1_e, endK2_e, evp, bin, gt, st, putf, X.get, mkfr, rep, rdR, tupled, clV, clS, clo, undef, Nat.reduceSub, true_and, decide_eq_true_eq, decide_eq_false_iff_not, s71, r71]
  exact ⟨fun h => res hC.2 (by simp [leR, h]), fun h => res hC.2 (by simp [leR, h])⟩
theorem p48 : PureOk Try.prog 48 (fcC Fin) := by
  refine pure_of (T := []) trivial Try.func48 k48 ?_
  intro args K hC
  unfold fcC Fin at hC
  split at hC <;> first | (exact hC.elim) | skip
  rename_i h
  split at h <;> first | (cases h; done) | skip
  cases h
  simp only [e_reg, e_seq, e_ret, o_nil, o_cons, gd_none, gd_some, gdK_tt, gdK_ft, gdK_bt, putK_e, runK_e, skipK_e, vK_e, evh_v, seqK_n, ends_r, endK1_e, endK2_e, evp, bin, gt, st, putf, X.get, mkfr, rep, rdR, tupled, clV, clS, clo, undef, Nat.reduceSub, true_and, decide_eq_true_eq, decide_eq_false_iff_not, s48, r48]
  exact ⟨fun h => res hC.2 (by simp [leR, h]), fun h => res hC.2 (by simp [leR, h])⟩
def Fsp : FC := fun args => match args with
  | [.agg [.int .i64 a, .int .i64 b], .int .i64 lo, .int .i64 hi] => some (True, .bool (decide ((lo ≤ a ∧ a ≤ b) ∧ b ≤ hi)))
  | _ => none
theorem p72 : PureOk Try.prog 72 (fcC Fsp) := by
  refine pure_of (T := []) trivial Try.func72 k72 ?_
  intro args K hC
  unfold fcC Fsp at hC
  split at hC <;> first | (exact hC.elim) | skip
  rename_i h
  split at h <;> first | (cases h; done) | skip
  cases h
  obtain ⟨-, hK⟩ := hC
  simp only [e_reg, e_seq, e_ret, o_nil, o_cons, gd_none, gd_some, gdK_tt, gdK_ft, gdK_bt, putK_e, runK_e, skipK_e, vK_e, boxK_e, evh_v, evh_box, seqK_n, ends_r, endK1_e, endK2_e, evp, bin, gt, gq, st, putf, X.get, mkfr, rep, rdR, tupled, clV, clS, clo, ld, lda, cs1, gb, pb, ln, undef, Nat.reduceSub, Nat.reduceAdd, true_and, decide_eq_true_eq, decide_eq_false_iff_not, s72, r72]
  exact ⟨fun h1 => ⟨fun h2 => res hK (by simp [leR, h1, h2]), fun h2 => res hK (by simp [leR, h1, h2])⟩, fun h1 => res hK (by simp [leR, h1])⟩
theorem p49 : PureOk Try.prog 49 (fcC Fsp) := by
  refine pure_of (T := []) trivial Try.func49 k49 ?_
  intro args K hC
  unfold fcC Fsp at hC
  split at hC <;> first | (exact hC.elim) | skip
  rename_i h
  split at h <;> first | (cases h; done) | skip
  cases h
  obtain ⟨-, hK⟩ := hC
  simp only [e_reg, e_seq, e_ret, o_nil, o_cons, gd_none, gd_some, gdK_tt, gdK_ft, gdK_bt, putK_e, runK_e, skipK_e, vK_e, boxK_e, evh_v, evh_box, seqK_n, ends_r, endK1_e, endK2_e, evp, bin, gt, gq, st, putf, X.get, mkfr, rep, rdR, tupled, clV, clS, clo, ld, lda, cs1, gb, pb, ln, undef, Nat.reduceSub, Nat.reduceAdd, true_and, decide_eq_true_eq, decide_eq_false_iff_not, s49, r49]
  exact ⟨fun h1 => ⟨fun h2 => res hK (by simp [leR, h1, h2]), fun h2 => res hK (by simp [leR, h1, h2])⟩, fun h1 => res hK (by simp [leR, h1])⟩
def Fmod : FC := fun args => match args with
  | [.int .i64 a, .int .i64 b] => some (0 < b ∧ b ≤ 9223372036854775807, .int .i64 (a % b))
  | _ => none
theorem p33 : PureOk Try.prog 33 (fcC Fmod) := by
  refine pure_of (T := []) trivial Try.func33 k33 ?_
  intro args K hC
  unfold fcC Fmod at hC
  split at hC <;> first | (exact hC.elim) | skip
  rename_i h
  split at h <;> first | (cases h; done) | skip
  cases h
  rename_i a b
  obtain ⟨⟨hb, hb2⟩, hK⟩ := hC
  have e := Int.tmod_eq_emod (a := a) (b := b)
  have h1 := Int.emod_nonneg a (show b ≠ 0 by omega)
  have h2 := Int.emod_lt_of_pos a hb
  have h3 : (b.natAbs : Int) = b := by omega
  simp only [inr64, ne_eq, e_skip, e_reg, e_seq, e_cond, e_ret, o_nil, o_cons, gd_none, putK_e, runK_e, vK_e, evh_v, seqK_n, condK_b, ends_r, endK1_e, endK2_e, evp, bin, gt, st, putf, X.get, mkfr, rep, rdR, tupled, clV, clS, clo, undef, Nat.reduceSub, true_and, decide_eq_true_eq, decide_eq_false_iff_not, s33, r33]
  have e2 : a.tmod b = a % b ∨ a.tmod b = a % b - b := by
    by_cases c : 0 ≤ a ∨ b ∣ a
    · rw [if_pos c] at e; exact .inl (by simpa using e)
    · rw [if_neg c, h3] at e; exact .inr e
  exact ⟨by omega, fun h => ⟨by omega, res hK (by simp [leR]; omega)⟩, fun h => res hK (by simp [leR]; omega)⟩
def Fdwn : FC := fun args => match args with
  | [.int .i64 a, .int .i64 b] => some (0 < b ∧ b ≤ 4611686018427387904 ∧ -4611686018427387904 ≤ a ∧ a ≤ 4611686018427387904, .int .i64 (a / b))
  | _ => none
theorem p51 : PureOk Try.prog 51 (fcC Fdwn) := by
  refine pure_of (T := [(33, .fc Fmod)]) ⟨⟨p33, q33⟩, trivial⟩ Try.func51 k51 ?_
  intro args K hC
  unfold fcC Fdwn at hC
  split at hC <;> first | (exact hC.elim) | skip
  rename_i h
  split at h <;> first | (cases h; done) | skip
  cases h
  rename_i a b
  obtain ⟨⟨hb, hb2, ha, ha2⟩, hK⟩ := hC
  have h1 := Int.emod_nonneg a (show b ≠ 0 by omega)
  have h2 := Int.emod_lt_of_pos a hb
  have e1 : a - a % b = b * (a / b) := by have := Int.emod_add_mul_ediv a b; omega
  have e2 : (a - a % b).tdiv b = a / b := by rw [e1]; exact Int.mul_tdiv_cancel_left _ (by omega)
  have e3 : -4611686018427387904 ≤ a / b := Int.le_ediv_of_mul_le hb (by omega)
  have e4 : a / b ≤ 4611686018427387904 := Int.ediv_le_of_le_mul hb (by omega)
  simp only [inr64, ne_eq, e_reg, e_seq, e_ret, o_nil, o_cons, gd_none, putK_e, runK_e, vK_e, conK_e, callK_e, evh_v, evh_call, seqK_n, ends_r, endK1_e, endK2_e, gam_e, gamK_f, pc_e, pcK_e, fcC_e, fcK_e, evp, bin, gt, st, putf, X.get, gets, ap, mkfr, rep, rdR, tupled, clV, clL, clS, clo, lk, undef, Nat.reduceSub, beq_self_eq_true, true_and, s51, r51, Fmod]
  rw [e2]
  exact ⟨⟨hb, by omega⟩, by omega, ⟨by omega, by omega, by omega⟩, res hK (by simp [leR])⟩
theorem dwnB {a b : Int} (hb : 0 < b) (hb2 : b ≤ 4611686018427387904) (ha : -4611686018427387904 ≤ a) (ha2 : a ≤ 4611686018427387904) : -4611686018427387904 ≤ a / b ∧ a / b ≤ 4611686018427387904 := by
  have e3 : -4611686018427387904 ≤ a / b := Int.le_ediv_of_mul_le hb (by omega)
  have e4 : a / b ≤ 4611686018427387904 := Int.ediv_le_of_le_mul hb (by omega)
  exact ⟨e3, e4⟩
theorem p76 : PureOk Try.prog 76 (fcC Fdwn) := by
  refine pure_of (T := []) trivial Try.func76 k76 ?_
  intro args K hC
  unfold fcC Fdwn at hC
  split at hC <;> first | (exact hC.elim) | skip
  rename_i h
  split at h <;> first | (cases h; done) | skip
  cases h
  rename_i a b
  obtain ⟨⟨hb, hb2, ha, ha2⟩, hK⟩ := hC
  have h1 := Int.emod_nonneg a (show b ≠ 0 by omega)
  have h2 := Int.emod_lt_of_pos a hb
  have h3 : (b.natAbs : Int) = b := by omega
  have h4 : b.sign = 1 := Int.sign_eq_one_of_pos hb
  obtain ⟨e3, e4⟩ := dwnB hb hb2 ha ha2
  have e := Int.tmod_eq_emod (a := a) (b := b)
  have f := Int.tdiv_eq_ediv (a := a) (b := b)
  have e2 : (a.tmod b = a % b ∧ a.tdiv b = a / b) ∨ (a.tmod b = a % b - b ∧ a.tdiv b = a / b + 1) := by
    by_cases c : 0 ≤ a ∨ b ∣ a
    · rw [if_pos c] at e f; exact .inl ⟨by simpa using e, by simpa using f⟩
    · rw [if_neg c] at e f; exact .inr ⟨by rw [h3] at e; exact e, by rw [h4] at f; exact f⟩
  simp only [inr64, ne_eq, e_skip, e_reg, e_seq, e_cond, e_ret, o_nil, o_cons, gd_none, putK_e, runK_e, vK_e, evh_v, seqK_n, condK_b, ends_r, endK1_e, endK2_e, evp, bin, gt, st, putf, X.get, mkfr, rep, rdR, tupled, clV, clS, clo, undef, Nat.reduceSub, true_and, decide_eq_true_eq, decide_eq_false_iff_not, s76, r76]
  refine ⟨?_, ?_⟩
  · omega
  · refine ⟨by omega, ⟨fun h => ⟨by omega, res hK (by simp [leR]; omega)⟩, fun h => res hK (by simp [leR]; omega)⟩⟩
def Fup : FC := fun args => match args with
  | [.int .i64 a, .int .i64 b] => some (0 < b ∧ b ≤ 4611686018427387904 ∧ -4611686018427387904 ≤ a ∧ a ≤ 4611686018427387904, .int .i64 (-(-a / b)))
  | _ => none
theorem p75 : PureOk Try.prog 75 (fcC Fup) := by
  refine pure_of (T := [(76, .fc Fdwn)]) ⟨⟨p76, q76⟩, trivial⟩ Try.func75 k75 ?_
  intro args K hC
  unfold fcC Fup at hC
  split at hC <;> first | (exact hC.elim) | skip
  rename_i h
  split at h <;> first | (cases h; done) | skip
  cases h
  rename_i a b
  obtain ⟨⟨hb, hb2, ha, ha2⟩, hK⟩ := hC
  obtain ⟨e3, e4⟩ := dwnB (a := -a) hb hb2 (by omega) (by omega)
  simp only [inr64, e_reg, e_seq, e_ret, o_nil, o_cons, gd_none, putK_e, runK_e, vK_e, conK_e, callK_e, evh_v, evh_call, seqK_n, ends_r, endK1_e, endK2_e, gam_e, gamK_f, pc_e, pcK_e, fcC_e, fcK_e, evp, gt, st, putf, X.get, gets, ap, mkfr, rep, rdR, tupled, clV, clL, clS, clo, lk, undef, Nat.reduceSub, beq_self_eq_true, true_and, s75, r75, Fdwn]
  exact ⟨by omega, ⟨hb, hb2, by omega, by omega⟩, by omega, res hK (by simp [leR])⟩
theorem p50 : PureOk Try.prog 50 (fcC Fup) := by
  refine pure_of (T := [(51, .fc Fdwn)]) ⟨⟨p51, q51⟩, trivial⟩ Try.func50 k50 ?_
  intro args K hC
  unfold fcC Fup at hC
  split at hC <;> first | (exact hC.elim) | skip
  rename_i h
  split at h <;> first | (cases h; done) | skip
  cases h
  rename_i a b
  obtain ⟨⟨hb, hb2, ha, ha2⟩, hK⟩ := hC
  obtain ⟨e3, e4⟩ := dwnB (a := -a) hb hb2 (by omega) (by omega)
  simp only [inr64, e_reg, e_seq, e_ret, o_nil, o_cons, gd_none, putK_e, runK_e, vK_e, conK_e, callK_e, evh_v, evh_call, seqK_n, ends_r, endK1_e, endK2_e, gam_e, gamK_f, pc_e, pcK_e, fcC_e, fcK_e, evp, gt, st, putf, X.get, gets, ap, mkfr, rep, rdR, tupled, clV, clL, clS, clo, lk, undef, Nat.reduceSub, beq_self_eq_true, true_and, s50, r50, Fdwn]
  exact ⟨by omega, ⟨hb, hb2, by omega, by omega⟩, by omega, res hK (by simp [leR])⟩
def Fdir : FC := fun args => match args with
  | [.int .i64 x] => some (True, .bool (decide (0 ≤ x ∧ x ≤ 1295999)))
  | _ => none
theorem p70 : PureOk Try.prog 70 (fcC Fdir) := by
  refine pure_of (T := [(71, .fc Fin)]) ⟨⟨p71, q71⟩, trivial⟩ Try.func70 k70 ?_
  intro args K hC
  unfold fcC Fdir at hC
  split at hC <;> first | (exact hC.elim) | skip
  rename_i h
  split at h <;> first | (cases h; done) | skip
  cases h
  simp only [e_reg, e_seq, e_ret, o_nil, o_cons, gd_none, putK_e, runK_e, vK_e, conK_e, callK_e, evh_v, evh_call, seqK_n, ends_r, endK1_e, endK2_e, gam_e, gamK_f, pc_e, pcK_e, fcC_e, fcK_e, evp, gt, st, putf, X.get, gets, ap, mkfr, rep, rdR, tupled, clV, clL, clS, clo, gb, lk, undef, Nat.reduceSub, beq_self_eq_true, true_and, s70, r70, Fin]
  exact res hC.2 (by simp [leR])
def Fcir : FC := fun args => match args with
  | [.int .i64 x] => some (-4611686018427387904 ≤ x ∧ x ≤ 4611686018427387904, .int .i64 (x % 1296000))
  | _ => none
theorem p73 : PureOk Try.prog 73 (fcC Fcir) := by
  refine pure_of (T := [(76, .fc Fdwn)]) ⟨⟨p76, q76⟩, trivial⟩ Try.func73 k73 ?_
  intro args K hC
  unfold fcC Fcir at hC
  split at hC <;> first | (exact hC.elim) | skip
  rename_i h
  split at h <;> first | (cases h; done) | skip
  cases h
  rename_i x
  obtain ⟨⟨h1, h2⟩, hK⟩ := hC
  simp only [inr64, e_reg, e_seq, e_ret, o_nil, o_cons, gd_none, putK_e, runK_e, vK_e, conK_e, callK_e, evh_v, evh_call, seqK_n, ends_r, endK1_e, endK2_e, gam_e, gamK_f, pc_e, pcK_e, fcC_e, fcK_e, evp, bin, gt, st, putf, X.get, gets, ap, mkfr, rep, rdR, tupled, clV, clL, clS, clo, lk, undef, Nat.reduceSub, beq_self_eq_true, true_and, s73, r73, Fdwn]
  refine ⟨by omega, by omega, by omega, res hK (by simp [leR]; omega)⟩
def Fno : FC := fun args => match args with
  | [] => some (True, .agg [.int .i64 1, .int .i64 0])
  | _ => none
theorem p54 : PureOk Try.prog 54 (fcC Fno) := by
  refine pure_of (T := []) trivial Try.func54 k54 ?_
  intro args K hC
  unfold fcC Fno at hC
  split at hC <;> first | (exact hC.elim) | skip
  rename_i h
  split at h <;> first | (cases h; done) | skip
  cases h
  simp only [↓reduceIte, e_reg, and_self, e_seq, e_ret, o_nil, o_cons, gd_none, putK_e, runK_e, bldK_e, storeK3_e, storeK2_e, storeK_e, evh_new, evh_bld, evh_store, seqK_n, ends_r, endK1_e, endK2_e, gt, st, putf, X.get, getp, mkfr, rep, rdR, tupled, clV, clL, clS, clo, ld, tk, dr, sp, sp.spl, lay, ll, cs1, one, allOne, gb, sb, pb, ln, undef, Bool.and_true, Nat.reduceAdd, beq_self_eq_true, true_and, s54, r54]
  exact res hC.2 (by simp [leR, leR.leRs])
/-- What is in both spans. -/
def com (a1 a2 b1 b2 : Int) : Int × Int := if max a1 b1 ≤ min a2 b2 then (max a1 b1, min a2 b2) else (1, 0)
def Fcom : FC := fun args => match args with
  | [.agg [.int .i64 a1, .int .i64 a2], .agg [.int .i64 b1, .int .i64 b2]] => some (True, .agg [.int .i64 (com a1 a2 b1 b2).1, .int .i64 (com a1 a2 b1 b2).2])
  | _ => none
theorem p74 : PureOk Try.prog 74 (fcC Fcom) := by
  refine pure_of (T := [(54, .fc Fno)]) ⟨⟨p54, q54⟩, trivial⟩ Try.func74 k74 ?_
  intro args K hC
  unfold fcC Fcom at hC
  split at hC <;> first | (exact hC.elim) | skip
  rename_i h
  split at h <;> first | (cases h; done) | skip
  cases h
  obtain ⟨-, hK⟩ := hC
  simp only [↓reduceIte, e_skip, e_reg, and_self, e_seq, e_cond, e_ret, o_nil, o_cons, gd_none, putK_e, runK_e, vK_e, boxK_e, bldK_e, storeK3_e, storeK2_e, storeK_e, conK_e, callK_e, evh_v, evh_new, evh_box, evh_bld, evh_store, evh_call, seqK_n, seqK_r, condK_b, ends_r, endK1_e, endK2_e, gam_e, gamK_f, pc_e, pcK_e, fcC_e, fcK_e, evp, bin, gt, gq, st, putf, X.get, gets, getp, ap, mkfr, rep, rdR, tupled, clV, clL, clS, clo, ld, lda, tk, dr, sp, sp.spl, lay, ll, cs1, one, allOne, gb, sb, pb, ln, lk, Value.oneCell', undef, Bool.and_true, Nat.reduceSub, Nat.reduceAdd, beq_self_eq_true, true_and, decide_eq_true_eq, decide_eq_false_iff_not, s74, r74, Fno, mx_eq, mn_eq]
  unfold com at hK
  refine ⟨fun h => res hK ?_, fun h => res hK ?_⟩
  · rw [if_neg (by omega)]; simp [leR, leR.leRs]
  · rw [if_pos (by omega)]; simp [leR, leR.leRs]
def Fhol : FC := fun args => match args with
  | [.agg [.int .i64 a, .int .i64 b], .int .i64 n] => some (True, .bool (decide (a ≤ n ∧ n ≤ b)))
  | _ => none
theorem p35 : PureOk Try.prog 35 (fcC Fhol) := by
  refine pure_of (T := [(48, .fc Fin)]) ⟨⟨p48, q48⟩, trivial⟩ Try.func35 k35 ?_
  intro args K hC
  unfold fcC Fhol at hC
  split at hC <;> first | (exact hC.elim) | skip
  rename_i h
  split at h <;> first | (cases h; done) | skip
  cases h
  simp only [e_reg, e_seq, e_ret, o_nil, o_cons, gd_none, putK_e, runK_e, vK_e, boxK_e, conK_e, callK_e, evh_v, evh_box, evh_call, seqK_n, ends_r, endK1_e, endK2_e, gam_e, gamK_f, pc_e, pcK_e, fcC_e, fcK_e, evp, gt, gq, st, putf, X.get, gets, ap, mkfr, rep, rdR, tupled, clV, clL, clS, clo, ld, lda, cs1, gb, pb, ln, lk, undef, Nat.reduceSub, Nat.reduceAdd, beq_self_eq_true, true_and, s35, r35, Fin]
  exact res hC.2 (by simp [leR])
def Fabs : FC := fun args => match args with
  | [.int .i64 n] => some (-4611686018427387904 ≤ n ∧ n ≤ 4611686018427387904, .int .i64 (max n (-n)))
  | _ => none
theorem p36 : PureOk Try.prog 36 (fcC Fabs) := by
  refine pure_of (T := []) trivial Try.func36 k36 ?_
  intro args K hC
  unfold fcC Fabs at hC
  split at hC <;> first | (exact hC.elim) | skip
  rename_i h
  split at h <;> first | (cases h; done) | skip
  cases h
  obtain ⟨h1, hK⟩ := hC
  simp only [inr64, e_reg, e_seq, e_ret, o_nil, o_cons, gd_none, putK_e, runK_e, vK_e, evh_v, seqK_n, ends_r, endK1_e, endK2_e, evp, gt, st, putf, X.get, mkfr, rep, rdR, tupled, clV, clS, clo, undef, Nat.reduceSub, true_and, s36, r36, mx_eq]
  exact ⟨by omega, res hK (by simp [leR])⟩
def Fto : FC := fun args => match args with
  | [.int .i64 a, .int .i64 b] => some (True, .agg [.int .i64 a, .int .i64 b])
  | _ => none
theorem p34 : PureOk Try.prog 34 (fcC Fto) := by
  refine pure_of (T := []) trivial Try.func34 k34 ?_
  intro args K hC
  unfold fcC Fto at hC
  split at hC <;> first | (exact hC.elim) | skip
  rename_i h
  split at h <;> first | (cases h; done) | skip
  cases h
  simp only [↓reduceIte, e_reg, and_self, e_seq, e_ret, o_nil, o_cons, gd_none, putK_e, runK_e, vK_e, bldK_e, storeK3_e, storeK2_e, storeK_e, evh_v, evh_new, evh_bld, evh_store, seqK_n, ends_r, endK1_e, endK2_e, evp, gt, st, putf, X.get, getp, mkfr, rep, rdR, tupled, clV, clL, clS, clo, ld, tk, dr, sp, sp.spl, lay, ll, cs1, one, allOne, gb, sb, pb, ln, undef, Bool.and_true, Nat.reduceSub, Nat.reduceAdd, beq_self_eq_true, true_and, s34, r34]
  exact res hC.2 (by simp [leR, leR.leRs])
/-- A span, made as wide as is needed. -/
def wid (a b n : Int) (f : Bool) : Int × Int := if f then (n, n) else (min a n, max b n)
def Fwid : FC := fun args => match args with
  | [.agg [.int .i64 a, .int .i64 b], .int .i64 n, .bool f] => some (True, .agg [.int .i64 (wid a b n f).1, .int .i64 (wid a b n f).2])
  | [.agg [.int .i64 a, .int .i64 b], .int .i64 n, .lit (.bool f)] => some (True, .agg [.int .i64 (wid a b n f).1, .int .i64 (wid a b n f).2])
  | _ => none
theorem p56 : PureOk Try.prog 56 (fcC Fwid) := by
  refine pure_of (T := []) trivial Try.func56 k56 ?_
  intro args K hC
  unfold fcC Fwid at hC
  split at hC <;> first | (exact hC.elim) | skip
  rename_i h
  split at h <;> first | (cases h; done) | skip
  · cases h
    obtain ⟨-, hK⟩ := hC
    simp only [↓reduceIte, e_skip, e_reg, and_self, e_seq, e_cond, e_ret, o_nil, o_cons, gd_none, putK_e, runK_e, vK_e, boxK_e, bldK_e, storeK3_e, storeK2_e, storeK_e, evh_v, evh_new, evh_box, evh_bld, evh_store, seqK_n, seqK_r, condK_b, ends_r, endK1_e, endK2_e, evp, gt, gq, st, putf, X.get, getp, mkfr, rep, rdR, tupled, clV, clL, clS, clo, ld, lda, tk, dr, sp, sp.spl, lay, ll, cs1, one, allOne, gb, sb, pb, ln, undef, Bool.and_true, Nat.reduceSub, Nat.reduceAdd, beq_self_eq_true, true_and, s56, r56, mx_eq, mn_eq]
    exact ⟨fun h => res hK (by simp [leR, leR.leRs, wid, h]), fun h => res hK (by simp [leR, leR.leRs, wid, h])⟩
  · cases h
    rename_i f
    obtain ⟨-, hK⟩ := hC
    cases f
    · simp only [↓reduceIte, e_skip, e_reg, and_self, e_seq, e_cond, e_ret, o_nil, o_cons, gd_none, putK_e, runK_e, vK_e, boxK_e, bldK_e, storeK3_e, storeK2_e, storeK_e, evh_v, evh_new, evh_box, evh_bld, evh_store, seqK_n, condK_f, ends_r, endK1_e, endK2_e, evp, gt, gq, st, putf, X.get, getp, mkfr, rep, rdR, tupled, clV, clL, clS, clo, ld, lda, tk, dr, sp, sp.spl, lay, ll, cs1, one, allOne, gb, sb, pb, ln, undef, Bool.and_true, Nat.reduceSub, Nat.reduceAdd, beq_self_eq_true, true_and, s56, r56, mx_eq, mn_eq]
      exact res hK (by simp [leR, leR.leRs, wid])
    · simp only [↓reduceIte, e_reg, and_self, e_seq, e_cond, e_ret, o_nil, o_cons, gd_none, putK_e, runK_e, vK_e, boxK_e, bldK_e, storeK3_e, storeK2_e, storeK_e, evh_v, evh_new, evh_box, evh_bld, evh_store, seqK_n, seqK_r, condK_t, ends_r, endK1_e, endK2_e, evp, gt, st, putf, X.get, getp, mkfr, rep, rdR, tupled, clV, clL, clS, clo, ld, tk, dr, sp, sp.spl, lay, ll, cs1, one, allOne, gb, sb, pb, ln, undef, Bool.and_true, Nat.reduceSub, Nat.reduceAdd, beq_self_eq_true, true_and, s56, r56]
      exact res hK (by simp [leR, leR.leRs, wid])
end Go.Proofs.Ytgfoakilompbdaa
