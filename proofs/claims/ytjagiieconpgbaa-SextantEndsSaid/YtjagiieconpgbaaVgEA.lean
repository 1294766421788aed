/- Sextants: checks, the specification's reading, the parts of the program's. -/
import Derived.Test.YtjagiieconpgbaaVgV9
import Derived.Test.YtjagiieconpgbaaProg
import Derived.KernelRfl
namespace Go.Proofs.Ytjagiieconpgbaa
open Go Go.Vg
set_option linter.unusedSimpArgs false
set_option linter.unusedVariables false
set_option maxRecDepth 10000
section
/- 33: octant/octantref00.In -/
def s33 : SC :=
  (.seq (.reg [⟨(some 6), none, .v (.mov (.c (.lit (.bool false))))⟩])
  (.seq (.reg [⟨(some 7), none, .v (.mov (.t 0))⟩,
    ⟨(some 8), none, .v (.mov (.t 1))⟩,
    ⟨(some 9), none, .v (.bin .geq (.t 7) (.t 8))⟩,
    ⟨(some 10), none, .v (.mov (.t 9))⟩,
    ⟨(some 11), (some (10, true)), .v (.mov (.t 0))⟩,
    ⟨(some 12), (some (10, true)), .v (.mov (.t 2))⟩,
    ⟨(some 13), (some (10, true)), .v (.bin .leq (.t 11) (.t 12))⟩,
    ⟨(some 14), none, .v (.pick (.t 10) (.t 13) (.c (.lit (.bool false))))⟩,
    ⟨(some 6), none, .v (.mov (.t 14))⟩])
  .ret))
def r33 : List RV := [.t 6]
def n33 : Nat := 15
theorem k33 : (Try.f33.body.bind (cC Try.prog), cR Try.prog Try.f33.results.toList, Try.f33.ntmps) = (some s33, some r33, 15) := by kernel_rfl
theorem q33 : Known Try.prog 33 := ⟨_, Try.func33, by decide, by simp [Try.f33]⟩

/- 78: octant/sextant.within -/
def s78 : SC :=
  (.seq (.reg [⟨(some 6), none, .v (.mov (.c (.lit (.bool false))))⟩])
  (.seq (.reg [⟨(some 7), none, .v (.mov (.t 1))⟩,
    ⟨(some 8), none, .v (.mov (.t 0))⟩,
    ⟨(some 9), none, .v (.bin .leq (.t 7) (.t 8))⟩,
    ⟨(some 10), none, .v (.mov (.t 9))⟩,
    ⟨(some 11), (some (10, true)), .v (.mov (.t 0))⟩,
    ⟨(some 12), (some (10, true)), .v (.mov (.t 2))⟩,
    ⟨(some 13), (some (10, true)), .v (.bin .leq (.t 11) (.t 12))⟩,
    ⟨(some 14), none, .v (.pick (.t 10) (.t 13) (.c (.lit (.bool false))))⟩,
    ⟨(some 6), none, .v (.mov (.t 14))⟩])
  .ret))
def r78 : List RV := [.t 6]
def n78 : Nat := 15
theorem k78 : (Try.f78.body.bind (cC Try.prog), cR Try.prog Try.f78.results.toList, Try.f78.ntmps) = (some s78, some r78, 15) := by kernel_rfl
theorem q78 : Known Try.prog 78 := ⟨_, Try.func78, by decide, by simp [Try.f78]⟩

/- 65: octant/sextant.isSpan -/
def s65 : SC :=
  (.seq (.reg [⟨(some 3), none, .box 24 (.t 0)⟩,
    ⟨(some 6), none, .v (.mov (.c (.lit (.bool false))))⟩])
  (.seq (.reg [⟨(some 7), none, .v (.mov (.t 1))⟩,
    ⟨(some 8), none, .v (.off (.t 3) 0)⟩,
    ⟨(some 9), none, .v (.load (.t 8) none)⟩,
    ⟨(some 10), none, .v (.bin .leq (.t 7) (.t 9))⟩,
    ⟨(some 11), none, .v (.mov (.t 10))⟩,
    ⟨(some 12), (some (11, true)), .v (.off (.t 3) 0)⟩,
    ⟨(some 13), (some (11, true)), .v (.load (.t 12) none)⟩,
    ⟨(some 14), (some (11, true)), .v (.off (.t 3) 1)⟩,
    ⟨(some 15), (some (11, true)), .v (.load (.t 14) none)⟩,
    ⟨(some 16), (some (11, true)), .v (.bin .leq (.t 13) (.t 15))⟩,
    ⟨(some 17), none, .v (.pick (.t 11) (.t 16) (.c (.lit (.bool false))))⟩,
    ⟨(some 18), none, .v (.mov (.t 17))⟩,
    ⟨(some 19), (some (18, true)), .v (.off (.t 3) 1)⟩,
    ⟨(some 20), (some (18, true)), .v (.load (.t 19) none)⟩,
    ⟨(some 21), (some (18, true)), .v (.mov (.t 2))⟩,
    ⟨(some 22), (some (18, true)), .v (.bin .leq (.t 20) (.t 21))⟩,
    ⟨(some 23), none, .v (.pick (.t 18) (.t 22) (.c (.lit (.bool false))))⟩,
    ⟨(some 6), none, .v (.mov (.t 23))⟩])
  .ret))
def r65 : List RV := [.t 6]
def n65 : Nat := 24
theorem k65 : (Try.f65.body.bind (cC Try.prog), cR Try.prog Try.f65.results.toList, Try.f65.ntmps) = (some s65, some r65, 24) := by kernel_rfl
theorem q65 : Known Try.prog 65 := ⟨_, Try.func65, by decide, by simp [Try.f65]⟩

/- 41: octant/octantref00.Spanned -/
def s41 : SC :=
  (.seq (.reg [⟨(some 3), none, .box 24 (.t 0)⟩,
    ⟨(some 6), none, .v (.mov (.c (.lit (.bool false))))⟩])
  (.seq (.reg [⟨(some 7), none, .v (.mov (.t 1))⟩,
    ⟨(some 8), none, .v (.off (.t 3) 0)⟩,
    ⟨(some 9), none, .v (.load (.t 8) none)⟩,
    ⟨(some 10), none, .v (.bin .leq (.t 7) (.t 9))⟩,
    ⟨(some 11), none, .v (.mov (.t 10))⟩,
    ⟨(some 12), (some (11, true)), .v (.off (.t 3) 0)⟩,
    ⟨(some 13), (some (11, true)), .v (.load (.t 12) none)⟩,
    ⟨(some 14), (some (11, true)), .v (.off (.t 3) 1)⟩,
    ⟨(some 15), (some (11, true)), .v (.load (.t 14) none)⟩,
    ⟨(some 16), (some (11, true)), .v (.bin .leq (.t 13) (.t 15))⟩,
    ⟨(some 17), none, .v (.pick (.t 11) (.t 16) (.c (.lit (.bool false))))⟩,
    ⟨(some 18), none, .v (.mov (.t 17))⟩,
    ⟨(some 19), (some (18, true)), .v (.off (.t 3) 1)⟩,
    ⟨(some 20), (some (18, true)), .v (.load (.t 19) none)⟩,
    ⟨(some 21), (some (18, true)), .v (.mov (.t 2))⟩,
    ⟨(some 22), (some (18, true)), .v (.bin .leq (.t 20) (.t 21))⟩,
    ⟨(some 23), none, .v (.pick (.t 18) (.t 22) (.c (.lit (.bool false))))⟩,
    ⟨(some 6), none, .v (.mov (.t 23))⟩])
  .ret))
def r41 : List RV := [.t 6]
def n41 : Nat := 24
theorem k41 : (Try.f41.body.bind (cC Try.prog), cR Try.prog Try.f41.results.toList, Try.f41.ntmps) = (some s41, some r41, 24) := by kernel_rfl
theorem q41 : Known Try.prog 41 := ⟨_, Try.func41, by decide, by simp [Try.f41]⟩

/- 42: octant/octantref00.Mod -/
def s42 : SC :=
  (.seq (.reg [⟨(some 4), none, .v (.mov (.c (.int .i64 (0))))⟩])
  (.seq (.reg [⟨(some 6), none, .v (.mov (.t 0))⟩,
    ⟨(some 7), none, .v (.mov (.t 1))⟩,
    ⟨(some 8), none, .v (.bin .rem (.t 6) (.t 7))⟩,
    ⟨(some 5), none, .v (.mov (.t 8))⟩])
  (.seq (.seq (.reg [⟨(some 9), none, .v (.mov (.t 5))⟩,
    ⟨(some 10), none, .v (.bin .lss (.t 9) (.c (.int .i64 (0))))⟩])
  (.cond (.t 10)
    (.reg [⟨(some 11), none, .v (.mov (.t 5))⟩,
      ⟨(some 12), none, .v (.mov (.t 1))⟩,
      ⟨(some 13), none, .v (.bin .add (.t 11) (.t 12))⟩,
      ⟨(some 5), none, .v (.mov (.t 13))⟩])
    .skip))
  (.seq (.reg [⟨(some 14), none, .v (.mov (.t 5))⟩,
    ⟨(some 4), none, .v (.mov (.t 14))⟩])
  .ret))))
def r42 : List RV := [.t 4]
def n42 : Nat := 15
theorem k42 : (Try.f42.body.bind (cC Try.prog), cR Try.prog Try.f42.results.toList, Try.f42.ntmps) = (some s42, some r42, 15) := by kernel_rfl
theorem q42 : Known Try.prog 42 := ⟨_, Try.func42, by decide, by simp [Try.f42]⟩

/- 85: octant/octantref00.Down -/
def s85 : SC :=
  (.seq (.reg [⟨(some 4), none, .v (.mov (.c (.int .i64 (0))))⟩])
  (.seq (.reg [⟨(some 5), none, .v (.mov (.t 0))⟩,
    ⟨(some 6), none, .v (.mov (.t 0))⟩,
    ⟨(some 7), none, .v (.mov (.t 1))⟩,
    ⟨(some 8), none, .call (.c (.fn 42 [])) [(.t 6), (.t 7)]⟩,
    ⟨(some 9), none, .v (.bin .sub (.t 5) (.t 8))⟩,
    ⟨(some 10), none, .v (.mov (.t 1))⟩,
    ⟨(some 11), none, .v (.bin .quo (.t 9) (.t 10))⟩,
    ⟨(some 4), none, .v (.mov (.t 11))⟩])
  .ret))
def r85 : List RV := [.t 4]
def n85 : Nat := 12
theorem k85 : (Try.f85.body.bind (cC Try.prog), cR Try.prog Try.f85.results.toList, Try.f85.ntmps) = (some s85, some r85, 12) := by kernel_rfl
theorem q85 : Known Try.prog 85 := ⟨_, Try.func85, by decide, by simp [Try.f85]⟩

/- 87: (octant/sextant.sextant).last -/
def s87 : SC :=
  (.seq (.reg [⟨(some 1), none, .box 89 (.t 0)⟩,
    ⟨(some 2), none, .v (.mov (.c (.int .i64 (0))))⟩])
  (.seq (.reg [⟨(some 3), none, .v (.off (.t 1) 0)⟩,
    ⟨(some 4), none, .v (.off (.t 3) 0)⟩,
    ⟨(some 5), none, .v (.load (.t 4) none)⟩,
    ⟨(some 6), none, .v (.off (.t 1) 0)⟩,
    ⟨(some 7), none, .v (.off (.t 6) 1)⟩,
    ⟨(some 8), none, .v (.load (.t 7) none)⟩,
    ⟨(some 9), none, .v (.len (.t 8))⟩,
    ⟨(some 10), none, .v (.bin .sub (.t 9) (.c (.int .i64 (1))))⟩,
    ⟨(some 11), none, .v (.bin .mul (.t 5) (.t 10))⟩,
    ⟨(some 2), none, .v (.mov (.t 11))⟩])
  .ret))
def r87 : List RV := [.t 2]
def n87 : Nat := 12
theorem k87 : (Try.f87.body.bind (cC Try.prog), cR Try.prog Try.f87.results.toList, Try.f87.ntmps) = (some s87, some r87, 12) := by kernel_rfl
theorem q87 : Known Try.prog 87 := ⟨_, Try.func87, by decide, by simp [Try.f87]⟩

/- 62: octant/octantref05.last -/
def s62 : SC :=
  (.seq (.reg [⟨(some 1), none, .box 26 (.t 0)⟩,
    ⟨(some 2), none, .v (.mov (.c (.int .i64 (0))))⟩])
  (.seq (.reg [⟨(some 3), none, .v (.off (.t 1) 0)⟩,
    ⟨(some 4), none, .v (.load (.t 3) none)⟩,
    ⟨(some 5), none, .v (.off (.t 1) 1)⟩,
    ⟨(some 6), none, .v (.load (.t 5) none)⟩,
    ⟨(some 7), none, .v (.len (.t 6))⟩,
    ⟨(some 8), none, .v (.bin .sub (.t 7) (.c (.int .i64 (1))))⟩,
    ⟨(some 9), none, .v (.bin .mul (.t 4) (.t 8))⟩,
    ⟨(some 2), none, .v (.mov (.t 9))⟩])
  .ret))
def r62 : List RV := [.t 2]
def n62 : Nat := 10
theorem k62 : (Try.f62.body.bind (cC Try.prog), cR Try.prog Try.f62.results.toList, Try.f62.ntmps) = (some s62, some r62, 10) := by kernel_rfl
theorem q62 : Known Try.prog 62 := ⟨_, Try.func62, by decide, by simp [Try.f62]⟩

/- 59: octant/octantref05.correction -/
def s59 : SC :=
  (.seq (.reg [⟨(some 2), none, .box 26 (.t 0)⟩,
    ⟨(some 4), none, .new 24 [(.int .i64 (0)), (.int .i64 (0))]⟩])
  (.seq (.drw [(0, ⟨(some 9), none, .v (.mov (.t 1))⟩, false),
    (1, ⟨(some 10), none, .v (.off (.t 2) 0)⟩, false),
    (2, ⟨(some 11), none, .v (.load (.t 10) none)⟩, false),
    (3, ⟨(some 12), none, .v (.bin .quo (.t 9) (.t 11))⟩, false),
    (4, ⟨(some 13), none, .v (.mov (.t 1))⟩, false),
    (5, ⟨(some 14), none, .v (.off (.t 2) 0)⟩, false),
    (6, ⟨(some 15), none, .v (.load (.t 14) none)⟩, false),
    (7, ⟨(some 16), none, .v (.bin .rem (.t 13) (.t 15))⟩, false),
    (8, ⟨(some 5), none, .v (.mov (.t 12))⟩, false)]
    none
    [⟨(some 6), none, .v (.mov (.t 16))⟩])
  (.seq (.seq (.reg [⟨(some 17), none, .v (.mov (.t 6))⟩,
    ⟨(some 18), none, .v (.bin .eql (.t 17) (.c (.int .i64 (0))))⟩])
  (.cond (.t 18)
    (.seq (.reg [⟨(some 19), none, .v (.off (.t 2) 1)⟩,
      ⟨(some 20), none, .v (.load (.t 19) none)⟩,
      ⟨(some 21), none, .v (.mov (.t 5))⟩,
      ⟨(some 22), none, .v (.ixa (.t 20) (.t 21) 2)⟩,
      ⟨(some 23), none, .v (.load (.t 22) (some 2))⟩,
      ⟨none, none, .store 2 (.t 4) (.t 23)⟩])
    .ret)
    .skip))
  (.seq (.tre (.op ⟨(some 24), none, .v (.off (.t 2) 1)⟩ (.op ⟨(some 25), none, .v (.load (.t 24) none)⟩ (.op ⟨(some 26), none, .v (.mov (.t 5))⟩ (.op ⟨(some 27), none, .v (.ixa (.t 25) (.t 26) 2)⟩ (.op ⟨(some 28), none, .v (.load (.t 27) (some 2))⟩ (.op ⟨(some 29), none, .v (.off (.t 2) 1)⟩ (.op ⟨(some 31), none, .v (.mov (.t 5))⟩ (.op ⟨(some 32), none, .v (.bin .add (.t 31) (.c (.int .i64 (1))))⟩ (.op ⟨(some 30), none, .v (.load (.t 29) none)⟩ (.op ⟨(some 33), none, .v (.ixa (.t 30) (.t 32) 2)⟩ (.op ⟨(some 34), none, .v (.load (.t 33) (some 2))⟩ (.op ⟨(some 7), none, .new 24 [(.int .i64 (0)), (.int .i64 (0))]⟩ (.op ⟨(some 8), none, .new 24 [(.int .i64 (0)), (.int .i64 (0))]⟩ (.op ⟨none, none, .store 2 (.t 7) (.t 28)⟩ (.op ⟨none, none, .store 2 (.t 8) (.t 34)⟩ .leaf
    .stop)
    .stop)
    .stop)
    (.op ⟨(some 8), none, .new 24 [(.int .i64 (0)), (.int .i64 (0))]⟩ (.op ⟨(some 7), none, .new 24 [(.int .i64 (0)), (.int .i64 (0))]⟩ (.op ⟨none, none, .store 2 (.t 7) (.t 28)⟩ (.op ⟨none, none, .store 2 (.t 8) (.t 34)⟩ .leaf
    .stop)
    .stop)
    .stop)
    .stop))
    (.op ⟨(some 7), none, .new 24 [(.int .i64 (0)), (.int .i64 (0))]⟩ (.op ⟨(some 34), none, .v (.load (.t 33) (some 2))⟩ (.op ⟨(some 8), none, .new 24 [(.int .i64 (0)), (.int .i64 (0))]⟩ (.op ⟨none, none, .store 2 (.t 7) (.t 28)⟩ (.op ⟨none, none, .store 2 (.t 8) (.t 34)⟩ .leaf
    .stop)
    .stop)
    .stop)
    (.op ⟨(some 8), none, .new 24 [(.int .i64 (0)), (.int .i64 (0))]⟩ (.op ⟨(some 34), none, .v (.load (.t 33) (some 2))⟩ (.op ⟨none, none, .store 2 (.t 7) (.t 28)⟩ (.op ⟨none, none, .store 2 (.t 8) (.t 34)⟩ .leaf
    .stop)
    .stop)
    (.op ⟨none, none, .store 2 (.t 7) (.t 28)⟩ (.op ⟨(some 34), none, .v (.load (.t 33) (some 2))⟩ (.op ⟨none, none, .store 2 (.t 8) (.t 34)⟩ .leaf
    .stop)
    .stop)
    .stop))
    .stop))
    (.op ⟨(some 8), none, .new 24 [(.int .i64 (0)), (.int .i64 (0))]⟩ (.op ⟨(some 34), none, .v (.load (.t 33) (some 2))⟩ (.op ⟨(some 7), none, .new 24 [(.int .i64 (0)), (.int .i64 (0))]⟩ (.op ⟨none, none, .store 2 (.t 7) (.t 28)⟩ (.op ⟨none, none, .store 2 (.t 8) (.t 34)⟩ .leaf
    .stop)
    .stop)
    .stop)
    (.op ⟨(some 7), none, .new 24 [(.int .i64 (0)), (.int .i64 (0))]⟩ (.op ⟨(some 34), none, .v (.load (.t 33) (some 2))⟩ (.op ⟨none, none, .store 2 (.t 7) (.t 28)⟩ (.op ⟨none, none, .store 2 (.t 8) (.t 34)⟩ .leaf
    .stop)
    .stop)
    (.op ⟨none, none, .store 2 (.t 7) (.t 28)⟩ (.op ⟨(some 34), none, .v (.load (.t 33) (some 2))⟩ (.op ⟨none, none, .store 2 (.t 8) (.t 34)⟩ .leaf
    .stop)
    .stop)
    .stop))
    .stop))
    .stop)))
    (.op ⟨(some 7), none, .new 24 [(.int .i64 (0)), (.int .i64 (0))]⟩ (.op ⟨(some 33), none, .v (.ixa (.t 30) (.t 32) 2)⟩ (.op ⟨(some 34), none, .v (.load (.t 33) (some 2))⟩ (.op ⟨(some 8), none, .new 24 [(.int .i64 (0)), (.int .i64 (0))]⟩ (.op ⟨none, none, .store 2 (.t 7) (.t 28)⟩ (.op ⟨none, none, .store 2 (.t 8) (.t 34)⟩ .leaf
    .stop)
    .stop)
    .stop)
    (.op ⟨(some 8), none, .new 24 [(.int .i64 (0)), (.int .i64 (0))]⟩ (.op ⟨(some 34), none, .v (.load (.t 33) (some 2))⟩ (.op ⟨none, none, .store 2 (.t 7) (.t 28)⟩ (.op ⟨none, none, .store 2 (.t 8) (.t 34)⟩ .leaf
    .stop)
    .stop)
    (.op ⟨none, none, .store 2 (.t 7) (.t 28)⟩ (.op ⟨(some 34), none, .v (.load (.t 33) (some 2))⟩ (.op ⟨none, none, .store 2 (.t 8) (.t 34)⟩ .leaf
    .stop)
    .stop)
    .stop))
    .stop))
    (.op ⟨(some 8), none, .new 24 [(.int .i64 (0)), (.int .i64 (0))]⟩ (.op ⟨(some 33), none, .v (.ixa (.t 30) (.t 32) 2)⟩ (.op ⟨(some 34), none, .v (.load (.t 33) (some 2))⟩ (.op ⟨none, none, .store 2 (.t 7) (.t 28)⟩ (.op ⟨none, none, .store 2 (.t 8) (.t 34)⟩ .leaf
    .stop)
    .stop)
    (.op ⟨none, none, .store 2 (.t 7) (.t 28)⟩ (.op ⟨(some 34), none, .v (.load (.t 33) (some 2))⟩ (.op ⟨none, none, .store 2 (.t 8) (.t 34)⟩ .leaf
    .stop)
    .stop)
    .stop))
    (.op ⟨none, none, .store 2 (.t 7) (.t 28)⟩ (.op ⟨(some 33), none, .v (.ixa (.t 30) (.t 32) 2)⟩ (.op ⟨(some 34), none, .v (.load (.t 33) (some 2))⟩ (.op ⟨none, none, .store 2 (.t 8) (.t 34)⟩ .leaf
    .stop)
    .stop)
    .stop)
    .stop))
    .stop))
    (.op ⟨(some 8), none, .new 24 [(.int .i64 (0)), (.int .i64 (0))]⟩ (.op ⟨(some 33), none, .v (.ixa (.t 30) (.t 32) 2)⟩ (.op ⟨(some 34), none, .v (.load (.t 33) (some 2))⟩ (.op ⟨(some 7), none, .new 24 [(.int .i64 (0)), (.int .i64 (0))]⟩ (.op ⟨none, none, .store 2 (.t 7) (.t 28)⟩ (.op ⟨none, none, .store 2 (.t 8) (.t 34)⟩ .leaf
    .stop)
    .stop)
    .stop)
    (.op ⟨(some 7), none, .new 24 [(.int .i64 (0)), (.int .i64 (0))]⟩ (.op ⟨(some 34), none, .v (.load (.t 33) (some 2))⟩ (.op ⟨none, none, .store 2 (.t 7) (.t 28)⟩ (.op ⟨none, none, .store 2 (.t 8) (.t 34)⟩ .leaf
    .stop)
    .stop)
    (.op ⟨none, none, .store 2 (.t 7) (.t 28)⟩ (.op ⟨(some 34), none, .v (.load (.t 33) (some 2))⟩ (.op ⟨none, none, .store 2 (.t 8) (.t 34)⟩ .leaf
    .stop)
    .stop)
    .stop))
    .stop))
    (.op ⟨(some 7), none, .new 24 [(.int .i64 (0)), (.int .i64 (0))]⟩ (.op ⟨(some 33), none, .v (.ixa (.t 30) (.t 32) 2)⟩ (.op ⟨(some 34), none, .v (.load (.t 33) (some 2))⟩ (.op ⟨none, none, .store 2 (.t 7) (.t 28)⟩ (.op ⟨none, none, .store 2 (.t 8) (.t 34)⟩ .leaf
    .stop)
    .stop)
    (.op ⟨none, none, .store 2 (.t 7) (.t 28)⟩ (.op ⟨(some 34), none, .v (.load (.t 33) (some 2))⟩ (.op ⟨none, none, .store 2 (.t 8) (.t 34)⟩ .leaf
    .stop)
    .stop)
    .stop))
    (.op ⟨none, none, .store 2 (.t 7) (.t 28)⟩ (.op ⟨(some 33), none, .v (.ixa (.t 30) (.t 32) 2)⟩ (.op ⟨(some 34), none, .v (.load (.t 33) (some 2))⟩ (.op ⟨none, none, .store 2 (.t 8) (.t 34)⟩ .leaf
    .stop)
    .stop)
    .stop)
    .stop))
    .stop))
    .stop)))
    (.op ⟨(some 7), none, .new 24 [(.int .i64 (0)), (.int .i64 (0))]⟩ (.op ⟨(some 30), none, .v (.load (.t 29) none)⟩ (.op ⟨(some 33), none, .v (.ixa (.t 30) (.t 32) 2)⟩ (.op ⟨(some 34), none, .v (.load (.t 33) (some 2))⟩ (.op ⟨(some 8), none, .new 24 [(.int .i64 (0)), (.int .i64 (0))]⟩ (.op ⟨none, none, .store 2 (.t 7) (.t 28)⟩ (.op ⟨none, none, .store 2 (.t 8) (.t 34)⟩ .leaf
    .stop)
    .stop)
    .stop)
    (.op ⟨(some 8), none, .new 24 [(.int .i64 (0)), (.int .i64 (0))]⟩ (.op ⟨(some 34), none, .v (.load (.t 33) (some 2))⟩ (.op ⟨none, none, .store 2 (.t 7) (.t 28)⟩ (.op ⟨none, none, .store 2 (.t 8) (.t 34)⟩ .leaf
    .stop)
    .stop)
    (.op ⟨none, none, .store 2 (.t 7) (.t 28)⟩ (.op ⟨(some 34), none, .v (.load (.t 33) (some 2))⟩ (.op ⟨none, none, .store 2 (.t 8) (.t 34)⟩ .leaf
    .stop)
    .stop)
    .stop))
    .stop))
    (.op ⟨(some 8), none, .new 24 [(.int .i64 (0)), (.int .i64 (0))]⟩ (.op ⟨(some 33), none, .v (.ixa (.t 30) (.t 32) 2)⟩ (.op ⟨(some 34), none, .v (.load (.t 33) (some 2))⟩ (.op ⟨none, none, .store 2 (.t 7) (.t 28)⟩ (.op ⟨none, none, .store 2 (.t 8) (.t 34)⟩ .leaf
    .stop)
    .stop)
    (.op ⟨none, none, .store 2 (.t 7) (.t 28)⟩ (.op ⟨(some 34), none, .v (.load (.t 33) (some 2))⟩ (.op ⟨none, none, .store 2 (.t 8) (.t 34)⟩ .leaf
    .stop)
    .stop)
    .stop))
    (.op ⟨none, none, .store 2 (.t 7) (.t 28)⟩ (.op ⟨(some 33), none, .v (.ixa (.t 30) (.t 32) 2)⟩ (.op ⟨(some 34), none, .v (.load (.t 33) (some 2))⟩ (.op ⟨none, none, .store 2 (.t 8) (.t 34)⟩ .leaf
    .stop)
    .stop)
    .stop)
    .stop))
    .stop))
    (.op ⟨(some 8), none, .new 24 [(.int .i64 (0)), (.int .i64 (0))]⟩ (.op ⟨(some 30), none, .v (.load (.t 29) none)⟩ (.op ⟨(some 33), none, .v (.ixa (.t 30) (.t 32) 2)⟩ (.op ⟨(some 34), none, .v (.load (.t 33) (some 2))⟩ (.op ⟨none, none, .store 2 (.t 7) (.t 28)⟩ (.op ⟨none, none, .store 2 (.t 8) (.t 34)⟩ .leaf
    .stop)
    .stop)
    (.op ⟨none, none, .store 2 (.t 7) (.t 28)⟩ (.op ⟨(some 34), none, .v (.load (.t 33) (some 2))⟩ (.op ⟨none, none, .store 2 (.t 8) (.t 34)⟩ .leaf
    .stop)
    .stop)
    .stop))
    (.op ⟨none, none, .store 2 (.t 7) (.t 28)⟩ (.op ⟨(some 33), none, .v (.ixa (.t 30) (.t 32) 2)⟩ (.op ⟨(some 34), none, .v (.load (.t 33) (some 2))⟩ (.op ⟨none, none, .store 2 (.t 8) (.t 34)⟩ .leaf
    .stop)
    .stop)
    .stop)
    .stop))
    (.op ⟨none, none, .store 2 (.t 7) (.t 28)⟩ (.op ⟨(some 30), none, .v (.load (.t 29) none)⟩ (.op ⟨(some 33), none, .v (.ixa (.t 30) (.t 32) 2)⟩ (.op ⟨(some 34), none, .v (.load (.t 33) (some 2))⟩ (.op ⟨none, none, .store 2 (.t 8) (.t 34)⟩ .leaf
    .stop)
    .stop)
    .stop)
    .stop)
    .stop))
    .stop))
    (.op ⟨(some 8), none, .new 24 [(.int .i64 (0)), (.int .i64 (0))]⟩ (.op ⟨(some 30), none, .v (.load (.t 29) none)⟩ (.op ⟨(some 33), none, .v (.ixa (.t 30) (.t 32) 2)⟩ (.op ⟨(some 34), none, .v (.load (.t 33) (some 2))⟩ (.op ⟨(some 7), none, .new 24 [(.int .i64 (0)), (.int .i64 (0))]⟩ (.op ⟨none, none, .store 2 (.t 7) (.t 28)⟩ (.op ⟨none, none, .store 2 (.t 8) (.t 34)⟩ .leaf
    .stop)
    .stop)
    .stop)
    (.op ⟨(some 7), none, .new 24 [(.int .i64 (0)), (.int .i64 (0))]⟩ (.op ⟨(some 34), none, .v (.load (.t 33) (some 2))⟩ (.op ⟨none, none, .store 2 (.t 7) (.t 28)⟩ (.op ⟨none, none, .store 2 (.t 8) (.t 34)⟩ .leaf
    .stop)
    .stop)
    (.op ⟨none, none, .store 2 (.t 7) (.t 28)⟩ (.op ⟨(some 34), none, .v (.load (.t 33) (some 2))⟩ (.op ⟨none, none, .store 2 (.t 8) (.t 34)⟩ .leaf
    .stop)
    .stop)
    .stop))
    .stop))
    (.op ⟨(some 7), none, .new 24 [(.int .i64 (0)), (.int .i64 (0))]⟩ (.op ⟨(some 33), none, .v (.ixa (.t 30) (.t 32) 2)⟩ (.op ⟨(some 34), none, .v (.load (.t 33) (some 2))⟩ (.op ⟨none, none, .store 2 (.t 7) (.t 28)⟩ (.op ⟨none, none, .store 2 (.t 8) (.t 34)⟩ .leaf
    .stop)
    .stop)
    (.op ⟨none, none, .store 2 (.t 7) (.t 28)⟩ (.op ⟨(some 34), none, .v (.load (.t 33) (some 2))⟩ (.op ⟨none, none, .store 2 (.t 8) (.t 34)⟩ .leaf
    .stop)
    .stop)
    .stop))
    (.op ⟨none, none, .store 2 (.t 7) (.t 28)⟩ (.op ⟨(some 33), none, .v (.ixa (.t 30) (.t 32) 2)⟩ (.op ⟨(some 34), none, .v (.load (.t 33) (some 2))⟩ (.op ⟨none, none, .store 2 (.t 8) (.t 34)⟩ .leaf
    .stop)
    .stop)
    .stop)
    .stop))
    .stop))
    (.op ⟨(some 7), none, .new 24 [(.int .i64 (0)), (.int .i64 (0))]⟩ (.op ⟨(some 30), none, .v (.load (.t 29) none)⟩ (.op ⟨(some 33), none, .v (.ixa (.t 30) (.t 32) 2)⟩ (.op ⟨(some 34), none, .v (.load (.t 33) (some 2))⟩ (.op ⟨none, none, .store 2 (.t 7) (.t 28)⟩ (.op ⟨none, none, .store 2 (.t 8) (.t 34)⟩ .leaf
    .stop)
    .stop)
    (.op ⟨none, none, .store 2 (.t 7) (.t 28)⟩ (.op ⟨(some 34), none, .v (.load (.t 33) (some 2))⟩ (.op ⟨none, none, .store 2 (.t 8) (.t 34)⟩ .leaf
    .stop)
    .stop)
    .stop))
    (.op ⟨none, none, .store 2 (.t 7) (.t 28)⟩ (.op ⟨(some 33), none, .v (.ixa (.t 30) (.t 32) 2)⟩ (.op ⟨(some 34), none, .v (.load (.t 33) (some 2))⟩ (.op ⟨none, none, .store 2 (.t 8) (.t 34)⟩ .leaf
    .stop)
    .stop)
    .stop)
    .stop))
    (.op ⟨none, none, .store 2 (.t 7) (.t 28)⟩ (.op ⟨(some 30), none, .v (.load (.t 29) none)⟩ (.op ⟨(some 33), none, .v (.ixa (.t 30) (.t 32) 2)⟩ (.op ⟨(some 34), none, .v (.load (.t 33) (some 2))⟩ (.op ⟨none, none, .store 2 (.t 8) (.t 34)⟩ .leaf
    .stop)
    .stop)
    .stop)
    .stop)
    .stop))
    .stop))
    .stop)))
    .stop)
    .stop)
    .stop)
    .stop)
    .stop)
    .stop)
    .stop)
    .stop))
  (.seq (.drw [(0, ⟨(some 35), none, .v (.off (.t 7) 0)⟩, false),
    (1, ⟨(some 36), none, .v (.load (.t 35) none)⟩, false),
    (2, ⟨(some 37), none, .v (.off (.t 2) 0)⟩, false),
    (3, ⟨(some 38), none, .v (.load (.t 37) none)⟩, false),
    (4, ⟨(some 39), none, .v (.mov (.t 6))⟩, false),
    (5, ⟨(some 40), none, .v (.bin .sub (.t 38) (.t 39))⟩, false),
    (6, ⟨(some 41), none, .v (.bin .mul (.t 36) (.t 40))⟩, false),
    (7, ⟨(some 42), none, .v (.off (.t 8) 0)⟩, false),
    (8, ⟨(some 43), none, .v (.load (.t 42) none)⟩, false),
    (9, ⟨(some 44), none, .v (.mov (.t 6))⟩, false),
    (10, ⟨(some 45), none, .v (.bin .mul (.t 43) (.t 44))⟩, false),
    (11, ⟨(some 46), none, .v (.bin .add (.t 41) (.t 45))⟩, false),
    (12, ⟨(some 47), none, .v (.off (.t 2) 0)⟩, false),
    (13, ⟨(some 48), none, .v (.load (.t 47) none)⟩, false),
    (14, ⟨(some 49), none, .call (.c (.fn 85 [])) [(.t 46), (.t 48)]⟩, false),
    (15, ⟨(some 50), none, .v (.off (.t 7) 1)⟩, false),
    (16, ⟨(some 51), none, .v (.load (.t 50) none)⟩, false),
    (17, ⟨(some 52), none, .v (.off (.t 2) 0)⟩, false),
    (18, ⟨(some 53), none, .v (.load (.t 52) none)⟩, false),
    (19, ⟨(some 54), none, .v (.mov (.t 6))⟩, false),
    (20, ⟨(some 55), none, .v (.bin .sub (.t 53) (.t 54))⟩, false),
    (21, ⟨(some 56), none, .v (.bin .mul (.t 51) (.t 55))⟩, false),
    (22, ⟨(some 57), none, .v (.off (.t 8) 1)⟩, false),
    (23, ⟨(some 58), none, .v (.load (.t 57) none)⟩, false),
    (24, ⟨(some 59), none, .v (.mov (.t 6))⟩, false),
    (25, ⟨(some 60), none, .v (.bin .mul (.t 58) (.t 59))⟩, false),
    (26, ⟨(some 61), none, .v (.bin .add (.t 56) (.t 60))⟩, false),
    (27, ⟨(some 62), none, .v (.off (.t 2) 0)⟩, false),
    (28, ⟨(some 63), none, .v (.load (.t 62) none)⟩, false)]
    none
    [⟨(some 64), none, .call (.c (.fn 85 [])) [(.t 61), (.t 63)]⟩,
    ⟨(some 65), none, .bld [(.int .i64 (0)), (.int .i64 (0))] [(0, 1, (.t 49)), (1, 1, (.t 64))]⟩,
    ⟨none, none, .store 2 (.t 4) (.t 65)⟩])
  .ret)))))
def r59 : List RV := [.c 4 (some 2)]
def n59 : Nat := 66
theorem k59 : (Try.f59.body.bind (cC Try.prog), cR Try.prog Try.f59.results.toList, Try.f59.ntmps) = (some s59, some r59, 66) := by kernel_rfl
theorem q59 : Known Try.prog 59 := ⟨_, Try.func59, by decide, by simp [Try.f59]⟩



/-- A result that is right as it is. -/
theorem res {K : SV → Prop} {x y : SV} (h : K y) (e : leR 4 x y) : ∃ r', K r' ∧ leR 4 x r' := ⟨y, h, e⟩
def Fin : FC := fun args => match args with
  | [.int .i64 x, .int .i64 lo, .int .i64 hi] => some (True, .bool (decide (lo ≤ x ∧ x ≤ hi)))
  | _ => none
theorem p78 : PureOk Try.prog 78 (fcC Fin) := by
  refine pure_of (T := []) trivial Try.func78 k78 ?_
  intro args K hC
  unfold fcC Fin at hC
  split at hC <;> first | (exact hC.elim) | skip
  rename_i h
  split at h <;> first | (cases h; done) | skip
  cases h
  simp only [e_reg, e_seq, e_ret, o_nil, o_cons, gd_none, gd_some, gdK_tt, gdK_ft, gdK_bt, putK_e, runK_e, skipK_e, vK_e, evh_v, seqK_n, ends_r, endK1_e, endK2_e, evp, bin, gt, st, putf, X.get, mkfr, rep, rdR, tupled, clV, clS, clo, undef, Nat.reduceSub, true_and, decide_eq_true_eq, decide_eq_false_iff_not, s78, r78]
  exact ⟨fun h => res hC.2 (by simp [leR, h]), fun h => res hC.2 (by simp [leR, h])⟩
theorem p33 : PureOk Try.prog 33 (fcC Fin) := by
  refine pure_of (T := []) trivial Try.func33 k33 ?_
  intro args K hC
  unfold fcC Fin at hC
  split at hC <;> first | (exact hC.elim) | skip
  rename_i h
  split at h <;> first | (cases h; done) | skip
  cases h
  simp only [e_reg, e_seq, e_ret, o_nil, o_cons, gd_none, gd_some, gdK_tt, gdK_ft, gdK_bt, putK_e, runK_e, skipK_e, vK_e, evh_v, seqK_n, ends_r, endK1_e, endK2_e, evp, bin, gt, st, putf, X.get, mkfr, rep, rdR, tupled, clV, clS, clo, undef, Nat.reduceSub, true_and, decide_eq_true_eq, decide_eq_false_iff_not, s33, r33]
  exact ⟨fun h => res hC.2 (by simp [leR, h]), fun h => res hC.2 (by simp [leR, h])⟩
def Fsp : FC := fun args => match args with
  | [.agg [.int .i64 a, .int .i64 b], .int .i64 lo, .int .i64 hi] => some (True, .bool (decide ((lo ≤ a ∧ a ≤ b) ∧ b ≤ hi)))
  | _ => none
theorem p65 : PureOk Try.prog 65 (fcC Fsp) := by
  refine pure_of (T := []) trivial Try.func65 k65 ?_
  intro args K hC
  unfold fcC Fsp at hC
  split at hC <;> first | (exact hC.elim) | skip
  rename_i h
  split at h <;> first | (cases h; done) | skip
  cases h
  obtain ⟨-, hK⟩ := hC
  simp only [e_reg, e_seq, e_ret, o_nil, o_cons, gd_none, gd_some, gdK_tt, gdK_ft, gdK_bt, putK_e, runK_e, skipK_e, vK_e, boxK_e, evh_v, evh_box, seqK_n, ends_r, endK1_e, endK2_e, evp, bin, gt, gq, st, putf, X.get, mkfr, rep, rdR, tupled, clV, clS, clo, ld, lda, cs1, gb, pb, ln, undef, Nat.reduceSub, Nat.reduceAdd, true_and, decide_eq_true_eq, decide_eq_false_iff_not, s65, r65]
  exact ⟨fun h1 => ⟨fun h2 => res hK (by simp [leR, h1, h2]), fun h2 => res hK (by simp [leR, h1, h2])⟩, fun h1 => res hK (by simp [leR, h1])⟩
theorem p41 : PureOk Try.prog 41 (fcC Fsp) := by
  refine pure_of (T := []) trivial Try.func41 k41 ?_
  intro args K hC
  unfold fcC Fsp at hC
  split at hC <;> first | (exact hC.elim) | skip
  rename_i h
  split at h <;> first | (cases h; done) | skip
  cases h
  obtain ⟨-, hK⟩ := hC
  simp only [e_reg, e_seq, e_ret, o_nil, o_cons, gd_none, gd_some, gdK_tt, gdK_ft, gdK_bt, putK_e, runK_e, skipK_e, vK_e, boxK_e, evh_v, evh_box, seqK_n, ends_r, endK1_e, endK2_e, evp, bin, gt, gq, st, putf, X.get, mkfr, rep, rdR, tupled, clV, clS, clo, ld, lda, cs1, gb, pb, ln, undef, Nat.reduceSub, Nat.reduceAdd, true_and, decide_eq_true_eq, decide_eq_false_iff_not, s41, r41]
  exact ⟨fun h1 => ⟨fun h2 => res hK (by simp [leR, h1, h2]), fun h2 => res hK (by simp [leR, h1, h2])⟩, fun h1 => res hK (by simp [leR, h1])⟩
def Fmod : FC := fun args => match args with
  | [.int .i64 a, .int .i64 b] => some (0 < b ∧ b ≤ 9223372036854775807, .int .i64 (a % b))
  | _ => none
theorem p42 : PureOk Try.prog 42 (fcC Fmod) := by
  refine pure_of (T := []) trivial Try.func42 k42 ?_
  intro args K hC
  unfold fcC Fmod at hC
  split at hC <;> first | (exact hC.elim) | skip
  rename_i h
  split at h <;> first | (cases h; done) | skip
  cases h
  rename_i a b
  obtain ⟨⟨hb, hb2⟩, hK⟩ := hC
  have e := Int.tmod_eq_emod (a := a) (b := b)
  have h1 := Int.emod_nonneg a (show b ≠ 0 by omega)
  have h2 := Int.emod_lt_of_pos a hb
  have h3 : (b.natAbs : Int) = b := by omega
  simp only [inr64, ne_eq, e_skip, e_reg, e_seq, e_cond, e_ret, o_nil, o_cons, gd_none, putK_e, runK_e, vK_e, evh_v, seqK_n, condK_b, ends_r, endK1_e, endK2_e, evp, bin, gt, st, putf, X.get, mkfr, rep, rdR, tupled, clV, clS, clo, undef, Nat.reduceSub, true_and, decide_eq_true_eq, decide_eq_false_iff_not, s42, r42]
  have e2 : a.tmod b = a % b ∨ a.tmod b = a % b - b := by
    by_cases c : 0 ≤ a ∨ b ∣ a
    · rw [if_pos c] at e; exact .inl (by simpa using e)
    · rw [if_neg c, h3] at e; exact .inr e
  exact ⟨by omega, fun h => ⟨by omega, res hK (by simp [leR]; omega)⟩, fun h => res hK (by simp [leR]; omega)⟩
def Fdwn : FC := fun args => match args with
  | [.int .i64 a, .int .i64 b] => some (0 < b ∧ b ≤ 4611686018427387904 ∧ -4611686018427387904 ≤ a ∧ a ≤ 4611686018427387904, .int .i64 (a / b))
  | _ => none
theorem p85 : PureOk Try.prog 85 (fcC Fdwn) := by
  refine pure_of (T := [(42, .fc Fmod)]) ⟨⟨p42, q42⟩, trivial⟩ Try.func85 k85 ?_
  intro args K hC
  unfold fcC Fdwn at hC
  split at hC <;> first | (exact hC.elim) | skip
  rename_i h
  split at h <;> first | (cases h; done) | skip
  cases h
  rename_i a b
  obtain ⟨⟨hb, hb2, ha, ha2⟩, hK⟩ := hC
  have h1 := Int.emod_nonneg a (show b ≠ 0 by omega)
  have h2 := Int.emod_lt_of_pos a hb
  have e1 : a - a % b = b * (a / b) := by have := Int.emod_add_mul_ediv a b; omega
  have e2 : (a - a % b).tdiv b = a / b := by rw [e1]; exact Int.mul_tdiv_cancel_left _ (by omega)
  have e3 : -4611686018427387904 ≤ a / b := Int.le_ediv_of_mul_le hb (by omega)
  have e4 : a / b ≤ 4611686018427387904 := Int.ediv_le_of_le_mul hb (by omega)
  simp only [inr64, ne_eq, e_reg, e_seq, e_ret, o_nil, o_cons, gd_none, putK_e, runK_e, vK_e, conK_e, callK_e, evh_v, evh_call, seqK_n, ends_r, endK1_e, endK2_e, gam_e, gamK_f, pc_e, pcK_e, fcC_e, fcK_e, evp, bin, gt, st, putf, X.get, gets, ap, mkfr, rep, rdR, tupled, clV, clL, clS, clo, lk, undef, Nat.reduceSub, beq_self_eq_true, true_and, s85, r85, Fmod]
  rw [e2]
  exact ⟨⟨hb, by omega⟩, by omega, ⟨by omega, by omega, by omega⟩, res hK (by simp [leR])⟩

def lo (L : List (Int × Int)) (i : Nat) : Int := (L.getD i (0, 0)).1
def hi (L : List (Int × Int)) (i : Nat) : Int := (L.getD i (0, 0)).2
def rowsS (L : List (Int × Int)) (i : Nat) : List SV := [.int .i64 (lo L i), .int .i64 (hi L i)]
/-- A sextant. -/
structure Sx where
  (step : Int) (T : List (Int × Int)) (a b w : Int) (S : List (Int × Int))
def Sx.sv (v : Sx) : SV := .agg [.int .i64 v.step, .rd 2 v.T.length (rowsS v.T), .int .i64 v.a, .int .i64 v.b, .int .i64 v.w, .rd 2 v.S.length (rowsS v.S)]
def cor (s x y d : Int) : Int := if d = 0 then x else (x * (s - d) + y * d) / s
def C59 : PC := fun args K => ∃ (v : Sx) (at' d : Int) (k : Nat), args = [v.sv, .int .i64 at'] ∧ (at' = v.step * k + d ∧ 0 ≤ d ∧ d < v.step ∧ v.step ≤ 72000 ∧ k < v.T.length ∧ (d ≠ 0 → k + 1 < v.T.length) ∧ v.T.length ≤ 12) ∧
  (∀ i, -600 ≤ lo v.T i ∧ lo v.T i ≤ 600 ∧ -600 ≤ hi v.T i ∧ hi v.T i ≤ 600) ∧ K (.agg [.int .i64 (cor v.step (lo v.T k) (lo v.T (k + 1)) d), .int .i64 (cor v.step (hi v.T k) (hi v.T (k + 1)) d)])
theorem mulB {x y : Int} (h1 : -600 ≤ x) (h2 : x ≤ 600) (h3 : 0 ≤ y) (h4 : y ≤ 72000) : -43200000 ≤ x * y ∧ x * y ≤ 43200000 := by
  have a := Int.mul_le_mul_of_nonneg_right h2 h3
  have b := Int.mul_le_mul_of_nonneg_right h1 h3
  omega
theorem p59 : PureOk Try.prog 59 C59 := by
  refine pure_of (T := [(85, .fc Fdwn)]) ⟨⟨p85, q85⟩, trivial⟩ Try.func59 k59 ?_
  rintro args K ⟨v, at', d, k, rfl, ⟨h1, h2, h3, h4, h5, h6, h7⟩, hT, hK⟩
  obtain ⟨step, T, a, b, w, S⟩ := v
  simp only at h1 h3 h4 h5 h6 h7 hT hK
  have e1 : at'.tdiv step = k := by
    have : 0 ≤ step * (k : Int) := Int.mul_nonneg (by omega) (by omega)
    rw [Int.tdiv_eq_ediv_of_nonneg (by omega), h1, Int.add_comm, Int.add_mul_ediv_left _ _ (by omega), Int.ediv_eq_zero_of_lt h2 h3]; simp
  have e2 : at'.tmod step = d := by
    have : 0 ≤ step * (k : Int) := Int.mul_nonneg (by omega) (by omega)
    rw [Int.tmod_eq_emod_of_nonneg (by omega), h1, Int.add_comm, Int.add_mul_emod_self_left, Int.emod_eq_of_lt h2 h3]
  simp only [Sx.sv]
  have e3 : ((k : Int) + 1).toNat = k + 1 := by omega
  simp only [inr64, ↓reduceIte, ne_eq, e_skip, e_reg, e_tre, t_leaf, t_stop, t_op, and_self, e_drw, e_seq, e_cond, e_ret, o_nil, o_cons, gd_none, putK_e, runK_e, vK_e, boxK_e, bldK_e, storeK3_e, storeK2_e, storeK_e, conK_e, callK_e, evh_v, evh_new, evh_box, evh_bld, evh_store, evh_call, dX_e, dG_t, d_nil, d_cons, tlK_n, seqK_n, seqK_r, condK_b, ends_r, endK1_e, endK2_e, gam_e, gamK_f, gamq_e, gamqK_f, pc_e, pcK_e, fcC_e, fcK_e, evp, bin, gt, gq, st, putf, X.get, gets, getp, ap, mkfr, rep, rdR, tupled, clV, clL, clS, clo, clo.clos, ld, lda, ixs, tk, dr, sp, sp.spl, lay, ll, cs1, one, allOne, gb, sb, pb, ln, lk, evq, gdl, Value.oneCell', undef, Bool.and_true, Nat.reduceSub, Nat.reduceAdd, beq_self_eq_true, true_and, and_true, decide_eq_true_eq, decide_eq_false_iff_not, s59, r59, Fdwn, e1, e2, e3, rowsS, Int.toNat_natCast]
  have m1 := mulB (y := step - d) (hT k).1 (hT k).2.1 (by omega) (by omega)
  have m2 := mulB (y := d) (hT (k + 1)).1 (hT (k + 1)).2.1 (by omega) (by omega)
  have m3 := mulB (y := step - d) (hT k).2.2.1 (hT k).2.2.2 (by omega) (by omega)
  have m4 := mulB (y := d) (hT (k + 1)).2.2.1 (hT (k + 1)).2.2.2 (by omega) (by omega)
  refine ⟨by omega, by omega, fun h => ⟨by omega, res hK ?_⟩, fun h => ⟨by omega, by omega, by omega, by omega, by omega, by omega, by omega, by omega, by omega, by omega, by omega, by omega, by omega, res hK ?_⟩⟩
  · simp [leR, leR.leRs, cor, h]
  · simp [leR, leR.leRs, cor, h]
def F87 : FC := fun args => match args with
  | [.agg [.int .i64 s, .rd 2 n _, .int .i64 _, .int .i64 _, .int .i64 _, _]] => some ((-9223372036854775808 ≤ (n : Int) - 1 ∧ (n : Int) - 1 ≤ 9223372036854775807) ∧ (-9223372036854775808 ≤ s * ((n : Int) - 1) ∧ s * ((n : Int) - 1) ≤ 9223372036854775807), .int .i64 (s * ((n : Int) - 1)))
  | _ => none
theorem p87 : PureOk Try.prog 87 (fcC F87) := by
  refine pure_of (T := []) trivial Try.func87 k87 ?_
  intro args K hC
  unfold fcC F87 at hC
  split at hC <;> first | (exact hC.elim) | skip
  rename_i h
  split at h <;> first | (cases h; done) | skip
  cases h
  obtain ⟨⟨q1, q2⟩, hK⟩ := hC
  simp only [inr64, e_reg, e_seq, e_ret, o_nil, o_cons, gd_none, putK_e, runK_e, vK_e, boxK_e, evh_v, evh_box, seqK_n, ends_r, endK1_e, endK2_e, evp, bin, gt, gq, st, putf, X.get, mkfr, rep, rdR, tupled, clV, clS, clo, ld, lda, lens, cs1, gb, pb, ln, undef, Nat.reduceSub, Nat.reduceAdd, true_and, s87, r87]
  exact ⟨q1, q2, res hK (by simp [leR])⟩
theorem p62 : PureOk Try.prog 62 (fcC F87) := by
  refine pure_of (T := []) trivial Try.func62 k62 ?_
  intro args K hC
  unfold fcC F87 at hC
  split at hC <;> first | (exact hC.elim) | skip
  rename_i h
  split at h <;> first | (cases h; done) | skip
  cases h
  obtain ⟨⟨q1, q2⟩, hK⟩ := hC
  simp only [inr64, e_reg, e_seq, e_ret, o_nil, o_cons, gd_none, putK_e, runK_e, vK_e, boxK_e, evh_v, evh_box, seqK_n, ends_r, endK1_e, endK2_e, evp, bin, gt, gq, st, putf, X.get, mkfr, rep, rdR, tupled, clV, clS, clo, ld, lda, lens, cs1, gb, pb, ln, undef, Nat.reduceSub, Nat.reduceAdd, true_and, s62, r62]
  exact ⟨q1, q2, res hK (by simp [leR])⟩
end
section
/- 94: octant/sextant.areSpans -/
def s94 : SC :=
  (.seq (.reg [⟨(some 4), none, .v (.mov (.c (.lit (.bool false))))⟩])
  (.seq (.seq (.reg [⟨(some 7), none, .v (.mov (.t 0))⟩,
    ⟨(some 8), none, .v (.len (.t 7))⟩,
    ⟨(some 9), none, .v (.mov (.c (.int .i64 (0))))⟩])
  (.block 0 (.loop
    (.seq (.reg [⟨(some 10), none, .v (.bin .lss (.t 9) (.t 8))⟩])
    (.seq (.cond (.t 10)
      .skip
      (.exit 0))
    (.seq (.block 1 (.seq (.reg [⟨(some 11), none, .v (.ixa (.t 7) (.t 9) 2)⟩,
      ⟨(some 12), none, .v (.load (.t 11) (some 2))⟩,
      ⟨(some 6), none, .new 24 [(.int .i64 (0)), (.int .i64 (0))]⟩,
      ⟨none, none, .store 2 (.t 6) (.t 12)⟩])
    (.seq (.reg [⟨(some 13), none, .v (.load (.t 6) (some 2))⟩,
      ⟨(some 14), none, .v (.mov (.t 1))⟩,
      ⟨(some 15), none, .v (.neg (.t 14))⟩,
      ⟨(some 16), none, .v (.mov (.t 1))⟩,
      ⟨(some 17), none, .call (.c (.fn 65 [])) [(.t 13), (.t 15), (.t 16)]⟩,
      ⟨(some 18), none, .v (.not (.t 17))⟩])
    (.cond (.t 18)
      (.seq (.reg [⟨(some 4), none, .v (.mov (.c (.lit (.bool false))))⟩])
      .ret)
      .skip))))
    (.reg [⟨(some 19), none, .v (.bin .add (.t 9) (.c (.int .i64 (1))))⟩,
      ⟨(some 9), none, .v (.mov (.t 19))⟩])))))))
  (.seq (.reg [⟨(some 4), none, .v (.mov (.c (.lit (.bool true))))⟩])
  .ret)))
def r94 : List RV := [.t 4]
def n94 : Nat := 20
theorem k94 : (Try.f94.body.bind (cC Try.prog), cR Try.prog Try.f94.results.toList, Try.f94.ntmps) = (some s94, some r94, 20) := by kernel_rfl
theorem q94 : Known Try.prog 94 := ⟨_, Try.func94, by decide, by simp [Try.f94]⟩

/- 61: (octant/sextant.sextant).valid -/
def s61 : SC :=
  (.seq (.reg [⟨(some 1), none, .box 89 (.t 0)⟩,
    ⟨(some 2), none, .v (.mov (.c (.lit (.bool false))))⟩])
  (.seq (.reg [⟨(some 3), none, .v (.off (.t 1) 0)⟩,
    ⟨(some 4), none, .v (.off (.t 3) 0)⟩,
    ⟨(some 5), none, .v (.load (.t 4) none)⟩,
    ⟨(some 6), none, .call (.c (.fn 78 [])) [(.t 5), (.c (.int .i64 (1))), (.c (.int .i64 (72000)))]⟩,
    ⟨(some 7), none, .v (.mov (.t 6))⟩,
    ⟨(some 8), (some (7, true)), .v (.off (.t 1) 0)⟩,
    ⟨(some 9), (some (7, true)), .v (.off (.t 8) 1)⟩,
    ⟨(some 10), (some (7, true)), .v (.load (.t 9) none)⟩,
    ⟨(some 11), (some (7, true)), .v (.len (.t 10))⟩,
    ⟨(some 12), (some (7, true)), .call (.c (.fn 78 [])) [(.t 11), (.c (.int .i64 (2))), (.c (.int .i64 (12)))]⟩,
    ⟨(some 13), none, .v (.pick (.t 7) (.t 12) (.c (.lit (.bool false))))⟩,
    ⟨(some 14), none, .v (.mov (.t 13))⟩,
    ⟨(some 15), (some (14, true)), .v (.off (.t 1) 0)⟩,
    ⟨(some 16), (some (14, true)), .v (.off (.t 15) 1)⟩,
    ⟨(some 17), (some (14, true)), .v (.load (.t 16) none)⟩,
    ⟨(some 18), (some (14, true)), .call (.c (.fn 94 [])) [(.t 17), (.c (.int .i64 (600)))]⟩,
    ⟨(some 19), none, .v (.pick (.t 14) (.t 18) (.c (.lit (.bool false))))⟩,
    ⟨(some 20), none, .v (.mov (.t 19))⟩,
    ⟨(some 21), (some (20, true)), .v (.load (.t 1) (some 6))⟩,
    ⟨(some 22), (some (20, true)), .call (.c (.fn 87 [])) [(.t 21)]⟩,
    ⟨(some 23), (some (20, true)), .v (.bin .leq (.t 22) (.c (.int .i64 (504000))))⟩,
    ⟨(some 24), none, .v (.pick (.t 20) (.t 23) (.c (.lit (.bool false))))⟩,
    ⟨(some 25), none, .v (.mov (.t 24))⟩,
    ⟨(some 26), (some (25, true)), .v (.off (.t 1) 0)⟩,
    ⟨(some 27), (some (25, true)), .v (.off (.t 26) 2)⟩,
    ⟨(some 28), (some (25, true)), .v (.load (.t 27) (some 2))⟩,
    ⟨(some 29), (some (25, true)), .call (.c (.fn 65 [])) [(.t 28), (.c (.int .i64 (-1800))), (.c (.int .i64 (1800)))]⟩,
    ⟨(some 30), none, .v (.pick (.t 25) (.t 29) (.c (.lit (.bool false))))⟩,
    ⟨(some 31), none, .v (.mov (.t 30))⟩,
    ⟨(some 32), (some (31, true)), .v (.off (.t 1) 0)⟩,
    ⟨(some 33), (some (31, true)), .v (.off (.t 32) 4)⟩,
    ⟨(some 34), (some (31, true)), .v (.load (.t 33) none)⟩,
    ⟨(some 35), (some (31, true)), .call (.c (.fn 78 [])) [(.t 34), (.c (.int .i64 (0))), (.c (.int .i64 (60)))]⟩,
    ⟨(some 36), none, .v (.pick (.t 31) (.t 35) (.c (.lit (.bool false))))⟩,
    ⟨(some 37), none, .v (.mov (.t 36))⟩,
    ⟨(some 38), (some (37, true)), .v (.off (.t 1) 0)⟩,
    ⟨(some 39), (some (37, true)), .v (.off (.t 38) 5)⟩,
    ⟨(some 40), (some (37, true)), .v (.load (.t 39) none)⟩,
    ⟨(some 41), (some (37, true)), .v (.len (.t 40))⟩,
    ⟨(some 42), (some (37, true)), .v (.bin .leq (.t 41) (.c (.int .i64 (6))))⟩,
    ⟨(some 43), none, .v (.pick (.t 37) (.t 42) (.c (.lit (.bool false))))⟩,
    ⟨(some 44), none, .v (.mov (.t 43))⟩,
    ⟨(some 45), (some (44, true)), .v (.off (.t 1) 0)⟩,
    ⟨(some 46), (some (44, true)), .v (.off (.t 45) 5)⟩,
    ⟨(some 47), (some (44, true)), .v (.load (.t 46) none)⟩,
    ⟨(some 48), (some (44, true)), .call (.c (.fn 94 [])) [(.t 47), (.c (.int .i64 (120)))]⟩,
    ⟨(some 49), none, .v (.pick (.t 44) (.t 48) (.c (.lit (.bool false))))⟩,
    ⟨(some 2), none, .v (.mov (.t 49))⟩])
  .ret))
def r61 : List RV := [.t 2]
def n61 : Nat := 50
theorem k61 : (Try.f61.body.bind (cC Try.prog), cR Try.prog Try.f61.results.toList, Try.f61.ntmps) = (some s61, some r61, 50) := by kernel_rfl
theorem q61 : Known Try.prog 61 := ⟨_, Try.func61, by decide, by simp [Try.f61]⟩

/- 17: octant/sextant.Check -/
def s17 : SC :=
  (.seq (.reg [⟨(some 1), none, .box 26 (.t 0)⟩,
    ⟨(some 2), none, .v (.mov (.c (.int .i64 (0))))⟩])
  (.seq (.seq (.reg [⟨(some 3), none, .v (.load (.t 1) (some 6))⟩,
    ⟨(some 4), none, .bld [(.int .i64 (0)), (.lit (.slice none 0 0)), (.int .i64 (0)), (.int .i64 (0)), (.int .i64 (0)), (.lit (.slice none 0 0))] [(0, 6, (.t 3))]⟩,
    ⟨(some 5), none, .call (.c (.fn 61 [])) [(.t 4)]⟩,
    ⟨(some 6), none, .v (.not (.t 5))⟩])
  (.cond (.t 6)
    (.seq (.reg [⟨(some 2), none, .v (.mov (.c (.int .i64 (50))))⟩])
    .ret)
    .skip))
  (.seq (.reg [⟨(some 2), none, .v (.mov (.c (.int .i64 (0))))⟩])
  .ret)))
def r17 : List RV := [.t 2]
def n17 : Nat := 7
theorem k17 : (Try.f17.body.bind (cC Try.prog), cR Try.prog Try.f17.results.toList, Try.f17.ntmps) = (some s17, some r17, 7) := by kernel_rfl
theorem q17 : Known Try.prog 17 := ⟨_, Try.func17, by decide, by simp [Try.f17]⟩

/- 18: octant/octantref05.Check -/
def s18 : SC :=
  (.seq (.reg [⟨(some 1), none, .box 26 (.t 0)⟩,
    ⟨(some 2), none, .v (.mov (.c (.int .i64 (0))))⟩])
  (.seq (.reg [⟨(some 6), none, .v (.off (.t 1) 0)⟩,
    ⟨(some 7), none, .v (.load (.t 6) none)⟩,
    ⟨(some 8), none, .call (.c (.fn 33 [])) [(.t 7), (.c (.int .i64 (1))), (.c (.int .i64 (72000)))]⟩,
    ⟨(some 9), none, .v (.mov (.t 8))⟩,
    ⟨(some 10), (some (9, true)), .v (.off (.t 1) 1)⟩,
    ⟨(some 11), (some (9, true)), .v (.load (.t 10) none)⟩,
    ⟨(some 12), (some (9, true)), .v (.len (.t 11))⟩,
    ⟨(some 13), (some (9, true)), .call (.c (.fn 33 [])) [(.t 12), (.c (.int .i64 (2))), (.c (.int .i64 (12)))]⟩,
    ⟨(some 14), none, .v (.pick (.t 9) (.t 13) (.c (.lit (.bool false))))⟩,
    ⟨(some 15), none, .v (.mov (.t 14))⟩,
    ⟨(some 16), (some (15, true)), .v (.load (.t 1) (some 6))⟩,
    ⟨(some 17), (some (15, true)), .call (.c (.fn 62 [])) [(.t 16)]⟩,
    ⟨(some 18), (some (15, true)), .v (.bin .leq (.t 17) (.c (.int .i64 (504000))))⟩,
    ⟨(some 19), none, .v (.pick (.t 15) (.t 18) (.c (.lit (.bool false))))⟩,
    ⟨(some 20), none, .v (.mov (.t 19))⟩,
    ⟨(some 21), (some (20, true)), .v (.off (.t 1) 2)⟩,
    ⟨(some 22), (some (20, true)), .v (.load (.t 21) (some 2))⟩,
    ⟨(some 23), (some (20, true)), .call (.c (.fn 41 [])) [(.t 22), (.c (.int .i64 (-1800))), (.c (.int .i64 (1800)))]⟩,
    ⟨(some 24), none, .v (.pick (.t 20) (.t 23) (.c (.lit (.bool false))))⟩,
    ⟨(some 25), none, .v (.mov (.t 24))⟩,
    ⟨(some 26), (some (25, true)), .v (.off (.t 1) 4)⟩,
    ⟨(some 27), (some (25, true)), .v (.load (.t 26) none)⟩,
    ⟨(some 28), (some (25, true)), .call (.c (.fn 33 [])) [(.t 27), (.c (.int .i64 (0))), (.c (.int .i64 (60)))]⟩,
    ⟨(some 29), none, .v (.pick (.t 25) (.t 28) (.c (.lit (.bool false))))⟩,
    ⟨(some 30), none, .v (.mov (.t 29))⟩,
    ⟨(some 31), (some (30, true)), .v (.off (.t 1) 5)⟩,
    ⟨(some 32), (some (30, true)), .v (.load (.t 31) none)⟩,
    ⟨(some 33), (some (30, true)), .v (.len (.t 32))⟩,
    ⟨(some 34), (some (30, true)), .v (.bin .leq (.t 33) (.c (.int .i64 (6))))⟩,
    ⟨(some 35), none, .v (.pick (.t 30) (.t 34) (.c (.lit (.bool false))))⟩,
    ⟨(some 3), none, .v (.mov (.t 35))⟩])
  (.seq (.seq (.reg [⟨(some 4), none, .v (.mov (.c (.int .i64 (0))))⟩])
  (.block 0 (.loop
    (.seq (.seq (.reg [⟨(some 36), none, .v (.mov (.t 3))⟩,
      ⟨(some 37), none, .v (.mov (.t 36))⟩,
      ⟨(some 38), (some (37, true)), .v (.mov (.t 4))⟩,
      ⟨(some 39), (some (37, true)), .v (.off (.t 1) 1)⟩,
      ⟨(some 40), (some (37, true)), .v (.load (.t 39) none)⟩,
      ⟨(some 41), (some (37, true)), .v (.len (.t 40))⟩,
      ⟨(some 42), (some (37, true)), .v (.bin .lss (.t 38) (.t 41))⟩,
      ⟨(some 43), none, .v (.pick (.t 37) (.t 42) (.c (.lit (.bool false))))⟩])
    (.cond (.t 43)
      .skip
      (.exit 0)))
    (.seq (.block 1 (.reg [⟨(some 46), none, .v (.off (.t 1) 1)⟩,
      ⟨(some 47), none, .v (.load (.t 46) none)⟩,
      ⟨(some 48), none, .v (.mov (.t 4))⟩,
      ⟨(some 49), none, .v (.ixa (.t 47) (.t 48) 2)⟩,
      ⟨(some 50), none, .v (.load (.t 49) (some 2))⟩,
      ⟨(some 51), none, .call (.c (.fn 41 [])) [(.t 50), (.c (.int .i64 (-600))), (.c (.int .i64 (600)))]⟩,
      ⟨(some 3), none, .v (.mov (.t 51))⟩]))
    (.reg [⟨(some 44), none, .v (.mov (.t 4))⟩,
      ⟨(some 45), none, .v (.bin .add (.t 44) (.c (.int .i64 (1))))⟩,
      ⟨(some 4), none, .v (.mov (.t 45))⟩]))))))
  (.seq (.seq (.reg [⟨(some 5), none, .v (.mov (.c (.int .i64 (0))))⟩])
  (.block 2 (.loop
    (.seq (.seq (.reg [⟨(some 52), none, .v (.mov (.t 3))⟩,
      ⟨(some 53), none, .v (.mov (.t 52))⟩,
      ⟨(some 54), (some (53, true)), .v (.mov (.t 5))⟩,
      ⟨(some 55), (some (53, true)), .v (.off (.t 1) 5)⟩,
      ⟨(some 56), (some (53, true)), .v (.load (.t 55) none)⟩,
      ⟨(some 57), (some (53, true)), .v (.len (.t 56))⟩,
      ⟨(some 58), (some (53, true)), .v (.bin .lss (.t 54) (.t 57))⟩,
      ⟨(some 59), none, .v (.pick (.t 53) (.t 58) (.c (.lit (.bool false))))⟩])
    (.cond (.t 59)
      .skip
      (.exit 2)))
    (.seq (.block 3 (.reg [⟨(some 62), none, .v (.off (.t 1) 5)⟩,
      ⟨(some 63), none, .v (.load (.t 62) none)⟩,
      ⟨(some 64), none, .v (.mov (.t 5))⟩,
      ⟨(some 65), none, .v (.ixa (.t 63) (.t 64) 2)⟩,
      ⟨(some 66), none, .v (.load (.t 65) (some 2))⟩,
      ⟨(some 67), none, .call (.c (.fn 41 [])) [(.t 66), (.c (.int .i64 (-120))), (.c (.int .i64 (120)))]⟩,
      ⟨(some 3), none, .v (.mov (.t 67))⟩]))
    (.reg [⟨(some 60), none, .v (.mov (.t 5))⟩,
      ⟨(some 61), none, .v (.bin .add (.t 60) (.c (.int .i64 (1))))⟩,
      ⟨(some 5), none, .v (.mov (.t 61))⟩]))))))
  (.seq (.seq (.reg [⟨(some 68), none, .v (.mov (.t 3))⟩,
    ⟨(some 69), none, .v (.not (.t 68))⟩])
  (.cond (.t 69)
    (.seq (.reg [⟨(some 2), none, .v (.mov (.c (.int .i64 (50))))⟩])
    .ret)
    .skip))
  (.seq (.reg [⟨(some 2), none, .v (.mov (.c (.int .i64 (0))))⟩])
  .ret))))))
def r18 : List RV := [.t 2]
def n18 : Nat := 70
theorem k18 : (Try.f18.body.bind (cC Try.prog), cR Try.prog Try.f18.results.toList, Try.f18.ntmps) = (some s18, some r18, 70) := by kernel_rfl
theorem q18 : Known Try.prog 18 := ⟨_, Try.func18, by decide, by simp [Try.f18]⟩


def spE (m : Int) (x : Int × Int) : Bool := decide ((-m ≤ x.1 ∧ x.1 ≤ x.2) ∧ x.2 ≤ m)
theorem getD_memS {L : List (Int × Int)} {i : Nat} (h : i < L.length) : L.getD i (0, 0) ∈ L := by simp [List.getD, h]
theorem allS_snoc {m : Int} {L : List (Int × Int)} {i : Nat} (h : i < L.length) : (L.take (i + 1)).all (spE m) = ((L.take i).all (spE m) && spE m (L.getD i (0, 0))) := by
  rw [List.take_add_one, List.getElem?_eq_getElem h, List.all_append]; simp [List.getD, h]
def C94 : PC := fun args K => ∃ (L : List (Int × Int)) (m : Int), args = [.rd 2 L.length (rowsS L), .int .i64 m] ∧ (0 ≤ m ∧ m ≤ 1000000 ∧ L.length ≤ 12) ∧ K (.bool (L.all (spE m)))
theorem p94 : PureOk Try.prog 94 C94 := by
  refine pure_of (T := [(65, .fc Fsp)]) ⟨⟨p65, q65⟩, trivial⟩ Try.func94 k94 ?_
  rintro args K ⟨L, m, rfl, ⟨hm1, hm2, hl⟩, hK⟩
  simp only [e_reg, e_seq, e_block, e_loop, o_nil, o_cons, gd_none, putK_e, runK_e, vK_e, evh_v, seqK_n, evp, gt, st, putf, X.get, mkfr, rep, lens, undef, Nat.reduceSub, true_and, s94, r94]
  refine loop_at2 (G := Nat) (fun i => [(9, .int .i64 i)]) (fun i => []) (fun i => i ≤ L.length ∧ (L.take i).all (spE m) = true) (fun i => L.length - i) 0 ⟨Nat.zero_le _, by simp⟩ ?_
  (intro fr1 hf1; simp only [forget, dstC, dstO, st] at hf1; subst hf1)
  refine ⟨?_, ?_⟩
  · refine Lw_re 0 [] (Nat.zero_le _) (by simp [ln]) (by simp [ln]) rfl ?_ ?_
    · simp only [reL, reX, inb, ln, sts, st, and_self, Int.natCast_zero, implies_true]
    · simp only [reH, reN]
  · rintro i ⟨hi1, hp⟩
    simp only [inr64, e_skip, e_reg, and_self, e_seq, e_cond, e_block, e_exit, e_ret, o_nil, o_cons, gd_none, putK_e, runK_e, vK_e, storeK3_e, storeK2_e, storeK_e, conK_e, callK_e, evh_v, evh_new, evh_store, evh_call, loopK_n, loopK_x, loopK_r, seqK_n, seqK_x, seqK_r, condK_b, exitK_t, blockK_x, blockK_n, blockK_r, ends_r, endK1_e, endK2_e, gam_e, gamK_f, pc_e, pcK_e, fcC_e, fcK_e, evp, bin, gt, st, putf, X.get, gets, ap, rdR, tupled, clV, clL, clS, clo, ld, lda, ixs, tk, dr, sp, sp.spl, ll, cs1, one, allOne, gb, sb, pb, ln, lk, Bool.and_true, Bool.not_true, Bool.not_false, Nat.reduceAdd, beq_self_eq_true, true_and, decide_eq_true_eq, decide_eq_false_iff_not, Bool.not_eq_eq_eq_not, sts, Int.toNat_natCast, rowsS, Fsp]
    have hsp : spE m (L.getD i (0, 0)) = decide ((-m ≤ lo L i ∧ lo L i ≤ hi L i) ∧ hi L i ≤ m) := rfl
    refine ⟨fun h => ⟨by omega, by omega, fun h1 => res hK ?_, fun h1 => ⟨by omega, ?_⟩⟩, fun h => res hK ?_⟩
    · have ha : i < L.length := by omega
      have : L.all (spE m) = false := by
        rw [Bool.eq_false_iff]; intro h2
        rw [List.all_eq_true] at h2
        have := h2 _ (getD_memS ha)
        rw [hsp, decide_eq_true_eq] at this
        exact h1 this
      simp [leR, this]
    · have ha : i < L.length := by omega
      refine Nx.mk (i + 1) ⟨by omega, ?_⟩ (by show L.length - (i + 1) < L.length - i; omega) (Lw_re 0 [] (Nat.zero_le _) (by simp [ln]) (by simp [ln]) rfl ?_ ?_)
      · rw [allS_snoc ha, hp, hsp, decide_eq_true h1]; rfl
      · simp only [reL, reX, inb, and_self, Int.natCast_add, Int.natCast_one, implies_true]
      · simp only [reH, reN]
    · have : i = L.length := by omega
      subst this
      rw [List.take_length] at hp
      simp [leR, hp]
/-- Whether it is a sextant. -/
def Sx.ok (v : Sx) : Prop := ((1 ≤ v.step ∧ v.step ≤ 72000) ∧ (2 ≤ (v.T.length : Int) ∧ (v.T.length : Int) ≤ 12) ∧ v.T.all (spE 600) = true ∧ v.step * ((v.T.length : Int) - 1) ≤ 504000) ∧
  ((-1800 ≤ v.a ∧ v.a ≤ v.b) ∧ v.b ≤ 1800) ∧ (0 ≤ v.w ∧ v.w ≤ 60) ∧ (v.S.length : Int) ≤ 6 ∧ v.S.all (spE 120) = true
instance (v : Sx) : Decidable v.ok := by unfold Sx.ok; infer_instance
def C61 : PC := fun args K => ∃ v : Sx, args = [v.sv] ∧ K (.bool (decide v.ok))
theorem p61 : PureOk Try.prog 61 C61 := by
  refine pure_of (T := [(78, .fc Fin), (94, .pc C94), (87, .fc F87), (65, .fc Fsp)]) ⟨⟨p78, q78⟩, ⟨p94, q94⟩, ⟨p87, q87⟩, ⟨p65, q65⟩, trivial⟩ Try.func61 k61 ?_
  rintro args K ⟨v, rfl, hK⟩
  obtain ⟨step, T, a, b, w, S⟩ := v
  simp only [Sx.sv]
  simp only [e_reg, e_seq, e_ret, o_nil, o_cons, gd_none, gd_some, gdK_tt, gdK_ft, gdK_bt, putK_e, runK_e, skipK_e, vK_e, boxK_e, conK_e, callK_e, evh_v, evh_box, evh_call, seqK_n, ends_r, endK1_e, endK2_e, gam_e, gamK_f, gamK_p, pc_e, pcK_e, fcC_e, fcK_e, evp, gt, gq, st, putf, X.get, gets, ap, mkfr, rep, rdR, tupled, clV, clL, clS, clo, ld, lda, lens, cs1, gb, pb, ln, lk, undef, Nat.reduceSub, Nat.reduceAdd, Nat.reduceBEq, beq_self_eq_true, true_and, decide_eq_true_eq, decide_eq_false_iff_not, s61, r61, Fin]
  have hn : ¬ Sx.ok ⟨step, T, a, b, w, S⟩ → ∃ r', K r' ∧ leR 4 (SV.lit (.bool false)) r' := fun h => res hK (by simp [leR, h])
  refine ⟨fun h1 => ⟨fun h2 => ⟨T, 600, rfl, ⟨by omega, by omega, by omega⟩, ?_⟩, fun h2 => hn fun h => h2 h.1.2.1⟩, fun h1 => hn fun h => h1 h.1.1⟩
  simp only [e_ret, o_nil, o_cons, gd_none, gd_some, gdK_tt, gdK_ft, gdK_bt, putK_e, runK_e, skipK_e, vK_e, conK_e, callK_e, evh_v, evh_call, seqK_n, ends_r, endK1_e, endK2_e, gam_e, gamK_f, gamK_p, pc_e, pcK_e, fcC_e, fcK_e, evp, bin, gt, gq, st, putf, X.get, gets, ap, rdR, tupled, clV, clL, clS, clo, ld, lda, lens, tk, dr, gb, lk, undef, Nat.reduceAdd, Nat.reduceBEq, beq_self_eq_true, true_and, decide_eq_true_eq, decide_eq_false_iff_not, Fin, F87, Fsp]
  have hb : 0 ≤ step * ((T.length : Int) - 1) ∧ step * ((T.length : Int) - 1) ≤ 792000 := by
    have a1 := Int.mul_le_mul_of_nonneg_right h1.2 (show 0 ≤ (T.length : Int) - 1 by omega)
    have a2 := Int.mul_nonneg (show 0 ≤ step by omega) (show 0 ≤ (T.length : Int) - 1 by omega)
    omega
  refine ⟨fun h3 => ⟨⟨by omega, by omega⟩, fun h4 => ⟨fun h5 => ⟨fun h6 => ⟨fun h7 => ⟨S, 120, rfl, ⟨by omega, by omega, by omega⟩, ?_⟩, fun h7 => hn fun h => h7 h.2.2.2.1⟩, fun h6 => hn fun h => h6 h.2.2.1⟩, fun h5 => hn fun h => h5 h.2.1⟩, fun h4 => hn fun h => h4 h.1.2.2.2⟩, fun h3 => hn fun h => by rw [h.1.2.2.1] at h3; cases h3⟩
  simp only [endK2_e, clo]
  have e : decide (Sx.ok ⟨step, T, a, b, w, S⟩) = S.all (spE 120) := by
    rw [Bool.eq_iff_iff, decide_eq_true_iff]
    exact ⟨fun h => h.2.2.2.2, fun h => ⟨⟨h1, h2, h3, h4⟩, h5, h6, h7, h⟩⟩
  exact res hK (by simp only [leR, e])
def Sx.chk (v : Sx) : Int := if v.ok then 0 else 50
def C17 : PC := fun args K => ∃ v : Sx, args = [v.sv] ∧ K (.int .i64 v.chk)
theorem p17 : PureOk Try.prog 17 C17 := by
  refine pure_of (T := [(61, .pc C61)]) ⟨⟨p61, q61⟩, trivial⟩ Try.func17 k17 ?_
  rintro args K ⟨v, rfl, hK⟩
  simp only [Sx.sv, Sx.chk] at hK ⊢
  simp only [e_reg, e_seq, o_nil, o_cons, gd_none, putK_e, runK_e, vK_e, boxK_e, bldK_e, conK_e, callK_e, evh_v, evh_box, evh_bld, evh_call, seqK_n, gam_e, gamK_p, pc_e, pcK_e, evp, gt, st, putf, X.get, gets, getp, ap, mkfr, rep, clV, clL, clS, clo, ld, lda, tk, dr, sp, sp.spl, lay, ll, cs1, gb, pb, ln, lk, undef, Nat.reduceSub, Nat.reduceAdd, beq_self_eq_true, true_and, s17, r17]
  refine ⟨v, rfl, ?_⟩
  simp only [e_skip, e_reg, e_seq, e_cond, e_ret, o_nil, o_cons, gd_none, putK_e, runK_e, vK_e, evh_v, seqK_n, seqK_r, condK_b, ends_r, endK1_e, endK2_e, evp, gt, st, putf, X.get, rdR, tupled, clV, clS, clo, Bool.not_true, Bool.not_false, true_and, decide_eq_true_eq, decide_eq_false_iff_not, Bool.not_eq_eq_eq_not]
  refine ⟨fun h => ?_, fun h => ?_⟩
  · rw [if_neg (by simpa using h)] at hK; exact res hK (by simp [leR])
  · rw [if_pos (by simpa using h)] at hK; exact res hK (by simp [leR])
end
section
theorem loop_once {N : Nat} {body : (Exit → St → Prop) → St → Prop} {K : Exit → St → Prop} {s : St} (h : body (loopK K fun _ => False) s) : LoopP N body K s := by
  refine ⟨fun n s' => n = 0 ∧ s' = s, ⟨0, s, fun E a _ hn hr => ⟨E, Env.Le.xt (.refl E) hn, rfl, hr⟩, rfl, rfl⟩, ?_⟩
  rintro n s' ⟨rfl, rfl⟩
  have e : (fun s'' : St => ∃ m s3, m < 0 ∧ Lw N s'' s3 ∧ (m = 0 ∧ s3 = s')) = fun _ => False := by
    funext x
    exact propext ⟨fun ⟨m, _, h, _⟩ => by omega, fun h => h.elim⟩
  rw [e]; exact h
theorem stepB {s n : Int} (h1 : 1 ≤ s ∧ s ≤ 72000) (h2 : 2 ≤ n ∧ n ≤ 12) : 0 ≤ s * (n - 1) ∧ s * (n - 1) ≤ 792000 := by
  have a1 := Int.mul_le_mul_of_nonneg_right h1.2 (show 0 ≤ n - 1 by omega)
  have a2 := Int.mul_nonneg (show 0 ≤ s by omega) (show 0 ≤ n - 1 by omega)
  omega
theorem p18 : PureOk Try.prog 18 C17 := by
  refine pure_of (T := [(33, .fc Fin), (62, .fc F87), (41, .fc Fsp)]) ⟨⟨p33, q33⟩, ⟨p62, q62⟩, ⟨p41, q41⟩, trivial⟩ Try.func18 k18 ?_
  rintro args K ⟨v, rfl, hK⟩
  obtain ⟨step, T, a, b, w, S⟩ := v
  simp only [Sx.sv]
  simp only [e_reg, e_seq, e_block, e_loop, o_nil, o_cons, gd_none, gd_some, gdK_tt, gdK_ft, gdK_bt, putK_e, runK_e, skipK_e, vK_e, boxK_e, conK_e, callK_e, evh_v, evh_box, evh_call, seqK_n, gam_e, gamK_f, pc_e, pcK_e, fcC_e, fcK_e, evp, bin, gt, gq, st, putf, X.get, gets, ap, mkfr, rep, clV, clL, clS, clo, ld, lda, lens, tk, dr, cs1, gb, pb, ln, lk, undef, Nat.reduceSub, Nat.reduceAdd, Nat.reduceBEq, beq_self_eq_true, true_and, decide_eq_true_eq, decide_eq_false_iff_not, s18, r18, Fin, F87, Fsp]
  have hn : ¬ Sx.ok ⟨step, T, a, b, w, S⟩ → ∃ r', K r' ∧ leR 4 (SV.int .i64 50) r' := fun h => by rw [Sx.chk, if_neg h] at hK; exact res hK (by simp [leR])
  refine ⟨fun h1 => ⟨fun h2 => ⟨⟨by omega, by have := stepB h1 h2; omega⟩, fun h4 => ⟨fun h5 => ⟨fun h6 => ?_, fun h6 => ?_⟩, fun h5 => ?_⟩, fun h4 => ?_⟩, fun h2 => ?_⟩, fun h1 => ?_⟩
  · refine loop_at2 (G := Nat) (fun i => [(4, .int .i64 i), (3, .bool (decide ((S.length : Int) ≤ 6) && (T.take i).all (spE 600)))])
      (fun _ => [.box 26 [.int .i64 step, .rd 2 T.length (rowsS T), .int .i64 a, .int .i64 b, .int .i64 w, .rd 2 S.length (rowsS S)]]) (fun i => i ≤ T.length) (fun i => T.length - i) 0 (Nat.zero_le _) ?_
    (intro fr1 hf1; simp only [forget, dstC, dstO, st] at hf1; subst hf1)
    refine ⟨?_, ?_⟩
    · refine Lw_re 1 [] (Nat.zero_le _) (by simp [ln]) (by simp [ln]) rfl ?_ ?_
      · simp only [reL, reX, inb, inb.inbs, ln, sts, st, Bool.and_self, Bool.and_true, Nat.reduceLT, Nat.reduceAdd, decide_true, and_self, Int.natCast_zero, List.take_zero, List.all_nil, Bool.and_true, implies_true]
      · simp only [reL, reX, reH, reB, reN, inb, true_and, and_true, and_self]
        exact ⟨fun _ _ => trivial, fun _ _ => trivial⟩
    · intro i hi1
      simp only [inr64, e_skip, e_reg, e_seq, e_cond, e_block, e_loop, e_exit, o_nil, o_cons, gd_none, gd_some, gdK_tt, gdK_ft, gdK_bt, putK_e, runK_e, skipK_e, vK_e, conK_e, callK_e, evh_v, evh_call, loopK_n, loopK_x, seqK_n, seqK_x, condK_f, condK_b, exitK_t, blockK_x, blockK_n, gam_e, gamK_f, pc_e, pcK_e, fcC_e, fcK_e, evp, bin, gt, gq, st, putf, X.get, gets, ap, clV, clL, clS, clo, ld, lda, lens, ixs, tk, dr, gb, lk, undef, Nat.reduceAdd, Nat.reduceBEq, beq_self_eq_true, true_and, decide_eq_true_eq, decide_eq_false_iff_not, sts, Int.toNat_natCast, rowsS, Fsp]
      have e6 : (decide ((S.length : Int) ≤ 6) && (T.take i).all (spE 600)) = true → (S.length : Int) ≤ 6 ∧ (T.take i).all (spE 600) = true := fun h => by simpa using h
      refine ⟨fun h => ⟨fun h7 => ⟨by omega, by omega, ?_⟩, fun h7 => ?_⟩, fun h => ?_⟩
      · have ha : i < T.length := by omega
        have e : decide ((-600 ≤ lo T i ∧ lo T i ≤ hi T i) ∧ hi T i ≤ 600) = (decide ((S.length : Int) ≤ 6) && (T.take (i + 1)).all (spE 600)) := by
          rw [allS_snoc ha, (e6 h).2, decide_eq_true (e6 h).1]; rfl
        rw [e]
        refine Nx.mk (i + 1) (by show i + 1 ≤ T.length; omega) (by show T.length - (i + 1) < T.length - i; omega) (Lw_re 1 [] (Nat.zero_le _) (by simp [ln]) (by simp [ln]) rfl ?_ ?_)
        · simp only [reL, reX, inb, inb.inbs, Bool.and_self, Nat.reduceLT, decide_true, and_self, Int.natCast_add, Int.natCast_one, implies_true]
        · simp only [reL, reX, reH, reB, reN, inb, true_and, and_true, and_self]
          exact ⟨fun _ _ => trivial, fun _ _ => trivial⟩
      · rw [h]
        have hT : T.all (spE 600) = true := by
          have : i = T.length := by omega
          subst this
          have := (e6 h).2
          rwa [List.take_length] at this
        refine loop_at2 (G := Nat) (fun j => [(5, .int .i64 j), (3, .bool ((S.take j).all (spE 120)))])
          (fun _ => [.box 26 [.int .i64 step, .rd 2 T.length (rowsS T), .int .i64 a, .int .i64 b, .int .i64 w, .rd 2 S.length (rowsS S)]]) (fun j => j ≤ S.length) (fun j => S.length - j) 0 (Nat.zero_le _) ?_
        (intro fr1 hf1; simp only [forget, dstC, dstO, st] at hf1; subst hf1)
        refine ⟨?_, ?_⟩
        · refine Lw_re 1 [] (Nat.zero_le _) (by simp [ln]) (by simp [ln]) rfl ?_ ?_
          · simp only [reL, reX, inb, inb.inbs, ln, sts, st, Bool.and_self, Nat.reduceLT, Nat.reduceAdd, decide_true, and_self, Int.natCast_zero, List.take_zero, List.all_nil, implies_true]
          · simp only [reL, reX, reH, reB, reN, inb, true_and, and_true, and_self]
            exact ⟨fun _ _ => trivial, fun _ _ => trivial⟩
        · intro j hj
          simp only [inr64, e_skip, e_reg, e_seq, e_cond, e_block, e_exit, e_ret, o_nil, o_cons, gd_none, gd_some, gdK_tt, gdK_ft, gdK_bt, putK_e, runK_e, skipK_e, vK_e, conK_e, callK_e, evh_v, evh_call, loopK_n, loopK_x, seqK_n, seqK_x, seqK_r, condK_f, condK_b, exitK_t, blockK_x, blockK_n, ends_r, endK1_e, endK2_e, gam_e, gamK_f, pc_e, pcK_e, fcC_e, fcK_e, evp, bin, gt, gq, st, putf, X.get, gets, ap, rdR, tupled, clV, clL, clS, clo, ld, lda, lens, ixs, tk, dr, gb, lk, undef, Bool.not_true, Bool.not_false, Nat.reduceAdd, Nat.reduceBEq, beq_self_eq_true, true_and, decide_eq_true_eq, decide_eq_false_iff_not, Bool.not_eq_eq_eq_not, sts, Int.toNat_natCast, rowsS, Fsp]
          have hS6 := (e6 h).1
          have hfalse : (S.take j).all (spE 120) = false → ∃ r', K r' ∧ leR 4 (SV.int .i64 50) r' := fun h0 => hn fun hok => by
            have h9 := hok.2.2.2.2
            have : (S.take j).all (spE 120) = true := by
              rw [List.all_eq_true] at h9 ⊢
              exact fun x hx => h9 x (List.mem_of_mem_take hx)
            rw [this] at h0; cases h0
          refine ⟨fun g => ⟨fun g7 => ⟨by omega, by omega, ?_⟩, fun g7 => ⟨hfalse, fun _ => ?_⟩⟩, fun g => ⟨fun _ => hfalse g, fun g' => by rw [g] at g'; cases g'⟩⟩
          · have ha : j < S.length := by omega
            have e : decide ((-120 ≤ lo S j ∧ lo S j ≤ hi S j) ∧ hi S j ≤ 120) = (S.take (j + 1)).all (spE 120) := by
              rw [allS_snoc ha, g]; rfl
            rw [e]
            refine Nx.mk (j + 1) (by show j + 1 ≤ S.length; omega) (by show S.length - (j + 1) < S.length - j; omega) (Lw_re 1 [] (Nat.zero_le _) (by simp [ln]) (by simp [ln]) rfl ?_ ?_)
            · simp only [reL, reX, inb, inb.inbs, Bool.and_self, Nat.reduceLT, decide_true, and_self, Int.natCast_add, Int.natCast_one, implies_true]
            · simp only [reL, reX, reH, reB, reN, inb, true_and, and_true, and_self]
              exact ⟨fun _ _ => trivial, fun _ _ => trivial⟩
          · have : j = S.length := by omega
            subst this
            rw [List.take_length] at g
            rw [Sx.chk, if_pos (show Sx.ok _ from ⟨⟨h1, h2, hT, h4⟩, h5, h6, hS6, g⟩)] at hK
            exact res hK (by simp [leR])
      · rw [h]
        refine loop_once ?_
        simp only [reduceCtorEq, e_skip, e_reg, e_seq, e_cond, e_block, e_exit, e_ret, o_nil, o_cons, gd_none, gd_some, gdK_tt, gdK_ft, gdK_bt, putK_e, runK_e, skipK_e, vK_e, evh_v, loopK_x, seqK_n, seqK_x, seqK_r, condK_f, condK_b, exitK_t, blockK_x, ends_r, endK1_e, endK2_e, evp, bin, gt, gq, st, putf, X.get, rdR, tupled, clV, clS, clo, ld, lda, lens, ixs, dr, gb, undef, Bool.not_false, Nat.reduceAdd, beq_self_eq_true, true_and, and_true, decide_eq_true_eq, decide_eq_false_iff_not, Bool.false_eq_true, false_implies]
        exact fun _ _ => hn fun hok => by
          have h8 := hok.2.2.2.1
          have h9 := hok.1.2.2.1
          have : (T.take i).all (spE 600) = true := by
            rw [List.all_eq_true] at h9 ⊢
            exact fun x hx => h9 x (List.mem_of_mem_take hx)
          simp only at h8
          rw [this, decide_eq_true h8] at h
          cases h
  · refine loop_once ?_
    simp only [e_reg, e_seq, e_cond, e_block, e_loop, e_exit, o_nil, o_cons, gd_none, gd_some, gdK_ft, putK_e, runK_e, skipK_e, vK_e, evh_v, loopK_x, seqK_n, seqK_x, condK_f, exitK_t, blockK_x, evp, gt, st, putf, X.get, undef, beq_self_eq_true, true_and]
    refine loop_once ?_
    simp only [e_reg, e_seq, e_cond, e_exit, e_ret, o_nil, o_cons, gd_none, gd_some, gdK_ft, putK_e, runK_e, skipK_e, vK_e, evh_v, loopK_x, seqK_n, seqK_x, seqK_r, condK_t, condK_f, exitK_t, blockK_x, ends_r, endK1_e, endK2_e, evp, gt, st, putf, X.get, rdR, tupled, clV, clS, clo, undef, beq_self_eq_true, true_and]
    exact hn fun h => h6 h.2.2.1
  · refine loop_once ?_
    simp only [e_reg, e_seq, e_cond, e_block, e_loop, e_exit, o_nil, o_cons, gd_none, gd_some, gdK_ft, putK_e, runK_e, skipK_e, vK_e, evh_v, loopK_x, seqK_n, seqK_x, condK_f, exitK_t, blockK_x, evp, gt, st, putf, X.get, undef, beq_self_eq_true, true_and]
    refine loop_once ?_
    simp only [e_reg, e_seq, e_cond, e_exit, e_ret, o_nil, o_cons, gd_none, gd_some, gdK_ft, putK_e, runK_e, skipK_e, vK_e, evh_v, loopK_x, seqK_n, seqK_x, seqK_r, condK_t, condK_f, exitK_t, blockK_x, ends_r, endK1_e, endK2_e, evp, gt, st, putf, X.get, rdR, tupled, clV, clS, clo, undef, beq_self_eq_true, true_and]
    exact hn fun h => h5 h.2.1
  · refine loop_once ?_
    simp only [e_reg, e_seq, e_cond, e_block, e_loop, e_exit, o_nil, o_cons, gd_none, gd_some, gdK_ft, putK_e, runK_e, skipK_e, vK_e, evh_v, loopK_x, seqK_n, seqK_x, condK_f, exitK_t, blockK_x, evp, gt, st, putf, X.get, undef, beq_self_eq_true, true_and]
    refine loop_once ?_
    simp only [e_reg, e_seq, e_cond, e_exit, e_ret, o_nil, o_cons, gd_none, gd_some, gdK_ft, putK_e, runK_e, skipK_e, vK_e, evh_v, loopK_x, seqK_n, seqK_x, seqK_r, condK_t, condK_f, exitK_t, blockK_x, ends_r, endK1_e, endK2_e, evp, gt, st, putf, X.get, rdR, tupled, clV, clS, clo, undef, beq_self_eq_true, true_and]
    exact hn fun h => h4 h.1.2.2.2
  · refine loop_once ?_
    simp only [e_reg, e_seq, e_cond, e_block, e_loop, e_exit, o_nil, o_cons, gd_none, gd_some, gdK_ft, putK_e, runK_e, skipK_e, vK_e, evh_v, loopK_x, seqK_n, seqK_x, condK_f, exitK_t, blockK_x, evp, gt, st, putf, X.get, undef, beq_self_eq_true, true_and]
    refine loop_once ?_
    simp only [e_reg, e_seq, e_cond, e_exit, e_ret, o_nil, o_cons, gd_none, gd_some, gdK_ft, putK_e, runK_e, skipK_e, vK_e, evh_v, loopK_x, seqK_n, seqK_x, seqK_r, condK_t, condK_f, exitK_t, blockK_x, ends_r, endK1_e, endK2_e, evp, gt, st, putf, X.get, rdR, tupled, clV, clS, clo, undef, beq_self_eq_true, true_and]
    exact hn fun h => h2 h.1.2.1
  · refine loop_once ?_
    simp only [e_reg, e_seq, e_cond, e_block, e_loop, e_exit, o_nil, o_cons, gd_none, gd_some, gdK_ft, putK_e, runK_e, skipK_e, vK_e, evh_v, loopK_x, seqK_n, seqK_x, condK_f, exitK_t, blockK_x, evp, gt, st, putf, X.get, undef, beq_self_eq_true, true_and]
    refine loop_once ?_
    simp only [e_reg, e_seq, e_cond, e_exit, e_ret, o_nil, o_cons, gd_none, gd_some, gdK_ft, putK_e, runK_e, skipK_e, vK_e, evh_v, loopK_x, seqK_n, seqK_x, seqK_r, condK_t, condK_f, exitK_t, blockK_x, ends_r, endK1_e, endK2_e, evp, gt, st, putf, X.get, rdR, tupled, clV, clS, clo, undef, beq_self_eq_true, true_and]
    exact hn fun h => h1 h.1.1
end
section
/- 88: (octant/sextant.sextant).allShades -/
def s88 : SC :=
  (.seq (.reg [⟨(some 1), none, .box 89 (.t 0)⟩,
    ⟨(some 2), none, .v (.mov (.c (.int .i64 (0))))⟩])
  (.seq (.reg [⟨(some 3), none, .v (.off (.t 1) 0)⟩,
    ⟨(some 4), none, .v (.off (.t 3) 5)⟩,
    ⟨(some 5), none, .v (.load (.t 4) none)⟩,
    ⟨(some 6), none, .v (.len (.t 5))⟩,
    ⟨(some 7), none, .v (.bin .shl (.c (.int .i64 (1))) (.t 6))⟩,
    ⟨(some 8), none, .v (.bin .sub (.t 7) (.c (.int .i64 (1))))⟩,
    ⟨(some 2), none, .v (.mov (.t 8))⟩])
  .ret))
def r88 : List RV := [.t 2]
def n88 : Nat := 9
theorem k88 : (Try.f88.body.bind (cC Try.prog), cR Try.prog Try.f88.results.toList, Try.f88.ntmps) = (some s88, some r88, 9) := by kernel_rfl
theorem q88 : Known Try.prog 88 := ⟨_, Try.func88, by decide, by simp [Try.f88]⟩

/- 55: (octant/sextant.sextant).haveReading -/
def s55 : SC :=
  (.seq (.reg [⟨(some 2), none, .box 89 (.t 0)⟩,
    ⟨(some 3), none, .box 28 (.t 1)⟩,
    ⟨(some 4), none, .v (.mov (.c (.lit (.bool false))))⟩])
  (.seq (.drw [(0, ⟨(some 5), none, .v (.off (.t 3) 0)⟩, false),
    (1, ⟨(some 6), none, .v (.load (.t 5) none)⟩, false),
    (2, ⟨(some 7), none, .v (.load (.t 2) (some 6))⟩, false),
    (3, ⟨(some 8), none, .call (.c (.fn 87 [])) [(.t 7)]⟩, false),
    (4, ⟨(some 9), none, .call (.c (.fn 78 [])) [(.t 6), (.c (.int .i64 (0))), (.t 8)]⟩, false),
    (5, ⟨(some 10), none, .v (.mov (.t 9))⟩, true),
    (6, ⟨(some 11), (some (10, true)), .v (.off (.t 3) 1)⟩, false),
    (7, ⟨(some 12), (some (10, true)), .v (.load (.t 11) none)⟩, false),
    (8, ⟨(some 13), (some (10, true)), .v (.load (.t 2) (some 6))⟩, false),
    (9, ⟨(some 14), (some (10, true)), .call (.c (.fn 88 [])) [(.t 13)]⟩, false)]
    none
    [⟨(some 15), (some (10, true)), .call (.c (.fn 78 [])) [(.t 12), (.c (.int .i64 (0))), (.t 14)]⟩,
    ⟨(some 16), none, .v (.pick (.t 10) (.t 15) (.c (.lit (.bool false))))⟩,
    ⟨(some 4), none, .v (.mov (.t 16))⟩])
  .ret))
def r55 : List RV := [.t 4]
def n55 : Nat := 17
theorem k55 : (Try.f55.body.bind (cC Try.prog), cR Try.prog Try.f55.results.toList, Try.f55.ntmps) = (some s55, some r55, 17) := by kernel_rfl
theorem q55 : Known Try.prog 55 := ⟨_, Try.func55, by decide, by simp [Try.f55]⟩

/- 57: octant/octantref05.isReading -/
def s57 : SC :=
  (.seq (.reg [⟨(some 2), none, .box 26 (.t 0)⟩,
    ⟨(some 3), none, .box 28 (.t 1)⟩,
    ⟨(some 4), none, .v (.mov (.c (.lit (.bool false))))⟩])
  (.seq (.drw [(0, ⟨(some 5), none, .v (.off (.t 3) 0)⟩, false),
    (1, ⟨(some 6), none, .v (.load (.t 5) none)⟩, false),
    (2, ⟨(some 7), none, .v (.load (.t 2) (some 6))⟩, false),
    (3, ⟨(some 8), none, .call (.c (.fn 62 [])) [(.t 7)]⟩, false),
    (4, ⟨(some 9), none, .call (.c (.fn 33 [])) [(.t 6), (.c (.int .i64 (0))), (.t 8)]⟩, false),
    (5, ⟨(some 10), none, .v (.mov (.t 9))⟩, true),
    (6, ⟨(some 11), (some (10, true)), .v (.off (.t 3) 1)⟩, false),
    (7, ⟨(some 12), (some (10, true)), .v (.load (.t 11) none)⟩, false),
    (8, ⟨(some 13), (some (10, true)), .v (.off (.t 2) 5)⟩, false),
    (9, ⟨(some 14), (some (10, true)), .v (.load (.t 13) none)⟩, false),
    (10, ⟨(some 15), (some (10, true)), .v (.len (.t 14))⟩, false),
    (11, ⟨(some 16), (some (10, true)), .v (.bin .shl (.c (.int .i64 (1))) (.t 15))⟩, false),
    (12, ⟨(some 17), (some (10, true)), .v (.bin .sub (.t 16) (.c (.int .i64 (1))))⟩, false)]
    none
    [⟨(some 18), (some (10, true)), .call (.c (.fn 33 [])) [(.t 12), (.c (.int .i64 (0))), (.t 17)]⟩,
    ⟨(some 19), none, .v (.pick (.t 10) (.t 18) (.c (.lit (.bool false))))⟩,
    ⟨(some 4), none, .v (.mov (.t 19))⟩])
  .ret))
def r57 : List RV := [.t 4]
def n57 : Nat := 20
theorem k57 : (Try.f57.body.bind (cC Try.prog), cR Try.prog Try.f57.results.toList, Try.f57.ntmps) = (some s57, some r57, 20) := by kernel_rfl
theorem q57 : Known Try.prog 57 := ⟨_, Try.func57, by decide, by simp [Try.f57]⟩

/- 86: octant/octantref00.Bit -/
def s86 : SC :=
  (.seq (.reg [⟨(some 4), none, .v (.mov (.c (.lit (.bool false))))⟩])
  (.seq (.reg [⟨(some 5), none, .v (.mov (.t 0))⟩,
    ⟨(some 6), none, .v (.mov (.t 1))⟩,
    ⟨(some 7), none, .v (.bin .shr (.t 5) (.t 6))⟩,
    ⟨(some 8), none, .v (.bin .rem (.t 7) (.c (.int .i64 (2))))⟩,
    ⟨(some 9), none, .v (.bin .eql (.t 8) (.c (.int .i64 (1))))⟩,
    ⟨(some 4), none, .v (.mov (.t 9))⟩])
  .ret))
def r86 : List RV := [.t 4]
def n86 : Nat := 10
theorem k86 : (Try.f86.body.bind (cC Try.prog), cR Try.prog Try.f86.results.toList, Try.f86.ntmps) = (some s86, some r86, 10) := by kernel_rfl
theorem q86 : Known Try.prog 86 := ⟨_, Try.func86, by decide, by simp [Try.f86]⟩

/- 58: octant/octantref05.sum -/
def s58 : SC :=
  (.seq (.reg [⟨(some 2), none, .box 24 (.t 0)⟩,
    ⟨(some 3), none, .box 24 (.t 1)⟩,
    ⟨(some 4), none, .new 24 [(.int .i64 (0)), (.int .i64 (0))]⟩])
  (.seq (.reg [⟨(some 5), none, .v (.off (.t 2) 0)⟩,
    ⟨(some 6), none, .v (.load (.t 5) none)⟩,
    ⟨(some 7), none, .v (.off (.t 3) 0)⟩,
    ⟨(some 8), none, .v (.load (.t 7) none)⟩,
    ⟨(some 9), none, .v (.bin .add (.t 6) (.t 8))⟩,
    ⟨(some 10), none, .v (.off (.t 2) 1)⟩,
    ⟨(some 11), none, .v (.load (.t 10) none)⟩,
    ⟨(some 12), none, .v (.off (.t 3) 1)⟩,
    ⟨(some 13), none, .v (.load (.t 12) none)⟩,
    ⟨(some 14), none, .v (.bin .add (.t 11) (.t 13))⟩,
    ⟨(some 15), none, .bld [(.int .i64 (0)), (.int .i64 (0))] [(0, 1, (.t 9)), (1, 1, (.t 14))]⟩,
    ⟨none, none, .store 2 (.t 4) (.t 15)⟩])
  .ret))
def r58 : List RV := [.c 4 (some 2)]
def n58 : Nat := 16
theorem k58 : (Try.f58.body.bind (cC Try.prog), cR Try.prog Try.f58.results.toList, Try.f58.ntmps) = (some s58, some r58, 16) := by kernel_rfl
theorem q58 : Known Try.prog 58 := ⟨_, Try.func58, by decide, by simp [Try.f58]⟩

/- 60: octant/octantref05.shades -/
def s60 : SC :=
  (.seq (.reg [⟨(some 2), none, .box 26 (.t 0)⟩,
    ⟨(some 4), none, .new 24 [(.int .i64 (0)), (.int .i64 (0))]⟩])
  (.seq (.reg [⟨(some 7), none, .v (.off (.t 2) 4)⟩,
    ⟨(some 8), none, .v (.load (.t 7) none)⟩,
    ⟨(some 9), none, .v (.neg (.t 8))⟩,
    ⟨(some 10), none, .v (.off (.t 2) 4)⟩,
    ⟨(some 11), none, .v (.load (.t 10) none)⟩,
    ⟨(some 12), none, .bld [(.int .i64 (0)), (.int .i64 (0))] [(0, 1, (.t 9)), (1, 1, (.t 11))]⟩,
    ⟨(some 5), none, .new 24 [(.int .i64 (0)), (.int .i64 (0))]⟩,
    ⟨none, none, .store 2 (.t 5) (.t 12)⟩])
  (.seq (.seq (.reg [⟨(some 6), none, .v (.mov (.c (.int .i64 (0))))⟩])
  (.block 0 (.loop
    (.seq (.seq (.reg [⟨(some 13), none, .v (.mov (.t 6))⟩,
      ⟨(some 14), none, .v (.off (.t 2) 5)⟩,
      ⟨(some 15), none, .v (.load (.t 14) none)⟩,
      ⟨(some 16), none, .v (.len (.t 15))⟩,
      ⟨(some 17), none, .v (.bin .lss (.t 13) (.t 16))⟩])
    (.cond (.t 17)
      .skip
      (.exit 0)))
    (.seq (.block 1 (.seq (.reg [⟨(some 20), none, .v (.mov (.t 1))⟩,
      ⟨(some 21), none, .v (.mov (.t 6))⟩,
      ⟨(some 22), none, .call (.c (.fn 86 [])) [(.t 20), (.t 21)]⟩])
    (.cond (.t 22)
      (.drw [(0, ⟨(some 23), none, .v (.load (.t 5) (some 2))⟩, false),
        (1, ⟨(some 24), none, .v (.off (.t 2) 5)⟩, false),
        (2, ⟨(some 25), none, .v (.load (.t 24) none)⟩, false),
        (3, ⟨(some 26), none, .v (.mov (.t 6))⟩, false),
        (4, ⟨(some 27), none, .v (.ixa (.t 25) (.t 26) 2)⟩, false),
        (5, ⟨(some 28), none, .v (.load (.t 27) (some 2))⟩, false)]
        none
        [⟨(some 29), none, .call (.c (.fn 58 [])) [(.t 23), (.t 28)]⟩,
        ⟨none, none, .store 2 (.t 5) (.t 29)⟩])
      .skip)))
    (.reg [⟨(some 18), none, .v (.mov (.t 6))⟩,
      ⟨(some 19), none, .v (.bin .add (.t 18) (.c (.int .i64 (1))))⟩,
      ⟨(some 6), none, .v (.mov (.t 19))⟩]))))))
  (.seq (.reg [⟨(some 30), none, .v (.load (.t 5) (some 2))⟩,
    ⟨none, none, .store 2 (.t 4) (.t 30)⟩])
  .ret))))
def r60 : List RV := [.c 4 (some 2)]
def n60 : Nat := 31
theorem k60 : (Try.f60.body.bind (cC Try.prog), cR Try.prog Try.f60.results.toList, Try.f60.ntmps) = (some s60, some r60, 31) := by kernel_rfl
theorem q60 : Known Try.prog 60 := ⟨_, Try.func60, by decide, by simp [Try.f60]⟩

/- 16: octant/octantref05.Read -/
def s16 : SC :=
  (.seq (.reg [⟨(some 2), none, .box 26 (.t 0)⟩,
    ⟨(some 3), none, .box 28 (.t 1)⟩,
    ⟨(some 4), none, .new 24 [(.int .i64 (0)), (.int .i64 (0))]⟩,
    ⟨(some 5), none, .v (.mov (.c (.int .i64 (0))))⟩])
  (.seq (.seq (.reg [⟨(some 7), none, .v (.load (.t 2) (some 6))⟩,
    ⟨(some 8), none, .call (.c (.fn 18 [])) [(.t 7)]⟩,
    ⟨(some 6), none, .v (.mov (.t 8))⟩])
  (.seq (.reg [⟨(some 9), none, .v (.mov (.t 6))⟩,
    ⟨(some 10), none, .v (.bin .neq (.t 9) (.c (.int .i64 (0))))⟩])
  (.cond (.t 10)
    (.seq (.reg [⟨(some 11), none, .bld [(.int .i64 (0)), (.int .i64 (0))] []⟩,
      ⟨(some 12), none, .v (.mov (.t 6))⟩,
      ⟨none, none, .store 2 (.t 4) (.t 11)⟩,
      ⟨(some 5), none, .v (.mov (.t 12))⟩])
    .ret)
    .skip)))
  (.seq (.seq (.reg [⟨(some 13), none, .v (.load (.t 2) (some 6))⟩,
    ⟨(some 14), none, .v (.load (.t 3) (some 2))⟩,
    ⟨(some 15), none, .call (.c (.fn 57 [])) [(.t 13), (.t 14)]⟩,
    ⟨(some 16), none, .v (.not (.t 15))⟩])
  (.cond (.t 16)
    (.seq (.reg [⟨(some 17), none, .bld [(.int .i64 (0)), (.int .i64 (0))] []⟩,
      ⟨none, none, .store 2 (.t 4) (.t 17)⟩,
      ⟨(some 5), none, .v (.mov (.c (.int .i64 (51))))⟩])
    .ret)
    .skip))
  (.seq (.drw [(0, ⟨(some 18), none, .v (.off (.t 3) 0)⟩, false),
    (1, ⟨(some 19), none, .v (.load (.t 18) none)⟩, false),
    (2, ⟨(some 20), none, .v (.off (.t 3) 0)⟩, false),
    (3, ⟨(some 21), none, .v (.load (.t 20) none)⟩, false),
    (4, ⟨(some 22), none, .bld [(.int .i64 (0)), (.int .i64 (0))] [(0, 1, (.t 19)), (1, 1, (.t 21))]⟩, false),
    (5, ⟨(some 23), none, .v (.off (.t 2) 2)⟩, false),
    (6, ⟨(some 24), none, .v (.load (.t 23) (some 2))⟩, false),
    (7, ⟨(some 25), none, .call (.c (.fn 58 [])) [(.t 22), (.t 24)]⟩, false),
    (8, ⟨(some 26), none, .v (.load (.t 2) (some 6))⟩, false),
    (9, ⟨(some 27), none, .v (.off (.t 3) 0)⟩, false),
    (10, ⟨(some 28), none, .v (.load (.t 27) none)⟩, false),
    (11, ⟨(some 29), none, .call (.c (.fn 59 [])) [(.t 26), (.t 28)]⟩, false),
    (12, ⟨(some 30), none, .call (.c (.fn 58 [])) [(.t 25), (.t 29)]⟩, false),
    (13, ⟨(some 31), none, .v (.load (.t 2) (some 6))⟩, false),
    (14, ⟨(some 32), none, .v (.off (.t 3) 1)⟩, false),
    (15, ⟨(some 33), none, .v (.load (.t 32) none)⟩, false)]
    none
    [⟨(some 34), none, .call (.c (.fn 60 [])) [(.t 31), (.t 33)]⟩,
    ⟨(some 35), none, .call (.c (.fn 58 [])) [(.t 30), (.t 34)]⟩,
    ⟨none, none, .store 2 (.t 4) (.t 35)⟩,
    ⟨(some 5), none, .v (.mov (.c (.int .i64 (0))))⟩])
  .ret))))
def r16 : List RV := [.c 4 (some 2), .t 5]
def n16 : Nat := 36
theorem k16 : (Try.f16.body.bind (cC Try.prog), cR Try.prog Try.f16.results.toList, Try.f16.ntmps) = (some s16, some r16, 36) := by kernel_rfl
theorem q16 : Known Try.prog 16 := ⟨_, Try.func16, by decide, by simp [Try.f16]⟩


theorem pow6 {m : Nat} (h : m ≤ 6) : 1 ≤ 2 ^ m ∧ 2 ^ m ≤ 64 := ⟨Nat.one_le_two_pow, Nat.pow_le_pow_right (by omega) h⟩
def F88 : FC := fun args => match args with
  | [.agg [.int .i64 _, .rd 2 _ _, .int .i64 _, .int .i64 _, .int .i64 _, .rd 2 m _]] => some (m ≤ 6, .int .i64 (((2 ^ m : Nat) : Int) - 1))
  | _ => none
theorem p88 : PureOk Try.prog 88 (fcC F88) := by
  refine pure_of (T := []) trivial Try.func88 k88 ?_
  intro args K hC
  unfold fcC F88 at hC
  split at hC <;> first | (exact hC.elim) | skip
  rename_i h
  split at h <;> first | (cases h; done) | skip
  cases h
  obtain ⟨q1, hK⟩ := hC
  have := pow6 q1
  have hb : IntKind.i64.bits = 64 := rfl
  simp only [inr64, e_reg, e_seq, e_ret, o_nil, o_cons, gd_none, putK_e, runK_e, vK_e, boxK_e, evh_v, evh_box, seqK_n, ends_r, endK1_e, endK2_e, evp, bin, gt, gq, st, putf, X.get, mkfr, rep, rdR, tupled, clV, clS, clo, ld, lda, lens, cs1, gb, pb, ln, undef, Nat.reduceSub, Nat.reduceAdd, true_and, s88, r88, Int.toNat_natCast, Int.one_mul, hb]
  exact ⟨⟨by omega, by omega⟩, by omega, res hK (by simp [leR])⟩
/-- Whether it is a reading of the sextant. -/
def Sx.rdg (v : Sx) (x set : Int) : Prop := (0 ≤ x ∧ x ≤ v.step * ((v.T.length : Int) - 1)) ∧ (0 ≤ set ∧ set ≤ ((2 ^ v.S.length : Nat) : Int) - 1)
instance (v : Sx) (x set : Int) : Decidable (v.rdg x set) := by unfold Sx.rdg; infer_instance
def C55 : PC := fun args K => ∃ (v : Sx) (x set : Int), args = [v.sv, .agg [.int .i64 x, .int .i64 set]] ∧ v.ok ∧ K (.bool (decide (v.rdg x set)))
theorem p55 : PureOk Try.prog 55 C55 := by
  refine pure_of (T := [(78, .fc Fin), (87, .fc F87), (88, .fc F88)]) ⟨⟨p78, q78⟩, ⟨p87, q87⟩, ⟨p88, q88⟩, trivial⟩ Try.func55 k55 ?_
  rintro args K ⟨v, x, set, rfl, hok, hK⟩
  obtain ⟨step, T, a, b, w, S⟩ := v
  have h1 := hok.1.1
  have h2 := hok.1.2.1
  simp only at h1 h2
  have hb := stepB h1 h2
  have h6 := hok.2.2.2.1
  simp only at h6
  simp only [Sx.sv]
  simp only [e_reg, e_drw, e_seq, e_ret, o_nil, o_cons, gd_none, gd_some, gdK_tt, gdK_ft, putK_e, runK_e, skipK_e, vK_e, boxK_e, conK_e, callK_e, evh_v, evh_box, evh_call, dX_e, dX_b, dG_t, dG_f, d_nil, d_cons, tlK_n, seqK_n, ends_r, endK1_e, endK2_e, gam_e, gamK_f, gamq_e, gamqK_f, pc_e, pcK_e, fcC_e, fcK_e, evp, gt, gq, st, putf, X.get, gets, ap, mkfr, rep, rdR, tupled, clV, clL, clS, clo, clo.clos, ld, lda, tk, dr, cs1, gb, pb, ln, lk, evq, gdl, undef, Bool.and_true, Bool.not_true, Nat.reduceSub, Nat.reduceAdd, Nat.reduceBEq, beq_self_eq_true, true_and, decide_eq_true_eq, decide_eq_false_iff_not, s55, r55, Fin, F87, F88]
  refine ⟨⟨by omega, by omega⟩, fun h => ⟨by omega, res hK ?_⟩, fun h => res hK ?_⟩
  · simp only [leR, Sx.rdg, h, and_self, true_and]
  · simp only [leR, Sx.rdg, h, false_and, decide_false]
def C57 : PC := C55
theorem p57 : PureOk Try.prog 57 C57 := by
  refine pure_of (T := [(33, .fc Fin), (62, .fc F87)]) ⟨⟨p33, q33⟩, ⟨p62, q62⟩, trivial⟩ Try.func57 k57 ?_
  rintro args K ⟨v, x, set, rfl, hok, hK⟩
  obtain ⟨step, T, a, b, w, S⟩ := v
  have h1 := hok.1.1
  have h2 := hok.1.2.1
  simp only at h1 h2
  have hb := stepB h1 h2
  have h6 := hok.2.2.2.1
  simp only at h6
  have hp := pow6 (m := S.length) (by omega)
  have hbt : IntKind.i64.bits = 64 := rfl
  simp only [Sx.sv]
  simp only [inr64, e_reg, e_drw, e_seq, e_ret, o_nil, o_cons, gd_none, gd_some, gdK_tt, gdK_ft, putK_e, runK_e, skipK_e, vK_e, boxK_e, conK_e, callK_e, evh_v, evh_box, evh_call, dX_e, dX_b, dG_t, dG_f, d_nil, d_cons, tlK_n, seqK_n, ends_r, endK1_e, endK2_e, gam_e, gamK_f, gamq_e, gamqK_f, pc_e, pcK_e, fcC_e, fcK_e, evp, bin, gt, gq, st, putf, X.get, gets, ap, mkfr, rep, rdR, tupled, clV, clL, clS, clo, clo.clos, ld, lda, lens, tk, dr, cs1, gb, pb, ln, lk, evq, gdl, undef, Bool.and_true, Bool.not_true, Nat.reduceSub, Nat.reduceAdd, Nat.reduceBEq, beq_self_eq_true, true_and, decide_eq_true_eq, decide_eq_false_iff_not, s57, r57, Fin, F87, Int.toNat_natCast, Int.one_mul, hbt]
  refine ⟨⟨by omega, by omega⟩, fun h => ⟨⟨⟨by omega, by omega⟩, by omega, by omega⟩, ⟨by omega, by omega⟩, res hK ?_⟩, fun h => res hK ?_⟩
  · simp only [leR, Sx.rdg, h, and_self, true_and]
  · simp only [leR, Sx.rdg, h, false_and, decide_false]
def F86 : FC := fun args => match args with
  | [.int .i64 x, .int .i64 i] => some ((0 ≤ i ∧ i ≤ 60) ∧ 0 ≤ x, .bool (decide (x / ((2 ^ i.toNat : Nat) : Int) % 2 = 1)))
  | _ => none
theorem p86 : PureOk Try.prog 86 (fcC F86) := by
  refine pure_of (T := []) trivial Try.func86 k86 ?_
  intro args K hC
  unfold fcC F86 at hC
  split at hC <;> first | (exact hC.elim) | skip
  rename_i h
  split at h <;> first | (cases h; done) | skip
  cases h
  rename_i x i
  obtain ⟨⟨q1, q2⟩, hK⟩ := hC
  have hbt : IntKind.i64.bits = 64 := rfl
  have e : (x / ((2 ^ i.toNat : Nat) : Int)).tmod 2 = x / ((2 ^ i.toNat : Nat) : Int) % 2 := Int.tmod_eq_emod_of_nonneg (Int.ediv_nonneg q2 (Int.natCast_nonneg _))
  simp only [ne_eq, e_reg, e_seq, e_ret, o_nil, o_cons, gd_none, putK_e, runK_e, vK_e, evh_v, seqK_n, ends_r, endK1_e, endK2_e, evp, bin, gt, st, putf, X.get, mkfr, rep, rdR, tupled, clV, clS, clo, undef, Nat.reduceSub, true_and, s86, r86, hbt, e]
  exact ⟨⟨by omega, by omega⟩, by omega, res hK (by simp [leR])⟩
def F58 : FC := fun args => match args with
  | [.agg [.int .i64 a, .int .i64 b], .agg [.int .i64 c, .int .i64 d]] => some ((-9223372036854775808 ≤ a + c ∧ a + c ≤ 9223372036854775807) ∧ (-9223372036854775808 ≤ b + d ∧ b + d ≤ 9223372036854775807), .agg [.int .i64 (a + c), .int .i64 (b + d)])
  | _ => none
theorem p58 : PureOk Try.prog 58 (fcC F58) := by
  refine pure_of (T := []) trivial Try.func58 k58 ?_
  intro args K hC
  unfold fcC F58 at hC
  split at hC <;> first | (exact hC.elim) | skip
  rename_i h
  split at h <;> first | (cases h; done) | skip
  cases h
  obtain ⟨⟨q1, q2⟩, hK⟩ := hC
  simp only [inr64, ↓reduceIte, e_reg, and_self, e_seq, e_ret, o_nil, o_cons, gd_none, putK_e, runK_e, vK_e, boxK_e, bldK_e, storeK3_e, storeK2_e, storeK_e, evh_v, evh_new, evh_box, evh_bld, evh_store, seqK_n, ends_r, endK1_e, endK2_e, evp, bin, gt, gq, st, putf, X.get, getp, mkfr, rep, rdR, tupled, clV, clL, clS, clo, ld, lda, tk, dr, sp, sp.spl, lay, ll, cs1, one, allOne, gb, sb, pb, ln, undef, Bool.and_true, Nat.reduceSub, Nat.reduceAdd, beq_self_eq_true, true_and, s58, r58]
  exact ⟨q1, q2, res hK (by simp [leR, leR.leRs])⟩
/-- Between what the errors of the first shades that are used lie, and that of the reading. -/
def shd (v : Sx) (set : Int) : Nat → Int × Int
  | 0 => (-v.w, v.w)
  | i + 1 => if set / ((2 ^ i : Nat) : Int) % 2 = 1 then ((shd v set i).1 + lo v.S i, (shd v set i).2 + hi v.S i) else shd v set i
theorem spS {L : List (Int × Int)} {m : Int} (hm : 0 ≤ m) (h : L.all (spE m) = true) (i : Nat) : -m ≤ lo L i ∧ lo L i ≤ hi L i ∧ hi L i ≤ m := by
  by_cases hi' : i < L.length
  · rw [List.all_eq_true] at h
    have := h _ (getD_memS hi')
    unfold spE at this
    rw [decide_eq_true_eq] at this
    exact ⟨this.1.1, this.1.2, this.2⟩
  · have : L.getD i (0, 0) = (0, 0) := by simp [List.getD, Nat.le_of_not_lt hi']
    unfold lo hi
    rw [this]; simp; omega
theorem shd_bnd {v : Sx} (hok : v.ok) (set : Int) : ∀ i : Nat, -60 - 120 * (i : Int) ≤ (shd v set i).1 ∧ (shd v set i).1 ≤ 60 + 120 * (i : Int) ∧ -60 - 120 * (i : Int) ≤ (shd v set i).2 ∧ (shd v set i).2 ≤ 60 + 120 * (i : Int)
  | 0 => by have := hok.2.2.1; simp only [shd]; omega
  | i + 1 => by
    have h := shd_bnd hok set i
    have := spS (by omega) hok.2.2.2.2 i
    simp only [shd]
    split <;> first | (dsimp only; omega) | omega
def C60 : PC := fun args K => ∃ (v : Sx) (set : Int), args = [v.sv, .int .i64 set] ∧ v.ok ∧ 0 ≤ set ∧ K (.agg [.int .i64 (shd v set v.S.length).1, .int .i64 (shd v set v.S.length).2])
theorem p60 : PureOk Try.prog 60 C60 := by
  refine pure_of (T := [(86, .fc F86), (58, .fc F58)]) ⟨⟨p86, q86⟩, ⟨p58, q58⟩, trivial⟩ Try.func60 k60 ?_
  rintro args K ⟨v, set, rfl, hok, hset, hK⟩
  have hbn := shd_bnd hok set
  have hsp := spS (by omega) hok.2.2.2.2
  have h6 := hok.2.2.2.1
  have hw := hok.2.2.1
  obtain ⟨step, T, a, b, w, S⟩ := v
  simp only at h6 hw hsp
  simp only [Sx.sv]
  simp only [inr64, ↓reduceIte, e_reg, and_self, e_seq, e_block, e_loop, o_nil, o_cons, gd_none, putK_e, runK_e, vK_e, boxK_e, bldK_e, storeK3_e, storeK2_e, storeK_e, evh_v, evh_new, evh_box, evh_bld, evh_store, seqK_n, evp, gt, gq, st, putf, X.get, getp, mkfr, rep, ld, lda, sp, sp.spl, lay, ll, cs1, one, allOne, gb, sb, pb, ln, undef, Bool.and_true, Nat.reduceSub, Nat.reduceAdd, beq_self_eq_true, true_and, s60, r60]
  refine ⟨by omega, ?_⟩
  refine loop_at2 (G := Nat) (fun i => [(6, .int .i64 i)])
      (fun i => [.box 26 [.int .i64 step, .rd 2 T.length (rowsS T), .int .i64 a, .int .i64 b, .int .i64 w, .rd 2 S.length (rowsS S)], .box 24 [.int .i64 0, .int .i64 0], .box 24 [.int .i64 (shd ⟨step, T, a, b, w, S⟩ set i).1, .int .i64 (shd ⟨step, T, a, b, w, S⟩ set i).2]]) (fun i => i ≤ S.length) (fun i => S.length - i) 0 (Nat.zero_le _) ?_
  (intro fr1 hf1; simp only [forget, dstC, dstO, dstD, dst1, st] at hf1; subst hf1)
  refine ⟨?_, ?_⟩
  · refine Lw_re 3 [] (Nat.zero_le _) (by simp [ln]) (by simp [ln]) rfl ?_ ?_
    · simp only [reL, reX, inb, inb.inbs, ln, sts, st, Bool.and_self, Nat.reduceLT, Nat.reduceAdd, decide_true, and_self, Int.natCast_zero]
    · simp only [reL, reX, reH, reB, reN, inb, true_and, and_true, and_self, shd]
      exact ⟨fun _ _ => trivial, fun _ _ => trivial⟩
  · intro i hi1
    simp only [inr64, e_skip, e_reg, and_self, e_drw, e_seq, e_cond, e_block, e_exit, e_ret, o_nil, o_cons, gd_none, putK_e, runK_e, vK_e, storeK3_e, storeK2_e, storeK_e, conK_e, callK_e, evh_v, evh_store, evh_call, dX_e, dG_t, d_nil, d_cons, tlK_n, loopK_n, loopK_x, seqK_n, seqK_x, condK_b, exitK_t, blockK_x, blockK_n, ends_r, endK1_e, endK2_e, gam_e, gamK_f, pc_e, pcK_e, fcC_e, fcK_e, evp, bin, gt, gq, st, putf, X.get, gets, ap, rdR, tupled, clV, clL, clS, clo, ld, lda, lens, ixs, tk, dr, sp, sp.spl, ll, cs1, one, allOne, gb, sb, lk, evq, gdl, Value.oneCell', Bool.and_true, Nat.reduceAdd, Nat.reduceBEq, beq_self_eq_true, true_and, decide_eq_true_eq, decide_eq_false_iff_not, sts, Int.toNat_natCast, rowsS, F86, F58]
    have hbi := hbn i
    have hsi := hsp i
    refine ⟨fun h => ⟨⟨by omega, hset⟩, fun hb => ⟨by omega, ⟨by omega, by omega⟩, by omega, ?_⟩, fun hb => ⟨by omega, ?_⟩⟩, fun h => ?_⟩
    · have e : shd ⟨step, T, a, b, w, S⟩ set (i + 1) = ((shd ⟨step, T, a, b, w, S⟩ set i).1 + lo S i, (shd ⟨step, T, a, b, w, S⟩ set i).2 + hi S i) := by rw [shd, if_pos hb]
      refine Nx.mk (i + 1) (by show i + 1 ≤ S.length; omega) (by show S.length - (i + 1) < S.length - i; omega) (Lw_re 3 [] (Nat.zero_le _) (by simp [ln]) (by simp [ln]) rfl ?_ ?_)
      · simp only [reL, reX, inb, inb.inbs, Bool.and_self, Nat.reduceLT, decide_true, and_self, Int.natCast_add, Int.natCast_one]
      · simp only [reL, reX, reH, reB, reN, inb, true_and, and_true, and_self, e]
        exact ⟨fun _ _ => trivial, fun _ _ => trivial⟩
    · have e : shd ⟨step, T, a, b, w, S⟩ set (i + 1) = shd ⟨step, T, a, b, w, S⟩ set i := by rw [shd, if_neg hb]
      refine Nx.mk (i + 1) (by show i + 1 ≤ S.length; omega) (by show S.length - (i + 1) < S.length - i; omega) (Lw_re 3 [] (Nat.zero_le _) (by simp [ln]) (by simp [ln]) rfl ?_ ?_)
      · simp only [reL, reX, inb, inb.inbs, Bool.and_self, Nat.reduceLT, decide_true, and_self, Int.natCast_add, Int.natCast_one]
      · simp only [reL, reX, reH, reB, reN, inb, true_and, and_true, and_self, e]
        exact ⟨fun _ _ => trivial, fun _ _ => trivial⟩
    · have : i = S.length := by omega
      subst this
      exact res hK (by simp [leR, leR.leRs])
/-- The correction at an angle. -/
def kk (v : Sx) (x : Int) : Nat := (x / v.step).toNat
def corE (v : Sx) (x : Int) : Int × Int := (cor v.step (lo v.T (kk v x)) (lo v.T (kk v x + 1)) (x % v.step), cor v.step (hi v.T (kk v x)) (hi v.T (kk v x + 1)) (x % v.step))
/-- What Read returns. -/
def rdS (v : Sx) (x set : Int) : Int × Int := (((x + v.a) + (corE v x).1) + (shd v set v.S.length).1, ((x + v.b) + (corE v x).2) + (shd v set v.S.length).2)
def rdE (v : Sx) (x set : Int) : Int := if v.ok then (if v.rdg x set then 0 else 51) else 50
def rdV (v : Sx) (x set : Int) : Int × Int := if v.ok ∧ v.rdg x set then rdS v x set else (0, 0)
def rlo (f : Nat → List SV) (i : Nat) : Int := match f i with
  | [.int .i64 x, _] => x
  | _ => 0
def rhi (f : Nat → List SV) (i : Nat) : Int := match f i with
  | [_, .int .i64 x] => x
  | _ => 0
def F59 : FC := fun args => match args with
  | [.agg [.int .i64 s, .rd 2 n f, .int .i64 a, .int .i64 b, .int .i64 w, .rd 2 m g], .int .i64 x] =>
    some (∃ T S, n = T.length ∧ f = rowsS T ∧ m = S.length ∧ g = rowsS S ∧ Sx.ok ⟨s, T, a, b, w, S⟩ ∧ 0 ≤ x ∧ x ≤ s * ((T.length : Int) - 1),
      .agg [.int .i64 (cor s (rlo f (x / s).toNat) (rlo f ((x / s).toNat + 1)) (x % s)), .int .i64 (cor s (rhi f (x / s).toNat) (rhi f ((x / s).toNat + 1)) (x % s))])
  | _ => none
theorem pweak {P : Program} {f : FuncId} {C C' : PC} (h : PureOk P f C) (hc : ∀ args K, C' args K → C args K) : PureOk P f C' :=
  fun w im args vs K hi ha hC => h w im args vs K hi ha (hc args K hC)
theorem p59' : PureOk Try.prog 59 (fcC F59) := by
  refine pweak p59 fun args K hC => ?_
  unfold fcC F59 at hC
  split at hC <;> first | (exact hC.elim) | skip
  rename_i h
  split at h <;> first | (cases h; done) | skip
  cases h
  rename_i s n f a b w m g x
  obtain ⟨⟨T, S, rfl, rfl, rfl, rfl, hok, hx0, hx1⟩, hK⟩ := hC
  have h1 := hok.1.1
  have h2 := hok.1.2.1
  simp only at h1 h2
  have hd0 := Int.emod_nonneg x (show s ≠ 0 by omega)
  have hd1 := Int.emod_lt_of_pos x (show 0 < s by omega)
  have hq0 : 0 ≤ x / s := Int.ediv_nonneg hx0 (by omega)
  have hxe := Int.mul_ediv_add_emod x s
  have hq1 : x / s ≤ (T.length : Int) - 1 := Int.ediv_le_of_le_mul (by omega) (by rw [Int.mul_comm]; exact hx1)
  have hkt : (((x / s).toNat : Nat) : Int) = x / s := by omega
  refine ⟨⟨s, T, a, b, w, S⟩, x, x % s, (x / s).toNat, rfl, ⟨by simp only [hkt]; omega, hd0, hd1, h1.2, by simp only; omega, fun hne => ?_, by simp only; omega⟩, fun i => ?_, ?_⟩
  · simp only
    rcases Int.lt_or_eq_of_le hq1 with h | h
    · omega
    · exfalso
      rw [h] at hxe; omega
  · have := spS (by omega) hok.1.2.2.1 i
    simp only at this ⊢; omega
  · exact hK
theorem rlo_rows {L : List (Int × Int)} {i : Nat} : rlo (rowsS L) i = lo L i := rfl
theorem rhi_rows {L : List (Int × Int)} {i : Nat} : rhi (rowsS L) i = hi L i := rfl
theorem cor_bnd {s x y d : Int} (hs : 0 < s) (h0 : 0 ≤ d) (h1 : d < s) (hx : -600 ≤ x ∧ x ≤ 600) (hy : -600 ≤ y ∧ y ≤ 600) : -600 ≤ cor s x y d ∧ cor s x y d ≤ 600 := by
  unfold cor
  split
  · exact hx
  · have a1 := Int.mul_le_mul_of_nonneg_right hx.1 (show 0 ≤ s - d by omega)
    have a2 := Int.mul_le_mul_of_nonneg_right hx.2 (show 0 ≤ s - d by omega)
    have a3 := Int.mul_le_mul_of_nonneg_right hy.1 h0
    have a4 := Int.mul_le_mul_of_nonneg_right hy.2 h0
    exact ⟨Int.le_ediv_of_mul_le hs (by omega), Int.ediv_le_of_le_mul hs (by omega)⟩
theorem corE_bnd {v : Sx} (hok : v.ok) (x : Int) : (-600 ≤ (corE v x).1 ∧ (corE v x).1 ≤ 600) ∧ (-600 ≤ (corE v x).2 ∧ (corE v x).2 ≤ 600) := by
  have h1 := hok.1.1
  have hs := spS (by omega) hok.1.2.2.1
  have hd0 := Int.emod_nonneg x (show v.step ≠ 0 by omega)
  have hd1 := Int.emod_lt_of_pos x (show 0 < v.step by omega)
  have k1 := hs (kk v x)
  have k2 := hs (kk v x + 1)
  exact ⟨cor_bnd (by omega) hd0 hd1 (by omega) (by omega), cor_bnd (by omega) hd0 hd1 (by omega) (by omega)⟩
def C16 : PC := fun args K => ∃ (v : Sx) (x set : Int), args = [v.sv, .agg [.int .i64 x, .int .i64 set]] ∧ K (.tup [.agg [.int .i64 (rdV v x set).1, .int .i64 (rdV v x set).2], .int .i64 (rdE v x set)])
theorem p16 : PureOk Try.prog 16 C16 := by
  refine pure_of (T := [(18, .pc C17), (57, .pc C57), (58, .fc F58), (59, .fc F59), (60, .pc C60)]) ⟨⟨p18, q18⟩, ⟨p57, q57⟩, ⟨p58, q58⟩, ⟨p59', q59⟩, ⟨p60, q60⟩, trivial⟩ Try.func16 k16 ?_
  rintro args K ⟨v, x, set, rfl, hK⟩
  obtain ⟨step, T, a, b, w, S⟩ := v
  simp only [Sx.sv]
  simp only [e_reg, e_seq, o_nil, o_cons, gd_none, putK_e, runK_e, vK_e, boxK_e, conK_e, callK_e, evh_v, evh_new, evh_box, evh_call, seqK_n, gam_e, gamK_p, pc_e, pcK_e, evp, bin, gt, st, putf, X.get, gets, ap, mkfr, rep, clV, clL, clS, clo, ld, lda, tk, dr, cs1, gb, pb, ln, lk, undef, Nat.reduceSub, Nat.reduceAdd, beq_self_eq_true, true_and, s16, r16]
  refine ⟨⟨step, T, a, b, w, S⟩, rfl, ?_⟩
  simp only [e_skip, e_reg, and_self, e_seq, e_cond, e_ret, o_nil, o_cons, gd_none, putK_e, runK_e, vK_e, bldK_e, storeK3_e, storeK2_e, storeK_e, conK_e, callK_e, evh_v, evh_bld, evh_store, evh_call, seqK_n, seqK_r, condK_b, ends_r, endK1_e, endK2_e, gam_e, gamK_p, pc_e, pcK_e, evp, gt, st, putf, X.get, gets, getp, ap, rdR, tupled, clV, clL, clS, clo, ld, lda, tk, dr, sp, sp.spl, lay, ll, cs1, one, allOne, gb, sb, lk, Bool.and_true, Bool.not_true, Bool.not_false, Nat.reduceAdd, Nat.reduceBEq, beq_self_eq_true, true_and, decide_eq_true_eq, decide_eq_false_iff_not, Bool.not_eq_eq_eq_not]
  by_cases hok : Sx.ok ⟨step, T, a, b, w, S⟩
  · have hc : Sx.chk ⟨step, T, a, b, w, S⟩ = 0 := if_pos hok
    rw [hc]
    refine ⟨fun h => absurd rfl h, fun _ => ⟨⟨step, T, a, b, w, S⟩, x, set, rfl, hok, ?_⟩⟩
    simp only [↓reduceIte, e_skip, e_reg, and_self, e_drw, e_seq, e_cond, e_ret, o_nil, o_cons, gd_none, putK_e, runK_e, vK_e, bldK_e, storeK3_e, storeK2_e, storeK_e, conK_e, callK_e, evh_v, evh_bld, evh_store, evh_call, dX_e, dG_t, d_nil, d_cons, tlK_n, seqK_n, seqK_r, condK_b, ends_r, endK1_e, endK2_e, gam_e, gamK_f, gamK_p, gamq_e, gamqK_f, pc_e, pcK_e, evp, gt, gq, st, putf, X.get, gets, getp, ap, rdR, tupled, clV, clL, clS, clo, clo.clos, ld, lda, tk, dr, sp, sp.spl, lay, ll, cs1, one, allOne, gb, sb, lk, evq, gdl, Bool.and_true, Bool.not_true, Bool.not_false, Nat.reduceAdd, Nat.reduceBEq, beq_self_eq_true, true_and, decide_eq_true_eq, decide_eq_false_iff_not, Bool.not_eq_eq_eq_not, F58, F59, rlo_rows, rhi_rows]
    have hcb := corE_bnd hok x
    have hsb := shd_bnd hok set S.length
    have h1 := hok.1.1
    have h2 := hok.1.2.1
    have h3 := hok.2.1
    have h6 := hok.2.2.2.1
    simp only at h1 h2 h3 h6
    have hb := stepB h1 h2
    simp only [corE, kk] at hcb
    refine ⟨fun hr => res hK ?_, fun hr => ?_⟩
    · simp only [rdV, rdE, if_pos hok, if_neg hr, if_neg (fun h : Sx.ok ⟨step, T, a, b, w, S⟩ ∧ Sx.rdg ⟨step, T, a, b, w, S⟩ x set => hr h.2)]
      simp [leR, leR.leRs]
    · have hx := hr.1
      simp only at hx
      refine ⟨⟨by omega, by omega⟩, ⟨T, S, rfl, rfl, rfl, rfl, hok, hx⟩, ⟨by omega, by omega⟩, ⟨step, T, a, b, w, S⟩, set, rfl, hok, hr.2.1, ?_⟩
      simp only [and_self, e_ret, o_nil, o_cons, gd_none, putK_e, runK_e, vK_e, storeK3_e, storeK2_e, storeK_e, evh_v, evh_store, seqK_n, ends_r, endK1_e, endK2_e, pcK_e, fcC_e, fcK_e, evp, gt, st, putf, X.get, rdR, tupled, clV, clL, clS, clo, ld, tk, dr, sp, sp.spl, ll, cs1, one, allOne, gb, sb, Value.oneCell', Bool.and_true, Nat.reduceAdd, true_and, F58]
      refine ⟨⟨by omega, by omega⟩, res hK ?_⟩
      simp only [rdV, rdE, if_pos hok, if_pos hr, if_pos (And.intro hok hr), rdS, corE, kk]
      simp [leR, leR.leRs]
  · have hc : Sx.chk ⟨step, T, a, b, w, S⟩ = 50 := if_neg hok
    rw [hc]
    refine ⟨fun _ => res hK ?_, fun h => by cases h⟩
    simp only [rdV, rdE, if_neg hok, if_neg (fun h : Sx.ok ⟨step, T, a, b, w, S⟩ ∧ _ => hok h.1)]
    simp [leR, leR.leRs]
end
section
/- 90: octant/sextant.exactly -/
def s90 : SC :=
  (.seq (.reg [⟨(some 2), none, .new 24 [(.int .i64 (0)), (.int .i64 (0))]⟩])
  (.seq (.reg [⟨(some 3), none, .v (.mov (.t 0))⟩,
    ⟨(some 4), none, .v (.mov (.t 0))⟩,
    ⟨(some 5), none, .bld [(.int .i64 (0)), (.int .i64 (0))] [(0, 1, (.t 3)), (1, 1, (.t 4))]⟩,
    ⟨none, none, .store 2 (.t 2) (.t 5)⟩])
  .ret))
def r90 : List RV := [.c 2 (some 2)]
def n90 : Nat := 6
theorem k90 : (Try.f90.body.bind (cC Try.prog), cR Try.prog Try.f90.results.toList, Try.f90.ntmps) = (some s90, some r90, 6) := by kernel_rfl
theorem q90 : Known Try.prog 90 := ⟨_, Try.func90, by decide, by simp [Try.f90]⟩

/- 102: octant/sextant.upTo -/
def s102 : SC :=
  (.seq (.reg [⟨(some 2), none, .new 24 [(.int .i64 (0)), (.int .i64 (0))]⟩])
  (.seq (.reg [⟨(some 3), none, .v (.mov (.t 0))⟩,
    ⟨(some 4), none, .v (.neg (.t 3))⟩,
    ⟨(some 5), none, .v (.mov (.t 0))⟩,
    ⟨(some 6), none, .bld [(.int .i64 (0)), (.int .i64 (0))] [(0, 1, (.t 4)), (1, 1, (.t 5))]⟩,
    ⟨none, none, .store 2 (.t 2) (.t 6)⟩])
  .ret))
def r102 : List RV := [.c 2 (some 2)]
def n102 : Nat := 7
theorem k102 : (Try.f102.body.bind (cC Try.prog), cR Try.prog Try.f102.results.toList, Try.f102.ntmps) = (some s102, some r102, 7) := by kernel_rfl
theorem q102 : Known Try.prog 102 := ⟨_, Try.func102, by decide, by simp [Try.f102]⟩

/- 89: octant/sextant.sum -/
def s89 : SC :=
  (.seq (.reg [⟨(some 2), none, .new 24 [(.int .i64 (0)), (.int .i64 (0))]⟩])
  (.seq (.reg [⟨(some 3), none, .new 24 [(.int .i64 (0)), (.int .i64 (0))]⟩])
  (.seq (.seq (.reg [⟨(some 6), none, .v (.mov (.t 0))⟩,
    ⟨(some 7), none, .v (.len (.t 6))⟩,
    ⟨(some 8), none, .v (.mov (.c (.int .i64 (0))))⟩])
  (.block 0 (.loop
    (.seq (.reg [⟨(some 9), none, .v (.bin .lss (.t 8) (.t 7))⟩])
    (.seq (.cond (.t 9)
      .skip
      (.exit 0))
    (.seq (.block 1 (.seq (.reg [⟨(some 10), none, .v (.ixa (.t 6) (.t 8) 2)⟩,
      ⟨(some 11), none, .v (.load (.t 10) (some 2))⟩,
      ⟨(some 5), none, .new 24 [(.int .i64 (0)), (.int .i64 (0))]⟩,
      ⟨none, none, .store 2 (.t 5) (.t 11)⟩])
    (.seq (.reg [⟨(some 12), none, .v (.off (.t 3) 0)⟩,
      ⟨(some 13), none, .v (.load (.t 12) none)⟩,
      ⟨(some 14), none, .v (.off (.t 5) 0)⟩,
      ⟨(some 15), none, .v (.load (.t 14) none)⟩,
      ⟨(some 16), none, .v (.bin .add (.t 13) (.t 15))⟩,
      ⟨(some 17), none, .v (.off (.t 3) 0)⟩,
      ⟨none, none, .store 1 (.t 17) (.t 16)⟩])
    (.reg [⟨(some 18), none, .v (.off (.t 3) 1)⟩,
      ⟨(some 19), none, .v (.load (.t 18) none)⟩,
      ⟨(some 20), none, .v (.off (.t 5) 1)⟩,
      ⟨(some 21), none, .v (.load (.t 20) none)⟩,
      ⟨(some 22), none, .v (.bin .add (.t 19) (.t 21))⟩,
      ⟨(some 23), none, .v (.off (.t 3) 1)⟩,
      ⟨none, none, .store 1 (.t 23) (.t 22)⟩]))))
    (.reg [⟨(some 24), none, .v (.bin .add (.t 8) (.c (.int .i64 (1))))⟩,
      ⟨(some 8), none, .v (.mov (.t 24))⟩])))))))
  (.seq (.reg [⟨(some 25), none, .v (.load (.t 3) (some 2))⟩,
    ⟨none, none, .store 2 (.t 2) (.t 25)⟩])
  .ret))))
def r89 : List RV := [.c 2 (some 2)]
def n89 : Nat := 26
theorem k89 : (Try.f89.body.bind (cC Try.prog), cR Try.prog Try.f89.results.toList, Try.f89.ntmps) = (some s89, some r89, 26) := by kernel_rfl
theorem q89 : Known Try.prog 89 := ⟨_, Try.func89, by decide, by simp [Try.f89]⟩

/- 135: (octant/sextant.always).adds -/
def s135 : SC :=
  (.seq (.reg [⟨(some 2), none, .box 157 (.t 0)⟩,
    ⟨(some 3), none, .box 28 (.t 1)⟩,
    ⟨(some 4), none, .new 24 [(.int .i64 (0)), (.int .i64 (0))]⟩])
  (.seq (.reg [⟨(some 5), none, .v (.load (.t 2) (some 2))⟩,
    ⟨none, none, .store 2 (.t 4) (.t 5)⟩])
  .ret))
def r135 : List RV := [.c 4 (some 2)]
def n135 : Nat := 6
theorem k135 : (Try.f135.body.bind (cC Try.prog), cR Try.prog Try.f135.results.toList, Try.f135.ntmps) = (some s135, some r135, 6) := by kernel_rfl
theorem q135 : Known Try.prog 135 := ⟨_, Try.func135, by decide, by simp [Try.f135]⟩

/- 139: (octant/sextant.shade).adds -/
def s139 : SC :=
  (.seq (.reg [⟨(some 2), none, .box 161 (.t 0)⟩,
    ⟨(some 3), none, .box 28 (.t 1)⟩,
    ⟨(some 4), none, .new 24 [(.int .i64 (0)), (.int .i64 (0))]⟩])
  (.seq (.seq (.reg [⟨(some 5), none, .v (.off (.t 3) 1)⟩,
    ⟨(some 6), none, .v (.load (.t 5) none)⟩,
    ⟨(some 7), none, .v (.off (.t 2) 0)⟩,
    ⟨(some 8), none, .v (.load (.t 7) none)⟩,
    ⟨(some 9), none, .v (.bin .shr (.t 6) (.t 8))⟩,
    ⟨(some 10), none, .v (.bin .and (.t 9) (.c (.int .i64 (1))))⟩,
    ⟨(some 11), none, .v (.bin .eql (.t 10) (.c (.int .i64 (0))))⟩])
  (.cond (.t 11)
    (.seq (.reg [⟨(some 12), none, .call (.c (.fn 90 [])) [(.c (.int .i64 (0)))]⟩,
      ⟨none, none, .store 2 (.t 4) (.t 12)⟩])
    .ret)
    .skip))
  (.seq (.reg [⟨(some 13), none, .v (.off (.t 2) 1)⟩,
    ⟨(some 14), none, .v (.load (.t 13) (some 2))⟩,
    ⟨none, none, .store 2 (.t 4) (.t 14)⟩])
  .ret)))
def r139 : List RV := [.c 4 (some 2)]
def n139 : Nat := 15
theorem k139 : (Try.f139.body.bind (cC Try.prog), cR Try.prog Try.f139.results.toList, Try.f139.ntmps) = (some s139, some r139, 15) := by kernel_rfl
theorem q139 : Known Try.prog 139 := ⟨_, Try.func139, by decide, by simp [Try.f139]⟩

/- 138: octant/sextant.roundDown -/
def s138 : SC :=
  (.seq (.reg [⟨(some 4), none, .v (.mov (.c (.int .i64 (0))))⟩])
  (.seq (.reg [⟨(some 6), none, .v (.mov (.t 0))⟩,
    ⟨(some 7), none, .v (.mov (.t 1))⟩,
    ⟨(some 8), none, .v (.bin .quo (.t 6) (.t 7))⟩,
    ⟨(some 5), none, .v (.mov (.t 8))⟩])
  (.seq (.seq (.reg [⟨(some 9), none, .v (.mov (.t 0))⟩,
    ⟨(some 10), none, .v (.mov (.t 1))⟩,
    ⟨(some 11), none, .v (.bin .rem (.t 9) (.t 10))⟩,
    ⟨(some 12), none, .v (.bin .lss (.t 11) (.c (.int .i64 (0))))⟩])
  (.cond (.t 12)
    (.reg [⟨(some 13), none, .v (.mov (.t 5))⟩,
      ⟨(some 14), none, .v (.bin .sub (.t 13) (.c (.int .i64 (1))))⟩,
      ⟨(some 5), none, .v (.mov (.t 14))⟩])
    .skip))
  (.seq (.reg [⟨(some 15), none, .v (.mov (.t 5))⟩,
    ⟨(some 4), none, .v (.mov (.t 15))⟩])
  .ret))))
def r138 : List RV := [.t 4]
def n138 : Nat := 16
theorem k138 : (Try.f138.body.bind (cC Try.prog), cR Try.prog Try.f138.results.toList, Try.f138.ntmps) = (some s138, some r138, 16) := by kernel_rfl
theorem q138 : Known Try.prog 138 := ⟨_, Try.func138, by decide, by simp [Try.f138]⟩

/- 137: (octant/sextant.corrections).between -/
def s137 : SC :=
  (.seq (.reg [⟨(some 4), none, .box 159 (.t 0)⟩,
    ⟨(some 8), none, .v (.mov (.c (.int .i64 (0))))⟩])
  (.seq (.reg [⟨(some 9), none, .v (.mov (.t 1))⟩,
    ⟨(some 10), none, .v (.off (.t 4) 0)⟩,
    ⟨(some 11), none, .v (.load (.t 10) none)⟩,
    ⟨(some 12), none, .v (.mov (.t 3))⟩,
    ⟨(some 13), none, .v (.bin .sub (.t 11) (.t 12))⟩,
    ⟨(some 14), none, .v (.bin .mul (.t 9) (.t 13))⟩,
    ⟨(some 15), none, .v (.mov (.t 2))⟩,
    ⟨(some 16), none, .v (.mov (.t 3))⟩,
    ⟨(some 17), none, .v (.bin .mul (.t 15) (.t 16))⟩,
    ⟨(some 18), none, .v (.bin .add (.t 14) (.t 17))⟩,
    ⟨(some 19), none, .v (.off (.t 4) 0)⟩,
    ⟨(some 20), none, .v (.load (.t 19) none)⟩,
    ⟨(some 21), none, .call (.c (.fn 138 [])) [(.t 18), (.t 20)]⟩,
    ⟨(some 8), none, .v (.mov (.t 21))⟩])
  .ret))
def r137 : List RV := [.t 8]
def n137 : Nat := 22
theorem k137 : (Try.f137.body.bind (cC Try.prog), cR Try.prog Try.f137.results.toList, Try.f137.ntmps) = (some s137, some r137, 22) := by kernel_rfl
theorem q137 : Known Try.prog 137 := ⟨_, Try.func137, by decide, by simp [Try.f137]⟩

/- 136: (octant/sextant.corrections).adds -/
def s136 : SC :=
  (.seq (.reg [⟨(some 2), none, .box 159 (.t 0)⟩,
    ⟨(some 3), none, .box 28 (.t 1)⟩,
    ⟨(some 4), none, .new 24 [(.int .i64 (0)), (.int .i64 (0))]⟩])
  (.seq (.drw [(0, ⟨(some 9), none, .v (.off (.t 3) 0)⟩, false),
    (1, ⟨(some 10), none, .v (.load (.t 9) none)⟩, false),
    (2, ⟨(some 11), none, .v (.off (.t 2) 0)⟩, false),
    (3, ⟨(some 12), none, .v (.load (.t 11) none)⟩, false),
    (4, ⟨(some 13), none, .v (.bin .quo (.t 10) (.t 12))⟩, false),
    (5, ⟨(some 14), none, .v (.off (.t 3) 0)⟩, false),
    (6, ⟨(some 15), none, .v (.load (.t 14) none)⟩, false),
    (7, ⟨(some 16), none, .v (.off (.t 2) 0)⟩, false),
    (8, ⟨(some 17), none, .v (.load (.t 16) none)⟩, false),
    (9, ⟨(some 18), none, .v (.bin .rem (.t 15) (.t 17))⟩, false),
    (10, ⟨(some 5), none, .v (.mov (.t 13))⟩, false)]
    none
    [⟨(some 6), none, .v (.mov (.t 18))⟩])
  (.seq (.seq (.reg [⟨(some 19), none, .v (.mov (.t 6))⟩,
    ⟨(some 20), none, .v (.bin .eql (.t 19) (.c (.int .i64 (0))))⟩])
  (.cond (.t 20)
    (.seq (.reg [⟨(some 21), none, .v (.off (.t 2) 1)⟩,
      ⟨(some 22), none, .v (.load (.t 21) none)⟩,
      ⟨(some 23), none, .v (.mov (.t 5))⟩,
      ⟨(some 24), none, .v (.ixa (.t 22) (.t 23) 2)⟩,
      ⟨(some 25), none, .v (.load (.t 24) (some 2))⟩,
      ⟨none, none, .store 2 (.t 4) (.t 25)⟩])
    .ret)
    .skip))
  (.seq (.tre (.op ⟨(some 26), none, .v (.off (.t 2) 1)⟩ (.op ⟨(some 27), none, .v (.load (.t 26) none)⟩ (.op ⟨(some 28), none, .v (.mov (.t 5))⟩ (.op ⟨(some 29), none, .v (.ixa (.t 27) (.t 28) 2)⟩ (.op ⟨(some 30), none, .v (.load (.t 29) (some 2))⟩ (.op ⟨(some 31), none, .v (.off (.t 2) 1)⟩ (.op ⟨(some 33), none, .v (.mov (.t 5))⟩ (.op ⟨(some 34), none, .v (.bin .add (.t 33) (.c (.int .i64 (1))))⟩ (.op ⟨(some 32), none, .v (.load (.t 31) none)⟩ (.op ⟨(some 35), none, .v (.ixa (.t 32) (.t 34) 2)⟩ (.op ⟨(some 36), none, .v (.load (.t 35) (some 2))⟩ (.op ⟨(some 7), none, .new 24 [(.int .i64 (0)), (.int .i64 (0))]⟩ (.op ⟨(some 8), none, .new 24 [(.int .i64 (0)), (.int .i64 (0))]⟩ (.op ⟨none, none, .store 2 (.t 7) (.t 30)⟩ (.op ⟨none, none, .store 2 (.t 8) (.t 36)⟩ .leaf
    .stop)
    .stop)
    .stop)
    (.op ⟨(some 8), none, .new 24 [(.int .i64 (0)), (.int .i64 (0))]⟩ (.op ⟨(some 7), none, .new 24 [(.int .i64 (0)), (.int .i64 (0))]⟩ (.op ⟨none, none, .store 2 (.t 7) (.t 30)⟩ (.op ⟨none, none, .store 2 (.t 8) (.t 36)⟩ .leaf
    .stop)
    .stop)
    .stop)
    .stop))
    (.op ⟨(some 7), none, .new 24 [(.int .i64 (0)), (.int .i64 (0))]⟩ (.op ⟨(some 36), none, .v (.load (.t 35) (some 2))⟩ (.op ⟨(some 8), none, .new 24 [(.int .i64 (0)), (.int .i64 (0))]⟩ (.op ⟨none, none, .store 2 (.t 7) (.t 30)⟩ (.op ⟨none, none, .store 2 (.t 8) (.t 36)⟩ .leaf
    .stop)
    .stop)
    .stop)
    (.op ⟨(some 8), none, .new 24 [(.int .i64 (0)), (.int .i64 (0))]⟩ (.op ⟨(some 36), none, .v (.load (.t 35) (some 2))⟩ (.op ⟨none, none, .store 2 (.t 7) (.t 30)⟩ (.op ⟨none, none, .store 2 (.t 8) (.t 36)⟩ .leaf
    .stop)
    .stop)
    (.op ⟨none, none, .store 2 (.t 7) (.t 30)⟩ (.op ⟨(some 36), none, .v (.load (.t 35) (some 2))⟩ (.op ⟨none, none, .store 2 (.t 8) (.t 36)⟩ .leaf
    .stop)
    .stop)
    .stop))
    .stop))
    (.op ⟨(some 8), none, .new 24 [(.int .i64 (0)), (.int .i64 (0))]⟩ (.op ⟨(some 36), none, .v (.load (.t 35) (some 2))⟩ (.op ⟨(some 7), none, .new 24 [(.int .i64 (0)), (.int .i64 (0))]⟩ (.op ⟨none, none, .store 2 (.t 7) (.t 30)⟩ (.op ⟨none, none, .store 2 (.t 8) (.t 36)⟩ .leaf
    .stop)
    .stop)
    .stop)
    (.op ⟨(some 7), none, .new 24 [(.int .i64 (0)), (.int .i64 (0))]⟩ (.op ⟨(some 36), none, .v (.load (.t 35) (some 2))⟩ (.op ⟨none, none, .store 2 (.t 7) (.t 30)⟩ (.op ⟨none, none, .store 2 (.t 8) (.t 36)⟩ .leaf
    .stop)
    .stop)
    (.op ⟨none, none, .store 2 (.t 7) (.t 30)⟩ (.op ⟨(some 36), none, .v (.load (.t 35) (some 2))⟩ (.op ⟨none, none, .store 2 (.t 8) (.t 36)⟩ .leaf
    .stop)
    .stop)
    .stop))
    .stop))
    .stop)))
    (.op ⟨(some 7), none, .new 24 [(.int .i64 (0)), (.int .i64 (0))]⟩ (.op ⟨(some 35), none, .v (.ixa (.t 32) (.t 34) 2)⟩ (.op ⟨(some 36), none, .v (.load (.t 35) (some 2))⟩ (.op ⟨(some 8), none, .new 24 [(.int .i64 (0)), (.int .i64 (0))]⟩ (.op ⟨none, none, .store 2 (.t 7) (.t 30)⟩ (.op ⟨none, none, .store 2 (.t 8) (.t 36)⟩ .leaf
    .stop)
    .stop)
    .stop)
    (.op ⟨(some 8), none, .new 24 [(.int .i64 (0)), (.int .i64 (0))]⟩ (.op ⟨(some 36), none, .v (.load (.t 35) (some 2))⟩ (.op ⟨none, none, .store 2 (.t 7) (.t 30)⟩ (.op ⟨none, none, .store 2 (.t 8) (.t 36)⟩ .leaf
    .stop)
    .stop)
    (.op ⟨none, none, .store 2 (.t 7) (.t 30)⟩ (.op ⟨(some 36), none, .v (.load (.t 35) (some 2))⟩ (.op ⟨none, none, .store 2 (.t 8) (.t 36)⟩ .leaf
    .stop)
    .stop)
    .stop))
    .stop))
    (.op ⟨(some 8), none, .new 24 [(.int .i64 (0)), (.int .i64 (0))]⟩ (.op ⟨(some 35), none, .v (.ixa (.t 32) (.t 34) 2)⟩ (.op ⟨(some 36), none, .v (.load (.t 35) (some 2))⟩ (.op ⟨none, none, .store 2 (.t 7) (.t 30)⟩ (.op ⟨none, none, .store 2 (.t 8) (.t 36)⟩ .leaf
    .stop)
    .stop)
    (.op ⟨none, none, .store 2 (.t 7) (.t 30)⟩ (.op ⟨(some 36), none, .v (.load (.t 35) (some 2))⟩ (.op ⟨none, none, .store 2 (.t 8) (.t 36)⟩ .leaf
    .stop)
    .stop)
    .stop))
    (.op ⟨none, none, .store 2 (.t 7) (.t 30)⟩ (.op ⟨(some 35), none, .v (.ixa (.t 32) (.t 34) 2)⟩ (.op ⟨(some 36), none, .v (.load (.t 35) (some 2))⟩ (.op ⟨none, none, .store 2 (.t 8) (.t 36)⟩ .leaf
    .stop)
    .stop)
    .stop)
    .stop))
    .stop))
    (.op ⟨(some 8), none, .new 24 [(.int .i64 (0)), (.int .i64 (0))]⟩ (.op ⟨(some 35), none, .v (.ixa (.t 32) (.t 34) 2)⟩ (.op ⟨(some 36), none, .v (.load (.t 35) (some 2))⟩ (.op ⟨(some 7), none, .new 24 [(.int .i64 (0)), (.int .i64 (0))]⟩ (.op ⟨none, none, .store 2 (.t 7) (.t 30)⟩ (.op ⟨none, none, .store 2 (.t 8) (.t 36)⟩ .leaf
    .stop)
    .stop)
    .stop)
    (.op ⟨(some 7), none, .new 24 [(.int .i64 (0)), (.int .i64 (0))]⟩ (.op ⟨(some 36), none, .v (.load (.t 35) (some 2))⟩ (.op ⟨none, none, .store 2 (.t 7) (.t 30)⟩ (.op ⟨none, none, .store 2 (.t 8) (.t 36)⟩ .leaf
    .stop)
    .stop)
    (.op ⟨none, none, .store 2 (.t 7) (.t 30)⟩ (.op ⟨(some 36), none, .v (.load (.t 35) (some 2))⟩ (.op ⟨none, none, .store 2 (.t 8) (.t 36)⟩ .leaf
    .stop)
    .stop)
    .stop))
    .stop))
    (.op ⟨(some 7), none, .new 24 [(.int .i64 (0)), (.int .i64 (0))]⟩ (.op ⟨(some 35), none, .v (.ixa (.t 32) (.t 34) 2)⟩ (.op ⟨(some 36), none, .v (.load (.t 35) (some 2))⟩ (.op ⟨none, none, .store 2 (.t 7) (.t 30)⟩ (.op ⟨none, none, .store 2 (.t 8) (.t 36)⟩ .leaf
    .stop)
    .stop)
    (.op ⟨none, none, .store 2 (.t 7) (.t 30)⟩ (.op ⟨(some 36), none, .v (.load (.t 35) (some 2))⟩ (.op ⟨none, none, .store 2 (.t 8) (.t 36)⟩ .leaf
    .stop)
    .stop)
    .stop))
    (.op ⟨none, none, .store 2 (.t 7) (.t 30)⟩ (.op ⟨(some 35), none, .v (.ixa (.t 32) (.t 34) 2)⟩ (.op ⟨(some 36), none, .v (.load (.t 35) (some 2))⟩ (.op ⟨none, none, .store 2 (.t 8) (.t 36)⟩ .leaf
    .stop)
    .stop)
    .stop)
    .stop))
    .stop))
    .stop)))
    (.op ⟨(some 7), none, .new 24 [(.int .i64 (0)), (.int .i64 (0))]⟩ (.op ⟨(some 32), none, .v (.load (.t 31) none)⟩ (.op ⟨(some 35), none, .v (.ixa (.t 32) (.t 34) 2)⟩ (.op ⟨(some 36), none, .v (.load (.t 35) (some 2))⟩ (.op ⟨(some 8), none, .new 24 [(.int .i64 (0)), (.int .i64 (0))]⟩ (.op ⟨none, none, .store 2 (.t 7) (.t 30)⟩ (.op ⟨none, none, .store 2 (.t 8) (.t 36)⟩ .leaf
    .stop)
    .stop)
    .stop)
    (.op ⟨(some 8), none, .new 24 [(.int .i64 (0)), (.int .i64 (0))]⟩ (.op ⟨(some 36), none, .v (.load (.t 35) (some 2))⟩ (.op ⟨none, none, .store 2 (.t 7) (.t 30)⟩ (.op ⟨none, none, .store 2 (.t 8) (.t 36)⟩ .leaf
    .stop)
    .stop)
    (.op ⟨none, none, .store 2 (.t 7) (.t 30)⟩ (.op ⟨(some 36), none, .v (.load (.t 35) (some 2))⟩ (.op ⟨none, none, .store 2 (.t 8) (.t 36)⟩ .leaf
    .stop)
    .stop)
    .stop))
    .stop))
    (.op ⟨(some 8), none, .new 24 [(.int .i64 (0)), (.int .i64 (0))]⟩ (.op ⟨(some 35), none, .v (.ixa (.t 32) (.t 34) 2)⟩ (.op ⟨(some 36), none, .v (.load (.t 35) (some 2))⟩ (.op ⟨none, none, .store 2 (.t 7) (.t 30)⟩ (.op ⟨none, none, .store 2 (.t 8) (.t 36)⟩ .leaf
    .stop)
    .stop)
    (.op ⟨none, none, .store 2 (.t 7) (.t 30)⟩ (.op ⟨(some 36), none, .v (.load (.t 35) (some 2))⟩ (.op ⟨none, none, .store 2 (.t 8) (.t 36)⟩ .leaf
    .stop)
    .stop)
    .stop))
    (.op ⟨none, none, .store 2 (.t 7) (.t 30)⟩ (.op ⟨(some 35), none, .v (.ixa (.t 32) (.t 34) 2)⟩ (.op ⟨(some 36), none, .v (.load (.t 35) (some 2))⟩ (.op ⟨none, none, .store 2 (.t 8) (.t 36)⟩ .leaf
    .stop)
    .stop)
    .stop)
    .stop))
    .stop))
    (.op ⟨(some 8), none, .new 24 [(.int .i64 (0)), (.int .i64 (0))]⟩ (.op ⟨(some 32), none, .v (.load (.t 31) none)⟩ (.op ⟨(some 35), none, .v (.ixa (.t 32) (.t 34) 2)⟩ (.op ⟨(some 36), none, .v (.load (.t 35) (some 2))⟩ (.op ⟨none, none, .store 2 (.t 7) (.t 30)⟩ (.op ⟨none, none, .store 2 (.t 8) (.t 36)⟩ .leaf
    .stop)
    .stop)
    (.op ⟨none, none, .store 2 (.t 7) (.t 30)⟩ (.op ⟨(some 36), none, .v (.load (.t 35) (some 2))⟩ (.op ⟨none, none, .store 2 (.t 8) (.t 36)⟩ .leaf
    .stop)
    .stop)
    .stop))
    (.op ⟨none, none, .store 2 (.t 7) (.t 30)⟩ (.op ⟨(some 35), none, .v (.ixa (.t 32) (.t 34) 2)⟩ (.op ⟨(some 36), none, .v (.load (.t 35) (some 2))⟩ (.op ⟨none, none, .store 2 (.t 8) (.t 36)⟩ .leaf
    .stop)
    .stop)
    .stop)
    .stop))
    (.op ⟨none, none, .store 2 (.t 7) (.t 30)⟩ (.op ⟨(some 32), none, .v (.load (.t 31) none)⟩ (.op ⟨(some 35), none, .v (.ixa (.t 32) (.t 34) 2)⟩ (.op ⟨(some 36), none, .v (.load (.t 35) (some 2))⟩ (.op ⟨none, none, .store 2 (.t 8) (.t 36)⟩ .leaf
    .stop)
    .stop)
    .stop)
    .stop)
    .stop))
    .stop))
    (.op ⟨(some 8), none, .new 24 [(.int .i64 (0)), (.int .i64 (0))]⟩ (.op ⟨(some 32), none, .v (.load (.t 31) none)⟩ (.op ⟨(some 35), none, .v (.ixa (.t 32) (.t 34) 2)⟩ (.op ⟨(some 36), none, .v (.load (.t 35) (some 2))⟩ (.op ⟨(some 7), none, .new 24 [(.int .i64 (0)), (.int .i64 (0))]⟩ (.op ⟨none, none, .store 2 (.t 7) (.t 30)⟩ (.op ⟨none, none, .store 2 (.t 8) (.t 36)⟩ .leaf
    .stop)
    .stop)
    .stop)
    (.op ⟨(some 7), none, .new 24 [(.int .i64 (0)), (.int .i64 (0))]⟩ (.op ⟨(some 36), none, .v (.load (.t 35) (some 2))⟩ (.op ⟨none, none, .store 2 (.t 7) (.t 30)⟩ (.op ⟨none, none, .store 2 (.t 8) (.t 36)⟩ .leaf
    .stop)
    .stop)
    (.op ⟨none, none, .store 2 (.t 7) (.t 30)⟩ (.op ⟨(some 36), none, .v (.load (.t 35) (some 2))⟩ (.op ⟨none, none, .store 2 (.t 8) (.t 36)⟩ .leaf
    .stop)
    .stop)
    .stop))
    .stop))
    (.op ⟨(some 7), none, .new 24 [(.int .i64 (0)), (.int .i64 (0))]⟩ (.op ⟨(some 35), none, .v (.ixa (.t 32) (.t 34) 2)⟩ (.op ⟨(some 36), none, .v (.load (.t 35) (some 2))⟩ (.op ⟨none, none, .store 2 (.t 7) (.t 30)⟩ (.op ⟨none, none, .store 2 (.t 8) (.t 36)⟩ .leaf
    .stop)
    .stop)
    (.op ⟨none, none, .store 2 (.t 7) (.t 30)⟩ (.op ⟨(some 36), none, .v (.load (.t 35) (some 2))⟩ (.op ⟨none, none, .store 2 (.t 8) (.t 36)⟩ .leaf
    .stop)
    .stop)
    .stop))
    (.op ⟨none, none, .store 2 (.t 7) (.t 30)⟩ (.op ⟨(some 35), none, .v (.ixa (.t 32) (.t 34) 2)⟩ (.op ⟨(some 36), none, .v (.load (.t 35) (some 2))⟩ (.op ⟨none, none, .store 2 (.t 8) (.t 36)⟩ .leaf
    .stop)
    .stop)
    .stop)
    .stop))
    .stop))
    (.op ⟨(some 7), none, .new 24 [(.int .i64 (0)), (.int .i64 (0))]⟩ (.op ⟨(some 32), none, .v (.load (.t 31) none)⟩ (.op ⟨(some 35), none, .v (.ixa (.t 32) (.t 34) 2)⟩ (.op ⟨(some 36), none, .v (.load (.t 35) (some 2))⟩ (.op ⟨none, none, .store 2 (.t 7) (.t 30)⟩ (.op ⟨none, none, .store 2 (.t 8) (.t 36)⟩ .leaf
    .stop)
    .stop)
    (.op ⟨none, none, .store 2 (.t 7) (.t 30)⟩ (.op ⟨(some 36), none, .v (.load (.t 35) (some 2))⟩ (.op ⟨none, none, .store 2 (.t 8) (.t 36)⟩ .leaf
    .stop)
    .stop)
    .stop))
    (.op ⟨none, none, .store 2 (.t 7) (.t 30)⟩ (.op ⟨(some 35), none, .v (.ixa (.t 32) (.t 34) 2)⟩ (.op ⟨(some 36), none, .v (.load (.t 35) (some 2))⟩ (.op ⟨none, none, .store 2 (.t 8) (.t 36)⟩ .leaf
    .stop)
    .stop)
    .stop)
    .stop))
    (.op ⟨none, none, .store 2 (.t 7) (.t 30)⟩ (.op ⟨(some 32), none, .v (.load (.t 31) none)⟩ (.op ⟨(some 35), none, .v (.ixa (.t 32) (.t 34) 2)⟩ (.op ⟨(some 36), none, .v (.load (.t 35) (some 2))⟩ (.op ⟨none, none, .store 2 (.t 8) (.t 36)⟩ .leaf
    .stop)
    .stop)
    .stop)
    .stop)
    .stop))
    .stop))
    .stop)))
    .stop)
    .stop)
    .stop)
    .stop)
    .stop)
    .stop)
    .stop)
    .stop))
  (.seq (.drw [(0, ⟨(some 37), none, .v (.load (.t 2) (some 2))⟩, false),
    (1, ⟨(some 38), none, .v (.off (.t 7) 0)⟩, false),
    (2, ⟨(some 39), none, .v (.load (.t 38) none)⟩, false),
    (3, ⟨(some 40), none, .v (.off (.t 8) 0)⟩, false),
    (4, ⟨(some 41), none, .v (.load (.t 40) none)⟩, false),
    (5, ⟨(some 42), none, .v (.mov (.t 6))⟩, false),
    (6, ⟨(some 43), none, .call (.c (.fn 137 [])) [(.t 37), (.t 39), (.t 41), (.t 42)]⟩, false),
    (7, ⟨(some 44), none, .v (.load (.t 2) (some 2))⟩, false),
    (8, ⟨(some 45), none, .v (.off (.t 7) 1)⟩, false),
    (9, ⟨(some 46), none, .v (.load (.t 45) none)⟩, false),
    (10, ⟨(some 47), none, .v (.off (.t 8) 1)⟩, false),
    (11, ⟨(some 48), none, .v (.load (.t 47) none)⟩, false),
    (12, ⟨(some 49), none, .v (.mov (.t 6))⟩, false)]
    none
    [⟨(some 50), none, .call (.c (.fn 137 [])) [(.t 44), (.t 46), (.t 48), (.t 49)]⟩,
    ⟨(some 51), none, .bld [(.int .i64 (0)), (.int .i64 (0))] [(0, 1, (.t 43)), (1, 1, (.t 50))]⟩,
    ⟨none, none, .store 2 (.t 4) (.t 51)⟩])
  .ret)))))
def r136 : List RV := [.c 4 (some 2)]
def n136 : Nat := 52
theorem k136 : (Try.f136.body.bind (cC Try.prog), cR Try.prog Try.f136.results.toList, Try.f136.ntmps) = (some s136, some r136, 52) := by kernel_rfl
theorem q136 : Known Try.prog 136 := ⟨_, Try.func136, by decide, by simp [Try.f136]⟩


def F90 : FC := fun args => match args with
  | [.int .i64 x] => some (True, .agg [.int .i64 x, .int .i64 x])
  | _ => none
theorem p90 : PureOk Try.prog 90 (fcC F90) := by
  refine pure_of (T := []) trivial Try.func90 k90 ?_
  intro args K hC
  unfold fcC F90 at hC
  split at hC <;> first | (exact hC.elim) | skip
  rename_i h
  split at h <;> first | (cases h; done) | skip
  cases h
  obtain ⟨-, hK⟩ := hC
  simp only [↓reduceIte, e_reg, and_self, e_seq, e_ret, o_nil, o_cons, gd_none, putK_e, runK_e, vK_e, bldK_e, storeK3_e, storeK2_e, storeK_e, evh_v, evh_new, evh_bld, evh_store, seqK_n, ends_r, endK1_e, endK2_e, evp, gt, st, putf, X.get, getp, mkfr, rep, rdR, tupled, clV, clL, clS, clo, ld, tk, dr, sp, sp.spl, lay, ll, cs1, one, allOne, gb, sb, pb, ln, undef, Bool.and_true, Nat.reduceSub, Nat.reduceAdd, beq_self_eq_true, true_and, s90, r90]
  exact res hK (by simp [leR, leR.leRs])
def F102 : FC := fun args => match args with
  | [.int .i64 x] => some (-9223372036854775808 ≤ -x ∧ -x ≤ 9223372036854775807, .agg [.int .i64 (-x), .int .i64 x])
  | _ => none
theorem p102 : PureOk Try.prog 102 (fcC F102) := by
  refine pure_of (T := []) trivial Try.func102 k102 ?_
  intro args K hC
  unfold fcC F102 at hC
  split at hC <;> first | (exact hC.elim) | skip
  rename_i h
  split at h <;> first | (cases h; done) | skip
  cases h
  obtain ⟨q, hK⟩ := hC
  simp only [inr64, ↓reduceIte, e_reg, and_self, e_seq, e_ret, o_nil, o_cons, gd_none, putK_e, runK_e, vK_e, bldK_e, storeK3_e, storeK2_e, storeK_e, evh_v, evh_new, evh_bld, evh_store, seqK_n, ends_r, endK1_e, endK2_e, evp, gt, st, putf, X.get, getp, mkfr, rep, rdR, tupled, clV, clL, clS, clo, ld, tk, dr, sp, sp.spl, lay, ll, cs1, one, allOne, gb, sb, pb, ln, undef, Bool.and_true, Nat.reduceSub, Nat.reduceAdd, beq_self_eq_true, true_and, s102, r102]
  exact ⟨q, res hK (by simp [leR, leR.leRs])⟩
def F135 : FC := fun args => match args with
  | [.agg [.int .i64 a, .int .i64 b], .agg [.int .i64 _, .int .i64 _]] => some (True, .agg [.int .i64 a, .int .i64 b])
  | _ => none
theorem p135 : PureOk Try.prog 135 (fcC F135) := by
  refine pure_of (T := []) trivial Try.func135 k135 ?_
  intro args K hC
  unfold fcC F135 at hC
  split at hC <;> first | (exact hC.elim) | skip
  rename_i h
  split at h <;> first | (cases h; done) | skip
  cases h
  obtain ⟨-, hK⟩ := hC
  simp only [e_reg, and_self, e_seq, e_ret, o_nil, o_cons, gd_none, putK_e, runK_e, vK_e, boxK_e, storeK3_e, storeK2_e, storeK_e, evh_v, evh_new, evh_box, evh_store, seqK_n, ends_r, endK1_e, endK2_e, evp, gt, st, putf, X.get, mkfr, rep, rdR, tupled, clV, clL, clS, clo, ld, lda, tk, dr, sp, sp.spl, ll, cs1, one, allOne, gb, sb, pb, ln, undef, Bool.and_true, Nat.reduceSub, Nat.reduceAdd, true_and, s135, r135]
  exact res hK (by simp [leR, leR.leRs])
/-- What a shade adds. -/
def shA (k a set : Int) : Int := if set / ((2 ^ k.toNat : Nat) : Int) % 2 = 1 then a else 0
def F139 : FC := fun args => match args with
  | [.agg [.int .i64 k, .int .i64 a, .int .i64 b], .agg [.int .i64 _, .int .i64 set]] => some ((0 ≤ k ∧ k ≤ 60) ∧ (0 ≤ set ∧ set ≤ 1000), .agg [.int .i64 (shA k a set), .int .i64 (shA k b set)])
  | _ => none
theorem p139 : PureOk Try.prog 139 (fcC F139) := by
  refine pure_of (T := [(90, .fc F90)]) ⟨⟨p90, q90⟩, trivial⟩ Try.func139 k139 ?_
  intro args K hC
  unfold fcC F139 at hC
  split at hC <;> first | (exact hC.elim) | skip
  rename_i h
  split at h <;> first | (cases h; done) | skip
  cases h
  rename_i k a b x set
  obtain ⟨⟨h1, h2⟩, hK⟩ := hC
  have hbt : IntKind.i64.bits = 64 := rfl
  simp only [e_skip, e_reg, and_self, e_seq, e_cond, e_ret, o_nil, o_cons, gd_none, putK_e, runK_e, vK_e, boxK_e, storeK3_e, storeK2_e, storeK_e, conK_e, callK_e, evh_v, evh_new, evh_box, evh_store, evh_call, seqK_n, seqK_r, condK_b, ends_r, endK1_e, endK2_e, gam_e, gamK_f, pc_e, pcK_e, fcC_e, fcK_e, evp, bin, gt, gq, st, putf, X.get, gets, ap, mkfr, rep, rdR, tupled, clV, clL, clS, clo, ld, lda, tk, dr, sp, sp.spl, ll, cs1, one, allOne, gb, sb, pb, ln, lk, Value.oneCell', undef, Bool.and_true, Nat.reduceSub, Nat.reduceAdd, beq_self_eq_true, true_and, decide_eq_true_eq, decide_eq_false_iff_not, s139, r139, hbt, F90]
  have hq0 : 0 ≤ set / ((2 ^ k.toNat : Nat) : Int) := Int.ediv_nonneg h2.1 (Int.natCast_nonneg _)
  have hq1 : set / ((2 ^ k.toNat : Nat) : Int) ≤ set := Int.ediv_le_self _ h2.1
  have e1 : ((set / ((2 ^ k.toNat : Nat) : Int)).toNat &&& Int.toNat 1) = (set / ((2 ^ k.toNat : Nat) : Int)).toNat % 2 := Nat.and_one_is_mod _
  have h63 : ((2 ^ 63 : Nat) : Int) = 9223372036854775808 := by decide
  rw [e1, h63]
  unfold shA at hK
  generalize set / ((2 ^ k.toNat : Nat) : Int) = q at hK hq0 hq1 ⊢
  refine ⟨⟨by omega, by omega⟩, ⟨⟨by omega, by omega⟩, by omega, by omega⟩, fun h => ?_, fun h => ?_⟩
  · rw [if_neg (by omega), if_neg (by omega)] at hK
    exact res hK (by simp [leR, leR.leRs])
  · rw [if_pos (by omega), if_pos (by omega)] at hK
    exact res hK (by simp [leR, leR.leRs])
def F138 : FC := fun args => match args with
  | [.int .i64 a, .int .i64 b] => some ((0 < b ∧ b ≤ 4611686018427387904) ∧ (-4611686018427387904 ≤ a ∧ a ≤ 4611686018427387904), .int .i64 (a / b))
  | _ => none
theorem p138 : PureOk Try.prog 138 (fcC F138) := by
  refine pure_of (T := []) trivial Try.func138 k138 ?_
  intro args K hC
  unfold fcC F138 at hC
  split at hC <;> first | (exact hC.elim) | skip
  rename_i h
  split at h <;> first | (cases h; done) | skip
  cases h
  rename_i a b
  obtain ⟨⟨⟨hb, hb2⟩, ha, ha2⟩, hK⟩ := hC
  simp only [inr64, ne_eq, e_skip, e_reg, e_seq, e_cond, e_ret, o_nil, o_cons, gd_none, putK_e, runK_e, vK_e, evh_v, seqK_n, condK_b, ends_r, endK1_e, endK2_e, evp, bin, gt, st, putf, X.get, mkfr, rep, rdR, tupled, clV, clS, clo, undef, Nat.reduceSub, true_and, decide_eq_true_eq, decide_eq_false_iff_not, s138, r138]
  have e := Int.tmod_eq_emod (a := a) (b := b)
  have h1 := Int.emod_nonneg a (show b ≠ 0 by omega)
  have h2 := Int.emod_lt_of_pos a hb
  have h3 : (b.natAbs : Int) = b := by omega
  have e2 : a.tmod b = a % b ∨ a.tmod b = a % b - b := by
    by_cases c : 0 ≤ a ∨ b ∣ a
    · rw [if_pos c] at e; exact .inl (by simpa using e)
    · rw [if_neg c, h3] at e; exact .inr e
  have m1 := Int.mul_tdiv_add_tmod a b
  have m2 := Int.mul_ediv_add_emod a b
  have e3 : -4611686018427387904 ≤ a / b := Int.le_ediv_of_mul_le hb (by omega)
  have e4 : a / b ≤ 4611686018427387904 := Int.ediv_le_of_le_mul hb (by omega)
  have k1 : a.tmod b < 0 → a.tdiv b = a / b + 1 := fun h => Int.eq_of_mul_eq_mul_left (show b ≠ 0 by omega) (by rw [Int.mul_add, Int.mul_one]; omega)
  have k2 : ¬ a.tmod b < 0 → a.tdiv b = a / b := fun h => Int.eq_of_mul_eq_mul_left (show b ≠ 0 by omega) (by omega)
  have kb : -9223372036854775808 ≤ a.tdiv b - 1 ∧ a.tdiv b ≤ 9223372036854775807 := by
    by_cases h : a.tmod b < 0
    · have := k1 h; omega
    · have := k2 h; omega
  refine ⟨⟨by omega, by omega, by omega⟩, by omega, fun h => ⟨⟨by omega, by omega⟩, res hK ?_⟩, fun h => res hK ?_⟩
  · have := k1 h
    simp [leR]; omega
  · have := k2 h
    simp [leR]; omega
def F137 : FC := fun args => match args with
  | [.agg [.int .i64 s, .rd 2 _ _], .int .i64 x, .int .i64 y, .int .i64 d] => some ((0 ≤ d ∧ d < s ∧ s ≤ 72000) ∧ (-600 ≤ x ∧ x ≤ 600) ∧ (-600 ≤ y ∧ y ≤ 600), .int .i64 ((x * (s - d) + y * d) / s))
  | _ => none
theorem p137 : PureOk Try.prog 137 (fcC F137) := by
  refine pure_of (T := [(138, .fc F138)]) ⟨⟨p138, q138⟩, trivial⟩ Try.func137 k137 ?_
  intro args K hC
  unfold fcC F137 at hC
  split at hC <;> first | (exact hC.elim) | skip
  rename_i h
  split at h <;> first | (cases h; done) | skip
  cases h
  rename_i s n f x y d
  obtain ⟨⟨⟨h0, h1, h2⟩, hx, hy⟩, hK⟩ := hC
  have m1 := mulB (y := s - d) hx.1 hx.2 (by omega) (by omega)
  have m2 := mulB (y := d) hy.1 hy.2 (by omega) (by omega)
  simp only [inr64, e_reg, e_seq, e_ret, o_nil, o_cons, gd_none, putK_e, runK_e, vK_e, boxK_e, conK_e, callK_e, evh_v, evh_box, evh_call, seqK_n, ends_r, endK1_e, endK2_e, gam_e, gamK_f, pc_e, pcK_e, fcC_e, fcK_e, evp, bin, gt, gq, st, putf, X.get, gets, ap, mkfr, rep, rdR, tupled, clV, clL, clS, clo, ld, lda, cs1, gb, pb, ln, lk, undef, Nat.reduceSub, Nat.reduceAdd, beq_self_eq_true, true_and, s137, r137, F138]
  exact ⟨by omega, by omega, by omega, by omega, ⟨by omega, by omega⟩, res hK (by simp [leR])⟩
def C136 : PC := fun args K => ∃ (v : Sx) (f : Nat → List SV) (x set : Int), args = [.agg [.int .i64 v.step, .rd 2 v.T.length f], .agg [.int .i64 x, .int .i64 set]] ∧ (∀ i, f i = rowsS v.T i) ∧ v.ok ∧ (0 ≤ x ∧ x ≤ v.step * ((v.T.length : Int) - 1)) ∧
  K (.agg [.int .i64 (corE v x).1, .int .i64 (corE v x).2])
theorem p136 : PureOk Try.prog 136 C136 := by
  refine pure_of (T := [(137, .fc F137)]) ⟨⟨p137, q137⟩, trivial⟩ Try.func136 k136 ?_
  rintro args K ⟨v, f, x, set, rfl, hf, hok, ⟨hx0, hx1⟩, hK⟩
  have h1 := hok.1.1
  have h2 := hok.1.2.1
  have hsp := spS (by omega) hok.1.2.2.1
  obtain ⟨s, T, a, b, w, S⟩ := v
  simp only [corE, kk] at h1 h2 hsp hf hx1 hK ⊢
  have hd0 := Int.emod_nonneg x (show s ≠ 0 by omega)
  have hd1 := Int.emod_lt_of_pos x (show 0 < s by omega)
  have hq0 : 0 ≤ x / s := Int.ediv_nonneg hx0 (by omega)
  have hxe := Int.mul_ediv_add_emod x s
  have hq1 : x / s ≤ (T.length : Int) - 1 := Int.ediv_le_of_le_mul (by omega) (by rw [Int.mul_comm]; exact hx1)
  have e1 : x.tdiv s = x / s := Int.tdiv_eq_ediv_of_nonneg hx0
  have e2 : x.tmod s = x % s := Int.tmod_eq_emod_of_nonneg hx0
  have e3 : (x / s + 1).toNat = (x / s).toNat + 1 := by omega
  simp only [inr64, ↓reduceIte, ne_eq, e_skip, e_reg, e_tre, t_leaf, t_stop, t_op, and_self, e_drw, e_seq, e_cond, e_ret, o_nil, o_cons, gd_none, putK_e, runK_e, vK_e, boxK_e, bldK_e, storeK3_e, storeK2_e, storeK_e, conK_e, callK_e, evh_v, evh_new, evh_box, evh_bld, evh_store, evh_call, dX_e, dG_t, d_nil, d_cons, tlK_n, seqK_n, seqK_r, condK_b, ends_r, endK1_e, endK2_e, gam_e, gamK_f, gamq_e, gamqK_f, pc_e, pcK_e, fcC_e, fcK_e, evp, bin, gt, gq, st, putf, X.get, gets, getp, ap, mkfr, rep, rdR, tupled, clV, clL, clS, clo, clo.clos, ld, lda, ixs, tk, dr, sp, sp.spl, lay, ll, cs1, one, allOne, gb, sb, pb, ln, lk, evq, gdl, Value.oneCell', undef, Bool.and_true, Nat.reduceSub, Nat.reduceAdd, beq_self_eq_true, true_and, and_true, decide_eq_true_eq, decide_eq_false_iff_not, s136, r136, F137, e1, e2, e3, hf, rowsS]
  have k1 := hsp (x / s).toNat
  have k2 := hsp ((x / s).toNat + 1)
  refine ⟨by omega, by omega, fun h => ⟨by omega, res hK ?_⟩, fun h => ?_⟩
  · simp [leR, leR.leRs, cor, h]
  · have hlt : x / s + 1 < (T.length : Int) := by
      rcases Int.lt_or_eq_of_le hq1 with h7 | h7
      · omega
      · exfalso
        rw [h7] at hxe; omega
    refine ⟨by omega, by omega, by omega, ⟨⟨by omega, by omega, by omega⟩, by omega, by omega⟩, ⟨⟨by omega, by omega, by omega⟩, by omega, by omega⟩, res hK ?_⟩
    simp [leR, leR.leRs, cor, h]
end
end Go.Proofs.Ytjagiieconpgbaa
