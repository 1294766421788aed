import Derived.Test.YtgdihdiadlmjiaaVgV9
import Derived.Test.YtgdihdiadlmjiaaProg
import Derived.KernelRfl
namespace Go.Proofs.Ytgdihdiadlmjiaa
open Go Go.Vg
set_option linter.unusedSimpArgs false
set_option linter.unusedVariables false
set_option maxRecDepth 10000
def s42 : SC :=
 (.seq (.reg [⟨(some 6), none, .v (.mov (.c (.lit (.bool false))))⟩])
 (.seq (.reg [⟨(some 7), none, .v (.mov (.t 0))⟩,
  ⟨(some 8), none, .v (.mov (.t 1))⟩,
  ⟨(some 9), none, .v (.bin .geq (.t 7) (.t 8))⟩,
  ⟨(some 10), none, .v (.mov (.t 9))⟩,
  ⟨(some 11), (some (10, true)), .v (.mov (.t 0))⟩,
  ⟨(some 12), (some (10, true)), .v (.mov (.t 2))⟩,
  ⟨(some 13), (some (10, true)), .v (.bin .leq (.t 11) (.t 12))⟩,
  ⟨(some 14), none, .v (.pick (.t 10) (.t 13) (.c (.lit (.bool false))))⟩,
  ⟨(some 6), none, .v (.mov (.t 14))⟩])
 .ret))
def r42 : List RV := [.t 6]
theorem k42 : (Try.f42.body.bind (cC Try.prog), cR Try.prog Try.f42.results.toList, Try.f42.ntmps) = (some s42, some r42, 15) := by kernel_rfl
theorem q42 : Known Try.prog 42 := ⟨_, Try.func42, by decide, by simp [Try.f42]⟩
def s65 : SC :=
 (.seq (.reg [⟨(some 6), none, .v (.mov (.c (.lit (.bool false))))⟩])
 (.seq (.reg [⟨(some 7), none, .v (.mov (.t 1))⟩,
  ⟨(some 8), none, .v (.mov (.t 0))⟩,
  ⟨(some 9), none, .v (.bin .leq (.t 7) (.t 8))⟩,
  ⟨(some 10), none, .v (.mov (.t 9))⟩,
  ⟨(some 11), (some (10, true)), .v (.mov (.t 0))⟩,
  ⟨(some 12), (some (10, true)), .v (.mov (.t 2))⟩,
  ⟨(some 13), (some (10, true)), .v (.bin .leq (.t 11) (.t 12))⟩,
  ⟨(some 14), none, .v (.pick (.t 10) (.t 13) (.c (.lit (.bool false))))⟩,
  ⟨(some 6), none, .v (.mov (.t 14))⟩])
 .ret))
def r65 : List RV := [.t 6]
theorem k65 : (Try.f65.body.bind (cC Try.prog), cR Try.prog Try.f65.results.toList, Try.f65.ntmps) = (some s65, some r65, 15) := by kernel_rfl
theorem q65 : Known Try.prog 65 := ⟨_, Try.func65, by decide, by simp [Try.f65]⟩
def s55 : SC :=
 (.seq (.reg [⟨(some 3), none, .box 23 (.t 0)⟩,
  ⟨(some 6), none, .v (.mov (.c (.lit (.bool false))))⟩])
 (.seq (.reg [⟨(some 7), none, .v (.mov (.t 1))⟩,
  ⟨(some 8), none, .v (.off (.t 3) 0)⟩,
  ⟨(some 9), none, .v (.load (.t 8) none)⟩,
  ⟨(some 10), none, .v (.bin .leq (.t 7) (.t 9))⟩,
  ⟨(some 11), none, .v (.mov (.t 10))⟩,
  ⟨(some 12), (some (11, true)), .v (.off (.t 3) 0)⟩,
  ⟨(some 13), (some (11, true)), .v (.load (.t 12) none)⟩,
  ⟨(some 14), (some (11, true)), .v (.off (.t 3) 1)⟩,
  ⟨(some 15), (some (11, true)), .v (.load (.t 14) none)⟩,
  ⟨(some 16), (some (11, true)), .v (.bin .leq (.t 13) (.t 15))⟩,
  ⟨(some 17), none, .v (.pick (.t 11) (.t 16) (.c (.lit (.bool false))))⟩,
  ⟨(some 18), none, .v (.mov (.t 17))⟩,
  ⟨(some 19), (some (18, true)), .v (.off (.t 3) 1)⟩,
  ⟨(some 20), (some (18, true)), .v (.load (.t 19) none)⟩,
  ⟨(some 21), (some (18, true)), .v (.mov (.t 2))⟩,
  ⟨(some 22), (some (18, true)), .v (.bin .leq (.t 20) (.t 21))⟩,
  ⟨(some 23), none, .v (.pick (.t 18) (.t 22) (.c (.lit (.bool false))))⟩,
  ⟨(some 6), none, .v (.mov (.t 23))⟩])
 .ret))
def r55 : List RV := [.t 6]
theorem k55 : (Try.f55.body.bind (cC Try.prog), cR Try.prog Try.f55.results.toList, Try.f55.ntmps) = (some s55, some r55, 24) := by kernel_rfl
theorem q55 : Known Try.prog 55 := ⟨_, Try.func55, by decide, by simp [Try.f55]⟩
def s64 : SC :=
 (.seq (.reg [⟨(some 3), none, .box 23 (.t 0)⟩,
  ⟨(some 6), none, .v (.mov (.c (.lit (.bool false))))⟩])
 (.seq (.reg [⟨(some 7), none, .v (.mov (.t 1))⟩,
  ⟨(some 8), none, .v (.off (.t 3) 0)⟩,
  ⟨(some 9), none, .v (.load (.t 8) none)⟩,
  ⟨(some 10), none, .v (.bin .leq (.t 7) (.t 9))⟩,
  ⟨(some 11), none, .v (.mov (.t 10))⟩,
  ⟨(some 12), (some (11, true)), .v (.off (.t 3) 0)⟩,
  ⟨(some 13), (some (11, true)), .v (.load (.t 12) none)⟩,
  ⟨(some 14), (some (11, true)), .v (.off (.t 3) 1)⟩,
  ⟨(some 15), (some (11, true)), .v (.load (.t 14) none)⟩,
  ⟨(some 16), (some (11, true)), .v (.bin .leq (.t 13) (.t 15))⟩,
  ⟨(some 17), none, .v (.pick (.t 11) (.t 16) (.c (.lit (.bool false))))⟩,
  ⟨(some 18), none, .v (.mov (.t 17))⟩,
  ⟨(some 19), (some (18, true)), .v (.off (.t 3) 1)⟩,
  ⟨(some 20), (some (18, true)), .v (.load (.t 19) none)⟩,
  ⟨(some 21), (some (18, true)), .v (.mov (.t 2))⟩,
  ⟨(some 22), (some (18, true)), .v (.bin .leq (.t 20) (.t 21))⟩,
  ⟨(some 23), none, .v (.pick (.t 18) (.t 22) (.c (.lit (.bool false))))⟩,
  ⟨(some 6), none, .v (.mov (.t 23))⟩])
 .ret))
def r64 : List RV := [.t 6]
theorem k64 : (Try.f64.body.bind (cC Try.prog), cR Try.prog Try.f64.results.toList, Try.f64.ntmps) = (some s64, some r64, 24) := by kernel_rfl
theorem q64 : Known Try.prog 64 := ⟨_, Try.func64, by decide, by simp [Try.f64]⟩
def s34 : SC :=
 (.seq (.reg [⟨(some 4), none, .v (.mov (.c (.int .i64 (0))))⟩])
 (.seq (.reg [⟨(some 6), none, .v (.mov (.t 0))⟩,
  ⟨(some 7), none, .v (.mov (.t 1))⟩,
  ⟨(some 8), none, .v (.bin .rem (.t 6) (.t 7))⟩,
  ⟨(some 5), none, .v (.mov (.t 8))⟩])
 (.seq (.seq (.reg [⟨(some 9), none, .v (.mov (.t 5))⟩,
  ⟨(some 10), none, .v (.bin .lss (.t 9) (.c (.int .i64 (0))))⟩])
 (.cond (.t 10)
  (.reg [⟨(some 11), none, .v (.mov (.t 5))⟩,
   ⟨(some 12), none, .v (.mov (.t 1))⟩,
   ⟨(some 13), none, .v (.bin .add (.t 11) (.t 12))⟩,
   ⟨(some 5), none, .v (.mov (.t 13))⟩])
  .skip))
 (.seq (.reg [⟨(some 14), none, .v (.mov (.t 5))⟩,
  ⟨(some 4), none, .v (.mov (.t 14))⟩])
 .ret))))
def r34 : List RV := [.t 4]
theorem k34 : (Try.f34.body.bind (cC Try.prog), cR Try.prog Try.f34.results.toList, Try.f34.ntmps) = (some s34, some r34, 15) := by kernel_rfl
theorem q34 : Known Try.prog 34 := ⟨_, Try.func34, by decide, by simp [Try.f34]⟩
def s68 : SC :=
 (.seq (.reg [⟨(some 4), none, .v (.mov (.c (.int .i64 (0))))⟩])
 (.seq (.reg [⟨(some 5), none, .v (.mov (.t 0))⟩,
  ⟨(some 6), none, .v (.mov (.t 0))⟩,
  ⟨(some 7), none, .v (.mov (.t 1))⟩,
  ⟨(some 8), none, .call (.c (.fn 34 [])) [(.t 6), (.t 7)]⟩,
  ⟨(some 9), none, .v (.bin .sub (.t 5) (.t 8))⟩,
  ⟨(some 10), none, .v (.mov (.t 1))⟩,
  ⟨(some 11), none, .v (.bin .quo (.t 9) (.t 10))⟩,
  ⟨(some 4), none, .v (.mov (.t 11))⟩])
 .ret))
def r68 : List RV := [.t 4]
theorem k68 : (Try.f68.body.bind (cC Try.prog), cR Try.prog Try.f68.results.toList, Try.f68.ntmps) = (some s68, some r68, 12) := by kernel_rfl
theorem q68 : Known Try.prog 68 := ⟨_, Try.func68, by decide, by simp [Try.f68]⟩
def s41 : SC :=
 (.seq (.reg [⟨(some 4), none, .v (.mov (.c (.int .i64 (0))))⟩])
 (.seq (.reg [⟨(some 5), none, .v (.mov (.t 0))⟩,
  ⟨(some 6), none, .v (.neg (.t 5))⟩,
  ⟨(some 7), none, .v (.mov (.t 1))⟩,
  ⟨(some 8), none, .call (.c (.fn 68 [])) [(.t 6), (.t 7)]⟩,
  ⟨(some 9), none, .v (.neg (.t 8))⟩,
  ⟨(some 4), none, .v (.mov (.t 9))⟩])
 .ret))
def r41 : List RV := [.t 4]
theorem k41 : (Try.f41.body.bind (cC Try.prog), cR Try.prog Try.f41.results.toList, Try.f41.ntmps) = (some s41, some r41, 10) := by kernel_rfl
theorem q41 : Known Try.prog 41 := ⟨_, Try.func41, by decide, by simp [Try.f41]⟩
def s67 : SC :=
 (.seq (.reg [⟨(some 4), none, .v (.mov (.c (.int .i64 (0))))⟩])
 (.seq (.reg [⟨(some 6), none, .v (.mov (.t 0))⟩,
  ⟨(some 7), none, .v (.mov (.t 1))⟩,
  ⟨(some 8), none, .v (.bin .quo (.t 6) (.t 7))⟩,
  ⟨(some 5), none, .v (.mov (.t 8))⟩])
 (.seq (.seq (.reg [⟨(some 9), none, .v (.mov (.t 0))⟩,
  ⟨(some 10), none, .v (.mov (.t 1))⟩,
  ⟨(some 11), none, .v (.bin .rem (.t 9) (.t 10))⟩,
  ⟨(some 12), none, .v (.bin .lss (.t 11) (.c (.int .i64 (0))))⟩])
 (.cond (.t 12)
  (.reg [⟨(some 13), none, .v (.mov (.t 5))⟩,
   ⟨(some 14), none, .v (.bin .sub (.t 13) (.c (.int .i64 (1))))⟩,
   ⟨(some 5), none, .v (.mov (.t 14))⟩])
  .skip))
 (.seq (.reg [⟨(some 15), none, .v (.mov (.t 5))⟩,
  ⟨(some 4), none, .v (.mov (.t 15))⟩])
 .ret))))
def r67 : List RV := [.t 4]
theorem k67 : (Try.f67.body.bind (cC Try.prog), cR Try.prog Try.f67.results.toList, Try.f67.ntmps) = (some s67, some r67, 16) := by kernel_rfl
theorem q67 : Known Try.prog 67 := ⟨_, Try.func67, by decide, by simp [Try.f67]⟩
def s66 : SC :=
 (.seq (.reg [⟨(some 4), none, .v (.mov (.c (.int .i64 (0))))⟩])
 (.seq (.reg [⟨(some 5), none, .v (.mov (.t 0))⟩,
  ⟨(some 6), none, .v (.neg (.t 5))⟩,
  ⟨(some 7), none, .v (.mov (.t 1))⟩,
  ⟨(some 8), none, .call (.c (.fn 67 [])) [(.t 6), (.t 7)]⟩,
  ⟨(some 9), none, .v (.neg (.t 8))⟩,
  ⟨(some 4), none, .v (.mov (.t 9))⟩])
 .ret))
def r66 : List RV := [.t 4]
theorem k66 : (Try.f66.body.bind (cC Try.prog), cR Try.prog Try.f66.results.toList, Try.f66.ntmps) = (some s66, some r66, 10) := by kernel_rfl
theorem q66 : Known Try.prog 66 := ⟨_, Try.func66, by decide, by simp [Try.f66]⟩
def s28 : SC :=
 (.seq (.reg [⟨(some 3), none, .box 23 (.t 0)⟩,
  ⟨(some 6), none, .v (.mov (.c (.int .i64 (0))))⟩,
  ⟨(some 7), none, .v (.mov (.c (.int .i64 (0))))⟩])
 (.seq (.seq (.reg [⟨(some 10), none, .v (.load (.t 3) (some 2))⟩,
  ⟨(some 11), none, .call (.c (.fn 64 [])) [(.t 10), (.c (.int .i64 (-1000000))), (.c (.int .i64 (1000000)))]⟩,
  ⟨(some 12), none, .v (.not (.t 11))⟩,
  ⟨(some 13), none, .v (.mov (.t 12))⟩,
  ⟨(some 14), (some (13, false)), .v (.mov (.t 1))⟩,
  ⟨(some 15), (some (13, false)), .call (.c (.fn 65 [])) [(.t 14), (.c (.int .i64 (1))), (.c (.int .i64 (100)))]⟩,
  ⟨(some 16), (some (13, false)), .v (.not (.t 15))⟩,
  ⟨(some 17), none, .v (.pick (.t 13) (.c (.lit (.bool true))) (.t 16))⟩,
  ⟨(some 18), none, .v (.mov (.t 17))⟩,
  ⟨(some 19), (some (18, false)), .v (.mov (.t 2))⟩,
  ⟨(some 20), (some (18, false)), .call (.c (.fn 65 [])) [(.t 19), (.c (.int .i64 (0))), (.c (.int .i64 (1000000)))]⟩,
  ⟨(some 21), (some (18, false)), .v (.not (.t 20))⟩,
  ⟨(some 22), none, .v (.pick (.t 18) (.c (.lit (.bool true))) (.t 21))⟩])
 (.cond (.t 22)
  (.seq (.reg [⟨(some 6), none, .v (.mov (.c (.int .i64 (0))))⟩,
   ⟨(some 7), none, .v (.mov (.c (.int .i64 (7))))⟩])
  .ret)
  .skip))
 (.seq (.drw [(0, ⟨(some 23), none, .v (.mov (.t 2))⟩, false),
  (1, ⟨(some 24), none, .v (.neg (.t 23))⟩, false),
  (2, ⟨(some 25), none, .v (.off (.t 3) 0)⟩, false),
  (3, ⟨(some 26), none, .v (.load (.t 25) none)⟩, false),
  (4, ⟨(some 27), none, .v (.bin .sub (.t 24) (.t 26))⟩, false),
  (5, ⟨(some 28), none, .v (.mov (.t 1))⟩, false),
  (6, ⟨(some 29), none, .call (.c (.fn 66 [])) [(.t 27), (.t 28)]⟩, false),
  (7, ⟨(some 30), none, .v (.mov (.t 2))⟩, false),
  (8, ⟨(some 31), none, .v (.off (.t 3) 1)⟩, false),
  (9, ⟨(some 32), none, .v (.load (.t 31) none)⟩, false),
  (10, ⟨(some 33), none, .v (.bin .sub (.t 30) (.t 32))⟩, false),
  (11, ⟨(some 34), none, .v (.mov (.t 1))⟩, false)]
  none
  [⟨(some 35), none, .call (.c (.fn 67 [])) [(.t 33), (.t 34)]⟩,
  ⟨(some 8), none, .v (.mov (.t 29))⟩,
  ⟨(some 9), none, .v (.mov (.t 35))⟩])
 (.seq (.seq (.reg [⟨(some 36), none, .v (.mov (.t 8))⟩,
  ⟨(some 37), none, .v (.mov (.t 9))⟩,
  ⟨(some 38), none, .v (.bin .gtr (.t 36) (.t 37))⟩])
 (.cond (.t 38)
  (.seq (.reg [⟨(some 6), none, .v (.mov (.c (.int .i64 (0))))⟩,
   ⟨(some 7), none, .v (.mov (.c (.int .i64 (4))))⟩])
  .ret)
  .skip))
 (.seq (.reg [⟨(some 39), none, .v (.mov (.t 8))⟩,
  ⟨(some 40), none, .v (.max2 (.c (.int .i64 (0))) (.t 39))⟩,
  ⟨(some 41), none, .v (.mov (.t 9))⟩,
  ⟨(some 42), none, .v (.min2 (.t 40) (.t 41))⟩,
  ⟨(some 6), none, .v (.mov (.t 42))⟩,
  ⟨(some 7), none, .v (.mov (.c (.int .i64 (0))))⟩])
 .ret)))))
def r28 : List RV := [.t 6, .t 7]
theorem k28 : (Try.f28.body.bind (cC Try.prog), cR Try.prog Try.f28.results.toList, Try.f28.ntmps) = (some s28, some r28, 43) := by kernel_rfl
theorem q28 : Known Try.prog 28 := ⟨_, Try.func28, by decide, by simp [Try.f28]⟩
def s29 : SC :=
 (.seq (.reg [⟨(some 3), none, .box 23 (.t 0)⟩,
  ⟨(some 6), none, .v (.mov (.c (.int .i64 (0))))⟩,
  ⟨(some 7), none, .v (.mov (.c (.int .i64 (0))))⟩])
 (.seq (.seq (.reg [⟨(some 10), none, .v (.load (.t 3) (some 2))⟩,
  ⟨(some 11), none, .call (.c (.fn 55 [])) [(.t 10), (.c (.int .i64 (-1000000))), (.c (.int .i64 (1000000)))]⟩,
  ⟨(some 12), none, .v (.not (.t 11))⟩,
  ⟨(some 13), none, .v (.mov (.t 12))⟩,
  ⟨(some 14), (some (13, false)), .v (.mov (.t 1))⟩,
  ⟨(some 15), (some (13, false)), .call (.c (.fn 42 [])) [(.t 14), (.c (.int .i64 (1))), (.c (.int .i64 (100)))]⟩,
  ⟨(some 16), (some (13, false)), .v (.not (.t 15))⟩,
  ⟨(some 17), none, .v (.pick (.t 13) (.c (.lit (.bool true))) (.t 16))⟩,
  ⟨(some 18), none, .v (.mov (.t 17))⟩,
  ⟨(some 19), (some (18, false)), .v (.mov (.t 2))⟩,
  ⟨(some 20), (some (18, false)), .call (.c (.fn 42 [])) [(.t 19), (.c (.int .i64 (0))), (.c (.int .i64 (1000000)))]⟩,
  ⟨(some 21), (some (18, false)), .v (.not (.t 20))⟩,
  ⟨(some 22), none, .v (.pick (.t 18) (.c (.lit (.bool true))) (.t 21))⟩])
 (.cond (.t 22)
  (.seq (.reg [⟨(some 6), none, .v (.mov (.c (.int .i64 (0))))⟩,
   ⟨(some 7), none, .v (.mov (.c (.int .i64 (7))))⟩])
  .ret)
  .skip))
 (.seq (.drw [(0, ⟨(some 23), none, .v (.mov (.t 2))⟩, false),
  (1, ⟨(some 24), none, .v (.neg (.t 23))⟩, false),
  (2, ⟨(some 25), none, .v (.off (.t 3) 0)⟩, false),
  (3, ⟨(some 26), none, .v (.load (.t 25) none)⟩, false),
  (4, ⟨(some 27), none, .v (.bin .sub (.t 24) (.t 26))⟩, false),
  (5, ⟨(some 28), none, .v (.mov (.t 1))⟩, false),
  (6, ⟨(some 29), none, .call (.c (.fn 41 [])) [(.t 27), (.t 28)]⟩, false),
  (7, ⟨(some 30), none, .v (.mov (.t 2))⟩, false),
  (8, ⟨(some 31), none, .v (.off (.t 3) 1)⟩, false),
  (9, ⟨(some 32), none, .v (.load (.t 31) none)⟩, false),
  (10, ⟨(some 33), none, .v (.bin .sub (.t 30) (.t 32))⟩, false),
  (11, ⟨(some 34), none, .v (.mov (.t 1))⟩, false)]
  none
  [⟨(some 35), none, .call (.c (.fn 68 [])) [(.t 33), (.t 34)]⟩,
  ⟨(some 8), none, .v (.mov (.t 29))⟩,
  ⟨(some 9), none, .v (.mov (.t 35))⟩])
 (.seq (.seq (.reg [⟨(some 36), none, .v (.mov (.t 8))⟩,
  ⟨(some 37), none, .v (.mov (.t 9))⟩,
  ⟨(some 38), none, .v (.bin .gtr (.t 36) (.t 37))⟩])
 (.cond (.t 38)
  (.seq (.reg [⟨(some 6), none, .v (.mov (.c (.int .i64 (0))))⟩,
   ⟨(some 7), none, .v (.mov (.c (.int .i64 (4))))⟩])
  .ret)
  .skip))
 (.seq (.seq (.reg [⟨(some 39), none, .v (.mov (.t 8))⟩,
  ⟨(some 40), none, .v (.bin .gtr (.t 39) (.c (.int .i64 (0))))⟩])
 (.cond (.t 40)
  (.seq (.reg [⟨(some 41), none, .v (.mov (.t 8))⟩,
   ⟨(some 6), none, .v (.mov (.t 41))⟩,
   ⟨(some 7), none, .v (.mov (.c (.int .i64 (0))))⟩])
  .ret)
  .skip))
 (.seq (.reg [⟨(some 42), none, .v (.mov (.t 9))⟩,
  ⟨(some 43), none, .v (.min2 (.t 42) (.c (.int .i64 (0))))⟩,
  ⟨(some 6), none, .v (.mov (.t 43))⟩,
  ⟨(some 7), none, .v (.mov (.c (.int .i64 (0))))⟩])
 .ret))))))
def r29 : List RV := [.t 6, .t 7]
theorem k29 : (Try.f29.body.bind (cC Try.prog), cR Try.prog Try.f29.results.toList, Try.f29.ntmps) = (some s29, some r29, 44) := by kernel_rfl
theorem q29 : Known Try.prog 29 := ⟨_, Try.func29, by decide, by simp [Try.f29]⟩
def s6 : SC :=
 (.seq (.reg [⟨(some 3), none, .box 23 (.t 0)⟩,
  ⟨(some 6), none, .v (.mov (.c (.lit (.bool false))))⟩])
 (.seq (.reg [⟨(some 12), none, .v (.load (.t 3) (some 2))⟩,
  ⟨(some 13), none, .v (.mov (.t 1))⟩,
  ⟨(some 14), none, .v (.mov (.t 2))⟩,
  ⟨(some 15), none, .call (.c (.fn 28 [])) [(.t 12), (.t 13), (.t 14)]⟩,
  ⟨(some 11), none, .v (.mov (.t 15))⟩,
  ⟨(some 16), none, .v (.ext (.t 11) 0)⟩,
  ⟨(some 17), none, .v (.ext (.t 11) 1)⟩,
  ⟨(some 7), none, .v (.mov (.t 16))⟩,
  ⟨(some 8), none, .v (.mov (.t 17))⟩])
 (.seq (.reg [⟨(some 19), none, .v (.load (.t 3) (some 2))⟩,
  ⟨(some 20), none, .v (.mov (.t 1))⟩,
  ⟨(some 21), none, .v (.mov (.t 2))⟩,
  ⟨(some 22), none, .call (.c (.fn 29 [])) [(.t 19), (.t 20), (.t 21)]⟩,
  ⟨(some 18), none, .v (.mov (.t 22))⟩,
  ⟨(some 23), none, .v (.ext (.t 18) 0)⟩,
  ⟨(some 24), none, .v (.ext (.t 18) 1)⟩,
  ⟨(some 9), none, .v (.mov (.t 23))⟩,
  ⟨(some 10), none, .v (.mov (.t 24))⟩])
 (.seq (.reg [⟨(some 25), none, .v (.mov (.t 7))⟩,
  ⟨(some 26), none, .v (.mov (.t 9))⟩,
  ⟨(some 27), none, .v (.bin .eql (.t 25) (.t 26))⟩,
  ⟨(some 28), none, .v (.mov (.t 27))⟩,
  ⟨(some 29), (some (28, true)), .v (.mov (.t 8))⟩,
  ⟨(some 30), (some (28, true)), .v (.mov (.t 10))⟩,
  ⟨(some 31), (some (28, true)), .v (.bin .eql (.t 29) (.t 30))⟩,
  ⟨(some 32), none, .v (.pick (.t 28) (.t 31) (.c (.lit (.bool false))))⟩,
  ⟨(some 33), none, .v (.mov (.t 32))⟩,
  ⟨(some 34), (some (33, true)), .call (.c (.fn 22 [])) []⟩,
  ⟨(some 35), none, .v (.pick (.t 33) (.t 34) (.c (.lit (.bool false))))⟩,
  ⟨(some 6), none, .v (.mov (.t 35))⟩])
 .ret))))
def r6 : List RV := [.t 6]
def n6 : Nat := 36
theorem k6 : (Try.f6.body.bind (cC Try.prog), cR Try.prog Try.f6.results.toList, Try.f6.ntmps) = (some s6, some r6, 36) := by kernel_rfl
theorem res {K : SV → Prop} {x y : SV} (h : K y) (e : leR 4 x y) : ∃ r', K r' ∧ leR 4 x r' := ⟨y, h, e⟩
def F42 : FC := fun args => match args with
 | [.int .i64 x, .int .i64 lo, .int .i64 hi] => some (True, .bool (decide (lo ≤ x ∧ x ≤ hi)))
 | _ => none
theorem p42 : PureOk Try.prog 42 (fcC F42) := by
 refine pure_of (T := []) trivial Try.func42 k42 ?_
 intro args K hC
 unfold fcC F42 at hC
 split at hC <;> first | (exact hC.elim) | skip
 rename_i h
 split at h <;> first | (cases h; done) | skip
 cases h
 simp only [e_reg, e_seq, e_ret, o_nil, o_cons, gd_none, gd_some, gdK_tt, gdK_ft, gdK_bt, putK_e, runK_e, skipK_e, vK_e, evh_v, seqK_n, ends_r, endK1_e, endK2_e, evp, bin, gt, st, putf, X.get, mkfr, rep, rdR, tupled, clV, clS, clo, undef, Nat.reduceSub, true_and, decide_eq_true_eq, decide_eq_false_iff_not, s42, r42]
 exact ⟨fun h => res hC.2 (by simp [leR, h]), fun h => res hC.2 (by simp [leR, h])⟩
theorem p65 : PureOk Try.prog 65 (fcC F42) := by
 refine pure_of (T := []) trivial Try.func65 k65 ?_
 intro args K hC
 unfold fcC F42 at hC
 split at hC <;> first | (exact hC.elim) | skip
 rename_i h
 split at h <;> first | (cases h; done) | skip
 cases h
 simp only [e_reg, e_seq, e_ret, o_nil, o_cons, gd_none, gd_some, gdK_tt, gdK_ft, gdK_bt, putK_e, runK_e, skipK_e, vK_e, evh_v, seqK_n, ends_r, endK1_e, endK2_e, evp, bin, gt, st, putf, X.get, mkfr, rep, rdR, tupled, clV, clS, clo, undef, Nat.reduceSub, true_and, decide_eq_true_eq, decide_eq_false_iff_not, s65, r65]
 exact ⟨fun h => res hC.2 (by simp [leR, h]), fun h => res hC.2 (by simp [leR, h])⟩
def F55 : FC := fun args => match args with
 | [.agg [.int .i64 a, .int .i64 b], .int .i64 lo, .int .i64 hi] => some (True, .bool (decide ((lo ≤ a ∧ a ≤ b) ∧ b ≤ hi)))
 | _ => none
theorem p55 : PureOk Try.prog 55 (fcC F55) := by
 refine pure_of (T := []) trivial Try.func55 k55 ?_
 intro args K hC
 unfold fcC F55 at hC
 split at hC <;> first | (exact hC.elim) | skip
 rename_i h
 split at h <;> first | (cases h; done) | skip
 cases h
 obtain ⟨-, hK⟩ := hC
 simp only [e_reg, e_seq, e_ret, o_nil, o_cons, gd_none, gd_some, gdK_tt, gdK_ft, gdK_bt, putK_e, runK_e, skipK_e, vK_e, boxK_e, evh_v, evh_box, seqK_n, ends_r, endK1_e, endK2_e, evp, bin, gt, gq, st, putf, X.get, mkfr, rep, rdR, tupled, clV, clS, clo, ld, lda, cs1, gb, pb, ln, undef, Nat.reduceSub, Nat.reduceAdd, true_and, decide_eq_true_eq, decide_eq_false_iff_not, s55, r55]
 exact ⟨fun h1 => ⟨fun h2 => res hK (by simp [leR, h1, h2]), fun h2 => res hK (by simp [leR, h1, h2])⟩, fun h1 => res hK (by simp [leR, h1])⟩
theorem p64 : PureOk Try.prog 64 (fcC F55) := by
 refine pure_of (T := []) trivial Try.func64 k64 ?_
 intro args K hC
 unfold fcC F55 at hC
 split at hC <;> first | (exact hC.elim) | skip
 rename_i h
 split at h <;> first | (cases h; done) | skip
 cases h
 obtain ⟨-, hK⟩ := hC
 simp only [e_reg, e_seq, e_ret, o_nil, o_cons, gd_none, gd_some, gdK_tt, gdK_ft, gdK_bt, putK_e, runK_e, skipK_e, vK_e, boxK_e, evh_v, evh_box, seqK_n, ends_r, endK1_e, endK2_e, evp, bin, gt, gq, st, putf, X.get, mkfr, rep, rdR, tupled, clV, clS, clo, ld, lda, cs1, gb, pb, ln, undef, Nat.reduceSub, Nat.reduceAdd, true_and, decide_eq_true_eq, decide_eq_false_iff_not, s64, r64]
 exact ⟨fun h1 => ⟨fun h2 => res hK (by simp [leR, h1, h2]), fun h2 => res hK (by simp [leR, h1, h2])⟩, fun h1 => res hK (by simp [leR, h1])⟩
def F34 : FC := fun args => match args with
 | [.int .i64 a, .int .i64 b] => some (0 < b ∧ b ≤ 9223372036854775807, .int .i64 (a % b))
 | _ => none
theorem p34 : PureOk Try.prog 34 (fcC F34) := by
 refine pure_of (T := []) trivial Try.func34 k34 ?_
 intro args K hC
 unfold fcC F34 at hC
 split at hC <;> first | (exact hC.elim) | skip
 rename_i h
 split at h <;> first | (cases h; done) | skip
 cases h
 rename_i a b
 obtain ⟨⟨hb, hb2⟩, hK⟩ := hC
 have e := Int.tmod_eq_emod (a := a) (b := b)
 have h1 := Int.emod_nonneg a (show b ≠ 0 by omega)
 have h2 := Int.emod_lt_of_pos a hb
 have h3 : (b.natAbs : Int) = b := by omega
 simp only [inr64, ne_eq, e_skip, e_reg, e_seq, e_cond, e_ret, o_nil, o_cons, gd_none, putK_e, runK_e, vK_e, evh_v, seqK_n, condK_b, ends_r, endK1_e, endK2_e, evp, bin, gt, st, putf, X.get, mkfr, rep, rdR, tupled, clV, clS, clo, undef, Nat.reduceSub, true_and, decide_eq_true_eq, decide_eq_false_iff_not, s34, r34]
 have e2 : a.tmod b = a % b ∨ a.tmod b = a % b - b := by
  by_cases c : 0 ≤ a ∨ b ∣ a
  ·rw [if_pos c] at e; exact .inl (by simpa using e)
  ·rw [if_neg c, h3] at e; exact .inr e
 exact ⟨by omega, fun h => ⟨by omega, res hK (by simp [leR]; omega)⟩, fun h => res hK (by simp [leR]; omega)⟩
def Qb (a b : Int) : Prop := 0 < b ∧ b ≤ 4611686018427387904 ∧ -4611686018427387904 ≤ a ∧ a ≤ 4611686018427387904
theorem Qb.div {a b : Int} (h : Qb a b) : -4611686018427387904 ≤ a / b ∧ a / b ≤ 4611686018427387904 := by
 obtain ⟨hb, hb2, ha, ha2⟩ := h
 exact ⟨Int.le_ediv_of_mul_le hb (by omega), Int.ediv_le_of_le_mul hb (by omega)⟩
theorem Qb.neg {a b : Int} (h : Qb a b) : Qb (-a) b := by
 obtain ⟨hb, hb2, ha, ha2⟩ := h
 exact ⟨hb, hb2, by omega, by omega⟩
def F68 : FC := fun args => match args with
 | [.int .i64 a, .int .i64 b] => some (Qb a b, .int .i64 (a / b))
 | _ => none
theorem p68 : PureOk Try.prog 68 (fcC F68) := by
 refine pure_of (T := [(34, .fc F34)]) ⟨⟨p34, q34⟩, trivial⟩ Try.func68 k68 ?_
 intro args K hC
 unfold fcC F68 at hC
 split at hC <;> first | (exact hC.elim) | skip
 rename_i h
 split at h <;> first | (cases h; done) | skip
 cases h
 rename_i a b
 obtain ⟨hq, hK⟩ := hC
 obtain ⟨e3, e4⟩ := hq.div
 obtain ⟨hb, hb2, ha, ha2⟩ := hq
 have h1 := Int.emod_nonneg a (show b ≠ 0 by omega)
 have h2 := Int.emod_lt_of_pos a hb
 have e1 : a - a % b = b * (a / b) := by have := Int.emod_add_mul_ediv a b; omega
 have e2 : (a - a % b).tdiv b = a / b := by rw [e1]; exact Int.mul_tdiv_cancel_left _ (by omega)
 simp only [inr64, ne_eq, e_reg, e_seq, e_ret, o_nil, o_cons, gd_none, putK_e, runK_e, vK_e, conK_e, callK_e, evh_v, evh_call, seqK_n, ends_r, endK1_e, endK2_e, gam_e, gamK_f, pc_e, pcK_e, fcC_e, fcK_e, evp, bin, gt, st, putf, X.get, gets, ap, mkfr, rep, rdR, tupled, clV, clL, clS, clo, lk, undef, Nat.reduceSub, beq_self_eq_true, true_and, s68, r68, F34]
 rw [e2]
 exact ⟨⟨hb, by omega⟩, by omega, ⟨by omega, by omega, by omega⟩, res hK (by simp [leR])⟩
def F41 : FC := fun args => match args with
 | [.int .i64 a, .int .i64 b] => some (Qb a b, .int .i64 (-(-a / b)))
 | _ => none
theorem p41 : PureOk Try.prog 41 (fcC F41) := by
 refine pure_of (T := [(68, .fc F68)]) ⟨⟨p68, q68⟩, trivial⟩ Try.func41 k41 ?_
 intro args K hC
 unfold fcC F41 at hC
 split at hC <;> first | (exact hC.elim) | skip
 rename_i h
 split at h <;> first | (cases h; done) | skip
 cases h
 rename_i a b
 obtain ⟨hq, hK⟩ := hC
 obtain ⟨e3, e4⟩ := hq.neg.div
 have hq' := hq
 obtain ⟨hb, hb2, ha, ha2⟩ := hq
 simp only [inr64, e_reg, e_seq, e_ret, o_nil, o_cons, gd_none, putK_e, runK_e, vK_e, conK_e, callK_e, evh_v, evh_call, seqK_n, ends_r, endK1_e, endK2_e, gam_e, gamK_f, pc_e, pcK_e, fcC_e, fcK_e, evp, gt, st, putf, X.get, gets, ap, mkfr, rep, rdR, tupled, clV, clL, clS, clo, lk, undef, Nat.reduceSub, beq_self_eq_true, true_and, s41, r41, F68]
 exact ⟨by omega, hq'.neg, by omega, res hK (by simp [leR])⟩
theorem p67 : PureOk Try.prog 67 (fcC F68) := by
 refine pure_of (T := []) trivial Try.func67 k67 ?_
 intro args K hC
 unfold fcC F68 at hC
 split at hC <;> first | (exact hC.elim) | skip
 rename_i h
 split at h <;> first | (cases h; done) | skip
 cases h
 rename_i a b
 obtain ⟨hq, hK⟩ := hC
 obtain ⟨e3, e4⟩ := hq.div
 obtain ⟨hb, hb2, ha, ha2⟩ := hq
 have e := Int.tmod_eq_emod (a := a) (b := b)
 have h1 := Int.emod_nonneg a (show b ≠ 0 by omega)
 have h2 := Int.emod_lt_of_pos a hb
 have h3 : (b.natAbs : Int) = b := by omega
 have h4 : Int.sign b = 1 := Int.sign_eq_one_of_pos hb
 have e5 := Int.tdiv_eq_ediv (a := a) (b := b)
 simp only [inr64, ne_eq, e_skip, e_reg, e_seq, e_cond, e_ret, o_nil, o_cons, gd_none, putK_e, runK_e, vK_e, evh_v, seqK_n, condK_b, ends_r, endK1_e, endK2_e, evp, bin, gt, st, putf, X.get, mkfr, rep, rdR, tupled, clV, clS, clo, undef, Nat.reduceSub, true_and, decide_eq_true_eq, decide_eq_false_iff_not, s67, r67]
 have e6 : (a.tdiv b = a / b ∧ 0 ≤ a.tmod b) ∨ (a.tdiv b = a / b + 1 ∧ a.tmod b < 0) := by
  by_cases c : 0 ≤ a ∨ b ∣ a
  ·rw [if_pos c] at e e5; exact .inl ⟨by omega, by omega⟩
  ·rw [if_neg c, h3] at e; rw [if_neg c, h4] at e5; exact .inr ⟨e5, by omega⟩
 refine ⟨⟨by omega, by omega, by omega⟩, by omega, fun h => ⟨by omega, res hK ?_⟩, fun h => res hK ?_⟩
 ·have : a.tdiv b - 1 = a / b := by omega
  simp [leR, this]
 ·have : a.tdiv b = a / b := by omega
  simp [leR, this]
theorem p66 : PureOk Try.prog 66 (fcC F41) := by
 refine pure_of (T := [(67, .fc F68)]) ⟨⟨p67, q67⟩, trivial⟩ Try.func66 k66 ?_
 intro args K hC
 unfold fcC F41 at hC
 split at hC <;> first | (exact hC.elim) | skip
 rename_i h
 split at h <;> first | (cases h; done) | skip
 cases h
 rename_i a b
 obtain ⟨hq, hK⟩ := hC
 obtain ⟨e3, e4⟩ := hq.neg.div
 have hq' := hq
 obtain ⟨hb, hb2, ha, ha2⟩ := hq
 simp only [inr64, e_reg, e_seq, e_ret, o_nil, o_cons, gd_none, putK_e, runK_e, vK_e, conK_e, callK_e, evh_v, evh_call, seqK_n, ends_r, endK1_e, endK2_e, gam_e, gamK_f, pc_e, pcK_e, fcC_e, fcK_e, evp, gt, st, putf, X.get, gets, ap, mkfr, rep, rdR, tupled, clV, clL, clS, clo, lk, undef, Nat.reduceSub, beq_self_eq_true, true_and, s66, r66, F68]
 exact ⟨by omega, hq'.neg, by omega, res hK (by simp [leR])⟩
def ClOkA (lo hi w B : Int) : Prop := ((-1000000 ≤ lo ∧ lo ≤ hi) ∧ hi ≤ 1000000) ∧ (1 ≤ w ∧ w ≤ 100) ∧ 0 ≤ B ∧ B ≤ 1000000
instance (lo hi w B : Int) : Decidable (ClOkA lo hi w B) := by unfold ClOkA; exact inferInstance
def ckL (lo w B : Int) : Int := -(-(-B - lo) / w)
def ckH (hi w B : Int) : Int := (B - hi) / w
def ckC (lo hi w B : Int) : Int := if ClOkA lo hi w B then if ckL lo w B ≤ ckH hi w B then if 0 < ckL lo w B then ckL lo w B else if ckH hi w B < 0 then ckH hi w B else 0 else 0 else 0
def ckE (lo hi w B : Int) : Int := if ClOkA lo hi w B then if ckL lo w B ≤ ckH hi w B then 0 else 4 else 7
def F28 : FC := fun args => match args with
 | [.agg [.int .i64 lo, .int .i64 hi], .int .i64 w, .int .i64 B] => some (True, .tup [.int .i64 (ckC lo hi w B), .int .i64 (ckE lo hi w B)])
 | _ => none
theorem p28 : PureOk Try.prog 28 (fcC F28) := by
 refine pure_of (T := [(64, .fc F55), (65, .fc F42), (66, .fc F41), (67, .fc F68)]) ⟨⟨p64, q64⟩, ⟨p65, q65⟩, ⟨p66, q66⟩, ⟨p67, q67⟩, trivial⟩ Try.func28 k28 ?_
 intro args K hC
 unfold fcC F28 at hC
 split at hC <;> first | (exact hC.elim) | skip
 rename_i h
 split at h <;> first | (cases h; done) | skip
 cases h
 rename_i lo hi w B
 obtain ⟨-, hK⟩ := hC
 simp only [inr64, e_skip, e_reg, e_drw, e_seq, e_cond, e_ret, o_nil, o_cons, gd_none, gd_some, gdK_tf, gdK_ff, gdK_bf, putK_e, runK_e, skipK_e, vK_e, boxK_e, conK_e, callK_e, evh_v, evh_box, evh_call, dX_e, dG_t, d_nil, d_cons, tlK_n, seqK_n, seqK_r, condK_t, condK_b, ends_r, endK1_e, endK2_e, gam_e, gamK_f, gamq_e, gamqK_f, pc_e, pcK_e, fcC_e, fcK_e, evp, bin, gt, gq, st, putf, X.get, gets, ap, mkfr, rep, rdR, tupled, clV, clL, clS, clo, clo.clos, ld, lda, tk, dr, cs1, gb, pb, ln, lk, evq, gdl, undef, Bool.and_true, Bool.not_true, Bool.not_false, Nat.reduceSub, Nat.reduceAdd, Nat.reduceBEq, beq_self_eq_true, true_and, decide_eq_true_eq, decide_eq_false_iff_not, Bool.not_eq_eq_eq_not, s28, r28, F55, F42, F41, F68]
 refine ⟨fun h1 => ⟨fun h2 => ⟨fun h3 => res hK ?_, fun h3 => ⟨by omega, by omega, ⟨by omega, by omega, by omega, by omega⟩, by omega, ⟨by omega, by omega, by omega, by omega⟩, fun h4 => res hK ?_, fun h4 => res hK ?_⟩⟩, fun h2 => res hK ?_⟩, fun h1 => res hK ?_⟩
 ·have : ¬ ClOkA lo hi w B := fun h => h3 h.2.2
  simp [leR, leR.leRs, ckC, ckE, this]
 ·have h5 : ClOkA lo hi w B := ⟨h1, h2, h3⟩
  have h6 : ¬ ckL lo w B ≤ ckH hi w B := by unfold ckL ckH; omega
  simp [leR, leR.leRs, ckC, ckE, h5, h6]
 ·have h5 : ClOkA lo hi w B := ⟨h1, h2, h3⟩
  have h6 : ckL lo w B ≤ ckH hi w B := by unfold ckL ckH; omega
  have h7 : (if (B - hi) / w < if 0 < -(-(-B - lo) / w) then -(-(-B - lo) / w) else 0 then (B - hi) / w else if 0 < -(-(-B - lo) / w) then -(-(-B - lo) / w) else 0) = ckC lo hi w B := by
   unfold ckC
   rw [if_pos h5, if_pos h6]
   unfold ckL ckH at *
   repeat' split
   all_goals omega
  rw [h7]
  simp [leR, leR.leRs, ckE, h5, h6]
 ·have : ¬ ClOkA lo hi w B := fun h => h2 h.2.1
  simp [leR, leR.leRs, ckC, ckE, this]
 ·have : ¬ ClOkA lo hi w B := fun h => h1 h.1
  simp [leR, leR.leRs, ckC, ckE, this]
theorem p29 : PureOk Try.prog 29 (fcC F28) := by
 refine pure_of (T := [(55, .fc F55), (42, .fc F42), (41, .fc F41), (68, .fc F68)]) ⟨⟨p55, q55⟩, ⟨p42, q42⟩, ⟨p41, q41⟩, ⟨p68, q68⟩, trivial⟩ Try.func29 k29 ?_
 intro args K hC
 unfold fcC F28 at hC
 split at hC <;> first | (exact hC.elim) | skip
 rename_i h
 split at h <;> first | (cases h; done) | skip
 cases h
 rename_i lo hi w B
 obtain ⟨-, hK⟩ := hC
 simp only [inr64, e_skip, e_reg, e_drw, e_seq, e_cond, e_ret, o_nil, o_cons, gd_none, gd_some, gdK_tf, gdK_ff, gdK_bf, putK_e, runK_e, skipK_e, vK_e, boxK_e, conK_e, callK_e, evh_v, evh_box, evh_call, dX_e, dG_t, d_nil, d_cons, tlK_n, seqK_n, seqK_r, condK_t, condK_b, ends_r, endK1_e, endK2_e, gam_e, gamK_f, gamq_e, gamqK_f, pc_e, pcK_e, fcC_e, fcK_e, evp, bin, gt, gq, st, putf, X.get, gets, ap, mkfr, rep, rdR, tupled, clV, clL, clS, clo, clo.clos, ld, lda, tk, dr, cs1, gb, pb, ln, lk, evq, gdl, undef, Bool.and_true, Bool.not_true, Bool.not_false, Nat.reduceSub, Nat.reduceAdd, Nat.reduceBEq, beq_self_eq_true, true_and, decide_eq_true_eq, decide_eq_false_iff_not, Bool.not_eq_eq_eq_not, s29, r29, F55, F42, F41, F68]
 refine ⟨fun h1 => ⟨fun h2 => ⟨fun h3 => res hK ?_, fun h3 => ⟨by omega, by omega, ⟨by omega, by omega, by omega, by omega⟩, by omega, ⟨by omega, by omega, by omega, by omega⟩, fun h4 => res hK ?_, fun h4 => ⟨fun h8 => res hK ?_, fun h8 => res hK ?_⟩⟩⟩, fun h2 => res hK ?_⟩, fun h1 => res hK ?_⟩
 ·have : ¬ ClOkA lo hi w B := fun h => h3 h.2.2
  simp [leR, leR.leRs, ckC, ckE, this]
 ·have h5 : ClOkA lo hi w B := ⟨h1, h2, h3⟩
  have h6 : ¬ ckL lo w B ≤ ckH hi w B := by unfold ckL ckH; omega
  simp [leR, leR.leRs, ckC, ckE, h5, h6]
 ·have h5 : ClOkA lo hi w B := ⟨h1, h2, h3⟩
  have h6 : ckL lo w B ≤ ckH hi w B := by unfold ckL ckH; omega
  have h7 : -(-(-B - lo) / w) = ckC lo hi w B := by
   unfold ckC
   rw [if_pos h5, if_pos h6]
   unfold ckL
   rw [if_pos h8]
  rw [h7]
  simp [leR, leR.leRs, ckE, h5, h6]
 ·have h5 : ClOkA lo hi w B := ⟨h1, h2, h3⟩
  have h6 : ckL lo w B ≤ ckH hi w B := by unfold ckL ckH; omega
  have h7 : (if 0 < (B - hi) / w then 0 else (B - hi) / w) = ckC lo hi w B := by
   unfold ckC
   rw [if_pos h5, if_pos h6]
   unfold ckL ckH at *
   repeat' split
   all_goals omega
  rw [h7]
  simp [leR, leR.leRs, ckE, h5, h6]
 ·have : ¬ ClOkA lo hi w B := fun h => h2 h.2.1
  simp [leR, leR.leRs, ckC, ckE, this]
 ·have : ¬ ClOkA lo hi w B := fun h => h1 h.1
  simp [leR, leR.leRs, ckC, ckE, this]
def F22 : FC := fun args => match args with
 | [] => some (True, .lit (.bool true))
 | _ => none
def F6 : FC := fun args => match args with
 | [.agg [.int .i64 lo, .int .i64 hi], .int .i64 w, .int .i64 B] => some (True, .bool true)
 | _ => none
theorem p6 (p22 : PureOk Try.prog 22 (fcC F22)) (q22 : Known Try.prog 22) : PureOk Try.prog 6 (fcC F6) := by
 refine pure_of (T := [(28, .fc F28), (29, .fc F28), (22, .fc F22)]) ⟨⟨p28, q28⟩, ⟨p29, q29⟩, ⟨p22, q22⟩, trivial⟩ Try.func6 k6 ?_
 intro args K hC
 unfold fcC F6 at hC
 split at hC <;> first | (exact hC.elim) | skip
 rename_i h
 split at h <;> first | (cases h; done) | skip
 cases h
 rename_i lo hi w B
 obtain ⟨-, hK⟩ := hC
 simp only [not_true_eq_false, e_reg, e_seq, e_ret, o_nil, o_cons, gd_none, gd_some, gdK_tt, gdK_ft, gdK_bt, putK_e, runK_e, skipK_e, vK_e, boxK_e, conK_e, callK_e, evh_v, evh_box, evh_call, seqK_n, ends_r, endK1_e, endK2_e, gam_e, gamK_f, pc_e, pcK_e, fcC_e, fcK_e, evp, bin, gt, gq, st, putf, X.get, gets, ap, mkfr, rep, rdR, tupled, clV, clL, clS, clo, ld, lda, tk, dr, cs1, gb, pb, ln, lk, undef, Nat.reduceSub, Nat.reduceBEq, beq_self_eq_true, true_and, decide_eq_true_eq, decide_eq_false_iff_not, s6, r6, F28, F22]
 exact ⟨fun _ => ⟨fun _ => res hK (by simp [leR]), fun h => h.elim⟩, fun h => h.elim⟩
end Go.Proofs.Ytgdihdiadlmjiaa
