import Derived.Test.YtgdihdiadlmjiaaVgL1
import Derived.Test.YtgdihdiadlmjiaaVgV9
set_option linter.unusedSimpArgs false
set_option linter.unusedVariables false
section
namespace Go.Proofs.Ytgdihdiadlmjiaa
open Go Go.Vg
set_option maxRecDepth 10000
def s19 : SC :=
 (.seq (.reg [⟨(some 1), none, .box 25 (.t 0)⟩,
  ⟨(some 2), none, .v (.mov (.c (.int .i64 (0))))⟩])
 (.seq (.seq (.reg [⟨(some 3), none, .v (.off (.t 1) 0)⟩,
  ⟨(some 4), none, .v (.load (.t 3) none)⟩,
  ⟨(some 5), none, .call (.c (.fn 42 [])) [(.t 4), (.c (.int .i64 (10))), (.c (.int .i64 (200)))]⟩,
  ⟨(some 6), none, .v (.mov (.t 5))⟩,
  ⟨(some 7), (some (6, true)), .v (.off (.t 1) 1)⟩,
  ⟨(some 8), (some (6, true)), .v (.load (.t 7) (some 2))⟩,
  ⟨(some 9), (some (6, true)), .v (.off (.t 1) 0)⟩,
  ⟨(some 10), (some (6, true)), .v (.load (.t 9) none)⟩,
  ⟨(some 11), (some (6, true)), .call (.c (.fn 55 [])) [(.t 8), (.c (.int .i64 (1))), (.t 10)]⟩,
  ⟨(some 12), none, .v (.pick (.t 6) (.t 11) (.c (.lit (.bool false))))⟩,
  ⟨(some 13), none, .v (.mov (.t 12))⟩,
  ⟨(some 14), (some (13, true)), .v (.off (.t 1) 3)⟩,
  ⟨(some 15), (some (13, true)), .v (.load (.t 14) (some 2))⟩,
  ⟨(some 16), (some (13, true)), .call (.c (.fn 55 [])) [(.t 15), (.c (.int .i64 (1))), (.c (.int .i64 (500)))]⟩,
  ⟨(some 17), none, .v (.pick (.t 13) (.t 16) (.c (.lit (.bool false))))⟩,
  ⟨(some 18), none, .v (.mov (.t 17))⟩,
  ⟨(some 19), (some (18, true)), .v (.off (.t 1) 5)⟩,
  ⟨(some 20), (some (18, true)), .v (.load (.t 19) (some 2))⟩,
  ⟨(some 21), (some (18, true)), .v (.off (.t 1) 0)⟩,
  ⟨(some 22), (some (18, true)), .v (.load (.t 21) none)⟩,
  ⟨(some 23), (some (18, true)), .v (.bin .mul (.c (.int .i64 (2))) (.t 22))⟩,
  ⟨(some 24), (some (18, true)), .call (.c (.fn 55 [])) [(.t 20), (.c (.int .i64 (0))), (.t 23)]⟩,
  ⟨(some 25), none, .v (.pick (.t 18) (.t 24) (.c (.lit (.bool false))))⟩,
  ⟨(some 26), none, .v (.mov (.t 25))⟩,
  ⟨(some 27), (some (26, true)), .v (.off (.t 1) 7)⟩,
  ⟨(some 28), (some (26, true)), .v (.load (.t 27) none)⟩,
  ⟨(some 29), (some (26, true)), .call (.c (.fn 42 [])) [(.t 28), (.c (.int .i64 (0))), (.c (.int .i64 (8)))]⟩,
  ⟨(some 30), none, .v (.pick (.t 26) (.t 29) (.c (.lit (.bool false))))⟩])
 (.cond (.t 30)
  (.seq (.reg [⟨(some 2), none, .v (.mov (.c (.int .i64 (0))))⟩])
  .ret)
  .skip))
 (.seq (.reg [⟨(some 2), none, .v (.mov (.c (.int .i64 (30))))⟩])
 .ret)))
def r19 : List RV := [.t 2]
theorem k19 : (Try.f19.body.bind (cC Try.prog), cR Try.prog Try.f19.results.toList, Try.f19.ntmps) = (some s19, some r19, 31) := by kernel_rfl
theorem q19 : Known Try.prog 19 := ⟨_, Try.func19, by decide, by simp [Try.f19]⟩
def s54 : SC :=
 (.seq (.reg [⟨(some 1), none, .box 78 (.t 0)⟩,
  ⟨(some 2), none, .v (.mov (.c (.lit (.bool false))))⟩])
 (.seq (.reg [⟨(some 3), none, .v (.off (.t 1) 0)⟩,
  ⟨(some 4), none, .v (.off (.t 3) 0)⟩,
  ⟨(some 5), none, .v (.load (.t 4) none)⟩,
  ⟨(some 6), none, .call (.c (.fn 65 [])) [(.t 5), (.c (.int .i64 (10))), (.c (.int .i64 (200)))]⟩,
  ⟨(some 7), none, .v (.mov (.t 6))⟩,
  ⟨(some 8), (some (7, true)), .v (.off (.t 1) 0)⟩,
  ⟨(some 9), (some (7, true)), .v (.off (.t 8) 1)⟩,
  ⟨(some 10), (some (7, true)), .v (.load (.t 9) (some 2))⟩,
  ⟨(some 11), (some (7, true)), .v (.off (.t 1) 0)⟩,
  ⟨(some 12), (some (7, true)), .v (.off (.t 11) 0)⟩,
  ⟨(some 13), (some (7, true)), .v (.load (.t 12) none)⟩,
  ⟨(some 14), (some (7, true)), .call (.c (.fn 64 [])) [(.t 10), (.c (.int .i64 (1))), (.t 13)]⟩,
  ⟨(some 15), none, .v (.pick (.t 7) (.t 14) (.c (.lit (.bool false))))⟩,
  ⟨(some 16), none, .v (.mov (.t 15))⟩,
  ⟨(some 17), (some (16, true)), .v (.off (.t 1) 0)⟩,
  ⟨(some 18), (some (16, true)), .v (.off (.t 17) 3)⟩,
  ⟨(some 19), (some (16, true)), .v (.load (.t 18) (some 2))⟩,
  ⟨(some 20), (some (16, true)), .call (.c (.fn 64 [])) [(.t 19), (.c (.int .i64 (1))), (.c (.int .i64 (500)))]⟩,
  ⟨(some 21), none, .v (.pick (.t 16) (.t 20) (.c (.lit (.bool false))))⟩,
  ⟨(some 22), none, .v (.mov (.t 21))⟩,
  ⟨(some 23), (some (22, true)), .v (.off (.t 1) 0)⟩,
  ⟨(some 24), (some (22, true)), .v (.off (.t 23) 5)⟩,
  ⟨(some 25), (some (22, true)), .v (.load (.t 24) (some 2))⟩,
  ⟨(some 26), (some (22, true)), .v (.off (.t 1) 0)⟩,
  ⟨(some 27), (some (22, true)), .v (.off (.t 26) 0)⟩,
  ⟨(some 28), (some (22, true)), .v (.load (.t 27) none)⟩,
  ⟨(some 29), (some (22, true)), .v (.bin .mul (.c (.int .i64 (2))) (.t 28))⟩,
  ⟨(some 30), (some (22, true)), .call (.c (.fn 64 [])) [(.t 25), (.c (.int .i64 (0))), (.t 29)]⟩,
  ⟨(some 31), none, .v (.pick (.t 22) (.t 30) (.c (.lit (.bool false))))⟩,
  ⟨(some 32), none, .v (.mov (.t 31))⟩,
  ⟨(some 33), (some (32, true)), .v (.off (.t 1) 0)⟩,
  ⟨(some 34), (some (32, true)), .v (.off (.t 33) 7)⟩,
  ⟨(some 35), (some (32, true)), .v (.load (.t 34) none)⟩,
  ⟨(some 36), (some (32, true)), .call (.c (.fn 65 [])) [(.t 35), (.c (.int .i64 (0))), (.c (.int .i64 (8)))]⟩,
  ⟨(some 37), none, .v (.pick (.t 32) (.t 36) (.c (.lit (.bool false))))⟩,
  ⟨(some 2), none, .v (.mov (.t 37))⟩])
 .ret))
def r54 : List RV := [.t 2]
theorem k54 : (Try.f54.body.bind (cC Try.prog), cR Try.prog Try.f54.results.toList, Try.f54.ntmps) = (some s54, some r54, 38) := by kernel_rfl
theorem q54 : Known Try.prog 54 := ⟨_, Try.func54, by decide, by simp [Try.f54]⟩
def s18 : SC :=
 (.seq (.reg [⟨(some 1), none, .box 25 (.t 0)⟩,
  ⟨(some 2), none, .v (.mov (.c (.int .i64 (0))))⟩])
 (.seq (.seq (.reg [⟨(some 3), none, .v (.load (.t 1) (some 8))⟩,
  ⟨(some 4), none, .bld [(.int .i64 (0)), (.int .i64 (0)), (.int .i64 (0)), (.int .i64 (0)), (.int .i64 (0)), (.int .i64 (0)), (.int .i64 (0)), (.int .i64 (0))] [(0, 8, (.t 3))]⟩,
  ⟨(some 5), none, .call (.c (.fn 54 [])) [(.t 4)]⟩,
  ⟨(some 6), none, .v (.not (.t 5))⟩])
 (.cond (.t 6)
  (.seq (.reg [⟨(some 2), none, .v (.mov (.c (.int .i64 (30))))⟩])
  .ret)
  .skip))
 (.seq (.reg [⟨(some 2), none, .v (.mov (.c (.int .i64 (0))))⟩])
 .ret)))
def r18 : List RV := [.t 2]
theorem k18 : (Try.f18.body.bind (cC Try.prog), cR Try.prog Try.f18.results.toList, Try.f18.ntmps) = (some s18, some r18, 7) := by kernel_rfl
theorem q18 : Known Try.prog 18 := ⟨_, Try.func18, by decide, by simp [Try.f18]⟩
def s85 : SC :=
 (.seq (.reg [⟨(some 3), none, .box 23 (.t 0)⟩,
  ⟨(some 6), none, .new 23 [(.int .i64 (0)), (.int .i64 (0))]⟩])
 (.seq (.seq (.reg [⟨(some 7), none, .v (.mov (.t 2))⟩])
 (.cond (.t 7)
  (.seq (.reg [⟨(some 8), none, .v (.mov (.t 1))⟩,
   ⟨(some 9), none, .v (.mov (.t 1))⟩,
   ⟨(some 10), none, .bld [(.int .i64 (0)), (.int .i64 (0))] [(0, 1, (.t 8)), (1, 1, (.t 9))]⟩,
   ⟨none, none, .store 2 (.t 6) (.t 10)⟩])
  .ret)
  .skip))
 (.seq (.reg [⟨(some 11), none, .v (.off (.t 3) 0)⟩,
  ⟨(some 12), none, .v (.load (.t 11) none)⟩,
  ⟨(some 13), none, .v (.mov (.t 1))⟩,
  ⟨(some 14), none, .v (.min2 (.t 12) (.t 13))⟩,
  ⟨(some 15), none, .v (.off (.t 3) 1)⟩,
  ⟨(some 16), none, .v (.load (.t 15) none)⟩,
  ⟨(some 17), none, .v (.mov (.t 1))⟩,
  ⟨(some 18), none, .v (.max2 (.t 16) (.t 17))⟩,
  ⟨(some 19), none, .bld [(.int .i64 (0)), (.int .i64 (0))] [(0, 1, (.t 14)), (1, 1, (.t 18))]⟩,
  ⟨none, none, .store 2 (.t 6) (.t 19)⟩])
 .ret)))
def r85 : List RV := [.c 6 (some 2)]
theorem k85 : (Try.f85.body.bind (cC Try.prog), cR Try.prog Try.f85.results.toList, Try.f85.ntmps) = (some s85, some r85, 20) := by kernel_rfl
theorem q85 : Known Try.prog 85 := ⟨_, Try.func85, by decide, by simp [Try.f85]⟩
def s57 : SC :=
 (.seq (.reg [⟨(some 0), none, .new 88 [(.int .i64 (0)), (.int .i64 (0)), (.int .i64 (0)), (.int .i64 (0))]⟩])
 (.seq (.reg [⟨(some 1), none, .call (.c (.fn 82 [])) []⟩,
  ⟨(some 2), none, .call (.c (.fn 82 [])) []⟩,
  ⟨(some 3), none, .bld [(.int .i64 (0)), (.int .i64 (0)), (.int .i64 (0)), (.int .i64 (0))] [(0, 2, (.t 1)), (2, 2, (.t 2))]⟩,
  ⟨none, none, .store 4 (.t 0) (.t 3)⟩])
 .ret))
def r57 : List RV := [.c 0 (some 4)]
theorem k57 : (Try.f57.body.bind (cC Try.prog), cR Try.prog Try.f57.results.toList, Try.f57.ntmps) = (some s57, some r57, 4) := by kernel_rfl
theorem q57 : Known Try.prog 57 := ⟨_, Try.func57, by decide, by simp [Try.f57]⟩
def s82 : SC :=
 (.seq (.reg [⟨(some 0), none, .new 23 [(.int .i64 (0)), (.int .i64 (0))]⟩])
 (.seq (.reg [⟨(some 1), none, .bld [(.int .i64 (0)), (.int .i64 (0))] [(0, 1, (.c (.int .i64 (1)))), (1, 1, (.c (.int .i64 (0))))]⟩,
  ⟨none, none, .store 2 (.t 0) (.t 1)⟩])
 .ret))
def r82 : List RV := [.c 0 (some 2)]
theorem k82 : (Try.f82.body.bind (cC Try.prog), cR Try.prog Try.f82.results.toList, Try.f82.ntmps) = (some s82, some r82, 2) := by kernel_rfl
theorem q82 : Known Try.prog 82 := ⟨_, Try.func82, by decide, by simp [Try.f82]⟩
def s81 : SC :=
 (.seq (.reg [⟨(some 2), none, .box 23 (.t 0)⟩,
  ⟨(some 3), none, .box 23 (.t 1)⟩,
  ⟨(some 4), none, .new 23 [(.int .i64 (0)), (.int .i64 (0))]⟩])
 (.seq (.reg [⟨(some 6), none, .v (.off (.t 2) 0)⟩,
  ⟨(some 7), none, .v (.load (.t 6) none)⟩,
  ⟨(some 8), none, .v (.off (.t 3) 0)⟩,
  ⟨(some 9), none, .v (.load (.t 8) none)⟩,
  ⟨(some 10), none, .v (.max2 (.t 7) (.t 9))⟩,
  ⟨(some 11), none, .v (.off (.t 2) 1)⟩,
  ⟨(some 12), none, .v (.load (.t 11) none)⟩,
  ⟨(some 13), none, .v (.off (.t 3) 1)⟩,
  ⟨(some 14), none, .v (.load (.t 13) none)⟩,
  ⟨(some 15), none, .v (.min2 (.t 12) (.t 14))⟩,
  ⟨(some 16), none, .bld [(.int .i64 (0)), (.int .i64 (0))] [(0, 1, (.t 10)), (1, 1, (.t 15))]⟩,
  ⟨(some 5), none, .new 23 [(.int .i64 (0)), (.int .i64 (0))]⟩,
  ⟨none, none, .store 2 (.t 5) (.t 16)⟩])
 (.seq (.seq (.reg [⟨(some 17), none, .v (.off (.t 5) 0)⟩,
  ⟨(some 18), none, .v (.load (.t 17) none)⟩,
  ⟨(some 19), none, .v (.off (.t 5) 1)⟩,
  ⟨(some 20), none, .v (.load (.t 19) none)⟩,
  ⟨(some 21), none, .v (.bin .gtr (.t 18) (.t 20))⟩])
 (.cond (.t 21)
  (.seq (.reg [⟨(some 22), none, .call (.c (.fn 82 [])) []⟩,
   ⟨none, none, .store 2 (.t 4) (.t 22)⟩])
  .ret)
  .skip))
 (.seq (.reg [⟨(some 23), none, .v (.load (.t 5) (some 2))⟩,
  ⟨none, none, .store 2 (.t 4) (.t 23)⟩])
 .ret))))
def r81 : List RV := [.c 4 (some 2)]
theorem k81 : (Try.f81.body.bind (cC Try.prog), cR Try.prog Try.f81.results.toList, Try.f81.ntmps) = (some s81, some r81, 24) := by kernel_rfl
theorem q81 : Known Try.prog 81 := ⟨_, Try.func81, by decide, by simp [Try.f81]⟩
def s83 : SC :=
 (.seq (.reg [⟨(some 2), none, .box 23 (.t 0)⟩,
  ⟨(some 3), none, .box 23 (.t 1)⟩,
  ⟨(some 4), none, .new 23 [(.int .i64 (0)), (.int .i64 (0))]⟩])
 (.seq (.seq (.drw [(0, ⟨(some 5), none, .v (.load (.t 2) (some 2))⟩, false),
  (1, ⟨(some 6), none, .call (.c (.fn 82 [])) []⟩, false)]
  none
  [⟨(some 7), none, .v (.eqs [(some .i64), (some .i64)] false (.t 5) (.t 6))⟩])
 (.cond (.t 7)
  (.seq (.reg [⟨(some 8), none, .v (.load (.t 3) (some 2))⟩,
   ⟨none, none, .store 2 (.t 4) (.t 8)⟩])
  .ret)
  .skip))
 (.seq (.reg [⟨(some 9), none, .v (.off (.t 2) 0)⟩,
  ⟨(some 10), none, .v (.load (.t 9) none)⟩,
  ⟨(some 11), none, .v (.off (.t 3) 0)⟩,
  ⟨(some 12), none, .v (.load (.t 11) none)⟩,
  ⟨(some 13), none, .v (.min2 (.t 10) (.t 12))⟩,
  ⟨(some 14), none, .v (.off (.t 2) 1)⟩,
  ⟨(some 15), none, .v (.load (.t 14) none)⟩,
  ⟨(some 16), none, .v (.off (.t 3) 1)⟩,
  ⟨(some 17), none, .v (.load (.t 16) none)⟩,
  ⟨(some 18), none, .v (.max2 (.t 15) (.t 17))⟩,
  ⟨(some 19), none, .bld [(.int .i64 (0)), (.int .i64 (0))] [(0, 1, (.t 13)), (1, 1, (.t 18))]⟩,
  ⟨none, none, .store 2 (.t 4) (.t 19)⟩])
 .ret)))
def r83 : List RV := [.c 4 (some 2)]
theorem k83 : (Try.f83.body.bind (cC Try.prog), cR Try.prog Try.f83.results.toList, Try.f83.ntmps) = (some s83, some r83, 20) := by kernel_rfl
theorem q83 : Known Try.prog 83 := ⟨_, Try.func83, by decide, by simp [Try.f83]⟩
def s94 : SC :=
 (.seq (.reg [⟨(some 2), none, .box 78 (.t 0)⟩,
  ⟨(some 4), none, .new 23 [(.int .i64 (0)), (.int .i64 (0))]⟩])
 (.seq (.reg [⟨(some 5), none, .v (.mov (.t 1))⟩,
  ⟨(some 6), none, .v (.off (.t 2) 0)⟩,
  ⟨(some 7), none, .v (.off (.t 6) 7)⟩,
  ⟨(some 8), none, .v (.load (.t 7) none)⟩,
  ⟨(some 9), none, .v (.bin .sub (.t 5) (.t 8))⟩,
  ⟨(some 10), none, .v (.mov (.t 1))⟩,
  ⟨(some 11), none, .v (.off (.t 2) 0)⟩,
  ⟨(some 12), none, .v (.off (.t 11) 7)⟩,
  ⟨(some 13), none, .v (.load (.t 12) none)⟩,
  ⟨(some 14), none, .v (.bin .add (.t 10) (.t 13))⟩,
  ⟨(some 15), none, .bld [(.int .i64 (0)), (.int .i64 (0))] [(0, 1, (.t 9)), (1, 1, (.t 14))]⟩,
  ⟨none, none, .store 2 (.t 4) (.t 15)⟩])
 .ret))
def r94 : List RV := [.c 4 (some 2)]
theorem k94 : (Try.f94.body.bind (cC Try.prog), cR Try.prog Try.f94.results.toList, Try.f94.ntmps) = (some s94, some r94, 16) := by kernel_rfl
theorem q94 : Known Try.prog 94 := ⟨_, Try.func94, by decide, by simp [Try.f94]⟩
def s84 : SC :=
 (.seq (.reg [⟨(some 2), none, .box 78 (.t 0)⟩,
  ⟨(some 3), none, .box 23 (.t 1)⟩,
  ⟨(some 4), none, .new 23 [(.int .i64 (0)), (.int .i64 (0))]⟩])
 (.seq (.reg [⟨(some 5), none, .v (.off (.t 2) 0)⟩,
  ⟨(some 6), none, .v (.off (.t 5) 3)⟩,
  ⟨(some 7), none, .v (.off (.t 6) 0)⟩,
  ⟨(some 8), none, .v (.load (.t 7) none)⟩,
  ⟨(some 9), none, .v (.off (.t 3) 0)⟩,
  ⟨(some 10), none, .v (.load (.t 9) none)⟩,
  ⟨(some 11), none, .v (.bin .mul (.t 8) (.t 10))⟩,
  ⟨(some 12), none, .v (.off (.t 2) 0)⟩,
  ⟨(some 13), none, .v (.off (.t 12) 3)⟩,
  ⟨(some 14), none, .v (.off (.t 13) 1)⟩,
  ⟨(some 15), none, .v (.load (.t 14) none)⟩,
  ⟨(some 16), none, .v (.off (.t 3) 0)⟩,
  ⟨(some 17), none, .v (.load (.t 16) none)⟩,
  ⟨(some 18), none, .v (.bin .mul (.t 15) (.t 17))⟩,
  ⟨(some 19), none, .v (.min2 (.t 11) (.t 18))⟩,
  ⟨(some 20), none, .v (.off (.t 2) 0)⟩,
  ⟨(some 21), none, .v (.off (.t 20) 3)⟩,
  ⟨(some 22), none, .v (.off (.t 21) 0)⟩,
  ⟨(some 23), none, .v (.load (.t 22) none)⟩,
  ⟨(some 24), none, .v (.off (.t 3) 1)⟩,
  ⟨(some 25), none, .v (.load (.t 24) none)⟩,
  ⟨(some 26), none, .v (.bin .mul (.t 23) (.t 25))⟩,
  ⟨(some 27), none, .v (.off (.t 2) 0)⟩,
  ⟨(some 28), none, .v (.off (.t 27) 3)⟩,
  ⟨(some 29), none, .v (.off (.t 28) 1)⟩,
  ⟨(some 30), none, .v (.load (.t 29) none)⟩,
  ⟨(some 31), none, .v (.off (.t 3) 1)⟩,
  ⟨(some 32), none, .v (.load (.t 31) none)⟩,
  ⟨(some 33), none, .v (.bin .mul (.t 30) (.t 32))⟩,
  ⟨(some 34), none, .v (.max2 (.t 26) (.t 33))⟩,
  ⟨(some 35), none, .bld [(.int .i64 (0)), (.int .i64 (0))] [(0, 1, (.t 19)), (1, 1, (.t 34))]⟩,
  ⟨none, none, .store 2 (.t 4) (.t 35)⟩])
 .ret))
def r84 : List RV := [.c 4 (some 2)]
theorem k84 : (Try.f84.body.bind (cC Try.prog), cR Try.prog Try.f84.results.toList, Try.f84.ntmps) = (some s84, some r84, 36) := by kernel_rfl
theorem q84 : Known Try.prog 84 := ⟨_, Try.func84, by decide, by simp [Try.f84]⟩
structure Vl where
 (m l1 l2 v1 v2 z1 z2 w : Int)
def Vl.sv (v : Vl) : SV := .agg [.int .i64 v.m, .int .i64 v.l1, .int .i64 v.l2, .int .i64 v.v1, .int .i64 v.v2, .int .i64 v.z1, .int .i64 v.z2, .int .i64 v.w]
def Vl.ok (v : Vl) : Prop := (10 ≤ v.m ∧ v.m ≤ 200) ∧ ((1 ≤ v.l1 ∧ v.l1 ≤ v.l2) ∧ v.l2 ≤ v.m) ∧ ((1 ≤ v.v1 ∧ v.v1 ≤ v.v2) ∧ v.v2 ≤ 500) ∧ ((0 ≤ v.z1 ∧ v.z1 ≤ v.z2) ∧ v.z2 ≤ 2 * v.m) ∧ (0 ≤ v.w ∧ v.w ≤ 8)
instance (v : Vl) : Decidable v.ok := by unfold Vl.ok; infer_instance
def Vl.chk (v : Vl) : Int := if v.ok then 0 else 30
def C19 : PC := fun args K => ∃ v : Vl, args = [v.sv] ∧ K (.int .i64 v.chk)
theorem p19 : PureOk Try.prog 19 C19 := by
 refine pure_of (T := [(42, .fc F42), (55, .fc F55)]) ⟨⟨p42, q42⟩, ⟨p55, q55⟩, trivial⟩ Try.func19 k19 ?_
 rintro args K ⟨v, rfl, hK⟩
 obtain ⟨m, l1, l2, v1, v2, z1, z2, w⟩ := v
 simp only [Vl.sv] at hK ⊢
 simp only [xCb, xAw, xAn, xAp, xAu, xBa, xAm, xAb, xAa, xBj, xBx, xCr, xCo, xAc, xAd, xCd, vK_e, xBd, xAr, xAj, xAo, xAy, xAf, xAe, xBo, xCe, xBk, xAs, xAl, xAq, xAv, xAz, pc_e, xAx, xBh, xBi, evp, bin, gt, gq, st, putf, X.get, gets, ap, mkfr, rep, rdR, tupled, clV, clL, clS, clo, ld, lda, tk, dr, cs1, gb, pb, ln, lk, undef, Nat.reduceSub, Nat.reduceAdd, Nat.reduceBEq, beq_self_eq_true, true_and, decide_eq_true_eq, decide_eq_false_iff_not, s19, r19, F42, F55]
 have hy : Vl.ok ⟨m, l1, l2, v1, v2, z1, z2, w⟩ → ∃ r', K r' ∧ leR 4 (SV.int IntKind.i64 0) r' := fun h => by rw [Vl.chk, if_pos h] at hK; exact res hK (by simp [leR])
 have hn : ¬ Vl.ok ⟨m, l1, l2, v1, v2, z1, z2, w⟩ → ∃ r', K r' ∧ leR 4 (SV.int IntKind.i64 30) r' := fun h => by rw [Vl.chk, if_neg h] at hK; exact res hK (by simp [leR])
 exact ⟨fun a => ⟨fun b => ⟨fun c => ⟨by omega, fun d => ⟨fun e => hy ⟨a, b, c, d, e⟩, fun e => hn fun h => e h.2.2.2.2⟩, fun d => hn fun h => d h.2.2.2.1⟩, fun c => hn fun h => c h.2.2.1⟩, fun b => hn fun h => b h.2.1⟩, fun a => hn fun h => a h.1⟩
def C54 : PC := fun args K => ∃ v : Vl, args = [.agg [.int .i64 v.m, .int .i64 v.l1, .int .i64 v.l2, .int .i64 v.v1, .int .i64 v.v2, .int .i64 v.z1, .int .i64 v.z2, .int .i64 v.w]] ∧ K (.bool (decide v.ok))
theorem p54 : PureOk Try.prog 54 C54 := by
 refine pure_of (T := [(65, .fc F42), (64, .fc F55)]) ⟨⟨p65, q65⟩, ⟨p64, q64⟩, trivial⟩ Try.func54 k54 ?_
 rintro args K ⟨v, rfl, hK⟩
 obtain ⟨m, l1, l2, v1, v2, z1, z2, w⟩ := v
 simp only [xCb, xAn, xAp, xBa, xAm, xAb, xAa, xBj, xBx, xCr, xCo, xAc, xAd, xCd, vK_e, xBd, xAr, xAj, xAo, xAy, xAf, xAe, xAs, xAl, xAq, xAv, xAz, pc_e, xAx, xBh, xBi, evp, bin, gt, gq, st, putf, X.get, gets, ap, mkfr, rep, rdR, tupled, clV, clL, clS, clo, ld, lda, tk, dr, cs1, gb, pb, ln, lk, undef, Nat.reduceSub, Nat.reduceAdd, Nat.reduceBEq, beq_self_eq_true, true_and, decide_eq_true_eq, decide_eq_false_iff_not, s54, r54, F42, F55]
 have hn : ¬ Vl.ok ⟨m, l1, l2, v1, v2, z1, z2, w⟩ → ∃ r', K r' ∧ leR 4 (SV.lit (.bool false)) r' := fun h => by rw [decide_eq_false h] at hK; exact res hK (by simp [leR])
 refine ⟨fun a => ⟨fun b => ⟨fun c => ⟨by omega, fun d => ?_, fun d => hn fun h => d h.2.2.2.1⟩, fun c => hn fun h => c h.2.2.1⟩, fun b => hn fun h => b h.2.1⟩, fun a => hn fun h => a h.1⟩
 refine res hK ?_
 simp only [leR, Vl.ok, a, b, c, d, and_self, true_and]
def C18 : PC := C19
theorem p18 : PureOk Try.prog 18 C18 := by
 refine pure_of (T := [(54, .pc C54)]) ⟨⟨p54, q54⟩, trivial⟩ Try.func18 k18 ?_
 rintro args K ⟨v, rfl, hK⟩
 simp only [Vl.sv, Vl.chk] at hK ⊢
 simp only [xAn, xAp, xAm, xAb, xAa, xAc, xAd, vK_e, xBd, xBn, xAr, xAj, xAo, xAy, xBf, xAf, xAe, xAv, xBe, pc_e, xAx, evp, gt, st, putf, X.get, gets, getp, ap, mkfr, rep, clV, clL, clS, clo, ld, lda, tk, dr, sp, sp.spl, lay, ll, cs1, gb, pb, ln, lk, undef, Nat.reduceSub, Nat.reduceAdd, beq_self_eq_true, true_and, s18, r18]
 refine ⟨v, rfl, ?_⟩
 simp only [xAw, xAn, xAp, xAu, xBa, xAm, xAb, xAa, xAc, xAd, vK_e, xAo, xAe, xBo, xBk, xAs, xAl, xAq, evp, gt, st, putf, X.get, rdR, tupled, clV, clS, clo, Bool.not_true, Bool.not_false, true_and, decide_eq_true_eq, decide_eq_false_iff_not, Bool.not_eq_eq_eq_not]
 refine ⟨fun h => ?_, fun h => ?_⟩
 ·rw [if_neg (by simpa using h)] at hK; exact res hK (by simp [leR])
 ·rw [if_pos (by simpa using h)] at hK; exact res hK (by simp [leR])
def F82 : FC := fun args => match args with
 | [] => some (True, .agg [.int .i64 1, .int .i64 0])
 | _ => none
theorem p82 : PureOk Try.prog 82 (fcC F82) := by
 refine pure_of (T := []) trivial Try.func82 k82 ?_
 intro args K hC
 unfold fcC F82 at hC
 split at hC <;> first | (exact hC.elim) | skip
 rename_i h
 split at h <;> first | (cases h; done) | skip
 cases h
 obtain ⟨-, hK⟩ := hC
 simp only [↓reduceIte, xAn, and_self, xAp, xBa, xAm, xAb, xAa, xAc, xAd, xBn, xAg, xAh, xAk, xAt, xBf, xAi, xAe, xAs, xAl, xAq, gt, st, putf, X.get, getp, mkfr, rep, rdR, tupled, clV, clL, clS, clo, ld, tk, dr, sp, sp.spl, lay, ll, cs1, one, allOne, gb, sb, pb, ln, undef, Bool.and_true, Nat.reduceAdd, beq_self_eq_true, true_and, s82, r82]
 exact res hK (by simp [leR, leR.leRs])
def cmL (a b c d : Int) : Int := if max a c ≤ min b d then max a c else 1
def cmH (a b c d : Int) : Int := if max a c ≤ min b d then min b d else 0
def F81 : FC := fun args => match args with
 | [.agg [.int .i64 a, .int .i64 b], .agg [.int .i64 c, .int .i64 d]] => some (True, .agg [.int .i64 (cmL a b c d), .int .i64 (cmH a b c d)])
 | _ => none
theorem p81 : PureOk Try.prog 81 (fcC F81) := by
 refine pure_of (T := [(82, .fc F82)]) ⟨⟨p82, q82⟩, trivial⟩ Try.func81 k81 ?_
 intro args K hC
 unfold fcC F81 at hC
 split at hC <;> first | (exact hC.elim) | skip
 rename_i h
 split at h <;> first | (cases h; done) | skip
 cases h
 obtain ⟨-, hK⟩ := hC
 simp only [↓reduceIte, xAw, xAn, and_self, xAp, xAu, xBa, xAm, xAb, xAa, xAc, xAd, vK_e, xBd, xBn, xAg, xAh, xAk, xAr, xAj, xAo, xAt, xAy, xBf, xAi, xAf, xAe, xBo, xBk, xAs, xAl, xAq, xAv, xAz, pc_e, xAx, xBh, xBi, evp, bin, gt, gq, st, putf, X.get, gets, getp, ap, mkfr, rep, rdR, tupled, clV, clL, clS, clo, ld, lda, tk, dr, sp, sp.spl, lay, ll, cs1, one, allOne, gb, sb, pb, ln, lk, Value.oneCell', undef, Bool.and_true, Nat.reduceSub, Nat.reduceAdd, beq_self_eq_true, true_and, decide_eq_true_eq, decide_eq_false_iff_not, s81, r81, F82]
 refine ⟨fun h => res hK ?_, fun h => res hK ?_⟩ <;> (simp only [leR, leR.leRs, cmL, cmH]; refine ⟨?_, ?_, trivial⟩ <;> simp <;> omega)
def arL (a b c d : Int) : Int := if a = 1 ∧ b = 0 then c else min a c
def arH (a b c d : Int) : Int := if a = 1 ∧ b = 0 then d else max b d
def F83 : FC := fun args => match args with
 | [.agg [.int .i64 a, .int .i64 b], .agg [.int .i64 c, .int .i64 d]] => some ((-9223372036854775808 ≤ a ∧ a ≤ 9223372036854775807) ∧ -9223372036854775808 ≤ b ∧ b ≤ 9223372036854775807, .agg [.int .i64 (arL a b c d), .int .i64 (arH a b c d)])
 | _ => none
theorem p83 : PureOk Try.prog 83 (fcC F83) := by
 refine pure_of (T := [(82, .fc F82)]) ⟨⟨p82, q82⟩, trivial⟩ Try.func83 k83 ?_
 intro args K hC
 unfold fcC F83 at hC
 split at hC <;> first | (exact hC.elim) | skip
 rename_i h
 split at h <;> first | (cases h; done) | skip
 cases h
 obtain ⟨hb, hK⟩ := hC
 simp only [↓reduceIte, List.cons.injEq, xAw, xAn, and_self, xCi, xAp, xAu, xBa, xAm, xAb, xAa, xAc, xAd, vK_e, xBd, xBn, xAg, xAh, xAk, xAo, xAt, xAy, xBf, xAi, dX_e, dG_t, xCj, xBt, xCm, xAe, xBo, xBk, xAs, xAl, xAq, xCa, xBs, evp, fit, InQ, gt, gq, st, putf, X.get, gets, getp, ap, mkfr, rep, rdR, tupled, clV, clL, clS, clo, clo.clos, ld, lda, tk, dr, sp, sp.spl, lay, ll, cs1, one, allOne, gb, sb, pb, ln, lk, evq, gdl, undef, Bool.and_true, cond_false, Nat.reduceSub, Nat.reduceAdd, beq_self_eq_true, true_and, and_true, decide_eq_true_eq, decide_eq_false_iff_not, s83, r83, F82]
 refine ⟨⟨hb, by omega⟩, fun h => res hK ?_, fun h => res hK ?_⟩ <;> (simp only [leR, leR.leRs, arL, arH, h]; refine ⟨?_, ?_, trivial⟩ <;> simp <;> omega)
def Vl.cells (v : Vl) : List SV := [.int .i64 v.m, .int .i64 v.l1, .int .i64 v.l2, .int .i64 v.v1, .int .i64 v.v2, .int .i64 v.z1, .int .i64 v.z2, .int .i64 v.w]
def C94 : PC := fun args K => ∃ (v : Vl) (x : Int), args = [v.sv, .int .i64 x] ∧ (v.ok ∧ -1000000 ≤ x ∧ x ≤ 1000000) ∧ K (.agg [.int .i64 (x - v.w), .int .i64 (x + v.w)])
theorem p94 : PureOk Try.prog 94 C94 := by
 refine pure_of (T := []) trivial Try.func94 k94 ?_
 rintro args K ⟨v, x, rfl, ⟨hv, hx⟩, hK⟩
 obtain ⟨m, l1, l2, v1, v2, z1, z2, w⟩ := v
 simp only [Vl.sv, Vl.ok] at hK hv ⊢
 simp only [xCb, ↓reduceIte, xAn, and_self, xAp, xBa, xAm, xAb, xAa, xAc, xAd, vK_e, xBd, xBn, xAg, xAh, xAk, xAo, xAt, xAy, xBf, xAi, xAe, xAs, xAl, xAq, evp, bin, gt, gq, st, putf, X.get, getp, mkfr, rep, rdR, tupled, clV, clL, clS, clo, ld, lda, tk, dr, sp, sp.spl, lay, ll, cs1, one, allOne, gb, sb, pb, ln, undef, Bool.and_true, Nat.reduceSub, Nat.reduceAdd, beq_self_eq_true, true_and, s94, r94]
 exact ⟨by omega, by omega, res hK (by simp [leR, leR.leRs])⟩
def Vl.tl (v : Vl) (a : Int) : Int := min (v.v1 * a) (v.v2 * a)
def Vl.th (v : Vl) (b : Int) : Int := max (v.v1 * b) (v.v2 * b)
def C84 : PC := fun args K => ∃ (v : Vl) (a b : Int), args = [v.sv, .agg [.int .i64 a, .int .i64 b]] ∧ (v.ok ∧ (-1000000 ≤ a ∧ a ≤ 1000000) ∧ -1000000 ≤ b ∧ b ≤ 1000000) ∧ K (.agg [.int .i64 (v.tl a), .int .i64 (v.th b)])
theorem p84 : PureOk Try.prog 84 C84 := by
 refine pure_of (T := []) trivial Try.func84 k84 ?_
 rintro args K ⟨v, a, b, rfl, ⟨hv, ha, hb⟩, hK⟩
 obtain ⟨m, l1, l2, v1, v2, z1, z2, w⟩ := v
 simp only [Vl.sv, Vl.ok, Vl.tl, Vl.th] at hK hv ⊢
 simp only [xCb, ↓reduceIte, xAn, and_self, xAp, xBa, xAm, xAb, xAa, xAc, xAd, vK_e, xBd, xBn, xAg, xAh, xAk, xAo, xAt, xAy, xBf, xAi, xAe, xAs, xAl, xAq, evp, bin, gt, gq, st, putf, X.get, getp, mkfr, rep, rdR, tupled, clV, clL, clS, clo, ld, lda, tk, dr, sp, sp.spl, lay, ll, cs1, one, allOne, gb, sb, pb, ln, undef, Bool.and_true, Nat.reduceSub, Nat.reduceAdd, beq_self_eq_true, true_and, s84, r84]
 have bd : ∀ v x : Int, 1 ≤ v → v ≤ 500 → -1000000 ≤ x → x ≤ 1000000 → -9223372036854775808 ≤ v * x ∧ v * x ≤ 9223372036854775807 := fun v x h1 h2 h3 h4 => by
  have e1 := Int.mul_le_mul_of_nonneg_left h4 (show 0 ≤ v by omega)
  have e2 := Int.mul_le_mul_of_nonneg_left h3 (show 0 ≤ v by omega)
  omega
 refine ⟨bd _ _ (by omega) (by omega) ha.1 ha.2, bd _ _ (by omega) (by omega) ha.1 ha.2, bd _ _ (by omega) (by omega) hb.1 hb.2, bd _ _ (by omega) (by omega) hb.1 hb.2, res hK ?_⟩
 simp only [leR, leR.leRs]
 refine ⟨?_, ?_, trivial⟩ <;> simp <;> omega
def Vl.rch (v : Vl) (t : Int) : Prop := t ≤ v.v1 * min (v.z1 - v.l2) (2 * v.m - v.l2 - v.z2)
instance (v : Vl) (t : Int) : Decidable (v.rch t) := by unfold Vl.rch; infer_instance
end Go.Proofs.Ytgdihdiadlmjiaa
end
section
namespace Go.Proofs.Ytgdihdiadlmjiaa
open Go Go.Vg
set_option maxRecDepth 10000
def s52 : SC :=
 (.seq (.reg [⟨(some 3), none, .box 25 (.t 0)⟩,
  ⟨(some 6), none, .v (.mov (.c (.int .i64 (0))))⟩,
  ⟨(some 7), none, .v (.mov (.c (.int .i64 (0))))⟩])
 (.seq (.reg [⟨(some 8), none, .v (.mov (.c (.int .i64 (-10000))))⟩,
  ⟨(some 9), none, .v (.mov (.c (.int .i64 (10000))))⟩])
 (.seq (.seq (.reg [⟨(some 10), none, .v (.mov (.c (.int .i64 (0))))⟩])
 (.block 0 (.loop
  (.seq (.seq (.reg [⟨(some 12), none, .v (.mov (.t 10))⟩,
   ⟨(some 13), none, .v (.mov (.t 1))⟩,
   ⟨(some 14), none, .v (.len (.t 13))⟩,
   ⟨(some 15), none, .v (.bin .lss (.t 12) (.t 14))⟩])
  (.cond (.t 15)
   .skip
   (.exit 0)))
  (.seq (.block 1 (.seq (.reg [⟨(some 18), none, .v (.mov (.t 1))⟩,
   ⟨(some 19), none, .v (.mov (.t 10))⟩,
   ⟨(some 20), none, .v (.ixa (.t 18) (.t 19) 2)⟩,
   ⟨(some 21), none, .v (.off (.t 20) 0)⟩,
   ⟨(some 22), none, .v (.load (.t 21) none)⟩,
   ⟨(some 23), none, .v (.mov (.t 2))⟩,
   ⟨(some 24), none, .v (.bin .sub (.t 22) (.t 23))⟩,
   ⟨(some 11), none, .v (.mov (.t 24))⟩])
  (.seq (.seq (.reg [⟨(some 25), none, .v (.mov (.t 1))⟩,
   ⟨(some 26), none, .v (.mov (.t 10))⟩,
   ⟨(some 27), none, .v (.ixa (.t 25) (.t 26) 2)⟩,
   ⟨(some 28), none, .v (.off (.t 27) 1)⟩,
   ⟨(some 29), none, .v (.load (.t 28) none)⟩])
  (.cond (.t 29)
   (.reg [⟨(some 30), none, .v (.mov (.t 11))⟩,
    ⟨(some 31), none, .v (.neg (.t 30))⟩,
    ⟨(some 11), none, .v (.mov (.t 31))⟩])
   .skip))
  (.drw [(0, ⟨(some 32), none, .v (.mov (.t 8))⟩, false),
   (1, ⟨(some 33), none, .v (.mov (.t 11))⟩, false),
   (2, ⟨(some 34), none, .v (.off (.t 3) 7)⟩, false),
   (3, ⟨(some 35), none, .v (.load (.t 34) none)⟩, false),
   (4, ⟨(some 36), none, .v (.bin .sub (.t 33) (.t 35))⟩, false),
   (5, ⟨(some 37), none, .v (.max2 (.t 32) (.t 36))⟩, false),
   (6, ⟨(some 38), none, .v (.mov (.t 9))⟩, false),
   (7, ⟨(some 39), none, .v (.mov (.t 11))⟩, false),
   (8, ⟨(some 40), none, .v (.off (.t 3) 7)⟩, false),
   (9, ⟨(some 41), none, .v (.load (.t 40) none)⟩, false),
   (10, ⟨(some 42), none, .v (.bin .add (.t 39) (.t 41))⟩, false),
   (11, ⟨(some 43), none, .v (.min2 (.t 38) (.t 42))⟩, false),
   (12, ⟨(some 8), none, .v (.mov (.t 37))⟩, false)]
   none
   [⟨(some 9), none, .v (.mov (.t 43))⟩]))))
  (.reg [⟨(some 16), none, .v (.mov (.t 10))⟩,
   ⟨(some 17), none, .v (.bin .add (.t 16) (.c (.int .i64 (1))))⟩,
   ⟨(some 10), none, .v (.mov (.t 17))⟩]))))))
 (.seq (.reg [⟨(some 44), none, .v (.mov (.t 8))⟩,
  ⟨(some 45), none, .v (.mov (.t 9))⟩,
  ⟨(some 6), none, .v (.mov (.t 44))⟩,
  ⟨(some 7), none, .v (.mov (.t 45))⟩])
 .ret))))
def r52 : List RV := [.t 6, .t 7]
theorem k52 : (Try.f52.body.bind (cC Try.prog), cR Try.prog Try.f52.results.toList, Try.f52.ntmps) = (some s52, some r52, 46) := by kernel_rfl
theorem q52 : Known Try.prog 52 := ⟨_, Try.func52, by decide, by simp [Try.f52]⟩
def s58 : SC :=
 (.seq (.reg [⟨(some 2), none, .box 25 (.t 0)⟩,
  ⟨(some 4), none, .new 23 [(.int .i64 (0)), (.int .i64 (0))]⟩,
  ⟨(some 5), none, .new 23 [(.int .i64 (0)), (.int .i64 (0))]⟩,
  ⟨(some 6), none, .v (.mov (.c (.lit (.bool false))))⟩])
 (.seq (.reg [⟨(some 7), none, .new 23 [(.int .i64 (0)), (.int .i64 (0))]⟩,
  ⟨(some 8), none, .new 23 [(.int .i64 (0)), (.int .i64 (0))]⟩])
 (.seq (.reg [⟨(some 9), none, .v (.mov (.c (.lit (.bool false))))⟩])
 (.seq (.seq (.reg [⟨(some 15), none, .v (.off (.t 2) 5)⟩,
  ⟨(some 16), none, .v (.off (.t 15) 0)⟩,
  ⟨(some 17), none, .v (.load (.t 16) none)⟩,
  ⟨(some 10), none, .v (.mov (.t 17))⟩])
 (.block 0 (.loop
  (.seq (.seq (.reg [⟨(some 18), none, .v (.mov (.t 10))⟩,
   ⟨(some 19), none, .v (.off (.t 2) 5)⟩,
   ⟨(some 20), none, .v (.off (.t 19) 1)⟩,
   ⟨(some 21), none, .v (.load (.t 20) none)⟩,
   ⟨(some 22), none, .v (.bin .leq (.t 18) (.t 21))⟩])
  (.cond (.t 22)
   .skip
   (.exit 0)))
  (.seq (.block 1 (.seq (.reg [⟨(some 26), none, .v (.load (.t 2) (some 8))⟩,
   ⟨(some 27), none, .v (.mov (.t 1))⟩,
   ⟨(some 28), none, .v (.mov (.t 10))⟩,
   ⟨(some 29), none, .call (.c (.fn 52 [])) [(.t 26), (.t 27), (.t 28)]⟩,
   ⟨(some 25), none, .v (.mov (.t 29))⟩,
   ⟨(some 30), none, .v (.ext (.t 25) 0)⟩,
   ⟨(some 31), none, .v (.ext (.t 25) 1)⟩,
   ⟨(some 11), none, .v (.mov (.t 30))⟩,
   ⟨(some 12), none, .v (.mov (.t 31))⟩])
  (.seq (.seq (.reg [⟨(some 32), none, .v (.mov (.t 11))⟩,
   ⟨(some 33), none, .v (.mov (.t 12))⟩,
   ⟨(some 34), none, .v (.bin .gtr (.t 32) (.t 33))⟩])
  (.cond (.t 34)
   (.exit 1)
   .skip))
  (.seq (.drw [(0, ⟨(some 35), none, .v (.mov (.t 11))⟩, false),
   (1, ⟨(some 36), none, .v (.off (.t 2) 3)⟩, false),
   (2, ⟨(some 37), none, .v (.off (.t 36) 0)⟩, false),
   (3, ⟨(some 38), none, .v (.load (.t 37) none)⟩, false),
   (4, ⟨(some 39), none, .v (.bin .mul (.t 35) (.t 38))⟩, false),
   (5, ⟨(some 40), none, .v (.mov (.t 11))⟩, false),
   (6, ⟨(some 41), none, .v (.off (.t 2) 3)⟩, false),
   (7, ⟨(some 42), none, .v (.off (.t 41) 1)⟩, false),
   (8, ⟨(some 43), none, .v (.load (.t 42) none)⟩, false),
   (9, ⟨(some 44), none, .v (.bin .mul (.t 40) (.t 43))⟩, false),
   (10, ⟨(some 45), none, .v (.min2 (.t 39) (.t 44))⟩, false),
   (11, ⟨(some 46), none, .v (.mov (.t 12))⟩, false),
   (12, ⟨(some 47), none, .v (.off (.t 2) 3)⟩, false),
   (13, ⟨(some 48), none, .v (.off (.t 47) 0)⟩, false),
   (14, ⟨(some 49), none, .v (.load (.t 48) none)⟩, false),
   (15, ⟨(some 50), none, .v (.bin .mul (.t 46) (.t 49))⟩, false),
   (16, ⟨(some 51), none, .v (.mov (.t 12))⟩, false),
   (17, ⟨(some 52), none, .v (.off (.t 2) 3)⟩, false),
   (18, ⟨(some 53), none, .v (.off (.t 52) 1)⟩, false),
   (19, ⟨(some 54), none, .v (.load (.t 53) none)⟩, false),
   (20, ⟨(some 55), none, .v (.bin .mul (.t 51) (.t 54))⟩, false),
   (21, ⟨(some 56), none, .v (.max2 (.t 50) (.t 55))⟩, false),
   (22, ⟨(some 13), none, .v (.mov (.t 45))⟩, false)]
   none
   [⟨(some 14), none, .v (.mov (.t 56))⟩])
  (.seq (.reg [⟨(some 57), none, .v (.load (.t 7) (some 2))⟩,
   ⟨(some 58), none, .v (.mov (.t 13))⟩,
   ⟨(some 59), none, .v (.mov (.t 9))⟩,
   ⟨(some 60), none, .v (.not (.t 59))⟩,
   ⟨(some 61), none, .call (.c (.fn 85 [])) [(.t 57), (.t 58), (.t 60)]⟩,
   ⟨(some 62), none, .v (.mov (.t 14))⟩,
   ⟨(some 63), none, .call (.c (.fn 85 [])) [(.t 61), (.t 62), (.c (.lit (.bool false)))]⟩,
   ⟨none, none, .store 2 (.t 7) (.t 63)⟩])
  (.seq (.reg [⟨(some 64), none, .v (.load (.t 8) (some 2))⟩,
   ⟨(some 65), none, .v (.mov (.t 10))⟩,
   ⟨(some 66), none, .v (.mov (.t 9))⟩,
   ⟨(some 67), none, .v (.not (.t 66))⟩,
   ⟨(some 68), none, .call (.c (.fn 85 [])) [(.t 64), (.t 65), (.t 67)]⟩,
   ⟨none, none, .store 2 (.t 8) (.t 68)⟩])
  (.reg [⟨(some 9), none, .v (.mov (.c (.lit (.bool true))))⟩])))))))
  (.reg [⟨(some 23), none, .v (.mov (.t 10))⟩,
   ⟨(some 24), none, .v (.bin .add (.t 23) (.c (.int .i64 (1))))⟩,
   ⟨(some 10), none, .v (.mov (.t 24))⟩]))))))
 (.seq (.tre (.op ⟨(some 69), none, .v (.load (.t 7) (some 2))⟩ (.op ⟨(some 70), none, .v (.load (.t 8) (some 2))⟩ (.op ⟨(some 71), none, .v (.mov (.t 9))⟩ (.op ⟨none, none, .store 2 (.t 4) (.t 69)⟩ (.op ⟨none, none, .store 2 (.t 5) (.t 70)⟩ (.op ⟨(some 6), none, .v (.mov (.t 71))⟩ .leaf
  .stop)
  .stop)
  .stop)
  (.op ⟨none, none, .store 2 (.t 4) (.t 69)⟩ (.op ⟨(some 71), none, .v (.mov (.t 9))⟩ (.op ⟨none, none, .store 2 (.t 5) (.t 70)⟩ (.op ⟨(some 6), none, .v (.mov (.t 71))⟩ .leaf
  .stop)
  .stop)
  (.op ⟨none, none, .store 2 (.t 5) (.t 70)⟩ (.op ⟨(some 71), none, .v (.mov (.t 9))⟩ (.op ⟨(some 6), none, .v (.mov (.t 71))⟩ .leaf
  .stop)
  .stop)
  .stop))
  .stop))
  (.op ⟨(some 71), none, .v (.mov (.t 9))⟩ (.op ⟨(some 70), none, .v (.load (.t 8) (some 2))⟩ (.op ⟨none, none, .store 2 (.t 4) (.t 69)⟩ (.op ⟨none, none, .store 2 (.t 5) (.t 70)⟩ (.op ⟨(some 6), none, .v (.mov (.t 71))⟩ .leaf
  .stop)
  .stop)
  .stop)
  (.op ⟨none, none, .store 2 (.t 4) (.t 69)⟩ (.op ⟨(some 70), none, .v (.load (.t 8) (some 2))⟩ (.op ⟨none, none, .store 2 (.t 5) (.t 70)⟩ (.op ⟨(some 6), none, .v (.mov (.t 71))⟩ .leaf
  .stop)
  .stop)
  .stop)
  .stop))
  (.op ⟨none, none, .store 2 (.t 4) (.t 69)⟩ (.op ⟨(some 70), none, .v (.load (.t 8) (some 2))⟩ (.op ⟨(some 71), none, .v (.mov (.t 9))⟩ (.op ⟨none, none, .store 2 (.t 5) (.t 70)⟩ (.op ⟨(some 6), none, .v (.mov (.t 71))⟩ .leaf
  .stop)
  .stop)
  (.op ⟨none, none, .store 2 (.t 5) (.t 70)⟩ (.op ⟨(some 71), none, .v (.mov (.t 9))⟩ (.op ⟨(some 6), none, .v (.mov (.t 71))⟩ .leaf
  .stop)
  .stop)
  .stop))
  (.op ⟨(some 71), none, .v (.mov (.t 9))⟩ (.op ⟨(some 70), none, .v (.load (.t 8) (some 2))⟩ (.op ⟨none, none, .store 2 (.t 5) (.t 70)⟩ (.op ⟨(some 6), none, .v (.mov (.t 71))⟩ .leaf
  .stop)
  .stop)
  .stop)
  .stop))
  .stop)))
  (.op ⟨(some 70), none, .v (.load (.t 8) (some 2))⟩ (.op ⟨(some 69), none, .v (.load (.t 7) (some 2))⟩ (.op ⟨(some 71), none, .v (.mov (.t 9))⟩ (.op ⟨none, none, .store 2 (.t 4) (.t 69)⟩ (.op ⟨none, none, .store 2 (.t 5) (.t 70)⟩ (.op ⟨(some 6), none, .v (.mov (.t 71))⟩ .leaf
  .stop)
  .stop)
  .stop)
  (.op ⟨none, none, .store 2 (.t 4) (.t 69)⟩ (.op ⟨(some 71), none, .v (.mov (.t 9))⟩ (.op ⟨none, none, .store 2 (.t 5) (.t 70)⟩ (.op ⟨(some 6), none, .v (.mov (.t 71))⟩ .leaf
  .stop)
  .stop)
  (.op ⟨none, none, .store 2 (.t 5) (.t 70)⟩ (.op ⟨(some 71), none, .v (.mov (.t 9))⟩ (.op ⟨(some 6), none, .v (.mov (.t 71))⟩ .leaf
  .stop)
  .stop)
  .stop))
  .stop))
  (.op ⟨(some 71), none, .v (.mov (.t 9))⟩ (.op ⟨(some 69), none, .v (.load (.t 7) (some 2))⟩ (.op ⟨none, none, .store 2 (.t 4) (.t 69)⟩ (.op ⟨none, none, .store 2 (.t 5) (.t 70)⟩ (.op ⟨(some 6), none, .v (.mov (.t 71))⟩ .leaf
  .stop)
  .stop)
  .stop)
  .stop)
  .stop))
  (.op ⟨(some 71), none, .v (.mov (.t 9))⟩ (.op ⟨(some 69), none, .v (.load (.t 7) (some 2))⟩ (.op ⟨(some 70), none, .v (.load (.t 8) (some 2))⟩ (.op ⟨none, none, .store 2 (.t 4) (.t 69)⟩ (.op ⟨none, none, .store 2 (.t 5) (.t 70)⟩ (.op ⟨(some 6), none, .v (.mov (.t 71))⟩ .leaf
  .stop)
  .stop)
  .stop)
  (.op ⟨none, none, .store 2 (.t 4) (.t 69)⟩ (.op ⟨(some 70), none, .v (.load (.t 8) (some 2))⟩ (.op ⟨none, none, .store 2 (.t 5) (.t 70)⟩ (.op ⟨(some 6), none, .v (.mov (.t 71))⟩ .leaf
  .stop)
  .stop)
  .stop)
  .stop))
  (.op ⟨(some 70), none, .v (.load (.t 8) (some 2))⟩ (.op ⟨(some 69), none, .v (.load (.t 7) (some 2))⟩ (.op ⟨none, none, .store 2 (.t 4) (.t 69)⟩ (.op ⟨none, none, .store 2 (.t 5) (.t 70)⟩ (.op ⟨(some 6), none, .v (.mov (.t 71))⟩ .leaf
  .stop)
  .stop)
  .stop)
  .stop)
  .stop))
  .stop))))
 .ret)))))
def r58 : List RV := [.c 4 (some 2), .c 5 (some 2), .t 6]
theorem k58 : (Try.f58.body.bind (cC Try.prog), cR Try.prog Try.f58.results.toList, Try.f58.ntmps) = (some s58, some r58, 72) := by kernel_rfl
theorem q58 : Known Try.prog 58 := ⟨_, Try.func58, by decide, by simp [Try.f58]⟩
def s53 : SC :=
 (.seq (.reg [⟨(some 2), none, .v (.mov (.c (.lit (.slice none 0 0))))⟩])
 (.seq (.reg [⟨(some 3), none, .v (.mov (.c (.lit (.slice none 0 0))))⟩])
 (.seq (.seq (.reg [⟨(some 4), none, .v (.mov (.c (.int .i64 (0))))⟩])
 (.block 0 (.loop
  (.seq (.seq (.reg [⟨(some 5), none, .v (.mov (.t 4))⟩,
   ⟨(some 6), none, .v (.mov (.t 0))⟩,
   ⟨(some 7), none, .v (.len (.t 6))⟩,
   ⟨(some 8), none, .v (.bin .lss (.t 5) (.t 7))⟩])
  (.cond (.t 8)
   .skip
   (.exit 0)))
  (.seq (.block 1 (.drw [(0, ⟨(some 11), none, .v (.mov (.t 3))⟩, false),
   (1, ⟨(some 12), none, .v (.mov (.t 0))⟩, false),
   (2, ⟨(some 13), none, .v (.mov (.t 4))⟩, false),
   (3, ⟨(some 14), none, .v (.ixa (.t 12) (.t 13) 3)⟩, false),
   (4, ⟨(some 15), none, .v (.off (.t 14) 0)⟩, false),
   (5, ⟨(some 16), none, .v (.load (.t 15) none)⟩, false),
   (6, ⟨(some 17), none, .v (.mov (.t 0))⟩, false),
   (7, ⟨(some 18), none, .v (.mov (.t 4))⟩, false),
   (8, ⟨(some 19), none, .v (.ixa (.t 17) (.t 18) 3)⟩, false),
   (9, ⟨(some 20), none, .v (.off (.t 19) 1)⟩, false),
   (10, ⟨(some 21), none, .v (.load (.t 20) none)⟩, false),
   (11, ⟨(some 22), none, .v (.bin .add (.t 16) (.t 21))⟩, false),
   (12, ⟨(some 23), none, .v (.mov (.t 0))⟩, false),
   (13, ⟨(some 24), none, .v (.mov (.t 4))⟩, false),
   (14, ⟨(some 25), none, .v (.ixa (.t 23) (.t 24) 3)⟩, false),
   (15, ⟨(some 26), none, .v (.off (.t 25) 2)⟩, false),
   (16, ⟨(some 27), none, .v (.load (.t 26) none)⟩, false),
   (17, ⟨(some 28), none, .bld [(.int .i64 (0)), (.lit (.bool false))] [(0, 1, (.t 22)), (1, 1, (.t 27))]⟩, false)]
   (some ⟨(some 29), none, .bsl 121 1 [(.int .i64 (0)), (.lit (.bool false))] [(0, 2, (.t 28))]⟩)
   [⟨(some 30), none, .app 121 2 16 (.t 11) (.t 29)⟩,
   ⟨(some 3), none, .v (.mov (.t 30))⟩]))
  (.reg [⟨(some 9), none, .v (.mov (.t 4))⟩,
   ⟨(some 10), none, .v (.bin .add (.t 9) (.c (.int .i64 (1))))⟩,
   ⟨(some 4), none, .v (.mov (.t 10))⟩]))))))
 (.seq (.reg [⟨(some 31), none, .v (.mov (.t 3))⟩,
  ⟨(some 2), none, .v (.mov (.t 31))⟩])
 .ret))))
def r53 : List RV := [.t 2]
theorem k53 : (Try.f53.body.bind (cC Try.prog), cR Try.prog Try.f53.results.toList, Try.f53.ntmps) = (some s53, some r53, 32) := by kernel_rfl
theorem q53 : Known Try.prog 53 := ⟨_, Try.func53, by decide, by simp [Try.f53]⟩
abbrev Md := Int × Bool
def rowM (L : List Md) : Nat → List SV := fun j => [.int .i64 (L.getD j (0, false)).1, .bool (L.getD j (0, false)).2]
def nz (z : Int) (e : Md) : Int := if e.2 = true then -(e.1 - z) else e.1 - z
def loW (w z : Int) (L : List Md) : Int := L.foldl (fun a e => max a (nz z e - w)) (-10000)
def hiW (w z : Int) (L : List Md) : Int := L.foldl (fun a e => min a (nz z e + w)) 10000
def okM (L : List Md) : Prop := L.length ≤ 10 ∧ ∀ e ∈ L, -1000 ≤ e.1 ∧ e.1 ≤ 1000
theorem takeM {L : List Md} {i : Nat} (h : i < L.length) : L.take (i + 1) = L.take i ++ [L.getD i (0, false)] := by
 rw [List.take_add_one, List.getElem?_eq_getElem h]; simp [List.getD, h]
theorem memM {L : List Md} {i : Nat} (h : i < L.length) : L.getD i (0, false) ∈ L := by
 simp [List.getD, h]
theorem loW_b {w z : Int} {L : List Md} (hw : 0 ≤ w ∧ w ≤ 8) (hz : -1000 ≤ z ∧ z ≤ 1000) (h : ∀ e ∈ L, -1000 ≤ e.1 ∧ e.1 ≤ 1000) : -10000 ≤ loW w z L ∧ loW w z L ≤ 10000 := by
 unfold loW
 suffices ∀ a : Int, -10000 ≤ a ∧ a ≤ 10000 → -10000 ≤ L.foldl (fun a e => max a (nz z e - w)) a ∧ L.foldl (fun a e => max a (nz z e - w)) a ≤ 10000 from this _ (by omega)
 induction L with
 | nil => exact fun a h => h
 | cons e t ih =>
  intro a ha
  have he := h e (by simp)
  refine ih (fun e h1 => h e (by simp [h1])) _ ?_
  show -10000 ≤ _ ∧ _ ≤ 10000
  have : nz z e = -(e.1 - z) ∨ nz z e = e.1 - z := by unfold nz; split <;> simp
  dsimp only; omega
theorem hiW_b {w z : Int} {L : List Md} (hw : 0 ≤ w ∧ w ≤ 8) (hz : -1000 ≤ z ∧ z ≤ 1000) (h : ∀ e ∈ L, -1000 ≤ e.1 ∧ e.1 ≤ 1000) : -10000 ≤ hiW w z L ∧ hiW w z L ≤ 10000 := by
 unfold hiW
 suffices ∀ a : Int, -10000 ≤ a ∧ a ≤ 10000 → -10000 ≤ L.foldl (fun a e => min a (nz z e + w)) a ∧ L.foldl (fun a e => min a (nz z e + w)) a ≤ 10000 from this _ (by omega)
 induction L with
 | nil => exact fun a h => h
 | cons e t ih =>
  intro a ha
  have he := h e (by simp)
  refine ih (fun e h1 => h e (by simp [h1])) _ ?_
  show -10000 ≤ _ ∧ _ ≤ 10000
  have : nz z e = -(e.1 - z) ∨ nz z e = e.1 - z := by unfold nz; split <;> simp
  dsimp only; omega
theorem loW_s {w z : Int} {L : List Md} {i : Nat} (h : i < L.length) : loW w z (L.take (i + 1)) = max (loW w z (L.take i)) (nz z (L.getD i (0, false)) - w) := by
 rw [takeM h]; simp [loW, List.foldl_append]
theorem hiW_s {w z : Int} {L : List Md} {i : Nat} (h : i < L.length) : hiW w z (L.take (i + 1)) = min (hiW w z (L.take i)) (nz z (L.getD i (0, false)) + w) := by
 rw [takeM h]; simp [hiW, List.foldl_append]
def C52 : PC := fun args K => ∃ (v : Vl) (L : List Md) (z : Int), args = [v.sv, .rd 2 L.length (rowM L), .int .i64 z] ∧ (v.ok ∧ okM L ∧ -1000 ≤ z ∧ z ≤ 1000) ∧ K (.tup [.int .i64 (loW v.w z L), .int .i64 (hiW v.w z L)])
theorem p52 : PureOk Try.prog 52 C52 := by
 refine pure_of (T := []) trivial Try.func52 k52 ?_
 rintro args K ⟨v, L, z, rfl, ⟨hv, hL, hz⟩, hK⟩
 obtain ⟨m, l1, l2, v1, v2, z1, z2, w⟩ := v
 have hw : 0 ≤ w ∧ w ≤ 8 := hv.2.2.2.2
 simp only [Vl.sv] at hK ⊢
 simp only [xAn, xAp, xBc, xCq, xAm, xAb, xAa, xAc, xAd, vK_e, xBd, xAo, xAy, xAe, evp, gt, st, putf, X.get, mkfr, rep, cs1, pb, ln, undef, Nat.reduceSub, true_and, s52, r52]
 refine xBy (G := Nat) (fun i => [(10, .int .i64 i), (8, .int .i64 (loW w z (L.take i))), (9, .int .i64 (hiW w z (L.take i)))]) (fun i => [Blk.box 25 (Vl.cells ⟨m, l1, l2, v1, v2, z1, z2, w⟩)]) (fun i => i ≤ L.length) (fun i => L.length - i) 0 (Nat.zero_le _) ?_
 (intro fr1 hf1; simp only [forget, dstC, dstO, dstD, dst1, st] at hf1; subst hf1)
 refine ⟨?_, ?_⟩
 ·refine xBv 1 [] (Nat.zero_le _) (by simp [ln]) (by simp [ln]) rfl ?_ ?_
  ·simp only [reL, reX, inb, inb.inbs, ln, sts, st, Bool.and_self, Nat.reduceLT, Nat.reduceAdd, decide_true, and_self, Int.natCast_zero, List.take_zero, loW, hiW, List.foldl_nil, implies_true]
  ·simp only [reL, reX, reH, reB, reN, inb, ln, Nat.reduceAdd, and_self, Vl.cells]
 ·intro i hi
  simp only [xCb, xAw, xAn, xCi, xAp, xAu, xBc, xCg, xBa, xAm, xAb, xAa, xAc, xAd, vK_e, xAo, dX_e, dG_t, xCj, xBt, xCm, xBu, xBz, xAe, xCh, xBk, xBw, xBr, xBm, xAs, xAl, xAq, evp, bin, gt, gq, st, putf, X.get, rdR, tupled, clV, clL, clS, clo, ld, lda, lens, ixs, gb, evq, gdl, Nat.reduceAdd, beq_self_eq_true, true_and, decide_eq_true_eq, decide_eq_false_iff_not, sts, Int.toNat_natCast, rowM, Vl.cells]
  refine ⟨fun h => ?_, fun h => ?_⟩
  ·have hi' : i < L.length := by omega
   have hm := hL.2 _ (memM hi')
   have hl := hL.1
   have b1 := loW_s (w := w) (z := z) hi'
   have b2 := hiW_s (w := w) (z := z) hi'
   refine ⟨by omega, by omega, by omega, fun hc => ⟨by omega, by omega, by omega, by omega, ?_⟩, fun hc => ⟨by omega, by omega, by omega, ?_⟩⟩
   ·have en : nz z (L.getD i (0, false)) = -((L.getD i (0, false)).1 - z) := by unfold nz; rw [if_pos hc]
    rw [en] at b1 b2
    refine Nx.mk (i + 1) (by show i + 1 ≤ L.length; omega) (by show L.length - (i + 1) < L.length - i; omega) (xBv 1 [] (Nat.zero_le _) (by simp [ln]) (by simp [ln]) rfl ?_ ?_)
    ·simp only [reL, reX, inb, inb.inbs, Bool.and_self, Nat.reduceLT, decide_true, true_and, and_true, and_self, Int.natCast_add, Int.natCast_one, b1, b2, implies_true]
     constructor <;> (congr 1; omega)
    ·simp only [reL, reX, reH, reB, reN, inb, and_self]
   ·have en : nz z (L.getD i (0, false)) = (L.getD i (0, false)).1 - z := by unfold nz; rw [if_neg (by simp only [hc]; decide)]
    rw [en] at b1 b2
    refine Nx.mk (i + 1) (by show i + 1 ≤ L.length; omega) (by show L.length - (i + 1) < L.length - i; omega) (xBv 1 [] (Nat.zero_le _) (by simp [ln]) (by simp [ln]) rfl ?_ ?_)
    ·simp only [reL, reX, inb, inb.inbs, Bool.and_self, Nat.reduceLT, decide_true, true_and, and_true, and_self, Int.natCast_add, Int.natCast_one, b1, b2, implies_true]
     constructor <;> (congr 1; omega)
    ·simp only [reL, reX, reH, reB, reN, inb, and_self]
  ·have e : i = L.length := by omega
   subst e
   simp only [List.take_length]
   exact res hK (by simp [leR, leR.leRs])
end Go.Proofs.Ytgdihdiadlmjiaa
end
section
namespace Go.Proofs.Ytgdihdiadlmjiaa
open Go Go.Vg
set_option maxRecDepth 10000
structure Tz where
 (t1 t2 u1 u2 : Int)
 f : Bool
def wdL (a x : Int) (f : Bool) : Int := if f then x else min a x
def wdH (b x : Int) (f : Bool) : Int := if f then x else max b x
def Vl.lst (v : Vl) (a : Int) : Int := if a * v.v2 < a * v.v1 then a * v.v2 else a * v.v1
def Vl.mst (v : Vl) (b : Int) : Int := if b * v.v1 < b * v.v2 then b * v.v2 else b * v.v1
def tstep (v : Vl) (L : List Md) (z : Int) (s : Tz) : Tz :=
 if hiW v.w z L < loW v.w z L then s
 else ⟨wdL (wdL s.t1 (v.lst (loW v.w z L)) !s.f) (v.mst (hiW v.w z L)) false, wdH (wdH s.t2 (v.lst (loW v.w z L)) !s.f) (v.mst (hiW v.w z L)) false, wdL s.u1 z !s.f, wdH s.u2 z !s.f, true⟩
def tzN (v : Vl) (L : List Md) : Nat → Tz
 | 0 => ⟨0, 0, 0, 0, false⟩
 | k + 1 => tstep v L (v.z1 + k) (tzN v L k)
def tzA (v : Vl) (L : List Md) : Tz := tzN v L (v.z2 + 1 - v.z1).toNat
def F85' : FC := fun args => match args with
 | [.agg [.int .i64 a, .int .i64 b], .int .i64 x, .bool f] => some (True, .agg [.int .i64 (wdL a x f), .int .i64 (wdH b x f)])
 | [.agg [.int .i64 a, .int .i64 b], .int .i64 x, .lit (.bool f)] => some (True, .agg [.int .i64 (wdL a x f), .int .i64 (wdH b x f)])
 | _ => none
theorem p85' : PureOk Try.prog 85 (fcC F85') := by
 refine pure_of (T := []) trivial Try.func85 k85 ?_
 intro args K hC
 unfold fcC F85' at hC
 split at hC <;> first | (exact hC.elim) | skip
 rename_i h
 split at h <;> first | (cases h; done) | skip
 ·cases h
  obtain ⟨-, hK⟩ := hC
  simp only [↓reduceIte, xAw, xAn, and_self, xAp, xAu, xBa, xAm, xAb, xAa, xAc, xAd, vK_e, xBd, xBn, xAg, xAh, xAk, xAo, xAt, xAy, xBf, xAi, xAe, xBo, xBk, xAs, xAl, xAq, evp, gt, gq, st, putf, X.get, getp, mkfr, rep, rdR, tupled, clV, clL, clS, clo, ld, lda, tk, dr, sp, sp.spl, lay, ll, cs1, one, allOne, gb, sb, pb, ln, undef, Bool.and_true, Nat.reduceSub, Nat.reduceAdd, beq_self_eq_true, true_and, s85, r85]
  exact ⟨fun h => res hK (by simp [leR, leR.leRs, wdL, wdH, h]), fun h => res hK (by simp only [leR, leR.leRs, wdL, wdH, h]; refine ⟨?_, ?_, trivial⟩ <;> simp <;> omega)⟩
 ·rename_i f
  cases h
  obtain ⟨-, hK⟩ := hC
  cases f
  ·simp only [↓reduceIte, xAw, xAn, and_self, xAp, xAu, xBa, xAm, xAb, xAa, xAc, xAd, vK_e, xBd, xBn, xAg, xAh, xAk, xAo, xAt, xAy, xBf, xAi, xAe, xCe, xAs, xAl, xAq, evp, gt, gq, st, putf, X.get, getp, mkfr, rep, rdR, tupled, clV, clL, clS, clo, ld, lda, tk, dr, sp, sp.spl, lay, ll, cs1, one, allOne, gb, sb, pb, ln, undef, Bool.and_true, Nat.reduceSub, Nat.reduceAdd, beq_self_eq_true, true_and, s85, r85]
   exact res hK (by simp only [leR, leR.leRs, wdL, wdH]; refine ⟨?_, ?_, trivial⟩ <;> simp <;> omega)
  ·simp only [↓reduceIte, xAn, and_self, xAp, xAu, xBa, xAm, xAb, xAa, xAc, xAd, vK_e, xBd, xBn, xAg, xAh, xAk, xAo, xAt, xAy, xBf, xAi, xAe, xBo, xCf, xAs, xAl, xAq, evp, gt, st, putf, X.get, getp, mkfr, rep, rdR, tupled, clV, clL, clS, clo, ld, tk, dr, sp, sp.spl, lay, ll, cs1, one, allOne, gb, sb, pb, ln, undef, Bool.and_true, Nat.reduceSub, Nat.reduceAdd, beq_self_eq_true, true_and, s85, r85]
   exact res hK (by simp [leR, leR.leRs, wdL, wdH])
theorem bdp {x v : Int} (hx : -10000 ≤ x ∧ x ≤ 10000) (hv : 0 ≤ v ∧ v ≤ 500) : -9223372036854775808 ≤ x * v ∧ x * v ≤ 9223372036854775807 := by
 have e1 := Int.mul_le_mul_of_nonneg_right hx.1 hv.1
 have e2 := Int.mul_le_mul_of_nonneg_right hx.2 hv.1
 omega
end Go.Proofs.Ytgdihdiadlmjiaa
end
section
namespace Go.Proofs.Ytgdihdiadlmjiaa
open Go Go.Vg
set_option maxRecDepth 10000
def s79 : SC :=
 (.seq (.reg [⟨(some 2), none, .box 25 (.t 0)⟩,
  ⟨(some 4), none, .v (.mov (.c (.lit (.bool false))))⟩])
 (.seq (.reg [⟨(some 8), none, .v (.mov (.t 1))⟩,
  ⟨(some 9), none, .v (.len (.t 8))⟩,
  ⟨(some 10), none, .call (.c (.fn 42 [])) [(.t 9), (.c (.int .i64 (1))), (.c (.int .i64 (8)))]⟩,
  ⟨(some 5), none, .v (.mov (.t 10))⟩])
 (.seq (.seq (.reg [⟨(some 6), none, .v (.mov (.c (.int .i64 (0))))⟩])
 (.block 0 (.loop
  (.seq (.seq (.reg [⟨(some 11), none, .v (.mov (.t 5))⟩,
   ⟨(some 12), none, .v (.mov (.t 11))⟩,
   ⟨(some 13), (some (12, true)), .v (.mov (.t 6))⟩,
   ⟨(some 14), (some (12, true)), .v (.mov (.t 1))⟩,
   ⟨(some 15), (some (12, true)), .v (.len (.t 14))⟩,
   ⟨(some 16), (some (12, true)), .v (.bin .lss (.t 13) (.t 15))⟩,
   ⟨(some 17), none, .v (.pick (.t 12) (.t 16) (.c (.lit (.bool false))))⟩])
  (.cond (.t 17)
   .skip
   (.exit 0)))
  (.seq (.block 1 (.seq (.reg [⟨(some 20), none, .v (.mov (.t 1))⟩,
   ⟨(some 21), none, .v (.mov (.t 6))⟩,
   ⟨(some 22), none, .v (.ixa (.t 20) (.t 21) 3)⟩,
   ⟨(some 23), none, .v (.load (.t 22) (some 3))⟩,
   ⟨(some 7), none, .new 57 [(.int .i64 (0)), (.int .i64 (0)), (.lit (.bool false))]⟩,
   ⟨none, none, .store 3 (.t 7) (.t 23)⟩])
  (.reg [⟨(some 24), none, .v (.off (.t 7) 0)⟩,
   ⟨(some 25), none, .v (.load (.t 24) none)⟩,
   ⟨(some 26), none, .v (.off (.t 2) 0)⟩,
   ⟨(some 27), none, .v (.load (.t 26) none)⟩,
   ⟨(some 28), none, .call (.c (.fn 42 [])) [(.t 25), (.c (.int .i64 (0))), (.t 27)]⟩,
   ⟨(some 29), none, .v (.mov (.t 28))⟩,
   ⟨(some 30), (some (29, true)), .v (.off (.t 7) 1)⟩,
   ⟨(some 31), (some (29, true)), .v (.load (.t 30) none)⟩,
   ⟨(some 32), (some (29, true)), .v (.off (.t 7) 0)⟩,
   ⟨(some 33), (some (29, true)), .v (.load (.t 32) none)⟩,
   ⟨(some 34), (some (29, true)), .v (.bin .add (.t 33) (.c (.int .i64 (1))))⟩,
   ⟨(some 35), (some (29, true)), .v (.off (.t 2) 0)⟩,
   ⟨(some 36), (some (29, true)), .v (.load (.t 35) none)⟩,
   ⟨(some 37), (some (29, true)), .call (.c (.fn 42 [])) [(.t 31), (.t 34), (.t 36)]⟩,
   ⟨(some 38), none, .v (.pick (.t 29) (.t 37) (.c (.lit (.bool false))))⟩,
   ⟨(some 39), none, .v (.mov (.t 38))⟩,
   ⟨(some 40), (some (39, true)), .v (.off (.t 7) 1)⟩,
   ⟨(some 41), (some (39, true)), .v (.load (.t 40) none)⟩,
   ⟨(some 42), (some (39, true)), .v (.off (.t 7) 0)⟩,
   ⟨(some 43), (some (39, true)), .v (.load (.t 42) none)⟩,
   ⟨(some 44), (some (39, true)), .v (.bin .sub (.t 41) (.t 43))⟩,
   ⟨(some 45), (some (39, true)), .v (.off (.t 2) 1)⟩,
   ⟨(some 46), (some (39, true)), .v (.off (.t 45) 0)⟩,
   ⟨(some 47), (some (39, true)), .v (.load (.t 46) none)⟩,
   ⟨(some 48), (some (39, true)), .v (.off (.t 2) 7)⟩,
   ⟨(some 49), (some (39, true)), .v (.load (.t 48) none)⟩,
   ⟨(some 50), (some (39, true)), .v (.bin .sub (.t 47) (.t 49))⟩,
   ⟨(some 51), (some (39, true)), .v (.off (.t 2) 1)⟩,
   ⟨(some 52), (some (39, true)), .v (.off (.t 51) 1)⟩,
   ⟨(some 53), (some (39, true)), .v (.load (.t 52) none)⟩,
   ⟨(some 54), (some (39, true)), .v (.off (.t 2) 7)⟩,
   ⟨(some 55), (some (39, true)), .v (.load (.t 54) none)⟩,
   ⟨(some 56), (some (39, true)), .v (.bin .add (.t 53) (.t 55))⟩,
   ⟨(some 57), (some (39, true)), .call (.c (.fn 42 [])) [(.t 44), (.t 50), (.t 56)]⟩,
   ⟨(some 58), none, .v (.pick (.t 39) (.t 57) (.c (.lit (.bool false))))⟩,
   ⟨(some 5), none, .v (.mov (.t 58))⟩])))
  (.reg [⟨(some 18), none, .v (.mov (.t 6))⟩,
   ⟨(some 19), none, .v (.bin .add (.t 18) (.c (.int .i64 (1))))⟩,
   ⟨(some 6), none, .v (.mov (.t 19))⟩]))))))
 (.seq (.reg [⟨(some 59), none, .v (.mov (.t 5))⟩,
  ⟨(some 4), none, .v (.mov (.t 59))⟩])
 .ret))))
def r79 : List RV := [.t 4]
theorem k79 : (Try.f79.body.bind (cC Try.prog), cR Try.prog Try.f79.results.toList, Try.f79.ntmps) = (some s79, some r79, 60) := by kernel_rfl
theorem q79 : Known Try.prog 79 := ⟨_, Try.func79, by decide, by simp [Try.f79]⟩
def s51 : SC :=
 (.seq (.reg [⟨(some 2), none, .box 25 (.t 0)⟩,
  ⟨(some 4), none, .v (.mov (.c (.int .i64 (0))))⟩])
 (.seq (.seq (.reg [⟨(some 6), none, .v (.load (.t 2) (some 8))⟩,
  ⟨(some 7), none, .call (.c (.fn 19 [])) [(.t 6)]⟩,
  ⟨(some 5), none, .v (.mov (.t 7))⟩])
 (.seq (.reg [⟨(some 8), none, .v (.mov (.t 5))⟩,
  ⟨(some 9), none, .v (.bin .neq (.t 8) (.c (.int .i64 (0))))⟩])
 (.cond (.t 9)
  (.seq (.reg [⟨(some 10), none, .v (.mov (.t 5))⟩,
   ⟨(some 4), none, .v (.mov (.t 10))⟩])
  .ret)
  .skip)))
 (.seq (.seq (.reg [⟨(some 11), none, .v (.load (.t 2) (some 8))⟩,
  ⟨(some 12), none, .v (.mov (.t 1))⟩,
  ⟨(some 13), none, .call (.c (.fn 79 [])) [(.t 11), (.t 12)]⟩,
  ⟨(some 14), none, .v (.not (.t 13))⟩])
 (.cond (.t 14)
  (.seq (.reg [⟨(some 4), none, .v (.mov (.c (.int .i64 (31))))⟩])
  .ret)
  .skip))
 (.seq (.reg [⟨(some 4), none, .v (.mov (.c (.int .i64 (0))))⟩])
 .ret))))
def r51 : List RV := [.t 4]
theorem k51 : (Try.f51.body.bind (cC Try.prog), cR Try.prog Try.f51.results.toList, Try.f51.ntmps) = (some s51, some r51, 15) := by kernel_rfl
theorem q51 : Known Try.prog 51 := ⟨_, Try.func51, by decide, by simp [Try.f51]⟩
def s76 : SC :=
 (.seq (.reg [⟨(some 2), none, .box 78 (.t 0)⟩,
  ⟨(some 4), none, .v (.mov (.c (.lit (.bool false))))⟩])
 (.seq (.seq (.reg [⟨(some 7), none, .v (.mov (.t 1))⟩,
  ⟨(some 8), none, .v (.len (.t 7))⟩,
  ⟨(some 9), none, .call (.c (.fn 65 [])) [(.t 8), (.c (.int .i64 (1))), (.c (.int .i64 (8)))]⟩,
  ⟨(some 10), none, .v (.not (.t 9))⟩])
 (.cond (.t 10)
  (.seq (.reg [⟨(some 4), none, .v (.mov (.c (.lit (.bool false))))⟩])
  .ret)
  .skip))
 (.seq (.seq (.reg [⟨(some 11), none, .v (.mov (.t 1))⟩,
  ⟨(some 12), none, .v (.len (.t 11))⟩,
  ⟨(some 13), none, .v (.mov (.c (.int .i64 (0))))⟩])
 (.block 0 (.loop
  (.seq (.reg [⟨(some 14), none, .v (.bin .lss (.t 13) (.t 12))⟩])
  (.seq (.cond (.t 14)
   .skip
   (.exit 0))
  (.seq (.block 1 (.seq (.reg [⟨(some 15), none, .v (.ixa (.t 11) (.t 13) 3)⟩,
   ⟨(some 16), none, .v (.load (.t 15) (some 3))⟩,
   ⟨(some 6), none, .new 57 [(.int .i64 (0)), (.int .i64 (0)), (.lit (.bool false))]⟩,
   ⟨none, none, .store 3 (.t 6) (.t 16)⟩])
  (.seq (.seq (.reg [⟨(some 17), none, .v (.off (.t 6) 0)⟩,
   ⟨(some 18), none, .v (.load (.t 17) none)⟩,
   ⟨(some 19), none, .v (.bin .lss (.t 18) (.c (.int .i64 (0))))⟩,
   ⟨(some 20), none, .v (.mov (.t 19))⟩,
   ⟨(some 21), (some (20, false)), .v (.off (.t 6) 1)⟩,
   ⟨(some 22), (some (20, false)), .v (.load (.t 21) none)⟩,
   ⟨(some 23), (some (20, false)), .v (.off (.t 6) 0)⟩,
   ⟨(some 24), (some (20, false)), .v (.load (.t 23) none)⟩,
   ⟨(some 25), (some (20, false)), .v (.bin .leq (.t 22) (.t 24))⟩,
   ⟨(some 26), none, .v (.pick (.t 20) (.c (.lit (.bool true))) (.t 25))⟩,
   ⟨(some 27), none, .v (.mov (.t 26))⟩,
   ⟨(some 28), (some (27, false)), .v (.off (.t 6) 1)⟩,
   ⟨(some 29), (some (27, false)), .v (.load (.t 28) none)⟩,
   ⟨(some 30), (some (27, false)), .v (.off (.t 2) 0)⟩,
   ⟨(some 31), (some (27, false)), .v (.off (.t 30) 0)⟩,
   ⟨(some 32), (some (27, false)), .v (.load (.t 31) none)⟩,
   ⟨(some 33), (some (27, false)), .v (.bin .gtr (.t 29) (.t 32))⟩,
   ⟨(some 34), none, .v (.pick (.t 27) (.c (.lit (.bool true))) (.t 33))⟩])
  (.cond (.t 34)
   (.seq (.reg [⟨(some 4), none, .v (.mov (.c (.lit (.bool false))))⟩])
   .ret)
   .skip))
  (.seq (.reg [⟨(some 35), none, .v (.off (.t 6) 1)⟩,
   ⟨(some 36), none, .v (.load (.t 35) none)⟩,
   ⟨(some 37), none, .v (.off (.t 6) 0)⟩,
   ⟨(some 38), none, .v (.load (.t 37) none)⟩,
   ⟨(some 39), none, .v (.bin .sub (.t 36) (.t 38))⟩,
   ⟨(some 40), none, .v (.off (.t 2) 0)⟩,
   ⟨(some 41), none, .v (.off (.t 40) 1)⟩,
   ⟨(some 42), none, .v (.off (.t 41) 0)⟩,
   ⟨(some 43), none, .v (.load (.t 42) none)⟩,
   ⟨(some 44), none, .v (.off (.t 2) 0)⟩,
   ⟨(some 45), none, .v (.off (.t 44) 7)⟩,
   ⟨(some 46), none, .v (.load (.t 45) none)⟩,
   ⟨(some 47), none, .v (.bin .sub (.t 43) (.t 46))⟩,
   ⟨(some 48), none, .v (.off (.t 2) 0)⟩,
   ⟨(some 49), none, .v (.off (.t 48) 1)⟩,
   ⟨(some 50), none, .v (.off (.t 49) 1)⟩,
   ⟨(some 51), none, .v (.load (.t 50) none)⟩,
   ⟨(some 52), none, .v (.off (.t 2) 0)⟩,
   ⟨(some 53), none, .v (.off (.t 52) 7)⟩,
   ⟨(some 54), none, .v (.load (.t 53) none)⟩,
   ⟨(some 55), none, .v (.bin .add (.t 51) (.t 54))⟩,
   ⟨(some 56), none, .call (.c (.fn 65 [])) [(.t 39), (.t 47), (.t 55)]⟩,
   ⟨(some 57), none, .v (.not (.t 56))⟩])
  (.cond (.t 57)
   (.seq (.reg [⟨(some 4), none, .v (.mov (.c (.lit (.bool false))))⟩])
   .ret)
   .skip)))))
  (.reg [⟨(some 58), none, .v (.bin .add (.t 13) (.c (.int .i64 (1))))⟩,
   ⟨(some 13), none, .v (.mov (.t 58))⟩])))))))
 (.seq (.reg [⟨(some 4), none, .v (.mov (.c (.lit (.bool true))))⟩])
 .ret))))
def r76 : List RV := [.t 4]
theorem k76 : (Try.f76.body.bind (cC Try.prog), cR Try.prog Try.f76.results.toList, Try.f76.ntmps) = (some s76, some r76, 59) := by kernel_rfl
theorem q76 : Known Try.prog 76 := ⟨_, Try.func76, by decide, by simp [Try.f76]⟩
def s47 : SC :=
 (.seq (.reg [⟨(some 2), none, .box 25 (.t 0)⟩,
  ⟨(some 4), none, .v (.mov (.c (.int .i64 (0))))⟩])
 (.seq (.seq (.reg [⟨(some 6), none, .v (.load (.t 2) (some 8))⟩,
  ⟨(some 7), none, .call (.c (.fn 18 [])) [(.t 6)]⟩,
  ⟨(some 5), none, .v (.mov (.t 7))⟩])
 (.seq (.reg [⟨(some 8), none, .v (.mov (.t 5))⟩,
  ⟨(some 9), none, .v (.bin .neq (.t 8) (.c (.int .i64 (0))))⟩])
 (.cond (.t 9)
  (.seq (.reg [⟨(some 10), none, .v (.mov (.t 5))⟩,
   ⟨(some 4), none, .v (.mov (.t 10))⟩])
  .ret)
  .skip)))
 (.seq (.seq (.reg [⟨(some 11), none, .v (.load (.t 2) (some 8))⟩,
  ⟨(some 12), none, .bld [(.int .i64 (0)), (.int .i64 (0)), (.int .i64 (0)), (.int .i64 (0)), (.int .i64 (0)), (.int .i64 (0)), (.int .i64 (0)), (.int .i64 (0))] [(0, 8, (.t 11))]⟩,
  ⟨(some 13), none, .v (.mov (.t 1))⟩,
  ⟨(some 14), none, .call (.c (.fn 76 [])) [(.t 12), (.t 13)]⟩,
  ⟨(some 15), none, .v (.not (.t 14))⟩])
 (.cond (.t 15)
  (.seq (.reg [⟨(some 4), none, .v (.mov (.c (.int .i64 (31))))⟩])
  .ret)
  .skip))
 (.seq (.reg [⟨(some 4), none, .v (.mov (.c (.int .i64 (0))))⟩])
 .ret))))
def r47 : List RV := [.t 4]
theorem k47 : (Try.f47.body.bind (cC Try.prog), cR Try.prog Try.f47.results.toList, Try.f47.ntmps) = (some s47, some r47, 16) := by kernel_rfl
theorem q47 : Known Try.prog 47 := ⟨_, Try.func47, by decide, by simp [Try.f47]⟩
abbrev Rg := Int × Int × Bool
def r0 : Rg := (0, 0, false)
def rowR (R : List Rg) : Nat → List SV := fun j => [.int .i64 (R.getD j r0).1, .int .i64 (R.getD j r0).2.1, .bool (R.getD j r0).2.2]
def okR (v : Vl) (e : Rg) : Prop := (0 ≤ e.1 ∧ e.1 ≤ v.m) ∧ (e.1 + 1 ≤ e.2.1 ∧ e.2.1 ≤ v.m) ∧ (v.l1 - v.w ≤ e.2.1 - e.1 ∧ e.2.1 - e.1 ≤ v.l2 + v.w)
instance (v : Vl) (e : Rg) : Decidable (okR v e) := by unfold okR; infer_instance
def okRs (v : Vl) (R : List Rg) : Prop := (1 ≤ R.length ∧ R.length ≤ 8) ∧ ∀ e ∈ R, okR v e
instance (v : Vl) (R : List Rg) : Decidable (okRs v R) := by unfold okRs; infer_instance
theorem takeR {R : List Rg} {i : Nat} (h : i < R.length) : R.take (i + 1) = R.take i ++ [R.getD i r0] := by
 rw [List.take_add_one, List.getElem?_eq_getElem h]; simp [List.getD, h]
theorem memR {R : List Rg} {i : Nat} (h : i < R.length) : R.getD i r0 ∈ R := by
 simp [List.getD, h]
theorem allR {v : Vl} {R : List Rg} {i : Nat} (h : i < R.length) : (∀ e ∈ R.take (i + 1), okR v e) ↔ (∀ e ∈ R.take i, okR v e) ∧ okR v (R.getD i r0) := by
 rw [takeR h]
 simp only [List.mem_append, List.mem_singleton]
 exact ⟨fun h => ⟨fun e he => h e (.inl he), h _ (.inr rfl)⟩, fun h e he => he.elim (h.1 e) fun he => he ▸ h.2⟩
def C79 : PC := fun args K => ∃ (v : Vl) (R : List Rg), args = [v.sv, .rd 3 R.length (rowR R)] ∧ v.ok ∧ K (.bool (decide (okRs v R)))
theorem p79 : PureOk Try.prog 79 C79 := by
 refine pure_of (T := [(42, .fc F42)]) ⟨⟨p42, q42⟩, trivial⟩ Try.func79 k79 ?_
 rintro args K ⟨v, R, rfl, hv, hK⟩
 have hv' := hv
 simp only [Vl.ok] at hv'
 simp only [Vl.sv]
 simp only [xAn, xAp, xBc, xCq, xAm, xAb, xAa, xAc, xAd, vK_e, xBd, xAr, xAj, xAo, xAy, xAf, xAe, xAv, xAz, pc_e, xAx, xBh, xBi, evp, gt, st, putf, X.get, gets, ap, mkfr, rep, clV, clL, clS, clo, lens, cs1, pb, ln, lk, undef, Nat.reduceSub, beq_self_eq_true, true_and, s79, r79, F42]
 have key : ∀ (i : Nat) (ok : Bool), i ≤ R.length → (ok = true ↔ (1 ≤ R.length ∧ R.length ≤ 8) ∧ ∀ e ∈ R.take i, okR v e) → (ok = false ∨ i = R.length) → ok = decide (okRs v R) := by
  intro i ok hi h1 h2
  rcases h2 with rfl | rfl
  ·symm
   rw [decide_eq_false_iff_not]
   intro h3
   exact absurd (h1.2 ⟨h3.1, fun e he => h3.2 e (List.mem_of_mem_take he)⟩) (by simp)
  ·rw [List.take_length] at h1
   cases ok
   ·symm
    rw [decide_eq_false_iff_not]
    exact fun h3 => absurd (h1.2 h3) (by simp)
   ·exact (decide_eq_true (h1.1 rfl)).symm
 refine xBy (G := Nat × Bool) (fun g => [(6, .int .i64 g.1), (5, .bool g.2)]) (fun i => [Blk.box 25 v.cells])
   (fun g => g.1 ≤ R.length ∧ (g.2 = true ↔ (1 ≤ R.length ∧ R.length ≤ 8) ∧ ∀ e ∈ R.take g.1, okR v e)) (fun g => R.length - g.1)
   (0, decide (1 ≤ R.length ∧ R.length ≤ 8)) ⟨Nat.zero_le _, by simp⟩ ?_
 (intro fr1 hf1; simp only [forget, dstC, dstO, st] at hf1; subst hf1)
 refine ⟨?_, ?_⟩
 ·refine xBv 1 [] (Nat.zero_le _) (by simp [ln]) (by simp [ln]) rfl ?_ ?_
  ·simp only [reL, reX, inb, inb.inbs, ln, sts, st, Bool.and_self, Nat.reduceLT, Nat.reduceAdd, decide_true, true_and, and_true, and_self, Int.natCast_zero, implies_true]
   rw [decide_eq_decide]; omega
  ·simp only [reL, reX, reH, reB, reN, inb, ln, Nat.reduceAdd, and_self, Vl.cells]
 ·rintro ⟨i, ok⟩ ⟨hi, hp⟩
  dsimp only at hi hp
  simp only [xCb, xAw, xAn, and_self, xAp, xAu, xBc, xCg, xBa, xAm, xAb, xAa, xBj, xBx, xCr, xCo, xAc, xAd, xCd, vK_e, xAg, xAh, xAk, xAr, xAj, xAo, xAt, xAi, xAf, xBu, xBz, xAe, xCh, xCe, xBk, xBw, xBr, xBm, xAs, xAl, xAq, xAv, xAz, pc_e, xAx, xBh, xBi, evp, bin, gt, gq, st, putf, X.get, gets, ap, rdR, tupled, clV, clL, clS, clo, ld, lda, lens, ixs, tk, dr, sp, sp.spl, ll, cs1, one, allOne, gb, sb, pb, ln, lk, undef, Bool.and_true, Nat.reduceAdd, beq_self_eq_true, true_and, decide_eq_true_eq, decide_eq_false_iff_not, sts, F42, Int.toNat_natCast, rowR, Vl.cells]
  refine ⟨fun hok => ?_, fun hok => ?_⟩
  ·obtain ⟨q1, q2⟩ := hp.1 hok
   refine ⟨fun h => ?_, fun h => ?_⟩
   ·have hi' : i < R.length := by omega
    have hs : (decide (okR v (R.getD i r0)) = true ↔ (1 ≤ R.length ∧ R.length ≤ 8) ∧ ∀ e ∈ R.take (i + 1), okR v e) := by
     rw [allR hi', decide_eq_true_eq]
     exact ⟨fun h => ⟨q1, q2, h⟩, fun h => h.2.2⟩
    refine ⟨by omega, fun a => ⟨by omega, fun b => ⟨by omega, by omega, by omega, by omega, ?_⟩, fun b => ⟨by omega, ?_⟩⟩, fun a => ?_⟩
    ·refine Nx.mk (i + 1, decide (okR v (R.getD i r0))) ⟨by show i + 1 ≤ R.length; omega, hs⟩ (by show R.length - (i + 1) < R.length - i; omega) (xBv 1 [] (Nat.zero_le _) (by simp [ln]) (by simp [ln]) rfl ?_ ?_)
     ·simp only [reL, reX, inb, inb.inbs, Bool.and_self, Nat.reduceLT, decide_true, true_and, and_true, and_self, Int.natCast_add, Int.natCast_one, implies_true]
      rw [decide_eq_decide]; exact ⟨fun h => ⟨a, b, h⟩, fun h => h.2.2⟩
     ·simp only [reL, reX, reH, reB, reN, inb, and_self]
    ·refine Nx.mk (i + 1, decide (okR v (R.getD i r0))) ⟨by show i + 1 ≤ R.length; omega, hs⟩ (by show R.length - (i + 1) < R.length - i; omega) (xBv 1 [] (Nat.zero_le _) (by simp [ln]) (by simp [ln]) rfl ?_ ?_)
     ·simp only [reL, reX, inb, inb.inbs, Bool.and_self, Nat.reduceLT, decide_true, true_and, and_true, and_self, Int.natCast_add, Int.natCast_one, implies_true]
      exact (decide_eq_false fun h => b h.2.1).symm
     ·simp only [reL, reX, reH, reB, reN, inb, and_self]
    ·refine ⟨by omega, Nx.mk (i + 1, decide (okR v (R.getD i r0))) ⟨by show i + 1 ≤ R.length; omega, hs⟩ (by show R.length - (i + 1) < R.length - i; omega) (xBv 1 [] (Nat.zero_le _) (by simp [ln]) (by simp [ln]) rfl ?_ ?_)⟩
     ·simp only [reL, reX, inb, inb.inbs, Bool.and_self, Nat.reduceLT, decide_true, true_and, and_true, and_self, Int.natCast_add, Int.natCast_one, implies_true]
      exact (decide_eq_false fun h => a h.1).symm
     ·simp only [reL, reX, reH, reB, reN, inb, and_self]
   ·have kk := key i ok hi hp (.inr (by omega))
    exact res hK (by simp [leR, ← kk, hok])
  ·have kk := key i ok hi hp (.inl hok)
   exact res hK (by simp [leR, ← kk, hok])
def askI (v : Vl) (R : List Rg) : Int := if v.ok then if okRs v R then 0 else 31 else 30
def C51 : PC := fun args K => ∃ (v : Vl) (R : List Rg), args = [v.sv, .rd 3 R.length (rowR R)] ∧ K (.int .i64 (askI v R))
theorem p51 : PureOk Try.prog 51 C51 := by
 refine pure_of (T := [(19, .pc C19), (79, .pc C79)]) ⟨⟨p19, q19⟩, ⟨p79, q79⟩, trivial⟩ Try.func51 k51 ?_
 rintro args K ⟨v, R, rfl, hK⟩
 simp only [Vl.sv]
 simp only [xAn, xAp, xAm, xAb, xAa, xAc, xAd, vK_e, xBd, xAr, xAj, xAo, xAy, xAf, xAe, xAv, xBe, pc_e, xAx, evp, bin, gt, st, putf, X.get, gets, ap, mkfr, rep, clV, clL, clS, clo, ld, lda, tk, dr, cs1, gb, pb, ln, lk, undef, Nat.reduceSub, beq_self_eq_true, true_and, s51, r51]
 refine ⟨v, rfl, ?_⟩
 by_cases hv : v.ok
 ·simp only [Vl.chk, if_pos hv]
  simp only [not_true_eq_false, xAw, xAn, xAp, xAu, xBa, xAm, xAb, xAa, xAc, xAd, vK_e, xAr, xAj, xAo, xAf, xAe, xBo, xBk, xAs, xAl, xAq, xAv, xBe, pc_e, xAx, evp, gt, st, putf, X.get, gets, ap, rdR, tupled, clV, clL, clS, clo, ld, lda, tk, dr, gb, lk, Bool.not_true, Bool.not_false, Nat.reduceBEq, beq_self_eq_true, true_and, decide_eq_true_eq, decide_eq_false_iff_not, Bool.not_eq_eq_eq_not]
  refine ⟨fun h => h.elim, fun _ => ⟨v, R, rfl, hv, ?_⟩⟩
  simp only [xAw, xAn, xAp, xAu, xBa, xAm, xAb, xAa, xAc, xAd, vK_e, xAo, xAe, xBo, xBk, xAs, xAl, xAq, evp, gt, st, putf, X.get, rdR, tupled, clV, clS, clo, Bool.not_true, Bool.not_false, true_and, decide_eq_true_eq, decide_eq_false_iff_not, Bool.not_eq_eq_eq_not]
  refine ⟨fun h => res hK ?_, fun h => res hK ?_⟩
  ·simp [leR, askI, hv, h]
  ·simp [leR, askI, hv, h]
 ·simp only [Vl.chk, if_neg hv]
  simp only [xAw, xAn, xAp, xAu, xBa, xAm, xAb, xAa, xAc, xAd, vK_e, xAr, xAj, xAo, xAf, xAe, xBo, xBk, xAs, xAl, xAq, xAv, xBe, pc_e, xAx, evp, gt, st, putf, X.get, gets, ap, rdR, tupled, clV, clL, clS, clo, ld, lda, tk, dr, gb, lk, Bool.not_true, Bool.not_false, Nat.reduceBEq, beq_self_eq_true, true_and, decide_eq_true_eq, decide_eq_false_iff_not, Bool.not_eq_eq_eq_not]
  exact ⟨fun _ => res hK (by simp [leR, askI, hv]), fun h => absurd h (by decide)⟩
def C76 : PC := fun args K => ∃ (v : Vl) (R : List Rg), args = [v.sv, .rd 3 R.length (rowR R)] ∧ v.ok ∧ K (.bool (decide (okRs v R)))
theorem p76 : PureOk Try.prog 76 C76 := by
 refine pure_of (T := [(65, .fc F42)]) ⟨⟨p65, q65⟩, trivial⟩ Try.func76 k76 ?_
 rintro args K ⟨v, R, rfl, hv, hK⟩
 have hv' := hv
 simp only [Vl.ok] at hv'
 simp only [Vl.sv]
 simp only [xAw, xAn, xAp, xAu, xBc, xCq, xBa, xAm, xAb, xAa, xAc, xAd, vK_e, xBd, xAr, xAj, xAo, xAy, xAf, xAe, xBo, xBk, xAs, xAl, xAq, xAv, xAz, pc_e, xAx, xBh, xBi, evp, gt, st, putf, X.get, gets, ap, mkfr, rep, rdR, tupled, clV, clL, clS, clo, lens, cs1, pb, ln, lk, undef, Bool.not_true, Bool.not_false, Nat.reduceSub, beq_self_eq_true, true_and, decide_eq_true_eq, decide_eq_false_iff_not, Bool.not_eq_eq_eq_not, s76, r76, F42]
 refine ⟨fun h => ?_, fun h => ?_⟩
 ·refine res hK ?_
  have : ¬ okRs v R := fun h3 => by have := h3.1; omega
  simp [leR, this]
 ·refine xBy (G := Nat) (fun g => [(13, .int .i64 g)]) (fun i => [Blk.box 78 v.cells])
   (fun g => g ≤ R.length ∧ ∀ e ∈ R.take g, okR v e) (fun g => R.length - g) 0 ⟨Nat.zero_le _, by simp⟩ ?_
  (intro fr1 hf1; simp only [forget, dstC, dstO, st] at hf1; subst hf1)
  refine ⟨?_, ?_⟩
  ·refine xBv 1 [] (Nat.zero_le _) (by simp [ln]) (by simp [ln]) rfl ?_ ?_
   ·simp only [reL, reX, inb, inb.inbs, ln, sts, st, Bool.and_self, Nat.reduceLT, Nat.reduceAdd, decide_true, and_self, Int.natCast_zero, implies_true]
   ·simp only [reL, reX, reH, reB, reN, inb, ln, Nat.reduceAdd, and_self, Vl.cells]
  ·rintro i ⟨hi, hp⟩
   simp only [xCb, xAw, xAn, and_self, xAp, xAu, xBc, xCg, xBa, xAm, xAb, xAa, xBj, gdK_tf, xDa, gdK_bf, xAc, xAd, xCd, vK_e, xAg, xAh, xAk, xAr, xAj, xAo, xAt, xAi, xAf, xBu, xBz, xDk, xAe, xCh, xBo, xCf, xBk, xBw, xBr, xBm, xDd, xAs, xAl, xAq, xAv, xAz, pc_e, xAx, xBh, xBi, evp, bin, gt, gq, st, putf, X.get, gets, ap, rdR, tupled, clV, clL, clS, clo, ld, lda, ixs, tk, dr, sp, sp.spl, ll, cs1, one, allOne, gb, sb, pb, ln, lk, undef, Bool.and_true, Bool.not_true, Bool.not_false, Nat.reduceAdd, beq_self_eq_true, true_and, decide_eq_true_eq, decide_eq_false_iff_not, Bool.not_eq_eq_eq_not, sts, F42, Int.toNat_natCast, rowR, Vl.cells]
   have no : i < R.length → ¬ okR v (R.getD i r0) → ∃ r', K r' ∧ leR 4 (SV.lit (Value.bool false)) r' := fun hi' hn => by
    refine res hK ?_
    have : ¬ okRs v R := fun h3 => hn (h3.2 _ (memR hi'))
    simp [leR, this]
   refine ⟨fun hi1 => ?_, fun hi1 => ?_⟩
   ·have hi' : i < R.length := by omega
    refine ⟨by omega, fun a => ⟨fun b => ⟨fun c => no hi' fun h => by have := h.2.1; omega, fun c => ⟨by omega, by omega, by omega, fun d => no hi' fun h => d h.2.2, fun d => ⟨by omega, ?_⟩⟩⟩, fun b => no hi' fun h => by have := h.2.1; omega⟩, fun a => no hi' fun h => by have := h.1; omega⟩
    refine Nx.mk (i + 1) ⟨by show i + 1 ≤ R.length; omega, (allR hi').2 ⟨hp, ⟨by omega, by omega⟩, ⟨by omega, by omega⟩, d⟩⟩ (by show R.length - (i + 1) < R.length - i; omega) (xBv 1 [] (Nat.zero_le _) (by simp [ln]) (by simp [ln]) rfl ?_ ?_)
    ·simp only [reL, reX, inb, inb.inbs, Bool.and_self, Nat.reduceLT, decide_true, and_self, Int.natCast_add, Int.natCast_one, implies_true]
    ·simp only [reL, reX, reH, reB, reN, inb, and_self]
   ·have e : i = R.length := by omega
    subst e
    rw [List.take_length] at hp
    have : okRs v R := ⟨by omega, hp⟩
    exact res hK (by simp [leR, this])
def C47 : PC := C51
theorem p47 : PureOk Try.prog 47 C47 := by
 refine pure_of (T := [(18, .pc C18), (76, .pc C76)]) ⟨⟨p18, q18⟩, ⟨p76, q76⟩, trivial⟩ Try.func47 k47 ?_
 rintro args K ⟨v, R, rfl, hK⟩
 simp only [Vl.sv]
 simp only [xAn, xAp, xAm, xAb, xAa, xAc, xAd, vK_e, xBd, xAr, xAj, xAo, xAy, xAf, xAe, xAv, xBe, pc_e, xAx, evp, bin, gt, st, putf, X.get, gets, ap, mkfr, rep, clV, clL, clS, clo, ld, lda, tk, dr, cs1, gb, pb, ln, lk, undef, Nat.reduceSub, beq_self_eq_true, true_and, s47, r47]
 refine ⟨v, rfl, ?_⟩
 by_cases hv : v.ok
 ·simp only [Vl.chk, if_pos hv]
  simp only [not_true_eq_false, xAw, xAn, xAp, xAu, xBa, xAm, xAb, xAa, xAc, xAd, vK_e, xBn, xAr, xAj, xAo, xBf, xAf, xAe, xBo, xBk, xAs, xAl, xAq, xAv, xBe, pc_e, xAx, evp, gt, st, putf, X.get, gets, getp, ap, rdR, tupled, clV, clL, clS, clo, ld, lda, tk, dr, sp, sp.spl, lay, ll, cs1, gb, lk, Bool.not_true, Bool.not_false, Nat.reduceAdd, Nat.reduceBEq, beq_self_eq_true, true_and, decide_eq_true_eq, decide_eq_false_iff_not, Bool.not_eq_eq_eq_not]
  refine ⟨fun h => h.elim, fun _ => ⟨v, R, rfl, hv, ?_⟩⟩
  simp only [xAw, xAn, xAp, xAu, xBa, xAm, xAb, xAa, xAc, xAd, vK_e, xAo, xAe, xBo, xBk, xAs, xAl, xAq, evp, gt, st, putf, X.get, rdR, tupled, clV, clS, clo, Bool.not_true, Bool.not_false, true_and, decide_eq_true_eq, decide_eq_false_iff_not, Bool.not_eq_eq_eq_not]
  refine ⟨fun h => res hK ?_, fun h => res hK ?_⟩
  ·simp [leR, askI, hv, h]
  ·simp [leR, askI, hv, h]
 ·simp only [Vl.chk, if_neg hv]
  simp only [xAw, xAn, xAp, xAu, xBa, xAm, xAb, xAa, xAc, xAd, vK_e, xBn, xAr, xAj, xAo, xBf, xAf, xAe, xBo, xBk, xAs, xAl, xAq, xAv, xBe, pc_e, xAx, evp, gt, st, putf, X.get, gets, getp, ap, rdR, tupled, clV, clL, clS, clo, ld, lda, tk, dr, sp, sp.spl, lay, ll, cs1, gb, lk, Bool.not_true, Bool.not_false, Nat.reduceAdd, Nat.reduceBEq, beq_self_eq_true, true_and, decide_eq_true_eq, decide_eq_false_iff_not, Bool.not_eq_eq_eq_not]
  exact ⟨fun _ => res hK (by simp [leR, askI, hv]), fun h => absurd h (by decide)⟩
end Go.Proofs.Ytgdihdiadlmjiaa
end
section
namespace Go.Vg
open Go
theorem xDr {w : World} {im : Nat → Prop} {n : Nat} : ∀ {xs ys : List SV} {vs : List Value}, leR.leRs n xs ys → Cvs w im xs vs → Cvs w im ys vs
 | [], ys, vs, h, hx => by cases ys <;> simp only [leR.leRs] at h; exact hx
 | x :: xs, ys, vs, h, hx => by
  cases ys <;> simp only [leR.leRs] at h
  cases hx with
  | cons _ v _ vs hx hr => exact .cons _ _ _ _ (leR_ok n h.1 hx) (xDr h.2 hr)
def leA (x y : SV) : Prop := leR 4 x y ∨ ∃ sz len f g, x = .rd sz len f ∧ y = .rd sz len g ∧ ∀ i, i < len → leR.leRs 4 (f i) (g i)
theorem leA_ok {w : World} {im : Nat → Prop} {x y : SV} {v : Value} (h : leA x y) (hx : Cv w im x v) : Cv w im y v := by
 rcases h with h | ⟨sz, len, f, g, rfl, rfl, h⟩
 ·exact leR_ok 4 h hx
 ·cases hx with
  | rdNil => exact .rdNil _ _
  | rdE => exact .rdE _ _ _ _
  | rd _ _ _ b off cap vs hb h1 h2 h3 h4 => exact .rd _ _ _ b off cap vs hb (fun i hi => xDr (h i hi) (h1 i hi)) h2 h3 h4
def leAs : List SV → List SV → Prop
 | [], [] => True
 | x :: a, y :: b => leA x y ∧ leAs a b
 | _, _ => False
theorem leAs_ok {w : World} {im : Nat → Prop} : ∀ {xs ys : List SV} {vs : List Value}, leAs xs ys → Cvs w im xs vs → Cvs w im ys vs
 | [], ys, vs, h, hx => by cases ys <;> simp only [leAs] at h; exact hx
 | x :: xs, ys, vs, h, hx => by
  cases ys <;> simp only [leAs] at h
  cases hx with
  | cons _ v _ vs hx hr => exact .cons _ _ _ _ (leA_ok h.1 hx) (leAs_ok h.2 hr)
def PC.le (C : PC) : PC := fun args K => ∃ args', leAs args args' ∧ C args' K
theorem PureOk.le {P : Program} {f : FuncId} {C : PC} (h : PureOk P f C) : PureOk P f C.le :=
 fun w im _ vs K hb hv ⟨args', hl, hc⟩ => h w im args' vs K hb (leAs_ok hl hv) hc
end Go.Vg
end
section
namespace Go.Proofs.Ytgdihdiadlmjiaa
open Go Go.Vg
set_option maxRecDepth 10000
def C58 : PC := fun args K => ∃ (v : Vl) (L : List Md), args = [v.sv, .rd 2 L.length (rowM L)] ∧ (v.ok ∧ okM L) ∧
 K (.tup [.agg [.int .i64 (tzA v L).t1, .int .i64 (tzA v L).t2], .agg [.int .i64 (tzA v L).u1, .int .i64 (tzA v L).u2], .bool (tzA v L).f])
def fltN (v : Vl) : Nat → Int
 | 0 => 0
 | k + 1 => if (tzA v [(v.l2 + k, false)]).f = true then (if fltN v k < (tzA v [(v.l2 + k, false)]).t2 - (tzA v [(v.l2 + k, false)]).t1 then (tzA v [(v.l2 + k, false)]).t2 - (tzA v [(v.l2 + k, false)]).t1 else fltN v k) else fltN v k
def flt (v : Vl) : Int := fltN v (2 * v.m + 1 - 2 * v.l2).toNat
end Go.Proofs.Ytgdihdiadlmjiaa
end
section
namespace Go.Proofs.Ytgdihdiadlmjiaa
open Go Go.Vg
set_option maxRecDepth 10000
def doesP (v : Vl) (r f : Int) : Prop := (0 ≤ 2 * v.m - v.l2 - v.z2 ∧ 0 ≤ v.z1 - v.l2) ∧ r ≤ v.v1 * min (2 * v.m - v.l2 - v.z2) (v.z1 - v.l2) ∧ flt v ≤ f
instance (v : Vl) (r f : Int) : Decidable (doesP v r f) := by unfold doesP; infer_instance
abbrev v0 : Vl := ⟨0, 0, 0, 0, 0, 0, 0, 0⟩
end Go.Proofs.Ytgdihdiadlmjiaa
end
section
namespace Go.Proofs.Ytgdihdiadlmjiaa
open Go Go.Vg
set_option maxRecDepth 10000
end Go.Proofs.Ytgdihdiadlmjiaa
end
section
namespace Go.Proofs.Ytgdihdiadlmjiaa
open Go Go.Vg
set_option maxRecDepth 10000
end Go.Proofs.Ytgdihdiadlmjiaa
end
section
namespace Go.Proofs.Ytgdihdiadlmjiaa
open Go Go.Vg
set_option maxRecDepth 10000
def s32 : SC :=
 (.seq (.reg [⟨(some 2), none, .box 23 (.t 0)⟩,
  ⟨(some 4), none, .v (.mov (.c (.lit (.bool false))))⟩])
 (.seq (.reg [⟨(some 5), none, .v (.mov (.t 1))⟩,
  ⟨(some 6), none, .v (.off (.t 2) 0)⟩,
  ⟨(some 7), none, .v (.load (.t 6) none)⟩,
  ⟨(some 8), none, .v (.off (.t 2) 1)⟩,
  ⟨(some 9), none, .v (.load (.t 8) none)⟩,
  ⟨(some 10), none, .call (.c (.fn 42 [])) [(.t 5), (.t 7), (.t 9)]⟩,
  ⟨(some 4), none, .v (.mov (.t 10))⟩])
 .ret))
def r32 : List RV := [.t 4]
theorem k32 : (Try.f32.body.bind (cC Try.prog), cR Try.prog Try.f32.results.toList, Try.f32.ntmps) = (some s32, some r32, 11) := by kernel_rfl
theorem q32 : Known Try.prog 32 := ⟨_, Try.func32, by decide, by simp [Try.f32]⟩
def s48 : SC :=
 (.seq (.reg [⟨(some 2), none, .box 78 (.t 0)⟩,
  ⟨(some 3), none, .box 28 (.t 1)⟩,
  ⟨(some 4), none, .v (.mov (.c (.lit (.bool false))))⟩])
 (.seq (.reg [⟨(some 5), none, .v (.off (.t 3) 0)⟩,
  ⟨(some 6), none, .v (.load (.t 5) none)⟩,
  ⟨(some 7), none, .v (.off (.t 2) 0)⟩,
  ⟨(some 8), none, .v (.off (.t 7) 3)⟩,
  ⟨(some 9), none, .v (.off (.t 8) 0)⟩,
  ⟨(some 10), none, .v (.load (.t 9) none)⟩,
  ⟨(some 11), none, .v (.off (.t 2) 0)⟩,
  ⟨(some 12), none, .v (.off (.t 11) 3)⟩,
  ⟨(some 13), none, .v (.off (.t 12) 1)⟩,
  ⟨(some 14), none, .v (.load (.t 13) none)⟩,
  ⟨(some 15), none, .call (.c (.fn 65 [])) [(.t 6), (.t 10), (.t 14)]⟩,
  ⟨(some 16), none, .v (.mov (.t 15))⟩,
  ⟨(some 17), (some (16, true)), .v (.off (.t 3) 1)⟩,
  ⟨(some 18), (some (16, true)), .v (.load (.t 17) none)⟩,
  ⟨(some 19), (some (16, true)), .v (.off (.t 2) 0)⟩,
  ⟨(some 20), (some (16, true)), .v (.off (.t 19) 5)⟩,
  ⟨(some 21), (some (16, true)), .v (.off (.t 20) 0)⟩,
  ⟨(some 22), (some (16, true)), .v (.load (.t 21) none)⟩,
  ⟨(some 23), (some (16, true)), .v (.off (.t 2) 0)⟩,
  ⟨(some 24), (some (16, true)), .v (.off (.t 23) 5)⟩,
  ⟨(some 25), (some (16, true)), .v (.off (.t 24) 1)⟩,
  ⟨(some 26), (some (16, true)), .v (.load (.t 25) none)⟩,
  ⟨(some 27), (some (16, true)), .call (.c (.fn 65 [])) [(.t 18), (.t 22), (.t 26)]⟩,
  ⟨(some 28), none, .v (.pick (.t 16) (.t 27) (.c (.lit (.bool false))))⟩,
  ⟨(some 4), none, .v (.mov (.t 28))⟩])
 .ret))
def r48 : List RV := [.t 4]
theorem k48 : (Try.f48.body.bind (cC Try.prog), cR Try.prog Try.f48.results.toList, Try.f48.ntmps) = (some s48, some r48, 29) := by kernel_rfl
theorem q48 : Known Try.prog 48 := ⟨_, Try.func48, by decide, by simp [Try.f48]⟩
def midR (e : Rg) : Md := (e.1 + e.2.1, e.2.2)
def midN (R : List Rg) (i : Nat) : List Md := (R.take i).map midR
theorem midN_s {R : List Rg} {i : Nat} (h : i < R.length) : midN R (i + 1) = midN R i ++ [midR (R.getD i r0)] := by
 simp [midN, takeR h]
theorem midN_len {R : List Rg} {i : Nat} (h : i ≤ R.length) : (midN R i).length = i := by simp [midN, h]
def C53 : PC := fun args K => ∃ (R : List Rg), args = [.rd 3 R.length (rowR R)] ∧ (R.length ≤ 8 ∧ ∀ e ∈ R, (0 ≤ e.1 ∧ e.1 ≤ 200) ∧ 0 ≤ e.2.1 ∧ e.2.1 ≤ 200) ∧ K (.rd 2 R.length (rowM (R.map midR)))
theorem p53 : PureOk Try.prog 53 C53 := by
 refine pure_of (T := []) trivial Try.func53 k53 ?_
 rintro args K ⟨R, rfl, ⟨hl, hR⟩, hK⟩
 simp only [xAn, xAp, xBc, xCq, xAm, xAb, xAa, xAc, xAd, vK_e, xAo, xAe, evp, st, putf, X.get, mkfr, rep, undef, Nat.reduceSub, true_and, s53, r53]
 refine xBy (G := Nat) (fun i => [(4, .int .i64 i), (3, .own 0)]) (fun i => [.orw 121 2 i (rowM (midN R i))]) (fun i => i ≤ R.length) (fun i => R.length - i) 0 (Nat.zero_le _) ?_
 (intro fr1 hf1; simp only [forget, dstC, dstO, dstD, dst1, st] at hf1; subst hf1)
 refine ⟨?_, ?_⟩
 ·refine xBv 0 [none] (Nat.zero_le _) (by simp [ln]) (by simp [ln]) rfl ?_ ?_
  ·simp only [reL, reX, rn, List.getElem?_cons_zero, Nat.reduceSub, Nat.lt_irrefl, Nat.le_refl, reduceCtorEq, or_true, inb, ln, sts, st, Nat.reduceLT, Nat.reduceAdd, and_self, Int.natCast_zero, implies_true]
  ·simp only [reH, reN, newB, and_self]
 ·intro i hi
  simp only [xCb, ↓reduceIte, xAw, xAn, xCi, xAp, xAu, xBc, xCg, xBa, xAm, xAb, xAa, xAc, xAd, vK_e, appK2_or, appK_e, xAo, evh_app, dX_e, dG_t, xCj, xBt, creK_e, tlK_s, evc_e, xBu, xBz, xAe, xCh, xBk, xBw, xBr, xBm, xAs, xAl, xAq, evp, bin, gt, gq, st, putf, X.get, getp, rdR, tupled, clV, clo, clo.clos, ld, lda, lens, ixs, sp, sp.spl, lay, ll, cs1, one, allOne, gb, sb, pb, ln, evq, gdl, crv, Bool.and_true, Nat.reduceAdd, beq_self_eq_true, true_and, decide_eq_true_eq, decide_eq_false_iff_not, sts, Int.toNat_natCast, rowR]
  refine ⟨fun h => ?_, fun h => ?_⟩
  ·have hi' : i < R.length := by omega
   have hm := hR _ (memR hi')
   refine ⟨by omega, by omega, by omega, by omega, by omega, by omega, ?_⟩
   refine Nx.mk (i + 1) (by show i + 1 ≤ R.length; omega) (by show R.length - (i + 1) < R.length - i; omega) (xBv 0 [some 2] (Nat.zero_le _) (by simp [ln]) (by simp [ln]) rfl ?_ ?_)
   ·simp only [reL, reX, rn, List.getElem?_cons_zero, Nat.reduceSub, Nat.lt_irrefl, Nat.le_refl, and_false, or_true, inb, ln, Nat.reduceLT, Nat.reduceAdd, and_self, Int.natCast_add, Int.natCast_one, implies_true]
   ·simp only [reH, reM, reN, gb, Nat.reduceLeDiff, ln, Nat.reduceLT, Nat.reduceAdd, true_and, and_true, and_self]
    intro j hj
    have hl' := midN_len hi
    unfold rowM
    rw [midN_s hi']
    by_cases hji : j < i
    ·rw [if_pos hji]
     simp only [List.getD, List.getElem?_append_left (show j < (midN R i).length by omega)]
    ·obtain rfl : j = i := by omega
     rw [if_neg hji]
     have : (midN R j ++ [midR (R.getD j r0)]).getD j (0, false) = midR (R.getD j r0) := by
      simp [List.getD, hl']
     rw [this]
     rfl
  ·have e : i = R.length := by omega
   subst e
   refine res hK ?_
   simp [leR, midN]
def F32 : FC := fun args => match args with
 | [.agg [.int .i64 a, .int .i64 b], .int .i64 x] => some (True, .bool (decide (a ≤ x ∧ x ≤ b)))
 | _ => none
theorem p32 : PureOk Try.prog 32 (fcC F32) := by
 refine pure_of (T := [(42, .fc F42)]) ⟨⟨p42, q42⟩, trivial⟩ Try.func32 k32 ?_
 intro args K hC
 unfold fcC F32 at hC
 split at hC <;> first | (exact hC.elim) | skip
 rename_i h
 split at h <;> first | (cases h; done) | skip
 cases h
 obtain ⟨-, hK⟩ := hC
 simp only [xAn, xAp, xBa, xAm, xAb, xAa, xAc, xAd, vK_e, xBd, xAr, xAj, xAo, xAy, xAf, xAe, xAs, xAl, xAq, xAv, xAz, pc_e, xAx, xBh, xBi, evp, gt, gq, st, putf, X.get, gets, ap, mkfr, rep, rdR, tupled, clV, clL, clS, clo, ld, lda, cs1, gb, pb, ln, lk, undef, Nat.reduceSub, Nat.reduceAdd, beq_self_eq_true, true_and, s32, r32, F42]
 exact res hK (by simp [leR])
def F48 : FC := fun args => match args with
 | [.agg [.int .i64 m, .int .i64 l1, .int .i64 l2, .int .i64 v1, .int .i64 v2, .int .i64 z1, .int .i64 z2, .int .i64 w], .agg [.int .i64 a, .int .i64 z, .int .i64 t]] => some (True, .bool (decide ((v1 ≤ a ∧ a ≤ v2) ∧ z1 ≤ z ∧ z ≤ z2)))
 | _ => none
theorem p48 : PureOk Try.prog 48 (fcC F48) := by
 refine pure_of (T := [(65, .fc F42)]) ⟨⟨p65, q65⟩, trivial⟩ Try.func48 k48 ?_
 intro args K hC
 unfold fcC F48 at hC
 split at hC <;> first | (exact hC.elim) | skip
 rename_i h
 split at h <;> first | (cases h; done) | skip
 cases h
 obtain ⟨-, hK⟩ := hC
 simp only [xAn, xAp, xBa, xAm, xAb, xAa, xBj, xBx, xCr, xCo, xAc, xAd, xCd, vK_e, xBd, xAr, xAj, xAo, xAy, xAf, xAe, xAs, xAl, xAq, xAv, xAz, pc_e, xAx, xBh, xBi, evp, gt, gq, st, putf, X.get, gets, ap, mkfr, rep, rdR, tupled, clV, clL, clS, clo, ld, lda, cs1, gb, pb, ln, lk, undef, Nat.reduceSub, Nat.reduceAdd, beq_self_eq_true, true_and, decide_eq_true_eq, decide_eq_false_iff_not, s48, r48, F42]
 exact ⟨fun h => res hK (by simp [leR, h]), fun h => res hK (by simp [leR, h])⟩
end Go.Proofs.Ytgdihdiadlmjiaa
end
section
namespace Go.Proofs.Ytgdihdiadlmjiaa
open Go Go.Vg
set_option maxRecDepth 10000
theorem p58 : PureOk Try.prog 58 C58 := by
 refine pure_of (T := [(52, .pc C52), (85, .fc F85')]) ⟨⟨p52, q52⟩, ⟨p85', q85⟩, trivial⟩ Try.func58 k58 ?_
 rintro args K ⟨v, L, rfl, ⟨hv, hL⟩, hK⟩
 have hv' := hv
 simp only [Vl.ok] at hv'
 simp only [Vl.sv]
 simp only [xAn, xAp, xBc, xCq, xAm, xAb, xAa, xAc, xAd, vK_e, xBd, xAo, xAt, xAy, xAe, evp, gt, gq, st, putf, X.get, mkfr, rep, ld, lda, cs1, gb, pb, ln, undef, Nat.reduceSub, Nat.reduceAdd, true_and, s58, r58]
 refine xBy (G := Nat) (fun i => [(10, .int .i64 (v.z1 + i)), (9, .bool (tzN v L i).f)])
  (fun i => [Blk.box 25 v.cells, Blk.box 23 [.int .i64 0, .int .i64 0], Blk.box 23 [.int .i64 0, .int .i64 0], Blk.box 23 [.int .i64 (tzN v L i).t1, .int .i64 (tzN v L i).t2], Blk.box 23 [.int .i64 (tzN v L i).u1, .int .i64 (tzN v L i).u2]])
  (fun i => v.z1 + i ≤ v.z2 + 1) (fun i => (v.z2 + 1 - v.z1).toNat - i) 0 (by omega) ?_
 (intro fr1 hf1; simp only [forget, dstC, dstO, dstD, dst1, st] at hf1; subst hf1)
 refine ⟨?_, ?_⟩
 ·refine xBv 5 [] (Nat.zero_le _) (by simp [ln]) (by simp [ln]) rfl ?_ ?_
  ·simp only [reL, reX, inb, inb.inbs, ln, sts, st, Bool.and_self, Nat.reduceLT, Nat.reduceAdd, decide_true, and_self, Int.natCast_zero, Int.add_zero, tzN, implies_true]
  ·simp only [reL, reX, reH, reB, reN, inb, ln, Nat.reduceAdd, and_self, Vl.cells, tzN]
 ·intro i hi
  simp only [xAw, xAn, xDi, xCs, xCt, t_op, and_self, xAp, xAu, xBc, xCg, xBa, xAm, xAb, xAa, xAc, xAd, vK_e, xAg, xAh, xAk, xAr, xAj, xAo, xAi, xAf, xBz, xAe, xCh, xBk, xBw, xBr, xAs, xAl, xAq, xAv, xBe, pc_e, xAx, evp, bin, gt, gq, st, putf, X.get, gets, ap, rdR, tupled, clV, clL, clS, clo, ld, lda, tk, dr, sp, sp.spl, ll, cs1, one, allOne, gb, sb, lk, Bool.and_true, Nat.reduceAdd, beq_self_eq_true, true_and, and_true, decide_eq_true_eq, decide_eq_false_iff_not, sts, Vl.cells]
  refine ⟨fun h => ?_, fun h => ?_⟩
  ·refine ⟨v, L, v.z1 + i, rfl, ⟨hv, hL, by omega⟩, ?_⟩
   have bl := loW_b (z := v.z1 + i) hv'.2.2.2.2 (by omega) hL.2
   have bh := hiW_b (z := v.z1 + i) hv'.2.2.2.2 (by omega) hL.2
   simp only [xCb, xAw, xAn, and_self, xCi, xAp, xAu, xCg, xAm, xAb, xAa, xAc, xAd, vK_e, xAg, xAh, xAk, xAr, xAj, xAo, xAi, xAf, dX_e, dG_t, xCj, xBt, xCm, xBu, xAe, xCh, xBk, xBw, xBr, xBm, xAv, xAz, pc_e, xAx, xBh, xBi, evp, bin, gt, gq, st, putf, X.get, gets, ap, clV, clL, clS, clo, ld, lda, tk, dr, sp, sp.spl, ll, cs1, one, allOne, gb, sb, lk, evq, gdl, Value.oneCell', Bool.and_true, Nat.reduceAdd, Nat.reduceBEq, beq_self_eq_true, true_and, decide_eq_true_eq, decide_eq_false_iff_not, F85']
   refine ⟨fun hc => ⟨by omega, ?_⟩, fun hc => ⟨bdp bl (by omega), bdp bl (by omega), bdp bh (by omega), bdp bh (by omega), by omega, ?_⟩⟩
   ·have es : tzN v L (i + 1) = tzN v L i := by rw [tzN, tstep, if_pos hc]
    refine Nx.mk (i + 1) (by show v.z1 + ((i + 1 : Nat) : Int) ≤ v.z2 + 1; omega) (by show (v.z2 + 1 - v.z1).toNat - (i + 1) < (v.z2 + 1 - v.z1).toNat - i; omega) (xBv 5 [] (Nat.zero_le _) (by simp [ln]) (by simp [ln]) rfl ?_ ?_)
    ·simp only [reL, reX, inb, inb.inbs, Bool.and_self, Nat.reduceLT, decide_true, and_self, es, Int.natCast_add, Int.natCast_one, Int.add_assoc, implies_true]
    ·simp only [reL, reX, reH, reB, reN, inb, and_self, es]
   ·have es : tzN v L (i + 1) = tstep v L (v.z1 + i) (tzN v L i) := rfl
    rw [tstep, if_neg hc] at es
    refine Nx.mk (i + 1) (by show v.z1 + ((i + 1 : Nat) : Int) ≤ v.z2 + 1; omega) (by show (v.z2 + 1 - v.z1).toNat - (i + 1) < (v.z2 + 1 - v.z1).toNat - i; omega) (xBv 5 [] (Nat.zero_le _) (by simp [ln]) (by simp [ln]) rfl ?_ ?_)
    ·simp only [reL, reX, inb, inb.inbs, Bool.and_self, Nat.reduceLT, decide_true, and_self, es, Int.natCast_add, Int.natCast_one, Int.add_assoc, implies_true]
    ·simp only [reL, reX, reH, reB, reN, inb, and_self, es, Vl.lst, Vl.mst]
  ·have e : (v.z2 + 1 - v.z1).toNat = i := by omega
   unfold tzA at hK
   rw [e] at hK
   exact res hK (by simp [leR, leR.leRs])
end Go.Proofs.Ytgdihdiadlmjiaa
end
section
namespace Go.Proofs.Ytgdihdiadlmjiaa
open Go Go.Vg
set_option maxRecDepth 10000
def s17 : SC :=
 (.seq (.reg [⟨(some 3), none, .box 25 (.t 0)⟩,
  ⟨(some 5), none, .box 28 (.t 2)⟩,
  ⟨(some 6), none, .v (.mov (.c (.lit (.bool false))))⟩,
  ⟨(some 7), none, .v (.mov (.c (.int .i64 (0))))⟩])
 (.seq (.seq (.reg [⟨(some 11), none, .v (.load (.t 3) (some 8))⟩,
  ⟨(some 12), none, .v (.mov (.t 1))⟩,
  ⟨(some 13), none, .call (.c (.fn 51 [])) [(.t 11), (.t 12)]⟩,
  ⟨(some 8), none, .v (.mov (.t 13))⟩])
 (.seq (.reg [⟨(some 14), none, .v (.mov (.t 8))⟩,
  ⟨(some 15), none, .v (.bin .neq (.t 14) (.c (.int .i64 (0))))⟩])
 (.cond (.t 15)
  (.seq (.reg [⟨(some 16), none, .v (.mov (.t 8))⟩,
   ⟨(some 6), none, .v (.mov (.c (.lit (.bool false))))⟩,
   ⟨(some 7), none, .v (.mov (.t 16))⟩])
  .ret)
  .skip)))
 (.seq (.seq (.reg [⟨(some 17), none, .v (.off (.t 3) 3)⟩,
  ⟨(some 18), none, .v (.load (.t 17) (some 2))⟩,
  ⟨(some 19), none, .v (.off (.t 5) 0)⟩,
  ⟨(some 20), none, .v (.load (.t 19) none)⟩,
  ⟨(some 21), none, .call (.c (.fn 32 [])) [(.t 18), (.t 20)]⟩,
  ⟨(some 22), none, .v (.not (.t 21))⟩,
  ⟨(some 23), none, .v (.mov (.t 22))⟩,
  ⟨(some 24), (some (23, false)), .v (.off (.t 3) 5)⟩,
  ⟨(some 25), (some (23, false)), .v (.load (.t 24) (some 2))⟩,
  ⟨(some 26), (some (23, false)), .v (.off (.t 5) 1)⟩,
  ⟨(some 27), (some (23, false)), .v (.load (.t 26) none)⟩,
  ⟨(some 28), (some (23, false)), .call (.c (.fn 32 [])) [(.t 25), (.t 27)]⟩,
  ⟨(some 29), (some (23, false)), .v (.not (.t 28))⟩,
  ⟨(some 30), none, .v (.pick (.t 23) (.c (.lit (.bool true))) (.t 29))⟩])
 (.cond (.t 30)
  (.seq (.reg [⟨(some 6), none, .v (.mov (.c (.lit (.bool false))))⟩,
   ⟨(some 7), none, .v (.mov (.c (.int .i64 (32))))⟩])
  .ret)
  .skip))
 (.seq (.drw [(0, ⟨(some 32), none, .v (.load (.t 3) (some 8))⟩, false),
  (1, ⟨(some 33), none, .v (.mov (.t 1))⟩, false),
  (2, ⟨(some 34), none, .call (.c (.fn 53 [])) [(.t 33)]⟩, false),
  (3, ⟨(some 35), none, .v (.off (.t 5) 1)⟩, false),
  (4, ⟨(some 36), none, .v (.load (.t 35) none)⟩, false),
  (5, ⟨(some 37), none, .call (.c (.fn 52 [])) [(.t 32), (.t 34), (.t 36)]⟩, false),
  (6, ⟨(some 31), none, .v (.mov (.t 37))⟩, false),
  (7, ⟨(some 38), none, .v (.ext (.t 31) 0)⟩, false),
  (8, ⟨(some 39), none, .v (.ext (.t 31) 1)⟩, false),
  (9, ⟨(some 9), none, .v (.mov (.t 38))⟩, false)]
  none
  [⟨(some 10), none, .v (.mov (.t 39))⟩])
 (.seq (.reg [⟨(some 40), none, .v (.mov (.t 9))⟩,
  ⟨(some 41), none, .v (.mov (.t 10))⟩,
  ⟨(some 42), none, .v (.bin .leq (.t 40) (.t 41))⟩,
  ⟨(some 43), none, .v (.mov (.t 42))⟩,
  ⟨(some 44), (some (43, true)), .v (.off (.t 5) 2)⟩,
  ⟨(some 45), (some (43, true)), .v (.load (.t 44) none)⟩,
  ⟨(some 46), (some (43, true)), .v (.mov (.t 9))⟩,
  ⟨(some 47), (some (43, true)), .v (.off (.t 5) 0)⟩,
  ⟨(some 48), (some (43, true)), .v (.load (.t 47) none)⟩,
  ⟨(some 49), (some (43, true)), .v (.bin .mul (.t 46) (.t 48))⟩,
  ⟨(some 50), (some (43, true)), .v (.mov (.t 10))⟩,
  ⟨(some 51), (some (43, true)), .v (.off (.t 5) 0)⟩,
  ⟨(some 52), (some (43, true)), .v (.load (.t 51) none)⟩,
  ⟨(some 53), (some (43, true)), .v (.bin .mul (.t 50) (.t 52))⟩,
  ⟨(some 54), (some (43, true)), .call (.c (.fn 42 [])) [(.t 45), (.t 49), (.t 53)]⟩,
  ⟨(some 55), none, .v (.pick (.t 43) (.t 54) (.c (.lit (.bool false))))⟩,
  ⟨(some 6), none, .v (.mov (.t 55))⟩,
  ⟨(some 7), none, .v (.mov (.c (.int .i64 (0))))⟩])
 .ret)))))
def r17 : List RV := [.t 6, .t 7]
theorem k17 : (Try.f17.body.bind (cC Try.prog), cR Try.prog Try.f17.results.toList, Try.f17.ntmps) = (some s17, some r17, 56) := by kernel_rfl
theorem q17 : Known Try.prog 17 := ⟨_, Try.func17, by decide, by simp [Try.f17]⟩
def decM (n : Nat) (f : Nat → List SV) : List Md := (List.range n).map fun j => match f j with
 | [.int .i64 a, .bool b] => (a, b)
 | _ => (0, false)
def decR (n : Nat) (f : Nat → List SV) : List Rg := (List.range n).map fun j => match f j with
 | [.int .i64 a, .int .i64 b, .bool c] => (a, b, c)
 | _ => r0
theorem decM_row (L : List Md) : decM L.length (rowM L) = L := by
 refine List.ext_getElem (by simp [decM]) fun i h1 h2 => ?_
 simp [decM, rowM, List.getD, h2]
theorem xCn (R : List Rg) : decR R.length (rowR R) = R := by
 refine List.ext_getElem (by simp [decR]) fun i h1 h2 => ?_
 simp [decR, rowR, List.getD, h2]
theorem xDs (n : Nat) (f : Nat → List SV) : (decM n f).length = n := by simp [decM]
theorem xCw (n : Nat) (f : Nat → List SV) : (decR n f).length = n := by simp [decR]
def F52 : FC := fun args => match args with
 | [.agg [.int .i64 m, .int .i64 l1, .int .i64 l2, .int .i64 v1, .int .i64 v2, .int .i64 z1, .int .i64 z2, .int .i64 w], .rd 2 n f, .int .i64 z] =>
  some ((Vl.ok ⟨m, l1, l2, v1, v2, z1, z2, w⟩ ∧ okM (decM n f) ∧ -1000 ≤ z ∧ z ≤ 1000) ∧ ∀ j, j < n → f j = rowM (decM n f) j, .tup [.int .i64 (loW w z (decM n f)), .int .i64 (hiW w z (decM n f))])
 | _ => none
theorem p52f : PureOk Try.prog 52 (fcC F52) := by
 intro w im args vs K hb hv hC
 refine p52.le w im args vs K hb hv ?_
 unfold fcC F52 at hC
 split at hC <;> first | (exact hC.elim) | skip
 rename_i h
 split at h <;> first | (cases h; done) | skip
 rename_i m l1 l2 v1 v2 z1 z2 w n f z
 cases h
 refine ⟨[Vl.sv ⟨m, l1, l2, v1, v2, z1, z2, w⟩, .rd 2 (decM n f).length (rowM (decM n f)), .int .i64 z], ⟨.inl (by simp [Vl.sv, leR, leR.leRs]), .inl ?_, .inl (by simp [leR]), trivial⟩, ⟨m, l1, l2, v1, v2, z1, z2, w⟩, _, z, rfl, hC.1.1, hC.2⟩
 rw [xDs]
 exact ⟨rfl, rfl, hC.1.2⟩
def F53 : FC := fun args => match args with
 | [.rd 3 n f] => some ((n ≤ 8 ∧ ∀ e ∈ decR n f, (0 ≤ e.1 ∧ e.1 ≤ 200) ∧ 0 ≤ e.2.1 ∧ e.2.1 ≤ 200) ∧ ∀ j, j < n → f j = rowR (decR n f) j, .rd 2 n (rowM ((decR n f).map midR)))
 | _ => none
theorem p53f : PureOk Try.prog 53 (fcC F53) := by
 intro w im args vs K hb hv hC
 refine p53.le w im args vs K hb hv ?_
 unfold fcC F53 at hC
 split at hC <;> first | (exact hC.elim) | skip
 rename_i h
 split at h <;> first | (cases h; done) | skip
 rename_i n f
 cases h
 refine ⟨[.rd 3 (decR n f).length (rowR (decR n f))], ⟨.inl ?_, trivial⟩, decR n f, rfl, ⟨by rw [xCw]; exact hC.1.1.1, hC.1.1.2⟩, by rw [xCw]; exact hC.2⟩
 rw [xCw]
 exact ⟨rfl, rfl, hC.1.2⟩
theorem xDf (R : List Rg) : decM R.length (rowM (R.map midR)) = R.map midR := by
 have := decM_row (R.map midR)
 rwa [List.length_map] at this
def canP (v : Vl) (R : List Rg) (a z t : Int) : Prop := loW v.w z (R.map midR) ≤ hiW v.w z (R.map midR) ∧ loW v.w z (R.map midR) * a ≤ t ∧ t ≤ hiW v.w z (R.map midR) * a
instance (v : Vl) (R : List Rg) (a z t : Int) : Decidable (canP v R a z t) := by unfold canP; infer_instance
def truP (v : Vl) (a z : Int) : Prop := (v.v1 ≤ a ∧ a ≤ v.v2) ∧ v.z1 ≤ z ∧ z ≤ v.z2
def C17 : PC := fun args K => ∃ (v : Vl) (R : List Rg) (a z t : Int), args = [v.sv, .rd 3 R.length (rowR R), .agg [.int .i64 a, .int .i64 z, .int .i64 t]] ∧
 (askI v R ≠ 0 → K (.tup [.bool false, .int .i64 (askI v R)])) ∧
 (askI v R = 0 → ¬ truP v a z → K (.tup [.bool false, .int .i64 32])) ∧
 (askI v R = 0 → truP v a z → K (.tup [.bool (decide (canP v R a z t)), .int .i64 0]))
theorem ask0 {v : Vl} {R : List Rg} (h : askI v R = 0) : v.ok ∧ okRs v R := by
 unfold askI at h
 split at h
 ·split at h
  ·rename_i a b; exact ⟨a, b⟩
  ·cases h
 ·cases h
theorem p17 : PureOk Try.prog 17 C17 := by
 refine pure_of (T := [(51, .pc C51), (32, .fc F32), (53, .fc F53), (52, .fc F52), (42, .fc F42)]) ⟨⟨p51, q51⟩, ⟨p32, q32⟩, ⟨p53f, q53⟩, ⟨p52f, q52⟩, ⟨p42, q42⟩, trivial⟩ Try.func17 k17 ?_
 rintro args K ⟨v, R, a, z, t, rfl, hK1, hK2, hK3⟩
 simp only [Vl.sv]
 simp only [xAn, xAp, xAm, xAb, xAa, xAc, xAd, vK_e, xBd, xAr, xAj, xAo, xAy, xAf, xAe, xAv, xBe, pc_e, xAx, evp, bin, gt, st, putf, X.get, gets, ap, mkfr, rep, clV, clL, clS, clo, ld, lda, tk, dr, cs1, gb, pb, ln, lk, undef, Nat.reduceSub, Nat.reduceAdd, beq_self_eq_true, true_and, s17, r17]
 refine ⟨v, R, rfl, ?_⟩
 simp only [xCb, xAw, xAn, xCi, xAp, xAu, xBa, xAm, xAb, xAa, xBj, xBx, gdK_tf, xCr, xDa, xCo, gdK_bf, xAc, xAd, xCd, vK_e, xAr, xAj, xAo, xAf, dX_e, dG_t, xCj, xBt, xCm, xAe, xBo, xCf, xBk, xAs, xAl, xAq, xAv, xAz, xCa, xBs, pc_e, xAx, xBh, xBi, evp, bin, gt, gq, st, putf, X.get, gets, ap, rdR, tupled, clV, clL, clS, clo, clo.clos, ld, lda, tk, dr, gb, lk, evq, gdl, undef, Bool.and_true, Bool.not_true, Bool.not_false, Nat.reduceAdd, Nat.reduceBEq, beq_self_eq_true, true_and, decide_eq_true_eq, decide_eq_false_iff_not, Bool.not_eq_eq_eq_not, F32, F42, F52, F53, xCn, xDf]
 refine ⟨fun h => res (hK1 h) (by simp [leR, leR.leRs]), fun h => ?_⟩
 obtain ⟨hv, hR⟩ := ask0 h
 have hv' := hv
 simp only [Vl.ok] at hv'
 have hRb : ∀ e ∈ R, (0 ≤ e.1 ∧ e.1 ≤ 200) ∧ 0 ≤ e.2.1 ∧ e.2.1 ≤ 200 := fun e he => by
  have h1 := hR.2 e he
  simp only [okR] at h1
  omega
 have hM : okM (R.map midR) := ⟨by have := hR.1; simp only [List.length_map]; omega, fun e he => by
  obtain ⟨r, hr, rfl⟩ := List.mem_map.1 he
  have := hRb r hr
  simp only [midR]
  omega⟩
 refine ⟨fun a1 => ⟨fun a2 => res (hK2 h fun h3 => a2 h3.2) (by simp [leR, leR.leRs]), fun a2 => ?_⟩, fun a1 => res (hK2 h fun h3 => a1 h3.1) (by simp [leR, leR.leRs])⟩
 have bl := loW_b (z := z) hv'.2.2.2.2 (by omega) hM.2
 have bh := hiW_b (z := z) hv'.2.2.2.2 (by omega) hM.2
 have hK3 := hK3 h ⟨a1, a2⟩
 refine ⟨⟨⟨hR.1.2, hRb⟩, fun _ _ => trivial⟩, ⟨⟨hv, hM, by omega⟩, fun _ _ => trivial⟩, fun c => ⟨bdp bl (by omega), bdp bh (by omega), res hK3 ?_⟩, fun c => res hK3 ?_⟩
 ·simp [leR, leR.leRs, canP, c]
 ·simp [leR, leR.leRs, canP, c]
end Go.Proofs.Ytgdihdiadlmjiaa
end
section
namespace Go.Proofs.Ytgdihdiadlmjiaa
open Go Go.Vg
set_option maxRecDepth 10000
def s118 : SC :=
 (.seq (.reg [⟨(some 2), none, .box 145 (.t 0)⟩,
  ⟨(some 4), none, .new 23 [(.int .i64 (0)), (.int .i64 (0))]⟩])
 (.seq (.reg [⟨(some 5), none, .v (.off (.t 2) 0)⟩,
  ⟨(some 6), none, .v (.load (.t 5) none)⟩,
  ⟨(some 7), none, .v (.mov (.t 1))⟩,
  ⟨(some 8), none, .v (.bin .sub (.t 6) (.t 7))⟩,
  ⟨(some 9), none, .v (.off (.t 2) 1)⟩,
  ⟨(some 10), none, .v (.load (.t 9) none)⟩,
  ⟨(some 11), none, .v (.mov (.t 1))⟩,
  ⟨(some 12), none, .v (.bin .sub (.t 10) (.t 11))⟩,
  ⟨(some 13), none, .bld [(.int .i64 (0)), (.int .i64 (0))] [(0, 1, (.t 8)), (1, 1, (.t 12))]⟩,
  ⟨none, none, .store 2 (.t 4) (.t 13)⟩])
 .ret))
def r118 : List RV := [.c 4 (some 2)]
theorem k118 : (Try.f118.body.bind (cC Try.prog), cR Try.prog Try.f118.results.toList, Try.f118.ntmps) = (some s118, some r118, 14) := by kernel_rfl
theorem q118 : Known Try.prog 118 := ⟨_, Try.func118, by decide, by simp [Try.f118]⟩
def s119 : SC :=
 (.seq (.reg [⟨(some 2), none, .box 146 (.t 0)⟩,
  ⟨(some 4), none, .new 23 [(.int .i64 (0)), (.int .i64 (0))]⟩])
 (.seq (.reg [⟨(some 5), none, .v (.mov (.t 1))⟩,
  ⟨(some 6), none, .v (.off (.t 2) 1)⟩,
  ⟨(some 7), none, .v (.load (.t 6) none)⟩,
  ⟨(some 8), none, .v (.bin .sub (.t 5) (.t 7))⟩,
  ⟨(some 9), none, .v (.mov (.t 1))⟩,
  ⟨(some 10), none, .v (.off (.t 2) 0)⟩,
  ⟨(some 11), none, .v (.load (.t 10) none)⟩,
  ⟨(some 12), none, .v (.bin .sub (.t 9) (.t 11))⟩,
  ⟨(some 13), none, .bld [(.int .i64 (0)), (.int .i64 (0))] [(0, 1, (.t 8)), (1, 1, (.t 12))]⟩,
  ⟨none, none, .store 2 (.t 4) (.t 13)⟩])
 .ret))
def r119 : List RV := [.c 4 (some 2)]
theorem k119 : (Try.f119.body.bind (cC Try.prog), cR Try.prog Try.f119.results.toList, Try.f119.ntmps) = (some s119, some r119, 14) := by kernel_rfl
theorem q119 : Known Try.prog 119 := ⟨_, Try.func119, by decide, by simp [Try.f119]⟩
def s80 : SC :=
 (.seq (.reg [⟨(some 1), none, .box 78 (.t 0)⟩,
  ⟨(some 2), none, .v (.mov (.c (.lit .nilFunc)))⟩])
 (.seq (.reg [⟨(some 3), none, .v (.mkfn 95 [(.t 1)])⟩,
  ⟨(some 2), none, .v (.mov (.t 3))⟩])
 .ret))
def r80 : List RV := [.t 2]
theorem k80 : (Try.f80.body.bind (cC Try.prog), cR Try.prog Try.f80.results.toList, Try.f80.ntmps) = (some s80, some r80, 4) := by kernel_rfl
theorem q80 : Known Try.prog 80 := ⟨_, Try.func80, by decide, by simp [Try.f80]⟩
def sml (x : Int) : Prop := -1000000000000 ≤ x ∧ x ≤ 1000000000000
def F118 : FC := fun args => match args with
 | [.agg [.int .i64 a, .int .i64 b], .int .i64 z] => some (sml a ∧ sml b ∧ sml z, .agg [.int .i64 (a - z), .int .i64 (b - z)])
 | _ => none
theorem p118 : PureOk Try.prog 118 (fcC F118) := by
 refine pure_of (T := []) trivial Try.func118 k118 ?_
 intro args K hC
 unfold fcC F118 at hC
 split at hC <;> first | (exact hC.elim) | skip
 rename_i h
 split at h <;> first | (cases h; done) | skip
 cases h
 obtain ⟨⟨ha, hb, hz⟩, hK⟩ := hC
 unfold sml at ha hb hz
 simp only [xCb, ↓reduceIte, xAn, and_self, xAp, xBa, xAm, xAb, xAa, xAc, xAd, vK_e, xBd, xBn, xAg, xAh, xAk, xAo, xAt, xAy, xBf, xAi, xAe, xAs, xAl, xAq, evp, bin, gt, gq, st, putf, X.get, getp, mkfr, rep, rdR, tupled, clV, clL, clS, clo, ld, lda, tk, dr, sp, sp.spl, lay, ll, cs1, one, allOne, gb, sb, pb, ln, undef, Bool.and_true, Nat.reduceSub, Nat.reduceAdd, beq_self_eq_true, true_and, s118, r118]
 exact ⟨by omega, by omega, res hK (by simp [leR, leR.leRs])⟩
def F119 : FC := fun args => match args with
 | [.agg [.int .i64 a, .int .i64 b], .int .i64 z] => some (sml a ∧ sml b ∧ sml z, .agg [.int .i64 (z - b), .int .i64 (z - a)])
 | _ => none
theorem p119 : PureOk Try.prog 119 (fcC F119) := by
 refine pure_of (T := []) trivial Try.func119 k119 ?_
 intro args K hC
 unfold fcC F119 at hC
 split at hC <;> first | (exact hC.elim) | skip
 rename_i h
 split at h <;> first | (cases h; done) | skip
 cases h
 obtain ⟨⟨ha, hb, hz⟩, hK⟩ := hC
 unfold sml at ha hb hz
 simp only [xCb, ↓reduceIte, xAn, and_self, xAp, xBa, xAm, xAb, xAa, xAc, xAd, vK_e, xBd, xBn, xAg, xAh, xAk, xAo, xAt, xAy, xBf, xAi, xAe, xAs, xAl, xAq, evp, bin, gt, gq, st, putf, X.get, getp, mkfr, rep, rdR, tupled, clV, clL, clS, clo, ld, lda, tk, dr, sp, sp.spl, lay, ll, cs1, one, allOne, gb, sb, pb, ln, undef, Bool.and_true, Nat.reduceSub, Nat.reduceAdd, beq_self_eq_true, true_and, s119, r119]
 exact ⟨by omega, by omega, res hK (by simp [leR, leR.leRs])⟩
def F80 : FC := fun args => match args with
 | [.agg [.int .i64 m, .int .i64 l1, .int .i64 l2, .int .i64 v1, .int .i64 v2, .int .i64 z1, .int .i64 z2, .int .i64 w]] => some (True, .fn 95 [.rp (Vl.cells ⟨m, l1, l2, v1, v2, z1, z2, w⟩) 0])
 | _ => none
theorem p80 : PureOk Try.prog 80 (fcC F80) := by
 refine pure_of (T := []) trivial Try.func80 k80 ?_
 intro args K hC
 unfold fcC F80 at hC
 split at hC <;> first | (exact hC.elim) | skip
 rename_i h
 split at h <;> first | (cases h; done) | skip
 cases h
 obtain ⟨-, hK⟩ := hC
 simp only [xAn, xAp, xBa, xAm, xAb, xAa, xAc, xAd, vK_e, xBd, xAo, xAy, xAe, xAs, xAl, xAq, evp, gt, st, putf, X.get, gets, mkfr, rep, rdR, tupled, clV, clL, clS, clo, cs1, gb, sb, pb, ln, undef, Nat.reduceSub, true_and, s80, r80]
 exact res hK (by simp [leR, leR.leRs, Vl.cells])
end Go.Proofs.Ytgdihdiadlmjiaa
end
