import Derived.Test.YtjagiieconpgbaaVgPT
section
namespace Go.Proofs.Ytjagiieconpgbaa
open Go Go.Vg
set_option linter.unusedSimpArgs false
set_option linter.unusedVariables false
set_option maxRecDepth 10000
def s42 : SC :=
 (.seq (.reg [⟨(some 4), none, .v (.mov (.c (.int .i64 (0))))⟩])
 (.seq (.reg [⟨(some 6), none, .v (.mov (.t 0))⟩,
  ⟨(some 7), none, .v (.mov (.t 1))⟩,
  ⟨(some 8), none, .v (.bin .rem (.t 6) (.t 7))⟩,
  ⟨(some 5), none, .v (.mov (.t 8))⟩])
 (.seq (.seq (.reg [⟨(some 9), none, .v (.mov (.t 5))⟩,
  ⟨(some 10), none, .v (.bin .lss (.t 9) (.c (.int .i64 (0))))⟩])
 (.cond (.t 10)
  (.reg [⟨(some 11), none, .v (.mov (.t 5))⟩,
   ⟨(some 12), none, .v (.mov (.t 1))⟩,
   ⟨(some 13), none, .v (.bin .add (.t 11) (.t 12))⟩,
   ⟨(some 5), none, .v (.mov (.t 13))⟩])
  .skip))
 (.seq (.reg [⟨(some 14), none, .v (.mov (.t 5))⟩,
  ⟨(some 4), none, .v (.mov (.t 14))⟩])
 .ret))))
def r42 : List RV := [.t 4]
theorem k42 : (Try.f42.body.bind (cC Try.prog), cR Try.prog Try.f42.results.toList, Try.f42.ntmps) = (some s42, some r42, 15) := by kernel_rfl
theorem q42 : Known Try.prog 42 := ⟨_, Try.func42, by decide, by simp [Try.f42]⟩
def s38 : SC :=
 (.seq (.reg [⟨(some 4), none, .v (.mov (.c (.int .i64 (0))))⟩])
 (.seq (.seq (.reg [⟨(some 5), none, .v (.mov (.t 0))⟩,
  ⟨(some 6), none, .v (.len (.t 5))⟩,
  ⟨(some 7), none, .v (.bin .eql (.t 6) (.c (.int .i64 (0))))⟩])
 (.cond (.t 7)
  (.seq (.reg [⟨(some 4), none, .v (.mov (.c (.int .i64 (0))))⟩])
  .ret)
  .skip))
 (.seq (.reg [⟨(some 8), none, .v (.mov (.t 0))⟩,
  ⟨(some 9), none, .v (.mov (.t 1))⟩,
  ⟨(some 10), none, .v (.mov (.t 0))⟩,
  ⟨(some 11), none, .v (.len (.t 10))⟩,
  ⟨(some 12), none, .call (.c (.fn 42 [])) [(.t 9), (.t 11)]⟩,
  ⟨(some 13), none, .v (.ixa (.t 8) (.t 12) 1)⟩,
  ⟨(some 14), none, .v (.load (.t 13) none)⟩,
  ⟨(some 4), none, .v (.mov (.t 14))⟩])
 .ret)))
def r38 : List RV := [.t 4]
theorem k38 : (Try.f38.body.bind (cC Try.prog), cR Try.prog Try.f38.results.toList, Try.f38.ntmps) = (some s38, some r38, 15) := by kernel_rfl
theorem q38 : Known Try.prog 38 := ⟨_, Try.func38, by decide, by simp [Try.f38]⟩
def s37 : SC :=
 (.seq (.reg [⟨(some 6), none, .v (.mov (.c (.int .i64 (0))))⟩])
 (.seq (.seq (.reg [⟨(some 8), none, .v (.mov (.t 0))⟩,
  ⟨(some 9), none, .v (.mov (.t 1))⟩,
  ⟨(some 10), none, .v (.bin .geq (.t 8) (.t 9))⟩])
 (.cond (.t 10)
  (.seq (.reg [⟨(some 11), none, .v (.mov (.t 0))⟩,
   ⟨(some 6), none, .v (.mov (.t 11))⟩])
  .ret)
  .skip))
 (.seq (.reg [⟨(some 12), none, .v (.mov (.t 1))⟩,
  ⟨(some 13), none, .v (.mov (.t 0))⟩,
  ⟨(some 14), none, .v (.bin .sub (.t 12) (.t 13))⟩,
  ⟨(some 15), none, .v (.bin .add (.t 14) (.c (.int .i64 (1))))⟩,
  ⟨(some 7), none, .v (.mov (.t 15))⟩])
 (.seq (.seq (.reg [⟨(some 16), none, .v (.mov (.t 7))⟩,
  ⟨(some 17), none, .v (.bin .lss (.t 16) (.c (.int .i64 (1))))⟩])
 (.cond (.t 17)
  (.seq (.reg [⟨(some 18), none, .v (.mov (.t 2))⟩,
   ⟨(some 19), none, .v (.mov (.t 0))⟩,
   ⟨(some 20), none, .v (.max2 (.t 18) (.t 19))⟩,
   ⟨(some 21), none, .v (.mov (.t 1))⟩,
   ⟨(some 22), none, .v (.min2 (.t 20) (.t 21))⟩,
   ⟨(some 6), none, .v (.mov (.t 22))⟩])
  .ret)
  .skip))
 (.seq (.reg [⟨(some 23), none, .v (.mov (.t 0))⟩,
  ⟨(some 24), none, .v (.mov (.t 2))⟩,
  ⟨(some 25), none, .v (.mov (.t 7))⟩,
  ⟨(some 26), none, .call (.c (.fn 42 [])) [(.t 24), (.t 25)]⟩,
  ⟨(some 27), none, .v (.bin .add (.t 23) (.t 26))⟩,
  ⟨(some 6), none, .v (.mov (.t 27))⟩])
 .ret)))))
def r37 : List RV := [.t 6]
theorem k37 : (Try.f37.body.bind (cC Try.prog), cR Try.prog Try.f37.results.toList, Try.f37.ntmps) = (some s37, some r37, 28) := by kernel_rfl
theorem q37 : Known Try.prog 37 := ⟨_, Try.func37, by decide, by simp [Try.f37]⟩
def s49 : SC :=
 (.seq (.reg [⟨(some 2), none, .v (.mov (.c (.int .i64 (0))))⟩])
 (.seq (.reg [⟨(some 3), none, .v (.mov (.t 0))⟩,
  ⟨(some 4), none, .v (.mov (.t 0))⟩,
  ⟨(some 5), none, .v (.neg (.t 4))⟩,
  ⟨(some 6), none, .v (.max2 (.t 3) (.t 5))⟩,
  ⟨(some 2), none, .v (.mov (.t 6))⟩])
 .ret))
def r49 : List RV := [.t 2]
theorem k49 : (Try.f49.body.bind (cC Try.prog), cR Try.prog Try.f49.results.toList, Try.f49.ntmps) = (some s49, some r49, 7) := by kernel_rfl
theorem q49 : Known Try.prog 49 := ⟨_, Try.func49, by decide, by simp [Try.f49]⟩
def s47 : SC :=
 (.seq (.reg [⟨(some 4), none, .v (.mov (.c (.lit (.bool false))))⟩])
 (.seq (.seq (.reg [⟨(some 5), none, .v (.mov (.c (.int .i64 (0))))⟩])
 (.block 0 (.loop
  (.seq (.seq (.reg [⟨(some 6), none, .v (.mov (.t 5))⟩,
   ⟨(some 7), none, .v (.mov (.t 0))⟩,
   ⟨(some 8), none, .v (.len (.t 7))⟩,
   ⟨(some 9), none, .v (.mov (.t 1))⟩,
   ⟨(some 10), none, .v (.len (.t 9))⟩,
   ⟨(some 11), none, .v (.min2 (.t 8) (.t 10))⟩,
   ⟨(some 12), none, .v (.bin .lss (.t 6) (.t 11))⟩])
  (.cond (.t 12)
   .skip
   (.exit 0)))
  (.seq (.block 1 (.seq (.seq (.drw [(0, ⟨(some 15), none, .v (.mov (.t 0))⟩, false),
   (1, ⟨(some 16), none, .v (.mov (.t 5))⟩, false),
   (2, ⟨(some 17), none, .v (.ixa (.t 15) (.t 16) 1)⟩, false),
   (3, ⟨(some 18), none, .v (.load (.t 17) none)⟩, false),
   (4, ⟨(some 19), none, .v (.mov (.t 1))⟩, false),
   (5, ⟨(some 20), none, .v (.mov (.t 5))⟩, false),
   (6, ⟨(some 21), none, .v (.ixa (.t 19) (.t 20) 1)⟩, false),
   (7, ⟨(some 22), none, .v (.load (.t 21) none)⟩, false)]
   none
   [⟨(some 23), none, .v (.bin .lss (.t 18) (.t 22))⟩])
  (.cond (.t 23)
   (.seq (.reg [⟨(some 4), none, .v (.mov (.c (.lit (.bool true))))⟩])
   .ret)
   .skip))
  (.seq (.drw [(0, ⟨(some 24), none, .v (.mov (.t 0))⟩, false),
   (1, ⟨(some 25), none, .v (.mov (.t 5))⟩, false),
   (2, ⟨(some 26), none, .v (.ixa (.t 24) (.t 25) 1)⟩, false),
   (3, ⟨(some 27), none, .v (.load (.t 26) none)⟩, false),
   (4, ⟨(some 28), none, .v (.mov (.t 1))⟩, false),
   (5, ⟨(some 29), none, .v (.mov (.t 5))⟩, false),
   (6, ⟨(some 30), none, .v (.ixa (.t 28) (.t 29) 1)⟩, false),
   (7, ⟨(some 31), none, .v (.load (.t 30) none)⟩, false)]
   none
   [⟨(some 32), none, .v (.bin .gtr (.t 27) (.t 31))⟩])
  (.cond (.t 32)
   (.seq (.reg [⟨(some 4), none, .v (.mov (.c (.lit (.bool false))))⟩])
   .ret)
   .skip))))
  (.reg [⟨(some 13), none, .v (.mov (.t 5))⟩,
   ⟨(some 14), none, .v (.bin .add (.t 13) (.c (.int .i64 (1))))⟩,
   ⟨(some 5), none, .v (.mov (.t 14))⟩]))))))
 (.seq (.reg [⟨(some 33), none, .v (.mov (.t 0))⟩,
  ⟨(some 34), none, .v (.len (.t 33))⟩,
  ⟨(some 35), none, .v (.mov (.t 1))⟩,
  ⟨(some 36), none, .v (.len (.t 35))⟩,
  ⟨(some 37), none, .v (.bin .lss (.t 34) (.t 36))⟩,
  ⟨(some 4), none, .v (.mov (.t 37))⟩])
 .ret)))
def r47 : List RV := [.t 4]
theorem k47 : (Try.f47.body.bind (cC Try.prog), cR Try.prog Try.f47.results.toList, Try.f47.ntmps) = (some s47, some r47, 38) := by kernel_rfl
theorem q47 : Known Try.prog 47 := ⟨_, Try.func47, by decide, by simp [Try.f47]⟩
def s48 : SC :=
 (.seq (.reg [⟨(some 6), none, .v (.mov (.c (.int .i64 (0))))⟩,
  ⟨(some 7), none, .v (.mov (.c (.lit (.bool false))))⟩])
 (.seq (.reg [⟨(some 8), none, .v (.mov (.c (.int .i64 (0))))⟩])
 (.seq (.seq (.reg [⟨(some 9), none, .v (.mov (.c (.int .i64 (0))))⟩])
 (.block 0 (.loop
  (.seq (.seq (.reg [⟨(some 14), none, .v (.mov (.t 9))⟩,
   ⟨(some 15), none, .v (.mov (.t 1))⟩,
   ⟨(some 16), none, .v (.len (.t 15))⟩,
   ⟨(some 17), none, .v (.bin .lss (.t 14) (.t 16))⟩])
  (.cond (.t 17)
   .skip
   (.exit 0)))
  (.seq (.block 1 (.seq (.seq (.reg [⟨(some 20), none, .v (.mov (.t 1))⟩,
   ⟨(some 21), none, .v (.mov (.t 9))⟩,
   ⟨(some 22), none, .v (.ixa (.t 20) (.t 21) 1)⟩,
   ⟨(some 23), none, .v (.load (.t 22) none)⟩,
   ⟨(some 24), none, .v (.mov (.t 0))⟩,
   ⟨(some 25), none, .v (.len (.t 24))⟩,
   ⟨(some 26), none, .v (.bin .sub (.t 25) (.c (.int .i64 (1))))⟩,
   ⟨(some 27), none, .call (.c (.fn 33 [])) [(.t 23), (.c (.int .i64 (0))), (.t 26)]⟩,
   ⟨(some 28), none, .v (.not (.t 27))⟩,
   ⟨(some 29), none, .v (.mov (.t 28))⟩,
   ⟨(some 30), (some (29, false)), .v (.mov (.t 0))⟩,
   ⟨(some 31), (some (29, false)), .v (.mov (.t 1))⟩,
   ⟨(some 32), (some (29, false)), .v (.mov (.t 9))⟩,
   ⟨(some 33), (some (29, false)), .v (.ixa (.t 31) (.t 32) 1)⟩,
   ⟨(some 34), (some (29, false)), .v (.load (.t 33) none)⟩,
   ⟨(some 35), (some (29, false)), .v (.ixa (.t 30) (.t 34) 3)⟩,
   ⟨(some 36), (some (29, false)), .v (.off (.t 35) 0)⟩,
   ⟨(some 37), (some (29, false)), .v (.load (.t 36) none)⟩,
   ⟨(some 38), (some (29, false)), .v (.mov (.t 9))⟩,
   ⟨(some 39), (some (29, false)), .v (.bin .neq (.t 37) (.t 38))⟩,
   ⟨(some 40), none, .v (.pick (.t 29) (.c (.lit (.bool true))) (.t 39))⟩])
  (.cond (.t 40)
   (.seq (.reg [⟨(some 6), none, .v (.mov (.c (.int .i64 (0))))⟩,
    ⟨(some 7), none, .v (.mov (.c (.lit (.bool false))))⟩])
   .ret)
   .skip))
  (.reg [⟨(some 41), none, .v (.mov (.t 8))⟩,
   ⟨(some 42), none, .v (.mov (.t 0))⟩,
   ⟨(some 43), none, .v (.mov (.t 1))⟩,
   ⟨(some 44), none, .v (.mov (.t 9))⟩,
   ⟨(some 45), none, .v (.ixa (.t 43) (.t 44) 1)⟩,
   ⟨(some 46), none, .v (.load (.t 45) none)⟩,
   ⟨(some 47), none, .v (.ixa (.t 42) (.t 46) 3)⟩,
   ⟨(some 48), none, .v (.off (.t 47) 1)⟩,
   ⟨(some 49), none, .v (.load (.t 48) none)⟩,
   ⟨(some 50), none, .v (.bin .add (.t 41) (.t 49))⟩,
   ⟨(some 8), none, .v (.mov (.t 50))⟩])))
  (.reg [⟨(some 18), none, .v (.mov (.t 9))⟩,
   ⟨(some 19), none, .v (.bin .add (.t 18) (.c (.int .i64 (1))))⟩,
   ⟨(some 9), none, .v (.mov (.t 19))⟩]))))))
 (.seq (.seq (.reg [⟨(some 51), none, .v (.mov (.t 1))⟩,
  ⟨(some 52), none, .v (.len (.t 51))⟩,
  ⟨(some 53), none, .v (.bin .neq (.t 52) (.c (.int .i64 (3))))⟩])
 (.cond (.t 53)
  (.seq (.reg [⟨(some 6), none, .v (.mov (.c (.int .i64 (0))))⟩,
   ⟨(some 7), none, .v (.mov (.c (.lit (.bool false))))⟩])
  .ret)
  .skip))
 (.seq (.seq (.reg [⟨(some 10), none, .v (.mov (.c (.int .i64 (0))))⟩])
 (.block 2 (.loop
  (.seq (.seq (.reg [⟨(some 54), none, .v (.mov (.t 10))⟩,
   ⟨(some 55), none, .v (.mov (.t 0))⟩,
   ⟨(some 56), none, .v (.mov (.t 1))⟩,
   ⟨(some 57), none, .v (.ixa (.t 56) (.c (.int .i64 (0))) 1)⟩,
   ⟨(some 58), none, .v (.load (.t 57) none)⟩,
   ⟨(some 59), none, .v (.ixa (.t 55) (.t 58) 3)⟩,
   ⟨(some 60), none, .v (.off (.t 59) 2)⟩,
   ⟨(some 61), none, .v (.load (.t 60) none)⟩,
   ⟨(some 62), none, .v (.len (.t 61))⟩,
   ⟨(some 63), none, .v (.bin .lss (.t 54) (.t 62))⟩])
  (.cond (.t 63)
   .skip
   (.exit 2)))
  (.seq (.block 3 (.seq (.reg [⟨(some 11), none, .v (.mov (.c (.int .i64 (0))))⟩,
   ⟨(some 12), none, .v (.mov (.c (.int .i64 (0))))⟩])
  (.seq (.seq (.reg [⟨(some 13), none, .v (.mov (.c (.int .i64 (0))))⟩])
  (.block 4 (.loop
   (.seq (.seq (.reg [⟨(some 66), none, .v (.mov (.t 13))⟩,
    ⟨(some 67), none, .v (.bin .lss (.t 66) (.c (.int .i64 (3))))⟩])
   (.cond (.t 67)
    .skip
    (.exit 4)))
   (.seq (.block 5 (.seq (.seq (.reg [⟨(some 70), none, .v (.mov (.t 10))⟩,
    ⟨(some 71), none, .v (.mov (.t 0))⟩,
    ⟨(some 72), none, .v (.mov (.t 1))⟩,
    ⟨(some 73), none, .v (.mov (.t 13))⟩,
    ⟨(some 74), none, .v (.ixa (.t 72) (.t 73) 1)⟩,
    ⟨(some 75), none, .v (.load (.t 74) none)⟩,
    ⟨(some 76), none, .v (.ixa (.t 71) (.t 75) 3)⟩,
    ⟨(some 77), none, .v (.off (.t 76) 2)⟩,
    ⟨(some 78), none, .v (.load (.t 77) none)⟩,
    ⟨(some 79), none, .v (.len (.t 78))⟩,
    ⟨(some 80), none, .v (.bin .geq (.t 70) (.t 79))⟩])
   (.cond (.t 80)
    (.seq (.reg [⟨(some 6), none, .v (.mov (.c (.int .i64 (0))))⟩,
     ⟨(some 7), none, .v (.mov (.c (.lit (.bool false))))⟩])
    .ret)
    .skip))
   (.drw [(0, ⟨(some 81), none, .v (.mov (.t 11))⟩, false),
    (1, ⟨(some 82), none, .v (.mov (.t 0))⟩, false),
    (2, ⟨(some 83), none, .v (.mov (.t 1))⟩, false),
    (3, ⟨(some 84), none, .v (.mov (.t 13))⟩, false),
    (4, ⟨(some 85), none, .v (.ixa (.t 83) (.t 84) 1)⟩, false),
    (5, ⟨(some 86), none, .v (.load (.t 85) none)⟩, false),
    (6, ⟨(some 87), none, .v (.ixa (.t 82) (.t 86) 3)⟩, false),
    (7, ⟨(some 88), none, .v (.off (.t 87) 2)⟩, false),
    (8, ⟨(some 89), none, .v (.load (.t 88) none)⟩, false),
    (9, ⟨(some 90), none, .v (.mov (.t 10))⟩, false),
    (10, ⟨(some 91), none, .v (.ixa (.t 89) (.t 90) 2)⟩, false),
    (11, ⟨(some 92), none, .v (.off (.t 91) 0)⟩, false),
    (12, ⟨(some 93), none, .v (.load (.t 92) none)⟩, false),
    (13, ⟨(some 94), none, .v (.bin .add (.t 81) (.t 93))⟩, false),
    (14, ⟨(some 95), none, .v (.mov (.t 12))⟩, false),
    (15, ⟨(some 96), none, .v (.mov (.t 0))⟩, false),
    (16, ⟨(some 97), none, .v (.mov (.t 1))⟩, false),
    (17, ⟨(some 98), none, .v (.mov (.t 13))⟩, false),
    (18, ⟨(some 99), none, .v (.ixa (.t 97) (.t 98) 1)⟩, false),
    (19, ⟨(some 100), none, .v (.load (.t 99) none)⟩, false),
    (20, ⟨(some 101), none, .v (.ixa (.t 96) (.t 100) 3)⟩, false),
    (21, ⟨(some 102), none, .v (.off (.t 101) 2)⟩, false),
    (22, ⟨(some 103), none, .v (.load (.t 102) none)⟩, false),
    (23, ⟨(some 104), none, .v (.mov (.t 10))⟩, false),
    (24, ⟨(some 105), none, .v (.ixa (.t 103) (.t 104) 2)⟩, false),
    (25, ⟨(some 106), none, .v (.off (.t 105) 1)⟩, false),
    (26, ⟨(some 107), none, .v (.load (.t 106) none)⟩, false),
    (27, ⟨(some 108), none, .v (.bin .add (.t 95) (.t 107))⟩, false),
    (28, ⟨(some 11), none, .v (.mov (.t 94))⟩, false)]
    none
    [⟨(some 12), none, .v (.mov (.t 108))⟩])))
   (.reg [⟨(some 68), none, .v (.mov (.t 13))⟩,
    ⟨(some 69), none, .v (.bin .add (.t 68) (.c (.int .i64 (1))))⟩,
    ⟨(some 13), none, .v (.mov (.t 69))⟩]))))))
  (.seq (.reg [⟨(some 109), none, .v (.mov (.t 11))⟩,
   ⟨(some 110), none, .v (.mov (.t 2))⟩,
   ⟨(some 111), none, .v (.neg (.t 110))⟩,
   ⟨(some 112), none, .v (.bin .lss (.t 109) (.t 111))⟩,
   ⟨(some 113), none, .v (.mov (.t 112))⟩,
   ⟨(some 114), (some (113, false)), .v (.mov (.t 12))⟩,
   ⟨(some 115), (some (113, false)), .v (.mov (.t 2))⟩,
   ⟨(some 116), (some (113, false)), .v (.bin .gtr (.t 114) (.t 115))⟩,
   ⟨(some 117), none, .v (.pick (.t 113) (.c (.lit (.bool true))) (.t 116))⟩])
  (.cond (.t 117)
   (.seq (.reg [⟨(some 6), none, .v (.mov (.c (.int .i64 (0))))⟩,
    ⟨(some 7), none, .v (.mov (.c (.lit (.bool false))))⟩])
   .ret)
   .skip)))))
  (.reg [⟨(some 64), none, .v (.mov (.t 10))⟩,
   ⟨(some 65), none, .v (.bin .add (.t 64) (.c (.int .i64 (1))))⟩,
   ⟨(some 10), none, .v (.mov (.t 65))⟩]))))))
 (.seq (.reg [⟨(some 118), none, .v (.mov (.t 8))⟩,
  ⟨(some 6), none, .v (.mov (.t 118))⟩,
  ⟨(some 7), none, .v (.mov (.c (.lit (.bool true))))⟩])
 .ret))))))
def r48 : List RV := [.t 6, .t 7]
theorem k48 : (Try.f48.body.bind (cC Try.prog), cR Try.prog Try.f48.results.toList, Try.f48.ntmps) = (some s48, some r48, 119) := by kernel_rfl
theorem q48 : Known Try.prog 48 := ⟨_, Try.func48, by decide, by simp [Try.f48]⟩
def Fmod : FC := fun args => match args with
 | [.int .i64 a, .int .i64 b] => some (0 < b ∧ b ≤ 9223372036854775807, .int .i64 (a % b))
 | _ => none
theorem p42 : PureOk Try.prog 42 (fcC Fmod) := by
 refine pure_of (T := []) trivial Try.func42 k42 ?_
 intro args K hC
 unfold fcC Fmod at hC
 split at hC <;> first | (exact hC.elim) | skip
 rename_i h
 split at h <;> first | (cases h; done) | skip
 cases h
 rename_i a b
 obtain ⟨⟨hb, hb2⟩, hK⟩ := hC
 have e := Int.tmod_eq_emod (a := a) (b := b)
 have h1 := Int.emod_nonneg a (show b ≠ 0 by omega)
 have h2 := Int.emod_lt_of_pos a hb
 have h3 : (b.natAbs : Int) = b := by omega
 simp only [inr64, ne_eq, e_skip, e_reg, e_seq, e_cond, e_ret, o_nil, o_cons, gd_none, putK_e, runK_e, vK_e, evh_v, seqK_n, condK_b, ends_r, endK1_e, endK2_e, evp, bin, gt, st, putf, X.get, mkfr, rep, rdR, tupled, clV, clS, clo, undef, Nat.reduceSub, true_and, decide_eq_true_eq, decide_eq_false_iff_not, s42, r42]
 have e2 : a.tmod b = a % b ∨ a.tmod b = a % b - b := by
  by_cases c : 0 ≤ a ∨ b ∣ a
  ·rw [if_pos c] at e; exact .inl (by simpa using e)
  ·rw [if_neg c, h3] at e; exact .inr e
 exact ⟨by omega, fun h => ⟨by omega, res hK (by simp [leR]; omega)⟩, fun h => res hK (by simp [leR]; omega)⟩
def chz (low high n : Int) : Int := if high ≤ low then low else low + n % (high - low + 1)
theorem chz_bnd {a b n : Int} (h : a ≤ b) : a ≤ chz a b n ∧ chz a b n ≤ b := by
 unfold chz
 split
 ·omega
 ·have h1 := Int.emod_nonneg n (show b - a + 1 ≠ 0 by omega)
  have h2 := Int.emod_lt_of_pos n (show 0 < b - a + 1 by omega)
  omega
def Fch : FC := fun args => match args with
 | [.int .i64 a, .int .i64 b, .int .i64 n] => some ((-1000000000 ≤ a ∧ a ≤ 1000000000) ∧ (-1000000000 ≤ b ∧ b ≤ 1000000000), .int .i64 (chz a b n))
 | _ => none
theorem p37 : PureOk Try.prog 37 (fcC Fch) := by
 refine pure_of (T := [(42, .fc Fmod)]) ⟨⟨p42, q42⟩, trivial⟩ Try.func37 k37 ?_
 intro args K hC
 unfold fcC Fch at hC
 split at hC <;> first | (exact hC.elim) | skip
 rename_i h
 split at h <;> first | (cases h; done) | skip
 cases h
 rename_i a b n
 obtain ⟨⟨⟨h1, h2⟩, h3, h4⟩, hK⟩ := hC
 simp only [inr64, e_skip, e_reg, e_seq, e_cond, e_ret, o_nil, o_cons, gd_none, putK_e, runK_e, vK_e, conK_e, callK_e, evh_v, evh_call, seqK_n, seqK_r, condK_b, ends_r, endK1_e, endK2_e, gam_e, gamK_f, pc_e, pcK_e, fcC_e, fcK_e, evp, bin, gt, st, putf, X.get, gets, ap, mkfr, rep, rdR, tupled, clV, clL, clS, clo, lk, undef, Nat.reduceSub, beq_self_eq_true, true_and, decide_eq_true_eq, decide_eq_false_iff_not, s37, r37, Fmod]
 refine ⟨fun h => res hK (by simp [leR, chz]; omega), fun h => ⟨by omega, by omega, fun h5 => by omega, fun h5 => ?_⟩⟩
 have m1 := Int.emod_nonneg n (show b - a + 1 ≠ 0 by omega)
 have m2 := Int.emod_lt_of_pos n (show 0 < b - a + 1 by omega)
 exact ⟨⟨by omega, by omega⟩, by omega, res hK (by simp [leR, chz]; omega)⟩
def pk (l : List Int) (n : Int) : Int := if l.length = 0 then 0 else l.getD (n % (l.length : Int)).toNat 0
def Fpk : FC := fun args => match args with
 | [.ints .i64 l, .int .i64 n] => some ((l.length : Int) ≤ 9223372036854775807, .int .i64 (pk l n))
 | _ => none
theorem p38 : PureOk Try.prog 38 (fcC Fpk) := by
 refine pure_of (T := [(42, .fc Fmod)]) ⟨⟨p42, q42⟩, trivial⟩ Try.func38 k38 ?_
 intro args K hC
 unfold fcC Fpk at hC
 split at hC <;> first | (exact hC.elim) | skip
 rename_i h
 split at h <;> first | (cases h; done) | skip
 cases h
 rename_i l n
 obtain ⟨h1, hK⟩ := hC
 simp only [e_skip, e_reg, e_seq, e_cond, e_ret, o_nil, o_cons, gd_none, putK_e, runK_e, vK_e, conK_e, callK_e, evh_v, evh_call, seqK_n, seqK_r, condK_b, ends_r, endK1_e, endK2_e, gam_e, gamK_f, pc_e, pcK_e, fcC_e, fcK_e, evp, bin, gt, gq, st, putf, X.get, gets, ap, mkfr, rep, rdR, tupled, clV, clL, clS, clo, ld, lda, lens, ixs, lk, undef, Nat.reduceSub, beq_self_eq_true, true_and, decide_eq_true_eq, decide_eq_false_iff_not, s38, r38, Fmod]
 refine ⟨fun h => res hK (by simp [leR, pk]; intro h2; simp [h2] at h), fun h => ?_⟩
 have m1 := Int.emod_nonneg n (show (l.length : Int) ≠ 0 by omega)
 have m2 := Int.emod_lt_of_pos n (show 0 < (l.length : Int) by omega)
 have h' : l.length ≠ 0 := by omega
 rw [pk, if_neg h'] at hK
 exact ⟨⟨by omega, by omega⟩, ⟨m1, m2⟩, res hK (by simp [leR])⟩
def Fabs : FC := fun args => match args with
 | [.int .i64 a] => some (-9000000000 ≤ a ∧ a ≤ 9000000000, .int .i64 (max a (-a)))
 | _ => none
theorem p49 : PureOk Try.prog 49 (fcC Fabs) := by
 refine pure_of (T := []) trivial Try.func49 k49 ?_
 intro args K hC
 unfold fcC Fabs at hC
 split at hC <;> first | (exact hC.elim) | skip
 rename_i h
 split at h <;> first | (cases h; done) | skip
 cases h
 obtain ⟨⟨h1, h2⟩, hK⟩ := hC
 simp only [inr64, e_reg, e_seq, e_ret, o_nil, o_cons, gd_none, putK_e, runK_e, vK_e, evh_v, seqK_n, ends_r, endK1_e, endK2_e, evp, gt, st, putf, X.get, mkfr, rep, rdR, tupled, clV, clS, clo, undef, Nat.reduceSub, true_and, s49, r49]
 exact ⟨by omega, res hK (by simp [leR]; omega)⟩
def bef : List Int → List Int → Bool
 | [], B => decide (0 < B.length)
 | _ :: _, [] => false
 | x :: A, y :: B => if x < y then true else if y < x then false else bef A B
def gI (A : List Int) (i : Nat) : Int := A.getD i 0
theorem drop_cons {A : List Int} {i : Nat} (h : i < A.length) : A.drop i = gI A i :: A.drop (i + 1) := by
 rw [List.drop_eq_getElem_cons h]; simp [gI, List.getD, h]
def F47 : FC := fun args => match args with
 | [.ints .i64 A, .ints .i64 B] => some (A.length ≤ 1000 ∧ B.length ≤ 1000, .bool (bef A B))
 | _ => none
theorem p47 : PureOk Try.prog 47 (fcC F47) := by
 refine pure_of (T := []) trivial Try.func47 k47 ?_
 intro args K hC
 unfold fcC F47 at hC
 split at hC <;> first | (exact hC.elim) | skip
 rename_i h
 split at h <;> first | (cases h; done) | skip
 cases h
 rename_i A B
 obtain ⟨⟨h1, h2⟩, hK⟩ := hC
 simp only [e_reg, e_seq, e_block, e_loop, o_nil, o_cons, gd_none, putK_e, runK_e, vK_e, evh_v, seqK_n, evp, st, putf, X.get, mkfr, rep, undef, Nat.reduceSub, true_and, s47, r47]
 refine loop_at2 (G := Nat) (fun i => [(5, .int .i64 i)]) (fun _ => []) (fun i => i ≤ min A.length B.length ∧ bef (A.drop i) (B.drop i) = bef A B) (fun i => A.length - i) 0 ⟨Nat.zero_le _, rfl⟩ ?_
 (intro fr1 hf1; simp only [forget, dstC, dstO, dstD, dst1, st] at hf1; subst hf1)
 refine ⟨?_, ?_⟩
 ·refine Lw_re 0 [] (Nat.zero_le _) (by simp [ln]) (by simp [ln]) rfl ?_ ?_
  ·simp only [reL, reX, inb, ln, sts, st, and_self, Int.natCast_zero]
  ·simp only [reH, reN]
 ·rintro i ⟨hi1, he⟩
  by_cases hi2 : i < A.length ∧ i < B.length
  ·have n0 : ((i : Int) < if (B.length : Int) < (A.length : Int) then (B.length : Int) else (A.length : Int)) = True := by simp; split <;> omega
   rw [drop_cons hi2.1, drop_cons hi2.2, bef] at he
   by_cases c1 : A.getD i 0 < B.getD i 0
   ·have he2 : bef A B = true := by rw [← he]; exact if_pos c1
    rw [he2] at hK
    have v1 := eq_true c1
    simp only [condK_bt, decide_true, e_skip, e_reg, e_drw, e_seq, e_cond, e_block, e_ret, o_nil, o_cons, gd_none, putK_e, runK_e, vK_e, evh_v, dX_e, dG_t, d_nil, d_cons, tlK_n, loopK_r, seqK_n, seqK_r, blockK_r, ends_r, endK1_e, endK2_e, evp, bin, gt, gq, st, putf, X.get, rdR, tupled, clV, clS, clo, ld, lda, lens, ixs, evq, gdl, true_and, sts, n0, Int.toNat_natCast, v1]
    exact ⟨⟨by omega, by omega⟩, ⟨by omega, by omega⟩, res hK (by simp [leR])⟩
   ·have v1 := eq_false c1
    by_cases c2 : A.getD i 0 > B.getD i 0
    ·have he2 : bef A B = false := by
      rw [← he]; exact (if_neg c1).trans (if_pos c2)
     rw [he2] at hK
     have v2 := eq_true c2
     simp only [condK_bt, condK_bf, decide_true, decide_false, e_skip, e_reg, e_drw, e_seq, e_cond, e_block, e_ret, o_nil, o_cons, gd_none, putK_e, runK_e, vK_e, evh_v, dX_e, dG_t, d_nil, d_cons, tlK_n, loopK_r, seqK_n, seqK_r, blockK_r, ends_r, endK1_e, endK2_e, evp, bin, gt, gq, st, putf, X.get, rdR, tupled, clV, clS, clo, ld, lda, lens, ixs, evq, gdl, true_and, sts, n0, Int.toNat_natCast, v1, v2]
     exact ⟨⟨by omega, by omega⟩, ⟨by omega, by omega⟩, ⟨by omega, by omega⟩, ⟨by omega, by omega⟩, res hK (by simp [leR])⟩
    ·have he2 : bef (A.drop (i + 1)) (B.drop (i + 1)) = bef A B := by
      rw [← he]; exact ((if_neg c1).trans (if_neg c2)).symm
     have v2 := eq_false c2
     simp only [condK_bt, condK_bf, decide_true, decide_false, inr64, e_skip, e_reg, e_drw, e_seq, e_cond, e_block, o_nil, o_cons, gd_none, putK_e, runK_e, vK_e, evh_v, dX_e, dG_t, d_nil, d_cons, tlK_n, loopK_n, seqK_n, blockK_n, evp, bin, gt, gq, st, putf, X.get, ld, lda, lens, ixs, evq, gdl, true_and, sts, n0, Int.toNat_natCast, v1, v2]
     repeat' (first | omega | refine And.intro ?_ ?_)
     refine Nx.mk (i + 1) ⟨by show i + 1 ≤ min A.length B.length; omega, he2⟩ (by show A.length - (i + 1) < A.length - i; omega) (Lw_re 0 [] (Nat.zero_le _) (by simp [ln]) (by simp [ln]) rfl ?_ ?_)
     ·simp only [reL, reX, inb, and_self, Int.natCast_add, Int.natCast_one]
     ·simp only [reH, reN]
  ·have n0 : ((i : Int) < if (B.length : Int) < (A.length : Int) then (B.length : Int) else (A.length : Int)) = False := by simp; split <;> omega
   have he2 : bef A B = decide ((A.length : Int) < (B.length : Int)) := by
    rw [← he]
    by_cases ha : A.length ≤ i
    ·rw [List.drop_eq_nil_of_le ha]
     simp only [bef, List.length_drop]
     exact decide_eq_decide.2 (by omega)
    ·rw [drop_cons (A := A) (by omega), List.drop_eq_nil_of_le (show B.length ≤ i by omega)]
     exact (decide_eq_false (by omega)).symm
   rw [he2] at hK
   simp only [condK_bf, decide_false, e_reg, e_seq, e_cond, e_exit, e_ret, o_nil, o_cons, gd_none, putK_e, runK_e, vK_e, evh_v, loopK_x, seqK_n, seqK_x, exitK_t, blockK_x, ends_r, endK1_e, endK2_e, evp, bin, gt, st, putf, X.get, rdR, tupled, clV, clS, clo, lens, beq_self_eq_true, true_and, sts, n0]
   exact res hK (by simp [leR])
def pX (L : List Pt) (Q : List Int) (i : Nat) : Pt := ptG L (gI Q i).toNat
def prX (L : List Pt) (Q : List Int) : Nat → Int
 | 0 => 0
 | i + 1 => prX L Q i + (pX L Q i).p
def okX (L : List Pt) (Q : List Int) (bd : Int) : Bool := kindB (pX L Q 0) (pX L Q 1) (pX L Q 2) && fitB (pX L Q 0) (pX L Q 1) (pX L Q 2) bd (ptG L 0).E.length
theorem thE_bnd {a b c : Pt} (ha : a.E.all (spE 1000) = true) (hb : b.E.all (spE 1000) = true) (hc : c.E.all (spE 1000) = true) (k : Nat) : bnd9 (thE a b c k) := fun i => by
 have b1 := spE_get ha (by omega) k
 have b2 := spE_get hb (by omega) k
 have b3 := spE_get hc (by omega) k
 match i with
 | 0 => exact ⟨by show _ ≤ lo a.E k ∧ lo a.E k ≤ _; omega, by show _ ≤ hi a.E k ∧ hi a.E k ≤ _; omega⟩
 | 1 => exact ⟨by show _ ≤ lo b.E k ∧ lo b.E k ≤ _; omega, by show _ ≤ hi b.E k ∧ hi b.E k ≤ _; omega⟩
 | 2 => exact ⟨by show _ ≤ lo c.E k ∧ lo c.E k ≤ _; omega, by show _ ≤ hi c.E k ∧ hi c.E k ≤ _; omega⟩
 | n + 3 => exact ⟨by show _ ≤ (0 : Int) ∧ (0 : Int) ≤ _; omega, by show _ ≤ (0 : Int) ∧ (0 : Int) ≤ _; omega⟩
def C48 : PC := fun args K => ∃ (L : List Pt) (Q : List Int) (bd : Int), args = [.rd 3 L.length (ptR L), .ints .i64 Q, .int .i64 bd] ∧ stk L = true ∧ Q.length = 3 ∧ (∀ i, i < 3 → 0 ≤ gI Q i ∧ gI Q i < L.length) ∧ (0 ≤ bd ∧ bd ≤ 5000) ∧ K (.tup [.int .i64 (if okX L Q bd = true then prX L Q 3 else 0), .bool (okX L Q bd)])
theorem p48 : PureOk Try.prog 48 C48 := by
 refine pure_of (T := [(33, .fc Fin)]) ⟨⟨p33, q33⟩, trivial⟩ Try.func48 k48 ?_
 rintro args K ⟨L, Q, bd, rfl, hs, hX, hx, hb, hK⟩
 have hl12 : 3 ≤ L.length ∧ L.length ≤ 12 ∧ (ptG L 0).E.length ≤ 12 := by
  simp only [stk, Bool.and_eq_true, decide_eq_true_eq] at hs; omega
 have hx' : ∀ i, i < 3 → 0 ≤ Q.getD i 0 ∧ Q.getD i 0 < L.length := hx
 have hg := fun i (hi : i < 3) => @stk_get L hs (Q.getD i 0).toNat (by have := hx' i hi; omega)
 have eX : (Q.length : Int) = 3 := by omega
 obtain ⟨g01, g02, g03⟩ := hg 0 (by omega)
 obtain ⟨g11, g12, g13⟩ := hg 1 (by omega)
 obtain ⟨g21, g22, g23⟩ := hg 2 (by omega)
 have hpr : ∀ i, i ≤ 3 → 0 ≤ prX L Q i ∧ prX L Q i ≤ 1000 * i := by
  intro i
  induction i with
  | zero => intro _; simp [prX]
  | succ i ih =>
   intro h
   have := ih (by omega)
   have h2 := (hg i (by omega)).1
   have e : prX L Q (i + 1) = prX L Q i + (ptG L (Q.getD i 0).toNat).p := rfl
   omega
 simp only [e_reg, e_seq, e_block, e_loop, o_nil, o_cons, gd_none, putK_e, runK_e, vK_e, evh_v, seqK_n, evp, st, putf, X.get, mkfr, rep, undef, Nat.reduceSub, true_and, s48, r48]
 refine loop_at2 (G := Nat) (fun i => [(9, .int .i64 i), (8, .int .i64 (prX L Q i))]) (fun _ => []) (fun i => i ≤ 3 ∧ ∀ j, j < i → (pX L Q j).k = j) (fun i => 3 - i) 0 ⟨Nat.zero_le _, fun j hj => by omega⟩ ?_
 (intro fr1 hf1; simp only [forget, dstC, dstO, st] at hf1; subst hf1)
 refine ⟨?_, ?_⟩
 ·refine Lw_re 0 [] (Nat.zero_le _) (by simp [ln]) (by simp [ln]) rfl ?_ ?_
  ·simp only [reL, reX, inb, ln, sts, st, and_self, Int.natCast_zero, implies_true, prX]
  ·simp only [reH, reN]
 ·rintro i ⟨hi1, hk⟩
  have hpi := hpr i hi1
  by_cases hi2 : i < 3
  ·have n0 : ((i : Int) < (Q.length : Int)) = True := by simp; omega
   have hxi := hx' i hi2
   have hgi := hg i hi2
   have u := eq_true (show 0 ≤ Q.getD i 0 ∧ Q.getD i 0 ≤ (L.length : Int) - 1 by omega)
   by_cases hki : (ptG L (Q.getD i 0).toNat).k = i
   ·have w := eq_true hki
    have e1 : prX L Q (i + 1) = prX L Q i + (ptG L (Q.getD i 0).toNat).p := rfl
    have hk1 : ∀ j, j < i + 1 → (pX L Q j).k = j := fun j hj => by
     by_cases h : j < i
     ·exact hk j h
     ·obtain rfl : j = i := by omega
      exact hki
    simp only [gdK_bff, condK_bt, condK_bf, decide_true, inr64, e_skip, e_reg, e_seq, e_cond, e_block, o_nil, o_cons, gd_none, gd_some, gdK_ff, putK_e, runK_e, vK_e, conK_e, callK_e, evh_v, evh_call, loopK_n, seqK_n, blockK_n, gam_e, gamK_f, pc_e, pcK_e, fcC_e, fcK_e, evp, bin, gt, gq, st, putf, X.get, gets, ap, clV, clL, clS, clo, ld, lda, lens, ixs, lk, Bool.not_true, Nat.reduceAdd, beq_self_eq_true, true_and, and_true, sts, n0, Int.toNat_natCast, Fin, u, ptR, Pt.row, w]
    repeat' (first | omega | refine And.intro ?_ ?_)
    refine Nx.mk (i + 1) ⟨by show i + 1 ≤ 3; omega, hk1⟩ (by show 3 - (i + 1) < 3 - i; omega) (Lw_re 0 [] (Nat.zero_le _) (by simp [ln]) (by simp [ln]) rfl ?_ ?_)
    ·simp only [reL, reX, inb, and_self, e1, Int.natCast_add, Int.natCast_one, implies_true]
    ·simp only [reH, reN]
   ·have w := eq_false hki
    have hno : okX L Q bd = false := by
     have : kindB (pX L Q 0) (pX L Q 1) (pX L Q 2) = false := by
      have hki' : (pX L Q i).k ≠ i := hki
      cases hc : kindB (pX L Q 0) (pX L Q 1) (pX L Q 2) with
      | false => rfl
      | true =>
       simp only [kindB, Bool.and_eq_true, decide_eq_true_eq] at hc
       match i, hi2, hki' with
       | 0, _, h => exact absurd hc.1 h
       | 1, _, h => exact absurd hc.2.1 h
       | 2, _, h => exact absurd hc.2.2 h
     simp [okX, this]
    rw [hno] at hK
    simp only [Bool.false_eq_true, if_false] at hK
    simp only [gdK_bff, condK_bt, decide_true, decide_false, inr64, e_skip, e_reg, e_seq, e_cond, e_block, e_ret, o_nil, o_cons, gd_none, gd_some, gdK_ff, putK_e, runK_e, vK_e, conK_e, callK_e, evh_v, evh_call, loopK_r, seqK_n, seqK_r, blockK_r, ends_r, endK1_e, endK2_e, gam_e, gamK_f, pc_e, pcK_e, fcC_e, fcK_e, evp, bin, gt, gq, st, putf, X.get, gets, ap, rdR, tupled, clV, clL, clS, clo, ld, lda, lens, ixs, lk, Bool.not_true, Bool.not_false, Nat.reduceAdd, beq_self_eq_true, true_and, and_true, sts, n0, Int.toNat_natCast, Fin, u, ptR, Pt.row, w]
    repeat' (first | omega | refine And.intro ?_ ?_)
    exact res hK (by simp [leR, leR.leRs])
  ·obtain rfl : i = 3 := by omega
   have n0 : (((3 : Nat) : Int) < (Q.length : Int)) = False := by simp; omega
   have e3 : ((Q.length : Int) = 3) = True := eq_true eX
   have hkind : kindB (pX L Q 0) (pX L Q 1) (pX L Q 2) = true := by
    simp only [kindB, Bool.and_eq_true, decide_eq_true_eq]
    exact ⟨hk 0 (by omega), hk 1 (by omega), hk 2 (by omega)⟩
   generalize hP0 : ptG L (Q.getD 0 0).toNat = P0 at *
   generalize hP1 : ptG L (Q.getD 1 0).toNat = P1 at *
   generalize hP2 : ptG L (Q.getD 2 0).toNat = P2 at *
   have hP : ∀ i, i < 3 → (ptG L (Q.getD i 0).toNat).E.length = (ptG L 0).E.length ∧ ∀ k, lo (thE P0 P1 P2 k) i = lo (ptG L (Q.getD i 0).toNat).E k ∧ hi (thE P0 P1 P2 k) i = hi (ptG L (Q.getD i 0).toNat).E k := fun i hi => by
    match i, hi with
    | 0, _ => rw [hP0]; exact ⟨g02, fun k => ⟨rfl, rfl⟩⟩
    | 1, _ => rw [hP1]; exact ⟨g12, fun k => ⟨rfl, rfl⟩⟩
    | 2, _ => rw [hP2]; exact ⟨g22, fun k => ⟨rfl, rfl⟩⟩
   have eP0 : pX L Q 0 = P0 := hP0
   have eP1 : pX L Q 1 = P1 := hP1
   have eP2 : pX L Q 2 = P2 := hP2
   have hokx : okX L Q bd = fitB P0 P1 P2 bd (ptG L 0).E.length := by rw [okX, hkind, eP0, eP1, eP2, Bool.true_and]
   rw [hokx] at hK
   have hxi0 := hx' 0 (by omega)
   simp only [condK_bf, decide_true, decide_false, e_skip, e_reg, e_seq, e_cond, e_block, e_loop, e_exit, o_nil, o_cons, gd_none, putK_e, runK_e, vK_e, evh_v, loopK_x, seqK_n, seqK_x, exitK_t, blockK_x, evp, bin, gt, st, putf, X.get, lens, Bool.not_true, Nat.reduceSub, beq_self_eq_true, true_and, sts, n0, e3]
   refine loop_at2 (G := Nat) (fun k => [(10, .int .i64 k)]) (fun _ => []) (fun k => k ≤ (ptG L 0).E.length ∧ fitB P0 P1 P2 bd k = true) (fun k => (ptG L 0).E.length - k) 0 ⟨Nat.zero_le _, rfl⟩ ?_
   (intro fr1 hf1; simp only [forget, dstC, dstO, dstD, dst1, st] at hf1; subst hf1)
   refine ⟨?_, ?_⟩
   ·refine Lw_re 0 [] (Nat.zero_le _) (by simp [ln]) (by simp [ln]) rfl ?_ ?_
    ·simp only [reL, reX, inb, ln, sts, st, and_self, Int.natCast_zero, implies_true]
    ·simp only [reH, reN]
   ·rintro k ⟨hk1, hall⟩
    by_cases hk2 : k < (ptG L 0).E.length
    ·have m0 : ((k : Int) < (P0.E.length : Int)) = True := by simp; omega
     simp only [condK_bt, decide_true, e_skip, e_reg, e_seq, e_cond, e_block, e_loop, o_nil, o_cons, gd_none, putK_e, runK_e, vK_e, evh_v, seqK_n, evp, bin, gt, gq, st, putf, X.get, ld, lda, lens, ixs, Nat.reduceAdd, true_and, sts, Int.toNat_zero, ptR, hP0, Pt.row, m0]
     repeat' (first | omega | refine And.intro ?_ ?_)
     refine loop_at2 (G := Nat) (fun i => [(13, .int .i64 i), (11, .int .i64 (sumT (thE P0 P1 P2 k) i).1), (12, .int .i64 (sumT (thE P0 P1 P2 k) i).2)]) (fun _ => []) (fun i => i ≤ 3) (fun i => 3 - i) 0 (Nat.zero_le _) ?_
     (intro fr1 hf1; simp only [forget, dstC, dstO, dstD, dst1, st] at hf1; subst hf1)
     refine ⟨?_, ?_⟩
     ·refine Lw_re 0 [] (Nat.zero_le _) (by simp [ln]) (by simp [ln]) rfl ?_ ?_
      ·simp only [reL, reX, inb, ln, sts, st, and_self, Int.natCast_zero, implies_true, sumT]
      ·simp only [reH, reN]
     ·intro i hi1
      have hbd := sumT_bnd (thE_bnd (k := k) g03 g13 g23) i
      by_cases hi2 : i < 3
      ·have z0 : ((i : Int) < 3) = True := by simp; omega
       have hxi := hx' i hi2
       obtain ⟨hl, hlh⟩ := hP i hi2
       have hlh := hlh k
       have b9 := thE_bnd (k := k) g03 g13 g23 i
       have z1 : ((k : Int) ≥ ((ptG L (Q.getD i 0).toNat).E.length : Int)) = False := eq_false (by omega)
       have e1 : (sumT (thE P0 P1 P2 k) (i + 1)).1 = (sumT (thE P0 P1 P2 k) i).1 + lo (ptG L (Q.getD i 0).toNat).E k := by rw [← hlh.1]; rfl
       have e2 : (sumT (thE P0 P1 P2 k) (i + 1)).2 = (sumT (thE P0 P1 P2 k) i).2 + hi (ptG L (Q.getD i 0).toNat).E k := by rw [← hlh.2]; rfl
       rw [hlh.1, hlh.2] at b9
       simp only [condK_bt, condK_bf, decide_true, decide_false, inr64, e_skip, e_reg, e_drw, e_seq, e_cond, e_block, o_nil, o_cons, gd_none, putK_e, runK_e, vK_e, evh_v, dX_e, dG_t, d_nil, d_cons, tlK_n, loopK_n, seqK_n, blockK_n, evp, bin, gt, gq, st, putf, X.get, ld, lda, lens, ixs, evq, gdl, Nat.reduceAdd, true_and, sts, z0, Int.toNat_natCast, ptR, Pt.row, z1, rowsS]
       repeat' (first | omega | refine And.intro ?_ ?_)
       refine Nx.mk (i + 1) (by show i + 1 ≤ 3; omega) (by show 3 - (i + 1) < 3 - i; omega) (Lw_re 0 [] (Nat.zero_le _) (by simp [ln]) (by simp [ln]) rfl ?_ ?_)
       ·simp only [reL, reX, inb, and_self, e1, e2, Int.natCast_add, Int.natCast_one, implies_true]
       ·simp only [reH, reN]
      ·obtain rfl : i = 3 := by omega
       have z0 : (((3 : Nat) : Int) < 3) = False := by simp
       have o1 := spE_le g03 (by omega) k
       have o2 := spE_le g13 (by omega) k
       have o3 := spE_le g23 (by omega) k
       have hS1 : (sumT (thE P0 P1 P2 k) 3).1 = lo P0.E k + lo P1.E k + lo P2.E k := by show 0 + lo P0.E k + lo P1.E k + lo P2.E k = _; omega
       have hS2 : (sumT (thE P0 P1 P2 k) 3).2 = hi P0.E k + hi P1.E k + hi P2.E k := by show 0 + hi P0.E k + hi P1.E k + hi P2.E k = _; omega
       have hle : (sumT (thE P0 P1 P2 k) 3).1 ≤ (sumT (thE P0 P1 P2 k) 3).2 := by omega
       by_cases v1 : (sumT (thE P0 P1 P2 k) 3).1 < -bd
       ·have w1 := eq_true v1
        have hf : fit1 P0 P1 P2 bd k = false := decide_eq_false (by omega)
        rw [fitB_no hk2 hf] at hK
        simp only [Bool.false_eq_true, if_false] at hK
        simp only [gdK_bft, condK_bf, decide_true, decide_false, inr64, e_reg, e_seq, e_cond, e_exit, e_ret, o_nil, o_cons, gd_none, gd_some, gdK_tf, putK_e, runK_e, skipK_e, vK_e, evh_v, loopK_x, loopK_r, seqK_n, seqK_x, seqK_r, condK_t, exitK_t, blockK_x, blockK_r, ends_r, endK1_e, endK2_e, evp, bin, gt, st, putf, X.get, rdR, tupled, clV, clL, clS, clo, undef, Nat.reduceSub, beq_self_eq_true, true_and, sts, z0, w1]
        repeat' (first | omega | refine And.intro ?_ ?_)
        exact res hK (by simp [leR, leR.leRs])
       ·have w1 := eq_false v1
        by_cases v2 : (sumT (thE P0 P1 P2 k) 3).2 > bd
        ·have w2 := eq_true v2
         have hf : fit1 P0 P1 P2 bd k = false := decide_eq_false (by omega)
         rw [fitB_no hk2 hf] at hK
         simp only [Bool.false_eq_true, if_false] at hK
         simp only [gdK_bff, condK_bt, condK_bf, decide_true, decide_false, inr64, e_reg, e_seq, e_cond, e_exit, e_ret, o_nil, o_cons, gd_none, gd_some, gdK_ff, putK_e, runK_e, vK_e, evh_v, loopK_x, loopK_r, seqK_n, seqK_x, seqK_r, exitK_t, blockK_x, blockK_r, ends_r, endK1_e, endK2_e, evp, bin, gt, st, putf, X.get, rdR, tupled, clV, clL, clS, clo, Nat.reduceSub, beq_self_eq_true, true_and, sts, z0, w1, w2]
         repeat' (first | omega | refine And.intro ?_ ?_)
         exact res hK (by simp [leR, leR.leRs])
        ·have w2 := eq_false v2
         have hf : fit1 P0 P1 P2 bd k = true := decide_eq_true (by omega)
         have hall1 : fitB P0 P1 P2 bd (k + 1) = true := by rw [fitB_snoc, hall, hf]; rfl
         simp only [gdK_bff, condK_bf, decide_false, inr64, e_skip, e_reg, e_seq, e_cond, e_exit, o_nil, o_cons, gd_none, gd_some, gdK_ff, putK_e, runK_e, vK_e, evh_v, loopK_n, loopK_x, seqK_n, seqK_x, exitK_t, blockK_x, blockK_n, evp, bin, gt, st, putf, X.get, Nat.reduceSub, beq_self_eq_true, true_and, sts, z0, w1, w2]
         repeat' (first | omega | refine And.intro ?_ ?_)
         refine Nx.mk (k + 1) ⟨by show k + 1 ≤ (ptG L 0).E.length; omega, hall1⟩ (by show (ptG L 0).E.length - (k + 1) < (ptG L 0).E.length - k; omega) (Lw_re 0 [] (Nat.zero_le _) (by simp [ln]) (by simp [ln]) rfl ?_ ?_)
         ·simp only [reL, reX, inb, and_self, Int.natCast_add, Int.natCast_one, implies_true]
         ·simp only [reH, reN]
    ·obtain rfl : k = (ptG L 0).E.length := by omega
     have m0 : (((ptG L 0).E.length : Int) < (P0.E.length : Int)) = False := by simp; omega
     rw [hall] at hK
     simp only [if_true] at hK
     simp only [condK_bf, decide_false, e_reg, e_seq, e_cond, e_exit, e_ret, o_nil, o_cons, gd_none, putK_e, runK_e, vK_e, evh_v, loopK_x, seqK_n, seqK_x, exitK_t, blockK_x, ends_r, endK1_e, endK2_e, evp, bin, gt, gq, st, putf, X.get, rdR, tupled, clV, clL, clS, clo, ld, lda, lens, ixs, Nat.reduceAdd, beq_self_eq_true, true_and, sts, Int.toNat_zero, ptR, hP0, Pt.row, m0]
     repeat' (first | omega | refine And.intro ?_ ?_)
     exact res hK (by simp [leR, leR.leRs])
end Go.Proofs.Ytjagiieconpgbaa
end
section
namespace Go.Proofs.Ytjagiieconpgbaa
open Go Go.Vg
set_option linter.unusedSimpArgs false
set_option linter.unusedVariables false
set_option maxRecDepth 10000
def s13 : SC :=
 (.seq (.reg [⟨(some 6), none, .v (.mov (.c (.lit (.bool false))))⟩])
 (.seq (.reg [⟨(some 20), none, .v (.mov (.t 0))⟩,
  ⟨(some 21), none, .v (.mov (.t 1))⟩,
  ⟨(some 22), none, .call (.c (.fn 30 [])) [(.t 20), (.t 21)]⟩,
  ⟨(some 19), none, .v (.mov (.t 22))⟩,
  ⟨(some 23), none, .v (.ext (.t 19) 0)⟩,
  ⟨(some 24), none, .v (.ext (.t 19) 1)⟩,
  ⟨(some 25), none, .v (.ext (.t 19) 2)⟩,
  ⟨(some 7), none, .v (.mov (.t 23))⟩,
  ⟨(some 8), none, .v (.mov (.t 24))⟩,
  ⟨(some 9), none, .v (.mov (.t 25))⟩])
 (.seq (.seq (.reg [⟨(some 26), none, .v (.mov (.t 9))⟩,
  ⟨(some 27), none, .v (.bin .neq (.t 26) (.c (.int .i64 (0))))⟩,
  ⟨(some 28), none, .v (.mov (.t 27))⟩,
  ⟨(some 29), (some (28, true)), .v (.mov (.t 9))⟩,
  ⟨(some 30), (some (28, true)), .v (.bin .neq (.t 29) (.c (.int .i64 (4))))⟩,
  ⟨(some 31), none, .v (.pick (.t 28) (.t 30) (.c (.lit (.bool false))))⟩,
  ⟨(some 32), none, .v (.mov (.t 31))⟩,
  ⟨(some 33), (some (32, false)), .v (.mov (.t 0))⟩,
  ⟨(some 34), (some (32, false)), .v (.len (.t 33))⟩,
  ⟨(some 35), (some (32, false)), .call (.c (.fn 33 [])) [(.t 34), (.c (.int .i64 (3))), (.c (.int .i64 (12)))]⟩,
  ⟨(some 36), (some (32, false)), .v (.not (.t 35))⟩,
  ⟨(some 37), none, .v (.pick (.t 32) (.c (.lit (.bool true))) (.t 36))⟩])
 (.cond (.t 37)
  (.seq (.reg [⟨(some 38), none, .v (.mov (.t 7))⟩,
   ⟨(some 39), none, .v (.len (.t 38))⟩,
   ⟨(some 40), none, .v (.bin .eql (.t 39) (.c (.int .i64 (0))))⟩,
   ⟨(some 41), none, .v (.mov (.t 40))⟩,
   ⟨(some 42), (some (41, true)), .v (.mov (.t 8))⟩,
   ⟨(some 43), (some (41, true)), .v (.bin .eql (.t 42) (.c (.int .i64 (0))))⟩,
   ⟨(some 44), none, .v (.pick (.t 41) (.t 43) (.c (.lit (.bool false))))⟩,
   ⟨(some 45), none, .v (.mov (.t 44))⟩,
   ⟨(some 46), (some (45, true)), .call (.c (.fn 21 [])) []⟩,
   ⟨(some 47), none, .v (.pick (.t 45) (.t 46) (.c (.lit (.bool false))))⟩,
   ⟨(some 6), none, .v (.mov (.t 47))⟩])
  .ret)
  .skip))
 (.seq (.reg [⟨(some 48), none, .v (.mov (.t 2))⟩,
  ⟨(some 49), none, .call (.c (.fn 38 [])) [(.t 48), (.c (.int .i64 (0)))]⟩,
  ⟨(some 50), none, .v (.mov (.t 0))⟩,
  ⟨(some 51), none, .v (.len (.t 50))⟩,
  ⟨(some 52), none, .call (.c (.fn 42 [])) [(.t 49), (.t 51)]⟩,
  ⟨(some 53), none, .v (.mov (.t 2))⟩,
  ⟨(some 54), none, .call (.c (.fn 38 [])) [(.t 53), (.c (.int .i64 (1)))]⟩,
  ⟨(some 55), none, .v (.mov (.t 0))⟩,
  ⟨(some 56), none, .v (.len (.t 55))⟩,
  ⟨(some 57), none, .call (.c (.fn 42 [])) [(.t 54), (.t 56)]⟩,
  ⟨(some 58), none, .v (.mov (.t 2))⟩,
  ⟨(some 59), none, .call (.c (.fn 38 [])) [(.t 58), (.c (.int .i64 (2)))]⟩,
  ⟨(some 60), none, .v (.mov (.t 0))⟩,
  ⟨(some 61), none, .v (.len (.t 60))⟩,
  ⟨(some 62), none, .call (.c (.fn 42 [])) [(.t 59), (.t 61)]⟩,
  ⟨(some 63), none, .bsl 3 3 [(.int .i64 (0)), (.int .i64 (0)), (.int .i64 (0))] [(0, 1, (.t 52)), (1, 1, (.t 57)), (2, 1, (.t 62))]⟩,
  ⟨(some 10), none, .v (.mov (.t 63))⟩])
 (.seq (.reg [⟨(some 65), none, .v (.mov (.t 0))⟩,
  ⟨(some 66), none, .v (.mov (.t 10))⟩,
  ⟨(some 67), none, .v (.mov (.t 1))⟩,
  ⟨(some 68), none, .call (.c (.fn 48 [])) [(.t 65), (.t 66), (.t 67)]⟩,
  ⟨(some 64), none, .v (.mov (.t 68))⟩,
  ⟨(some 69), none, .v (.ext (.t 64) 0)⟩,
  ⟨(some 70), none, .v (.ext (.t 64) 1)⟩,
  ⟨(some 11), none, .v (.mov (.t 69))⟩,
  ⟨(some 12), none, .v (.mov (.t 70))⟩])
 (.seq (.seq (.reg [⟨(some 71), none, .v (.mov (.t 9))⟩,
  ⟨(some 72), none, .v (.bin .neq (.t 71) (.c (.int .i64 (0))))⟩])
 (.cond (.t 72)
  (.seq (.reg [⟨(some 73), none, .v (.mov (.t 7))⟩,
   ⟨(some 74), none, .v (.len (.t 73))⟩,
   ⟨(some 75), none, .v (.bin .eql (.t 74) (.c (.int .i64 (0))))⟩,
   ⟨(some 76), none, .v (.mov (.t 75))⟩,
   ⟨(some 77), (some (76, true)), .v (.mov (.t 8))⟩,
   ⟨(some 78), (some (76, true)), .v (.bin .eql (.t 77) (.c (.int .i64 (0))))⟩,
   ⟨(some 79), none, .v (.pick (.t 76) (.t 78) (.c (.lit (.bool false))))⟩,
   ⟨(some 80), none, .v (.mov (.t 79))⟩,
   ⟨(some 81), (some (80, true)), .v (.mov (.t 12))⟩,
   ⟨(some 82), (some (80, true)), .v (.not (.t 81))⟩,
   ⟨(some 83), none, .v (.pick (.t 80) (.t 82) (.c (.lit (.bool false))))⟩,
   ⟨(some 84), none, .v (.mov (.t 83))⟩,
   ⟨(some 85), (some (84, true)), .call (.c (.fn 21 [])) []⟩,
   ⟨(some 86), none, .v (.pick (.t 84) (.t 85) (.c (.lit (.bool false))))⟩,
   ⟨(some 6), none, .v (.mov (.t 86))⟩])
  .ret)
  .skip))
 (.seq (.reg [⟨(some 88), none, .v (.mov (.t 0))⟩,
  ⟨(some 89), none, .v (.mov (.t 7))⟩,
  ⟨(some 90), none, .v (.mov (.t 1))⟩,
  ⟨(some 91), none, .call (.c (.fn 48 [])) [(.t 88), (.t 89), (.t 90)]⟩,
  ⟨(some 87), none, .v (.mov (.t 91))⟩,
  ⟨(some 92), none, .v (.ext (.t 87) 0)⟩,
  ⟨(some 93), none, .v (.ext (.t 87) 1)⟩,
  ⟨(some 13), none, .v (.mov (.t 92))⟩,
  ⟨(some 14), none, .v (.mov (.t 93))⟩])
 (.seq (.seq (.reg [⟨(some 94), none, .v (.mov (.t 14))⟩,
  ⟨(some 95), none, .v (.not (.t 94))⟩,
  ⟨(some 96), none, .v (.mov (.t 95))⟩,
  ⟨(some 97), (some (96, false)), .v (.mov (.t 13))⟩,
  ⟨(some 98), (some (96, false)), .v (.mov (.t 8))⟩,
  ⟨(some 99), (some (96, false)), .v (.bin .neq (.t 97) (.t 98))⟩,
  ⟨(some 100), none, .v (.pick (.t 96) (.c (.lit (.bool true))) (.t 99))⟩])
 (.cond (.t 100)
  (.seq (.reg [⟨(some 6), none, .v (.mov (.c (.lit (.bool false))))⟩])
  .ret)
  .skip))
 (.seq (.seq (.reg [⟨(some 15), none, .v (.mov (.c (.int .i64 (0))))⟩])
 (.block 0 (.loop
  (.seq (.seq (.reg [⟨(some 101), none, .v (.mov (.t 15))⟩,
   ⟨(some 102), none, .v (.mov (.t 0))⟩,
   ⟨(some 103), none, .v (.mov (.t 7))⟩,
   ⟨(some 104), none, .v (.ixa (.t 103) (.c (.int .i64 (0))) 1)⟩,
   ⟨(some 105), none, .v (.load (.t 104) none)⟩,
   ⟨(some 106), none, .v (.ixa (.t 102) (.t 105) 3)⟩,
   ⟨(some 107), none, .v (.off (.t 106) 2)⟩,
   ⟨(some 108), none, .v (.load (.t 107) none)⟩,
   ⟨(some 109), none, .v (.len (.t 108))⟩,
   ⟨(some 110), none, .v (.bin .lss (.t 101) (.t 109))⟩])
  (.cond (.t 110)
   .skip
   (.exit 0)))
  (.seq (.block 1 (.seq (.reg [⟨(some 16), none, .v (.mov (.c (.int .i64 (0))))⟩])
  (.seq (.seq (.reg [⟨(some 17), none, .v (.mov (.c (.int .i64 (0))))⟩])
  (.block 2 (.loop
   (.seq (.seq (.reg [⟨(some 113), none, .v (.mov (.t 17))⟩,
    ⟨(some 114), none, .v (.bin .lss (.t 113) (.c (.int .i64 (3))))⟩])
   (.cond (.t 114)
    .skip
    (.exit 2)))
   (.seq (.block 3 (.seq (.reg [⟨(some 117), none, .v (.mov (.t 0))⟩,
    ⟨(some 118), none, .v (.mov (.t 7))⟩,
    ⟨(some 119), none, .v (.mov (.t 17))⟩,
    ⟨(some 120), none, .v (.ixa (.t 118) (.t 119) 1)⟩,
    ⟨(some 121), none, .v (.load (.t 120) none)⟩,
    ⟨(some 122), none, .v (.ixa (.t 117) (.t 121) 3)⟩,
    ⟨(some 123), none, .v (.off (.t 122) 2)⟩,
    ⟨(some 124), none, .v (.load (.t 123) none)⟩,
    ⟨(some 125), none, .v (.mov (.t 15))⟩,
    ⟨(some 126), none, .v (.ixa (.t 124) (.t 125) 2)⟩,
    ⟨(some 127), none, .v (.load (.t 126) (some 2))⟩,
    ⟨(some 18), none, .new 24 [(.int .i64 (0)), (.int .i64 (0))]⟩,
    ⟨none, none, .store 2 (.t 18) (.t 127)⟩])
   (.drw [(0, ⟨(some 128), none, .v (.mov (.t 16))⟩, false),
    (1, ⟨(some 129), none, .v (.off (.t 18) 0)⟩, false),
    (2, ⟨(some 130), none, .v (.load (.t 129) none)⟩, false),
    (3, ⟨(some 131), none, .v (.off (.t 18) 1)⟩, false),
    (4, ⟨(some 132), none, .v (.load (.t 131) none)⟩, false),
    (5, ⟨(some 133), none, .v (.mov (.t 2))⟩, false),
    (6, ⟨(some 134), none, .v (.mov (.t 17))⟩, false),
    (7, ⟨(some 135), none, .v (.mov (.t 15))⟩, false),
    (8, ⟨(some 136), none, .v (.bin .add (.t 134) (.t 135))⟩, false),
    (9, ⟨(some 137), none, .call (.c (.fn 38 [])) [(.t 133), (.t 136)]⟩, false),
    (10, ⟨(some 138), none, .call (.c (.fn 37 [])) [(.t 130), (.t 132), (.t 137)]⟩, false)]
    none
    [⟨(some 139), none, .v (.bin .add (.t 128) (.t 138))⟩,
    ⟨(some 16), none, .v (.mov (.t 139))⟩])))
   (.reg [⟨(some 115), none, .v (.mov (.t 17))⟩,
    ⟨(some 116), none, .v (.bin .add (.t 115) (.c (.int .i64 (1))))⟩,
    ⟨(some 17), none, .v (.mov (.t 116))⟩]))))))
  (.seq (.reg [⟨(some 140), none, .v (.mov (.t 16))⟩,
   ⟨(some 141), none, .call (.c (.fn 49 [])) [(.t 140)]⟩,
   ⟨(some 142), none, .v (.mov (.t 1))⟩,
   ⟨(some 143), none, .v (.bin .gtr (.t 141) (.t 142))⟩])
  (.cond (.t 143)
   (.seq (.reg [⟨(some 6), none, .v (.mov (.c (.lit (.bool false))))⟩])
   .ret)
   .skip)))))
  (.reg [⟨(some 111), none, .v (.mov (.t 15))⟩,
   ⟨(some 112), none, .v (.bin .add (.t 111) (.c (.int .i64 (1))))⟩,
   ⟨(some 15), none, .v (.mov (.t 112))⟩]))))))
 (.seq (.reg [⟨(some 144), none, .v (.mov (.t 12))⟩,
  ⟨(some 145), none, .v (.not (.t 144))⟩,
  ⟨(some 146), none, .v (.mov (.t 145))⟩,
  ⟨(some 147), (some (146, false)), .v (.mov (.t 11))⟩,
  ⟨(some 148), (some (146, false)), .v (.mov (.t 8))⟩,
  ⟨(some 149), (some (146, false)), .v (.bin .gtr (.t 147) (.t 148))⟩,
  ⟨(some 150), none, .v (.pick (.t 146) (.c (.lit (.bool true))) (.t 149))⟩,
  ⟨(some 151), none, .v (.mov (.t 150))⟩,
  ⟨(some 152), (some (151, false)), .v (.mov (.t 11))⟩,
  ⟨(some 153), (some (151, false)), .v (.mov (.t 8))⟩,
  ⟨(some 154), (some (151, false)), .v (.bin .eql (.t 152) (.t 153))⟩,
  ⟨(some 155), (some (151, false)), .v (.mov (.t 154))⟩,
  ⟨(some 156), (some (155, true)), .v (.mov (.t 10))⟩,
  ⟨(some 157), (some (155, true)), .v (.mov (.t 7))⟩,
  ⟨(some 158), (some (155, true)), .call (.c (.fn 47 [])) [(.t 156), (.t 157)]⟩,
  ⟨(some 159), (some (155, true)), .v (.not (.t 158))⟩,
  ⟨(some 160), (some (151, false)), .v (.pick (.t 155) (.t 159) (.c (.lit (.bool false))))⟩,
  ⟨(some 161), none, .v (.pick (.t 151) (.c (.lit (.bool true))) (.t 160))⟩,
  ⟨(some 162), none, .v (.mov (.t 161))⟩,
  ⟨(some 163), (some (162, true)), .call (.c (.fn 21 [])) []⟩,
  ⟨(some 164), none, .v (.pick (.t 162) (.t 163) (.c (.lit (.bool false))))⟩,
  ⟨(some 6), none, .v (.mov (.t 164))⟩])
 .ret))))))))))
def r13 : List RV := [.t 6]
theorem k13 : (Try.f13.body.bind (cC Try.prog), cR Try.prog Try.f13.results.toList, Try.f13.ntmps) = (some s13, some r13, 165) := by kernel_rfl
def lex3 (a b c i j k : Nat) : Prop := a < i ∨ (a = i ∧ (b < j ∨ (b = j ∧ c < k)))
def Inv3 (L : List Pt) (bd : Int) (i j k : Nat) (o : Option Th) : Prop :=
 match o with
 | none => ∀ a b c, a < L.length → b < L.length → c < L.length → lex3 a b c i j k → okT L bd a b c = false
 | some x => ∃ a b c, a < L.length ∧ b < L.length ∧ c < L.length ∧ lex3 a b c i j k ∧ okT L bd a b c = true ∧ x = thN L a b c ∧
   ∀ a' b' c', a' < L.length → b' < L.length → c' < L.length → lex3 a' b' c' i j k → okT L bd a' b' c' = true → x.p < (thN L a' b' c').p ∨ (x.p = (thN L a' b' c').p ∧ ¬ lex3 a' b' c' a b c)
theorem Inv3.eqv {L : List Pt} {bd : Int} {i j k i' j' k' : Nat} {o : Option Th} (h : Inv3 L bd i j k o) (e : ∀ a b c, a < L.length → b < L.length → c < L.length → (lex3 a b c i' j' k' ↔ lex3 a b c i j k)) : Inv3 L bd i' j' k' o := by
 cases o with
 | none => exact fun a b c ha hb hc hl => h a b c ha hb hc ((e a b c ha hb hc).1 hl)
 | some x =>
  obtain ⟨a, b, c, ha, hb, hc, hl, hok, hx, hm⟩ := h
  exact ⟨a, b, c, ha, hb, hc, (e a b c ha hb hc).2 hl, hok, hx, fun a' b' c' h1 h2 h3 h4 => hm a' b' c' h1 h2 h3 ((e a' b' c' h1 h2 h3).1 h4)⟩
theorem Inv3.step {L : List Pt} {bd : Int} {i j k : Nat} {o : Option Th} (hi : i < L.length) (hj : j < L.length) (hk : k < L.length) (h : Inv3 L bd i j k o) : Inv3 L bd i j (k + 1) (up3 L bd i j o k) := by
 have e : ∀ a b c, lex3 a b c i j (k + 1) → lex3 a b c i j k ∨ (a = i ∧ b = j ∧ c = k) := fun a b c h => by unfold lex3 at *; omega
 have e' : ∀ a b c, lex3 a b c i j k → lex3 a b c i j (k + 1) := fun a b c h => by unfold lex3 at *; omega
 have e0 : lex3 i j k i j (k + 1) := by unfold lex3; omega
 have ir : ¬ lex3 i j k i j k := by unfold lex3; omega
 cases hok : okT L bd i j k with
 | false =>
  rw [up3_f hok]
  cases o with
  | none =>
   intro a b c ha hb hc hl
   rcases e a b c hl with hl | ⟨rfl, rfl, rfl⟩
   ·exact h a b c ha hb hc hl
   ·exact hok
  | some x =>
   obtain ⟨a, b, c, ha, hb, hc, hl, hok2, hx, hm⟩ := h
   refine ⟨a, b, c, ha, hb, hc, e' _ _ _ hl, hok2, hx, fun a' b' c' h1 h2 h3 h4 h5 => ?_⟩
   rcases e a' b' c' h4 with hl | ⟨rfl, rfl, rfl⟩
   ·exact hm a' b' c' h1 h2 h3 hl h5
   ·rw [hok] at h5; cases h5
 | true =>
  cases o with
  | none =>
   rw [up3_n hok]
   refine ⟨i, j, k, hi, hj, hk, e0, hok, rfl, fun a' b' c' h1 h2 h3 h4 h5 => ?_⟩
   rcases e a' b' c' h4 with hl | ⟨rfl, rfl, rfl⟩
   ·rw [h a' b' c' h1 h2 h3 hl] at h5; cases h5
   ·exact .inr ⟨rfl, ir⟩
  | some x =>
   obtain ⟨a, b, c, ha, hb, hc, hl, hok2, hx, hm⟩ := h
   by_cases hp : (thN L i j k).p < x.p
   ·rw [up3_l hok hp]
    refine ⟨i, j, k, hi, hj, hk, e0, hok, rfl, fun a' b' c' h1 h2 h3 h4 h5 => ?_⟩
    rcases e a' b' c' h4 with hl | ⟨rfl, rfl, rfl⟩
    ·have := hm a' b' c' h1 h2 h3 hl h5
     left; omega
    ·exact .inr ⟨rfl, ir⟩
   ·rw [up3_g hok hp]
    refine ⟨a, b, c, ha, hb, hc, e' _ _ _ hl, hok2, hx, fun a' b' c' h1 h2 h3 h4 h5 => ?_⟩
    rcases e a' b' c' h4 with hl' | ⟨rfl, rfl, rfl⟩
    ·exact hm a' b' c' h1 h2 h3 hl' h5
    ·by_cases hq : x.p < (thN L a' b' c').p
     ·exact .inl hq
     ·exact .inr ⟨by omega, fun h6 => by unfold lex3 at *; omega⟩
theorem inv_b3 {L : List Pt} {bd : Int} {i j : Nat} {o : Option Th} (hi : i < L.length) (hj : j < L.length) (h : Inv3 L bd i j 0 o) : ∀ k, k ≤ L.length → Inv3 L bd i j k (b3 L bd i j o k)
 | 0, _ => h
 | k + 1, hk => (inv_b3 hi hj h k (by omega)).step hi hj (by omega)
theorem inv_b2 {L : List Pt} {bd : Int} {i : Nat} {o : Option Th} (hi : i < L.length) (h : Inv3 L bd i 0 0 o) : ∀ j, j ≤ L.length → Inv3 L bd i j 0 (b2 L bd i o j)
 | 0, _ => h
 | j + 1, hj => (inv_b3 hi (by omega) (inv_b2 hi h j (by omega)) L.length (Nat.le_refl _)).eqv fun a b c ha hb hc => by unfold lex3; omega
theorem inv_b1 {L : List Pt} {bd : Int} : ∀ i, i ≤ L.length → Inv3 L bd i 0 0 (b1 L bd i)
 | 0, _ => fun a b c ha hb hc hl => by unfold lex3 at hl; omega
 | i + 1, hi => (inv_b2 (by omega) (inv_b1 i (by omega)) L.length (Nat.le_refl _)).eqv fun a b c ha hb hc => by unfold lex3; omega
theorem inv_all (L : List Pt) (bd : Int) : Inv3 L bd L.length 0 0 (b1 L bd L.length) := inv_b1 _ (Nat.le_refl _)
theorem okX_T {L : List Pt} {bd : Int} {a b c : Nat} : okX L [(a : Int), b, c] bd = okT L bd a b c := rfl
theorem prX_T {L : List Pt} {a b c : Nat} : prX L [(a : Int), b, c] 3 = (ptG L a).p + (ptG L b).p + (ptG L c).p := by
 show 0 + (ptG L a).p + (ptG L b).p + (ptG L c).p = _; omega
def alS (T : List (Int × Int)) (bits : List Int) (k : Nat) : Nat → Int
 | 0 => 0
 | i + 1 => alS T bits k i + chz (lo T i) (hi T i) (pk bits ((i : Int) + k))
theorem alS_bnd {T : List (Int × Int)} {bits : List Int} {k : Nat} : ∀ n, (∀ i, i < n → lo T i ≤ hi T i) → (sumT T n).1 ≤ alS T bits k n ∧ alS T bits k n ≤ (sumT T n).2
 | 0, _ => ⟨Int.le_refl _, Int.le_refl _⟩
 | n + 1, h => by
  have ih := alS_bnd (T := T) (bits := bits) (k := k) n fun i hi => h i (by omega)
  have := chz_bnd (n := pk bits ((n : Int) + k)) (h n (by omega))
  simp only [sumT, alS]; omega
theorem bef3 {a b c i j k : Nat} (h : ¬ lex3 a b c i j k) : bef [(a : Int), b, c] [(i : Int), j, k] = false := by
 unfold lex3 at h
 simp only [bef]
 repeat' (split; first | omega | skip)
 all_goals first | rfl | (exfalso; omega)
def C13 : PC := fun args K => ∃ (L : List Pt) (bd : Int) (bits : List Int), args = [.rd 3 L.length (ptR L), .int .i64 bd, .ints .i64 bits] ∧ (bits.length : Int) ≤ 9223372036854775807 ∧ K (.lit (.bool true))
set_option maxHeartbeats 2000000 in
theorem p13 (p21 : PureOk Try.prog 21 (fcC F21)) (q21 : Known Try.prog 21) : PureOk Try.prog 13 C13 := by
 refine pure_of (T := [(30, .pc C30), (33, .fc Fin), (21, .fc F21), (38, .fc Fpk), (42, .fc Fmod), (48, .pc C48), (37, .fc Fch), (49, .fc Fabs), (47, .fc F47)]) ⟨⟨p30, q30⟩, ⟨p33, q33⟩, ⟨p21, q21⟩, ⟨p38, q38⟩, ⟨p42, q42⟩, ⟨p48, q48⟩, ⟨p37, q37⟩, ⟨p49, q49⟩, ⟨p47, q47⟩, trivial⟩ Try.func13 k13 ?_
 rintro args K ⟨L, bd, bits, rfl, hbl, hK⟩
 have e1 : ∀ x : Int, (x = x) = True := fun x => eq_self x
 have f55 : ((55 : Int) = 0) = False := by simp
 have f54 : ((55 : Int) = 4) = False := by simp
 have f4 : ((4 : Int) = 0) = False := by simp
 have f00 : (((0 : Nat) : Int) = 0) = True := by simp
 simp only [e_reg, e_seq, o_nil, o_cons, gd_none, putK_e, runK_e, vK_e, conK_e, callK_e, evh_v, evh_call, seqK_n, gam_e, gamK_p, pc_e, pcK_e, evp, gt, st, putf, X.get, gets, ap, mkfr, rep, clV, clL, clS, clo, lk, undef, Nat.reduceSub, beq_self_eq_true, true_and, s13, r13]
 refine ⟨L, bd, rfl, ?_⟩
 by_cases hA : stk L = true ∧ (0 ≤ bd ∧ bd ≤ 5000)
 ·have ea : asm L bd = asmO (b1 L bd L.length) := by rw [← asm_b1]; exact if_pos hA
  have hI := inv_all L bd
  obtain ⟨hs, hb⟩ := hA
  have hl12 : 3 ≤ L.length ∧ L.length ≤ 12 ∧ (ptG L 0).E.length ≤ 12 := by
   simp only [stk, Bool.and_eq_true, decide_eq_true_eq] at hs; omega
  have t1 := eq_true (show (3 : Int) ≤ (L.length : Int) ∧ (L.length : Int) ≤ 12 by omega)
  have mo : ∀ x : Int, 0 ≤ x % (L.length : Int) ∧ x % (L.length : Int) < L.length := fun x => ⟨Int.emod_nonneg _ (by omega), Int.emod_lt_of_pos _ (by omega)⟩
  obtain ⟨x0, ex0⟩ := Int.eq_ofNat_of_zero_le (mo (pk bits 0)).1
  obtain ⟨x1, ex1⟩ := Int.eq_ofNat_of_zero_le (mo (pk bits 1)).1
  obtain ⟨x2, ex2⟩ := Int.eq_ofNat_of_zero_le (mo (pk bits 2)).1
  have lx0 : x0 < L.length := by have := (mo (pk bits 0)).2; omega
  have lx1 : x1 < L.length := by have := (mo (pk bits 1)).2; omega
  have lx2 : x2 < L.length := by have := (mo (pk bits 2)).2; omega
  have hlX : lex3 x0 x1 x2 L.length 0 0 := .inl lx0
  have hq3 : ∀ {a b c : Nat}, a < L.length → b < L.length → c < L.length → ∀ i, i < 3 → 0 ≤ gI [(a : Int), b, c] i ∧ gI [(a : Int), b, c] i < L.length := fun {a b c} ha hb hc i hi => by
   match i, hi with
   | 0, _ => exact ⟨by show 0 ≤ (a : Int); omega, by show (a : Int) < _; omega⟩
   | 1, _ => exact ⟨by show 0 ≤ (b : Int); omega, by show (b : Int) < _; omega⟩
   | 2, _ => exact ⟨by show 0 ≤ (c : Int); omega, by show (c : Int) < _; omega⟩
  have hX := hq3 lx0 lx1 lx2
  have ht := Bool.not_eq_true
  rw [ea]
  cases hb1 : b1 L bd L.length with
  | none =>
   rw [hb1] at hI
   have hno := hI x0 x1 x2 lx0 lx1 lx2 hlX
   simp only [gdK_btt, gdK_bff, condK_bf, decide_true, decide_false, ↓reduceIte, e_skip, e_reg, e_seq, e_cond, o_nil, o_cons, gd_none, gd_some, gdK_tt, gdK_ff, putK_e, runK_e, vK_e, bslK_e, conK_e, callK_e, evh_v, evh_bsl, evh_call, seqK_n, gam_e, gamK_f, gamK_p, pc_e, pcK_e, fcC_e, fcK_e, evp, bin, gt, gq, st, putf, X.get, gets, getp, ap, clV, clL, clS, clo, lens, sp, sp.spl, lay, ll, cs1, one, gb, sb, pb, ln, lk, Value.oneCell', Bool.not_true, Bool.not_false, Nat.reduceAdd, Nat.reduceBEq, beq_self_eq_true, true_and, asmO, nilS, f4, Fin, t1, Fpk, Fmod, ex0, ex1, ex2, toInts]
   refine ⟨hbl, ⟨by omega, by omega⟩, hbl, ⟨by omega, by omega⟩, hbl, ⟨by omega, by omega⟩, ?_⟩
   refine ⟨L, [(x0 : Int), x1, x2], bd, rfl, hs, rfl, hX, hb, ?_⟩
   rw [okX_T, hno]
   simp only [gdK_btt, condK_bt, decide_true, decide_false, ↓reduceIte, e_reg, e_seq, e_cond, e_ret, o_nil, o_cons, gd_none, gd_some, gdK_tt, putK_e, runK_e, vK_e, conK_e, callK_e, evh_v, evh_call, seqK_n, seqK_r, ends_r, endK1_e, endK2_e, gam_e, gamK_f, pc_e, pcK_e, fcC_e, fcK_e, evp, bin, gt, gq, st, putf, X.get, gets, ap, rdR, tupled, clV, clL, clS, clo, lens, lk, Bool.not_false, Nat.reduceBEq, beq_self_eq_true, true_and, f4, f00, Bool.false_eq_true, F21]
   exact res hK (by simp [leR])
  | some b =>
   rw [hb1] at hI
   obtain ⟨i0, i1, i2, hi0, hi1, hi2, _, hok, rfl, hm⟩ := hI
   obtain ⟨Q, pr, eas, hQl, hQx, hQok, hQpr, hQ0, hQ1, hQ2, hQb⟩ : ∃ (Q : List Int) (pr : Int), asmO (some (thN L i0 i1 i2)) = .tup [.ints .i64 Q, .int .i64 pr, .int .i64 0] ∧ Q.length = 3 ∧ (∀ i, i < 3 → 0 ≤ Q.getD i 0 ∧ Q.getD i 0 < L.length) ∧ okX L Q bd = true ∧ prX L Q 3 = pr ∧
     Q.getD 0 0 = i0 ∧ Q.getD 1 0 = i1 ∧ Q.getD 2 0 = i2 ∧ (okT L bd x0 x1 x2 = true → pr < prX L [(x0 : Int), x1, x2] 3 ∨ (pr = prX L [(x0 : Int), x1, x2] 3 ∧ bef [(x0 : Int), x1, x2] Q = false)) := by
    refine ⟨[(i0 : Int), i1, i2], _, rfl, rfl, hq3 hi0 hi1 hi2, hok, prX_T, rfl, rfl, rfl, fun h => ?_⟩
    rw [prX_T]
    rcases hm x0 x1 x2 lx0 lx1 lx2 hlX h with h1 | ⟨h1, h2⟩
    ·exact .inl h1
    ·exact .inr ⟨h1, bef3 h2⟩
   have hokT := hok
   simp only [okT, Bool.and_eq_true] at hokT
   have hfit : ∀ k, k < (ptG L 0).E.length → fit1 (ptG L i0) (ptG L i1) (ptG L i2) bd k = true := fun k hk => by
    have := hokT.2
    simp only [fitB, List.all_eq_true, List.mem_range] at this
    exact this k hk
   obtain ⟨g01, g02, g03⟩ := @stk_get L hs i0 hi0
   obtain ⟨g11, g12, g13⟩ := @stk_get L hs i1 hi1
   obtain ⟨g21, g22, g23⟩ := @stk_get L hs i2 hi2
   have hP : ∀ i, i < 3 → (ptG L (Q.getD i 0).toNat).E.length = (ptG L 0).E.length ∧ ∀ k, lo (thE (ptG L i0) (ptG L i1) (ptG L i2) k) i = lo (ptG L (Q.getD i 0).toNat).E k ∧ hi (thE (ptG L i0) (ptG L i1) (ptG L i2) k) i = hi (ptG L (Q.getD i 0).toNat).E k := fun i hi => by
    match i, hi with
    | 0, _ => rw [hQ0, Int.toNat_natCast]; exact ⟨g02, fun k => ⟨rfl, rfl⟩⟩
    | 1, _ => rw [hQ1, Int.toNat_natCast]; exact ⟨g12, fun k => ⟨rfl, rfl⟩⟩
    | 2, _ => rw [hQ2, Int.toNat_natCast]; exact ⟨g22, fun k => ⟨rfl, rfl⟩⟩
   rw [eas]
   simp only [gdK_btf, condK_bf, decide_true, ↓reduceIte, e_skip, e_reg, e_seq, e_cond, o_nil, o_cons, gd_none, gd_some, gdK_ft, gdK_ff, putK_e, runK_e, skipK_e, vK_e, bslK_e, conK_e, callK_e, evh_v, evh_bsl, evh_call, seqK_n, gam_e, gamK_f, gamK_p, pc_e, pcK_e, fcC_e, fcK_e, evp, bin, gt, gq, st, putf, X.get, gets, getp, ap, clV, clL, clS, clo, lens, sp, sp.spl, lay, ll, cs1, one, gb, sb, pb, ln, lk, Value.oneCell', undef, Bool.not_true, Nat.reduceAdd, Nat.reduceBEq, beq_self_eq_true, true_and, Fin, t1, Fpk, Fmod, ex0, ex1, ex2, toInts]
   refine ⟨hbl, ⟨by omega, by omega⟩, hbl, ⟨by omega, by omega⟩, hbl, ⟨by omega, by omega⟩, ?_⟩
   refine ⟨L, [(x0 : Int), x1, x2], bd, rfl, hs, rfl, hX, hb, ?_⟩
   rw [okX_T]
   generalize hpx : (if okT L bd x0 x1 x2 = true then prX L [(x0 : Int), x1, x2] 3 else 0) = px
   simp only [condK_bf, decide_true, e_skip, e_reg, e_seq, e_cond, o_nil, o_cons, gd_none, putK_e, runK_e, vK_e, conK_e, callK_e, evh_v, evh_call, seqK_n, gam_e, gamK_p, pc_e, pcK_e, evp, bin, gt, gq, st, putf, X.get, gets, ap, clV, clL, clS, clo, lk, Bool.not_true, Nat.reduceBEq, beq_self_eq_true, true_and]
   refine ⟨L, Q, bd, rfl, hs, hQl, hQx, hb, ?_⟩
   rw [hQok, hQpr, if_pos rfl]
   simp only [gdK_bff, condK_bf, decide_true, e_skip, e_reg, e_seq, e_cond, e_block, e_loop, o_nil, o_cons, gd_none, gd_some, gdK_ff, putK_e, runK_e, vK_e, evh_v, seqK_n, evp, bin, gt, gq, st, putf, X.get, Bool.not_true, true_and]
   have hQ0' : (Q.getD 0 0).toNat = i0 := by rw [hQ0, Int.toNat_natCast]
   have hQx0 := hQx 0 (by omega)
   refine loop_at2 (G := Nat) (fun k => [(15, .int .i64 k)]) (fun _ => [.fbox 3 [.int .i64 x0, .int .i64 x1, .int .i64 x2]]) (fun k => k ≤ (ptG L 0).E.length) (fun k => (ptG L 0).E.length - k) 0 (Nat.zero_le _) ?_
   (intro fr1 hf1; simp only [forget, dstC, dstO, dstD, dst1, st] at hf1; subst hf1)
   refine ⟨?_, ?_⟩
   ·refine Lw_re 1 [] (Nat.zero_le _) (by simp [ln]) (by simp [ln]) rfl ?_ ?_
    ·simp only [reL, reX, inb, inb.inbs, ln, sts, st, Bool.and_self, Nat.reduceLT, Nat.reduceAdd, decide_true, and_self, Int.natCast_zero, implies_true]
    ·simp only [reL, reX, reH, reB, reN, inb, and_self]
   ·intro k hk1
    by_cases hk2 : k < (ptG L 0).E.length
    ·have m0 : ((k : Int) < ((ptG L i0).E.length : Int)) = True := by simp; omega
     simp only [condK_bt, decide_true, e_skip, e_reg, e_seq, e_cond, e_block, e_loop, o_nil, o_cons, gd_none, putK_e, runK_e, vK_e, evh_v, seqK_n, evp, bin, gt, gq, st, putf, X.get, ld, lda, lens, ixs, Nat.reduceAdd, true_and, sts, Int.toNat_zero, hQ0', ptR, Pt.row, m0]
     repeat' (first | omega | refine And.intro ?_ ?_)
     refine loop_at2 (G := Nat) (fun i => [(17, .int .i64 i), (16, .int .i64 (alS (thE (ptG L i0) (ptG L i1) (ptG L i2) k) bits k i))]) (fun _ => [.fbox 3 [.int .i64 x0, .int .i64 x1, .int .i64 x2]]) (fun i => i ≤ 3) (fun i => 3 - i) 0 (Nat.zero_le _) ?_
     (intro fr1 hf1; simp only [forget, dstC, dstO, dstD, dst1, st] at hf1; subst hf1)
     refine ⟨?_, ?_⟩
     ·refine Lw_re 1 [] (Nat.zero_le _) (by simp [ln]) (by simp [ln]) rfl ?_ ?_
      ·simp only [reL, reX, inb, inb.inbs, ln, sts, st, Bool.and_self, Nat.reduceLT, Nat.reduceAdd, decide_true, and_self, Int.natCast_zero, implies_true, alS]
      ·simp only [reL, reX, reH, reB, reN, inb, and_self]
     ·intro i hii
      have hlo : ∀ j, j < 3 → lo (thE (ptG L i0) (ptG L i1) (ptG L i2) k) j ≤ hi (thE (ptG L i0) (ptG L i1) (ptG L i2) k) j := fun j hj => by
       have o1 := spE_le g03 (by omega) k
       have o2 := spE_le g13 (by omega) k
       have o3 := spE_le g23 (by omega) k
       match j, hj with
       | 0, _ => exact o1
       | 1, _ => exact o2
       | 2, _ => exact o3
      have hab := alS_bnd (bits := bits) (k := k) i fun j hj => hlo j (by omega)
      have hsb := sumT_bnd (thE_bnd (k := k) g03 g13 g23) i
      by_cases hi2 : i < 3
      ·have z0 : ((i : Int) < 3) = True := by simp; omega
       have hxi := hQx i hi2
       obtain ⟨hl, hlh⟩ := hP i hi2
       have hlh := hlh k
       have b9 := thE_bnd (k := k) g03 g13 g23 i
       have e2 : alS (thE (ptG L i0) (ptG L i1) (ptG L i2) k) bits k (i + 1) = alS (thE (ptG L i0) (ptG L i1) (ptG L i2) k) bits k i + chz (lo (ptG L (Q.getD i 0).toNat).E k) (hi (ptG L (Q.getD i 0).toNat).E k) (pk bits ((i : Int) + k)) := by rw [← hlh.1, ← hlh.2]; rfl
       have hch := chz_bnd (n := pk bits ((i : Int) + k)) (hlo i hi2)
       rw [hlh.1, hlh.2] at b9 hch
       simp only [condK_bt, decide_true, inr64, e_skip, e_reg, and_self, e_drw, e_seq, e_cond, e_block, o_nil, o_cons, gd_none, putK_e, runK_e, vK_e, storeK3_e, storeK2_e, storeK_e, evh_v, evh_new, evh_store, dX_e, dG_t, d_nil, d_cons, tlK_n, loopK_n, seqK_n, blockK_n, gamq_e, gamqK_f, evp, bin, gt, gq, st, putf, X.get, gets, ap, clo, clo.clos, ld, lda, ixs, tk, dr, sp, sp.spl, ll, cs1, one, allOne, gb, sb, pb, ln, lk, evq, gdl, Bool.and_true, Nat.reduceAdd, Nat.reduceBEq, beq_self_eq_true, true_and, sts, z0, Int.toNat_natCast, ptR, Pt.row, rowsS, Fpk, Fch]
       repeat' (first | omega | exact hbl | refine And.intro ?_ ?_)
       refine Nx.mk (i + 1) (by show i + 1 ≤ 3; omega) (by show 3 - (i + 1) < 3 - i; omega) (Lw_re 1 [] (Nat.zero_le _) (by simp [ln]) (by simp [ln]) rfl ?_ ?_)
       ·simp only [reL, reX, inb, inb.inbs, Bool.and_self, Nat.reduceLT, decide_true, and_self, e2, Int.natCast_add, Int.natCast_one, implies_true]
       ·simp only [reL, reX, reH, reB, reN, inb, and_self]
      ·obtain rfl : i = 3 := by omega
       have z0 : (((3 : Nat) : Int) < 3) = False := by simp
       have hf := hfit k hk2
       simp only [fit1, decide_eq_true_eq] at hf
       generalize alS (thE (ptG L i0) (ptG L i1) (ptG L i2) k) bits k 3 = al at *
       have z1 : (max al (-al) > bd) = False := by simp; omega
       simp only [condK_bf, decide_false, inr64, e_skip, e_reg, e_seq, e_cond, e_exit, o_nil, o_cons, gd_none, putK_e, runK_e, vK_e, conK_e, callK_e, evh_v, evh_call, loopK_n, loopK_x, seqK_n, seqK_x, exitK_t, blockK_x, blockK_n, gam_e, gamK_f, pc_e, pcK_e, fcC_e, fcK_e, evp, bin, gt, st, putf, X.get, gets, ap, clV, clL, clS, clo, lk, Nat.reduceSub, Nat.reduceBEq, beq_self_eq_true, true_and, sts, z0, Fabs, z1]
       repeat' (first | omega | refine And.intro ?_ ?_)
       refine Nx.mk (k + 1) (by show k + 1 ≤ (ptG L 0).E.length; omega) (by show (ptG L 0).E.length - (k + 1) < (ptG L 0).E.length - k; omega) (Lw_re 1 [] (Nat.zero_le _) (by simp [ln]) (by simp [ln]) rfl ?_ ?_)
       ·simp only [reL, reX, inb, inb.inbs, Bool.and_self, Nat.reduceLT, decide_true, and_self, Int.natCast_add, Int.natCast_one, implies_true]
       ·simp only [reL, reX, reH, reB, reN, inb, and_self]
    ·obtain rfl : k = (ptG L 0).E.length := by omega
     have m0 : (((ptG L 0).E.length : Int) < ((ptG L i0).E.length : Int)) = False := by simp; omega
     cases hox : okT L bd x0 x1 x2 with
     | false =>
      simp only [gdK_bft, condK_bf, decide_false, e_reg, e_seq, e_cond, e_exit, e_ret, o_nil, o_cons, gd_none, gd_some, gdK_tt, gdK_tf, gdK_u, putK_e, runK_e, skipK_e, vK_e, conK_e, callK_e, evh_v, evh_call, loopK_x, seqK_n, seqK_x, exitK_t, blockK_x, ends_r, endK1_e, endK2_e, gam_e, gamK_f, pc_e, pcK_e, fcC_e, fcK_e, evp, bin, gt, gq, st, putf, X.get, gets, ap, rdR, tupled, clV, clL, clS, clo, ld, lda, lens, ixs, lk, undef, Bool.not_false, Nat.reduceAdd, Nat.reduceBEq, beq_self_eq_true, true_and, sts, Int.toNat_zero, hQ0', ptR, Pt.row, m0, F21]
      repeat' (first | omega | refine And.intro ?_ ?_)
      exact res hK (by simp [leR])
     | true =>
      rw [hox, if_pos rfl] at hpx
      have hqb := hQb hox
      rw [hpx] at hqb
      by_cases hgt : px > pr
      ·have v1 := eq_true hgt
       simp only [gdK_bft, gdK_bff, condK_bf, decide_true, decide_false, e_reg, e_seq, e_cond, e_exit, e_ret, o_nil, o_cons, gd_none, gd_some, gdK_tt, gdK_tf, gdK_ff, gdK_u, putK_e, runK_e, skipK_e, vK_e, conK_e, callK_e, evh_v, evh_call, loopK_x, seqK_n, seqK_x, exitK_t, blockK_x, ends_r, endK1_e, endK2_e, gam_e, gamK_f, pc_e, pcK_e, fcC_e, fcK_e, evp, bin, gt, gq, st, putf, X.get, gets, ap, rdR, tupled, clV, clL, clS, clo, ld, lda, lens, ixs, lk, undef, Bool.not_true, Nat.reduceAdd, Nat.reduceBEq, beq_self_eq_true, true_and, sts, Int.toNat_zero, hQ0', ptR, Pt.row, m0, v1, F21]
       repeat' (first | omega | refine And.intro ?_ ?_)
       exact res hK (by simp [leR])
      ·obtain ⟨hq1, hq2⟩ : pr = px ∧ bef [(x0 : Int), x1, x2] Q = false := hqb.resolve_left hgt
       have v1 := eq_false hgt
       have v2 : (px = pr) = True := eq_true hq1.symm
       simp only [gdK_btt, gdK_bff, condK_bf, decide_true, decide_false, e_reg, e_seq, e_cond, e_exit, e_ret, o_nil, o_cons, gd_none, gd_some, gdK_tt, gdK_ff, putK_e, runK_e, vK_e, conK_e, callK_e, evh_v, evh_call, loopK_x, seqK_n, seqK_x, exitK_t, blockK_x, ends_r, endK1_e, endK2_e, gam_e, gamK_f, pc_e, pcK_e, fcC_e, fcK_e, evp, bin, gt, gq, st, putf, X.get, gets, ap, rdR, tupled, clV, clL, clS, clo, clo.clos, ld, lda, lens, ixs, ll, gb, lk, Bool.and_true, Bool.not_true, Bool.not_false, Nat.reduceAdd, Nat.reduceBEq, beq_self_eq_true, true_and, sts, Int.toNat_zero, hQ0', ptR, Pt.row, m0, v1, v2, toInts, F47, hq2, F21]
       exact ⟨⟨by omega, by omega⟩, hQx0, ⟨by simp, by omega⟩, res hK (by simp [leR])⟩
 ·have ea : asm L bd = .tup [nilS, .int .i64 0, .int .i64 55] := if_neg hA
  rw [ea]
  simp only [gdK_btt, gdK_bft, decide_true, decide_false, e_reg, e_seq, e_cond, e_ret, o_nil, o_cons, gd_none, gd_some, gdK_tt, gdK_tf, putK_e, runK_e, skipK_e, vK_e, conK_e, callK_e, evh_v, evh_call, seqK_n, seqK_r, condK_t, ends_r, endK1_e, endK2_e, gam_e, gamK_f, pc_e, pcK_e, fcC_e, fcK_e, evp, bin, gt, gq, st, putf, X.get, gets, ap, rdR, tupled, clV, clL, clS, clo, lens, gb, lk, undef, Bool.not_false, Nat.reduceBEq, beq_self_eq_true, true_and, nilS, f55, f54, f00, F21]
  exact res hK (by simp [leR])
end Go.Proofs.Ytjagiieconpgbaa
end
