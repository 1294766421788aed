import Derived.Test.YtplldhepmmjmmaaVgV16
import Derived.Test.YtplldhepmmjmmaaVgBF
import Derived.Test.YtplldhepmmjmmaaProg
import Derived.KernelRfl
namespace Go.Proofs.Ytplldhepmmjmmaa
open Go Go.Vg
set_option linter.unusedSimpArgs false
set_option linter.unusedVariables false
set_option maxRecDepth 10000
theorem res {K : SV → Prop} {r r' : SV} (hK : K r') (h : leR 4 r r') : ∃ r', K r' ∧ leR 4 r r' := ⟨r', hK, h⟩
def s44 : SC :=
 (.seq (.reg [⟨(some 6), none, .v (.mov (.c (.lit (.bool false))))⟩])
 (.seq (.reg [⟨(some 7), none, .v (.mov (.t 1))⟩,
  ⟨(some 8), none, .v (.mov (.t 0))⟩,
  ⟨(some 9), none, .v (.bin .leq (.t 7) (.t 8))⟩,
  ⟨(some 10), none, .v (.mov (.t 9))⟩,
  ⟨(some 11), (some (10, true)), .v (.mov (.t 0))⟩,
  ⟨(some 12), (some (10, true)), .v (.mov (.t 2))⟩,
  ⟨(some 13), (some (10, true)), .v (.bin .leq (.t 11) (.t 12))⟩,
  ⟨(some 14), none, .v (.pick (.t 10) (.t 13) (.c (.lit (.bool false))))⟩,
  ⟨(some 6), none, .v (.mov (.t 14))⟩])
 .ret))
def r44 : List RV := [.t 6]
theorem k44 : (Try.f44.body.bind (cC Try.prog), cR Try.prog Try.f44.results.toList, Try.f44.ntmps) = (some s44, some r44, 15) := by kernel_rfl
theorem q44 : Known Try.prog 44 := ⟨_, Try.func44, by decide, by simp [Try.f44]⟩
def s55 : SC :=
 (.seq (.reg [⟨(some 3), none, .box 70 (.t 0)⟩,
  ⟨(some 6), none, .v (.mov (.c (.lit (.bool false))))⟩])
 (.seq (.reg [⟨(some 7), none, .v (.mov (.t 1))⟩,
  ⟨(some 8), none, .v (.off (.t 3) 0)⟩,
  ⟨(some 9), none, .v (.off (.t 8) 0)⟩,
  ⟨(some 10), none, .v (.load (.t 9) none)⟩,
  ⟨(some 11), none, .v (.len (.t 10))⟩,
  ⟨(some 12), none, .v (.bin .sub (.t 11) (.c (.int .i64 (1))))⟩,
  ⟨(some 13), none, .call (.c (.fn 44 [])) [(.t 7), (.c (.int .i64 (0))), (.t 12)]⟩,
  ⟨(some 14), none, .v (.mov (.t 13))⟩,
  ⟨(some 15), (some (14, true)), .v (.mov (.t 2))⟩,
  ⟨(some 16), (some (14, true)), .v (.off (.t 3) 0)⟩,
  ⟨(some 17), (some (14, true)), .v (.off (.t 16) 0)⟩,
  ⟨(some 18), (some (14, true)), .v (.load (.t 17) none)⟩,
  ⟨(some 19), (some (14, true)), .v (.mov (.t 1))⟩,
  ⟨(some 20), (some (14, true)), .v (.ixa (.t 18) (.t 19) 1)⟩,
  ⟨(some 21), (some (14, true)), .v (.load (.t 20) none)⟩,
  ⟨(some 22), (some (14, true)), .call (.c (.fn 44 [])) [(.t 15), (.c (.int .i64 (0))), (.t 21)]⟩,
  ⟨(some 23), none, .v (.pick (.t 14) (.t 22) (.c (.lit (.bool false))))⟩,
  ⟨(some 6), none, .v (.mov (.t 23))⟩])
 .ret))
def r55 : List RV := [.t 6]
theorem k55 : (Try.f55.body.bind (cC Try.prog), cR Try.prog Try.f55.results.toList, Try.f55.ntmps) = (some s55, some r55, 24) := by kernel_rfl
theorem q55 : Known Try.prog 55 := ⟨_, Try.func55, by decide, by simp [Try.f55]⟩
def s47 : SC :=
 (.seq (.reg [⟨(some 4), none, .v (.mov (.c (.int .i64 (0))))⟩])
 (.seq (.reg [⟨(some 5), none, .v (.mov (.t 0))⟩,
  ⟨(some 6), none, .v (.bin .mul (.t 5) (.c (.int .i64 (9))))⟩,
  ⟨(some 7), none, .v (.mov (.t 1))⟩,
  ⟨(some 8), none, .v (.bin .add (.t 6) (.t 7))⟩,
  ⟨(some 4), none, .v (.mov (.t 8))⟩])
 .ret))
def r47 : List RV := [.t 4]
theorem k47 : (Try.f47.body.bind (cC Try.prog), cR Try.prog Try.f47.results.toList, Try.f47.ntmps) = (some s47, some r47, 9) := by kernel_rfl
theorem q47 : Known Try.prog 47 := ⟨_, Try.func47, by decide, by simp [Try.f47]⟩
def s42 : SC :=
 (.seq (.reg [⟨(some 1), none, .box 70 (.t 0)⟩,
  ⟨(some 2), none, .v (.mov (.c (.lit (.bool false))))⟩])
 (.seq (.seq (.reg [⟨(some 5), none, .v (.off (.t 1) 0)⟩,
  ⟨(some 6), none, .v (.off (.t 5) 0)⟩,
  ⟨(some 7), none, .v (.load (.t 6) none)⟩,
  ⟨(some 8), none, .v (.len (.t 7))⟩,
  ⟨(some 9), none, .call (.c (.fn 44 [])) [(.t 8), (.c (.int .i64 (1))), (.c (.int .i64 (4)))]⟩,
  ⟨(some 10), none, .v (.not (.t 9))⟩,
  ⟨(some 11), none, .v (.mov (.t 10))⟩,
  ⟨(some 12), (some (11, false)), .v (.off (.t 1) 0)⟩,
  ⟨(some 13), (some (11, false)), .v (.off (.t 12) 1)⟩,
  ⟨(some 14), (some (11, false)), .v (.load (.t 13) none)⟩,
  ⟨(some 15), (some (11, false)), .call (.c (.fn 44 [])) [(.t 14), (.c (.int .i64 (0))), (.c (.int .i64 (100000)))]⟩,
  ⟨(some 16), (some (11, false)), .v (.not (.t 15))⟩,
  ⟨(some 17), none, .v (.pick (.t 11) (.c (.lit (.bool true))) (.t 16))⟩])
 (.cond (.t 17)
  (.seq (.reg [⟨(some 2), none, .v (.mov (.c (.lit (.bool false))))⟩])
  .ret)
  .skip))
 (.seq (.seq (.reg [⟨(some 18), none, .v (.off (.t 1) 0)⟩,
  ⟨(some 19), none, .v (.off (.t 18) 0)⟩,
  ⟨(some 20), none, .v (.load (.t 19) none)⟩,
  ⟨(some 21), none, .v (.len (.t 20))⟩,
  ⟨(some 22), none, .v (.mov (.c (.int .i64 (0))))⟩])
 (.block 0 (.loop
  (.seq (.reg [⟨(some 23), none, .v (.bin .lss (.t 22) (.t 21))⟩])
  (.seq (.cond (.t 23)
   .skip
   (.exit 0))
  (.seq (.block 1 (.seq (.reg [⟨(some 24), none, .v (.ixa (.t 20) (.t 22) 1)⟩,
   ⟨(some 25), none, .v (.load (.t 24) none)⟩,
   ⟨(some 4), none, .v (.mov (.t 25))⟩])
  (.seq (.reg [⟨(some 26), none, .v (.mov (.t 4))⟩,
   ⟨(some 27), none, .call (.c (.fn 44 [])) [(.t 26), (.c (.int .i64 (1))), (.c (.int .i64 (8)))]⟩,
   ⟨(some 28), none, .v (.not (.t 27))⟩])
  (.cond (.t 28)
   (.seq (.reg [⟨(some 2), none, .v (.mov (.c (.lit (.bool false))))⟩])
   .ret)
   .skip))))
  (.reg [⟨(some 29), none, .v (.bin .add (.t 22) (.c (.int .i64 (1))))⟩,
   ⟨(some 22), none, .v (.mov (.t 29))⟩])))))))
 (.seq (.reg [⟨(some 2), none, .v (.mov (.c (.lit (.bool true))))⟩])
 .ret))))
def r42 : List RV := [.t 2]
theorem k42 : (Try.f42.body.bind (cC Try.prog), cR Try.prog Try.f42.results.toList, Try.f42.ntmps) = (some s42, some r42, 30) := by kernel_rfl
theorem q42 : Known Try.prog 42 := ⟨_, Try.func42, by decide, by simp [Try.f42]⟩
def s43 : SC :=
 (.seq (.reg [⟨(some 2), none, .box 70 (.t 0)⟩,
  ⟨(some 4), none, .v (.mov (.c (.lit (.bool false))))⟩])
 (.seq (.seq (.reg [⟨(some 7), none, .v (.mov (.t 1))⟩,
  ⟨(some 8), none, .v (.len (.t 7))⟩,
  ⟨(some 9), none, .v (.bin .gtr (.t 8) (.c (.int .i64 (24))))⟩])
 (.cond (.t 9)
  (.seq (.reg [⟨(some 4), none, .v (.mov (.c (.lit (.bool false))))⟩])
  .ret)
  .skip))
 (.seq (.seq (.reg [⟨(some 10), none, .v (.mov (.t 1))⟩,
  ⟨(some 11), none, .v (.len (.t 10))⟩,
  ⟨(some 12), none, .v (.mov (.c (.int .i64 (0))))⟩])
 (.block 0 (.loop
  (.seq (.reg [⟨(some 13), none, .v (.bin .lss (.t 12) (.t 11))⟩])
  (.seq (.cond (.t 13)
   .skip
   (.exit 0))
  (.seq (.block 1 (.seq (.reg [⟨(some 14), none, .v (.ixa (.t 10) (.t 12) 6)⟩,
   ⟨(some 15), none, .v (.load (.t 14) (some 6))⟩,
   ⟨(some 6), none, .new 98 [(.int .i64 (0)), (.int .i64 (0)), (.int .i64 (0)), (.int .i64 (0)), (.int .i64 (0)), (.int .i64 (0))]⟩,
   ⟨none, none, .store 6 (.t 6) (.t 15)⟩])
  (.seq (.seq (.reg [⟨(some 16), none, .v (.load (.t 2) (some 2))⟩,
   ⟨(some 17), none, .v (.off (.t 6) 0)⟩,
   ⟨(some 18), none, .v (.load (.t 17) none)⟩,
   ⟨(some 19), none, .v (.off (.t 6) 1)⟩,
   ⟨(some 20), none, .v (.load (.t 19) none)⟩,
   ⟨(some 21), none, .call (.c (.fn 55 [])) [(.t 16), (.t 18), (.t 20)]⟩,
   ⟨(some 22), none, .v (.not (.t 21))⟩,
   ⟨(some 23), none, .v (.mov (.t 22))⟩,
   ⟨(some 24), (some (23, false)), .v (.load (.t 2) (some 2))⟩,
   ⟨(some 25), (some (23, false)), .v (.off (.t 6) 2)⟩,
   ⟨(some 26), (some (23, false)), .v (.load (.t 25) none)⟩,
   ⟨(some 27), (some (23, false)), .v (.off (.t 6) 3)⟩,
   ⟨(some 28), (some (23, false)), .v (.load (.t 27) none)⟩,
   ⟨(some 29), (some (23, false)), .call (.c (.fn 55 [])) [(.t 24), (.t 26), (.t 28)]⟩,
   ⟨(some 30), (some (23, false)), .v (.not (.t 29))⟩,
   ⟨(some 31), none, .v (.pick (.t 23) (.c (.lit (.bool true))) (.t 30))⟩])
  (.cond (.t 31)
   (.seq (.reg [⟨(some 4), none, .v (.mov (.c (.lit (.bool false))))⟩])
   .ret)
   .skip))
  (.seq (.reg [⟨(some 32), none, .v (.off (.t 6) 4)⟩,
   ⟨(some 33), none, .v (.load (.t 32) none)⟩,
   ⟨(some 34), none, .call (.c (.fn 44 [])) [(.t 33), (.c (.int .i64 (-200000))), (.c (.int .i64 (200000)))]⟩,
   ⟨(some 35), none, .v (.not (.t 34))⟩,
   ⟨(some 36), none, .v (.mov (.t 35))⟩,
   ⟨(some 37), (some (36, false)), .v (.off (.t 6) 5)⟩,
   ⟨(some 38), (some (36, false)), .v (.load (.t 37) none)⟩,
   ⟨(some 39), (some (36, false)), .call (.c (.fn 44 [])) [(.t 38), (.c (.int .i64 (0))), (.c (.int .i64 (100000)))]⟩,
   ⟨(some 40), (some (36, false)), .v (.not (.t 39))⟩,
   ⟨(some 41), none, .v (.pick (.t 36) (.c (.lit (.bool true))) (.t 40))⟩])
  (.cond (.t 41)
   (.seq (.reg [⟨(some 4), none, .v (.mov (.c (.lit (.bool false))))⟩])
   .ret)
   .skip)))))
  (.reg [⟨(some 42), none, .v (.bin .add (.t 12) (.c (.int .i64 (1))))⟩,
   ⟨(some 12), none, .v (.mov (.t 42))⟩])))))))
 (.seq (.reg [⟨(some 4), none, .v (.mov (.c (.lit (.bool true))))⟩])
 .ret))))
def r43 : List RV := [.t 4]
theorem k43 : (Try.f43.body.bind (cC Try.prog), cR Try.prog Try.f43.results.toList, Try.f43.ntmps) = (some s43, some r43, 43) := by kernel_rfl
theorem q43 : Known Try.prog 43 := ⟨_, Try.func43, by decide, by simp [Try.f43]⟩
def s22 : SC :=
 (.seq (.reg [⟨(some 2), none, .box 24 (.t 0)⟩,
  ⟨(some 4), none, .v (.mov (.c (.int .i64 (0))))⟩])
 (.seq (.reg [⟨(some 6), none, .v (.load (.t 2) (some 2))⟩,
  ⟨(some 7), none, .bld [(.lit (.slice none 0 0)), (.int .i64 (0))] [(0, 2, (.t 6))]⟩,
  ⟨(some 5), none, .new 70 [(.lit (.slice none 0 0)), (.int .i64 (0))]⟩,
  ⟨none, none, .store 2 (.t 5) (.t 7)⟩])
 (.seq (.seq (.reg [⟨(some 8), none, .v (.load (.t 5) (some 2))⟩,
  ⟨(some 9), none, .call (.c (.fn 42 [])) [(.t 8)]⟩,
  ⟨(some 10), none, .v (.not (.t 9))⟩])
 (.cond (.t 10)
  (.seq (.reg [⟨(some 4), none, .v (.mov (.c (.int .i64 (23))))⟩])
  .ret)
  .skip))
 (.seq (.seq (.reg [⟨(some 11), none, .v (.load (.t 5) (some 2))⟩,
  ⟨(some 12), none, .v (.mov (.t 1))⟩,
  ⟨(some 13), none, .call (.c (.fn 43 [])) [(.t 11), (.t 12)]⟩,
  ⟨(some 14), none, .v (.not (.t 13))⟩])
 (.cond (.t 14)
  (.seq (.reg [⟨(some 4), none, .v (.mov (.c (.int .i64 (24))))⟩])
  .ret)
  .skip))
 (.seq (.reg [⟨(some 4), none, .v (.mov (.c (.int .i64 (0))))⟩])
 .ret)))))
def r22 : List RV := [.t 4]
theorem k22 : (Try.f22.body.bind (cC Try.prog), cR Try.prog Try.f22.results.toList, Try.f22.ntmps) = (some s22, some r22, 15) := by kernel_rfl
theorem q22 : Known Try.prog 22 := ⟨_, Try.func22, by decide, by simp [Try.f22]⟩
def s46 : SC :=
 (.seq (.reg [⟨(some 3), none, .box 98 (.t 1)⟩,
  ⟨(some 4), none, .v (.mov (.c (.lit (.bool false))))⟩])
 (.seq (.drw [(0, ⟨(some 9), none, .v (.mov (.t 0))⟩, false),
  (1, ⟨(some 10), none, .v (.off (.t 3) 0)⟩, false),
  (2, ⟨(some 11), none, .v (.load (.t 10) none)⟩, false),
  (3, ⟨(some 12), none, .v (.off (.t 3) 1)⟩, false),
  (4, ⟨(some 13), none, .v (.load (.t 12) none)⟩, false),
  (5, ⟨(some 14), none, .call (.c (.fn 47 [])) [(.t 11), (.t 13)]⟩, false),
  (6, ⟨(some 15), none, .v (.nckv (.t 9))⟩, false),
  (7, ⟨(some 16), none, .v (.ixarr (.t 15) (.t 14) 36 2)⟩, false),
  (8, ⟨(some 17), none, .v (.mov (.t 0))⟩, false),
  (9, ⟨(some 18), none, .v (.off (.t 3) 2)⟩, false),
  (10, ⟨(some 19), none, .v (.load (.t 18) none)⟩, false),
  (11, ⟨(some 20), none, .v (.off (.t 3) 3)⟩, false),
  (12, ⟨(some 21), none, .v (.load (.t 20) none)⟩, false),
  (13, ⟨(some 22), none, .call (.c (.fn 47 [])) [(.t 19), (.t 21)]⟩, false),
  (14, ⟨(some 23), none, .v (.nckv (.t 17))⟩, false),
  (15, ⟨(some 24), none, .v (.ixarr (.t 23) (.t 22) 36 2)⟩, false),
  (16, ⟨(some 5), none, .v (.mov (.t 16))⟩, false)]
  none
  [⟨(some 6), none, .v (.mov (.t 24))⟩])
 (.seq (.drw [(0, ⟨(some 25), none, .v (.off (.t 3) 4)⟩, false),
  (1, ⟨(some 26), none, .v (.load (.t 25) none)⟩, false),
  (2, ⟨(some 27), none, .v (.off (.t 3) 5)⟩, false),
  (3, ⟨(some 28), none, .v (.load (.t 27) none)⟩, false),
  (4, ⟨(some 29), none, .v (.bin .sub (.t 26) (.t 28))⟩, false),
  (5, ⟨(some 30), none, .v (.off (.t 3) 4)⟩, false),
  (6, ⟨(some 31), none, .v (.load (.t 30) none)⟩, false),
  (7, ⟨(some 32), none, .v (.off (.t 3) 5)⟩, false),
  (8, ⟨(some 33), none, .v (.load (.t 32) none)⟩, false),
  (9, ⟨(some 34), none, .v (.bin .add (.t 31) (.t 33))⟩, false),
  (10, ⟨(some 7), none, .v (.mov (.t 29))⟩, false)]
  none
  [⟨(some 8), none, .v (.mov (.t 34))⟩])
 (.seq (.tre (.op ⟨(some 35), none, .v (.mov (.t 5))⟩ (.op ⟨(some 36), none, .v (.mov (.t 5))⟩ (.op ⟨(some 37), none, .v (.mov (.t 5))⟩ (.op ⟨(some 38), none, .v (.nckv (.t 37))⟩ (.op ⟨(some 39), none, .v (.off (.t 38) 0)⟩ (.op ⟨(some 40), none, .v (.load (.t 39) none)⟩ (.op ⟨(some 41), none, .v (.mov (.t 6))⟩ (.op ⟨(some 42), none, .v (.nckv (.t 41))⟩ (.op ⟨(some 43), none, .v (.off (.t 42) 0)⟩ (.op ⟨(some 44), none, .v (.load (.t 43) none)⟩ (.op ⟨(some 45), none, .v (.mov (.t 7))⟩ (.op ⟨(some 46), none, .v (.bin .add (.t 44) (.t 45))⟩ (.op ⟨(some 47), none, .v (.max2 (.t 40) (.t 46))⟩ (.op ⟨(some 48), none, .v (.mov (.t 5))⟩ (.op ⟨(some 49), none, .v (.nckv (.t 48))⟩ (.op ⟨(some 50), none, .v (.off (.t 49) 1)⟩ (.op ⟨(some 51), none, .v (.load (.t 50) none)⟩ (.op ⟨(some 52), none, .v (.mov (.t 6))⟩ (.op ⟨(some 53), none, .v (.nckv (.t 52))⟩ (.op ⟨(some 54), none, .v (.off (.t 53) 1)⟩ (.op ⟨(some 55), none, .v (.load (.t 54) none)⟩ (.op ⟨(some 56), none, .v (.mov (.t 8))⟩ (.op ⟨(some 57), none, .v (.bin .add (.t 55) (.t 56))⟩ (.op ⟨(some 58), none, .v (.min2 (.t 51) (.t 57))⟩ (.op ⟨(some 59), none, .v (.nckv (.t 35))⟩ (.op ⟨(some 60), none, .v (.off (.t 59) 0)⟩ (.op ⟨none, none, .store 1 (.t 60) (.t 47)⟩ (.op ⟨(some 61), none, .v (.nckv (.t 36))⟩ (.op ⟨(some 62), none, .v (.off (.t 61) 1)⟩ (.op ⟨none, none, .store 1 (.t 62) (.t 58)⟩ .leaf
  .stop)
  .stop)
  .stop)
  .stop)
  .stop)
  .stop)
  .stop)
  .stop)
  .stop)
  .stop)
  .stop)
  .stop)
  .stop)
  .stop)
  .stop)
  .stop)
  .stop)
  .stop)
  .stop)
  .stop)
  .stop)
  .stop)
  .stop)
  .stop)
  .stop)
  .stop)
  .stop)
  .stop)
  .stop)
  .stop))
 (.seq (.tre (.op ⟨(some 63), none, .v (.mov (.t 6))⟩ (.op ⟨(some 64), none, .v (.mov (.t 6))⟩ (.op ⟨(some 65), none, .v (.mov (.t 6))⟩ (.op ⟨(some 66), none, .v (.nckv (.t 65))⟩ (.op ⟨(some 67), none, .v (.off (.t 66) 0)⟩ (.op ⟨(some 68), none, .v (.load (.t 67) none)⟩ (.op ⟨(some 69), none, .v (.mov (.t 5))⟩ (.op ⟨(some 70), none, .v (.nckv (.t 69))⟩ (.op ⟨(some 71), none, .v (.off (.t 70) 0)⟩ (.op ⟨(some 72), none, .v (.load (.t 71) none)⟩ (.op ⟨(some 73), none, .v (.mov (.t 8))⟩ (.op ⟨(some 74), none, .v (.bin .sub (.t 72) (.t 73))⟩ (.op ⟨(some 75), none, .v (.max2 (.t 68) (.t 74))⟩ (.op ⟨(some 76), none, .v (.mov (.t 6))⟩ (.op ⟨(some 77), none, .v (.nckv (.t 76))⟩ (.op ⟨(some 78), none, .v (.off (.t 77) 1)⟩ (.op ⟨(some 79), none, .v (.load (.t 78) none)⟩ (.op ⟨(some 80), none, .v (.mov (.t 5))⟩ (.op ⟨(some 81), none, .v (.nckv (.t 80))⟩ (.op ⟨(some 82), none, .v (.off (.t 81) 1)⟩ (.op ⟨(some 83), none, .v (.load (.t 82) none)⟩ (.op ⟨(some 84), none, .v (.mov (.t 7))⟩ (.op ⟨(some 85), none, .v (.bin .sub (.t 83) (.t 84))⟩ (.op ⟨(some 86), none, .v (.min2 (.t 79) (.t 85))⟩ (.op ⟨(some 87), none, .v (.nckv (.t 63))⟩ (.op ⟨(some 88), none, .v (.off (.t 87) 0)⟩ (.op ⟨none, none, .store 1 (.t 88) (.t 75)⟩ (.op ⟨(some 89), none, .v (.nckv (.t 64))⟩ (.op ⟨(some 90), none, .v (.off (.t 89) 1)⟩ (.op ⟨none, none, .store 1 (.t 90) (.t 86)⟩ .leaf
  .stop)
  .stop)
  .stop)
  .stop)
  .stop)
  .stop)
  .stop)
  .stop)
  .stop)
  .stop)
  .stop)
  .stop)
  .stop)
  .stop)
  .stop)
  .stop)
  .stop)
  .stop)
  .stop)
  .stop)
  .stop)
  .stop)
  .stop)
  .stop)
  .stop)
  .stop)
  .stop)
  .stop)
  .stop)
  .stop))
 (.seq (.drw [(0, ⟨(some 91), none, .v (.mov (.t 5))⟩, false),
  (1, ⟨(some 92), none, .v (.nckv (.t 91))⟩, false),
  (2, ⟨(some 93), none, .v (.off (.t 92) 0)⟩, false),
  (3, ⟨(some 94), none, .v (.load (.t 93) none)⟩, false),
  (4, ⟨(some 95), none, .v (.mov (.t 5))⟩, false),
  (5, ⟨(some 96), none, .v (.nckv (.t 95))⟩, false),
  (6, ⟨(some 97), none, .v (.off (.t 96) 1)⟩, false),
  (7, ⟨(some 98), none, .v (.load (.t 97) none)⟩, false)]
  none
  [⟨(some 99), none, .v (.bin .leq (.t 94) (.t 98))⟩,
  ⟨(some 4), none, .v (.mov (.t 99))⟩])
 .ret))))))
def r46 : List RV := [.t 4]
theorem k46 : (Try.f46.body.bind (cC Try.prog), cR Try.prog Try.f46.results.toList, Try.f46.ntmps) = (some s46, some r46, 100) := by kernel_rfl
theorem q46 : Known Try.prog 46 := ⟨_, Try.func46, by decide, by simp [Try.f46]⟩
def Fw : FC := fun args => match args with
 | [.int .i64 x, .int .i64 a, .int .i64 b] => some (True, .bool (decide (a ≤ x ∧ x ≤ b)))
 | _ => none
theorem p44 : PureOk Try.prog 44 (fcC Fw) := by
 refine pure_of (T := []) trivial Try.func44 k44 ?_
 intro args K hC
 unfold fcC Fw at hC
 split at hC <;> first | (exact hC.elim) | skip
 rename_i h
 split at h <;> first | (cases h; done) | skip
 cases h
 rename_i x a b
 obtain ⟨_, hK⟩ := hC
 by_cases h1 : a ≤ x
 ·have t1 := eq_true h1
  simp only [gdK_btt, decide_true, e_reg, e_seq, e_ret, o_nil, o_cons, gd_none, gd_some, gdK_tt, putK_e, runK_e, vK_e, evh_v, seqK_n, ends_r, endK1_e, endK2_e, evp, bin, gt, st, putf, X.get, mkfr, rep, rdR, tupled, clV, clS, clo, undef, Nat.reduceSub, true_and, s44, r44, t1]
  exact res hK (by simp [leR, h1])
 ·have t1 := eq_false h1
  simp only [gdK_btf, decide_false, e_reg, e_seq, e_ret, o_nil, o_cons, gd_none, gd_some, gdK_ft, putK_e, runK_e, skipK_e, vK_e, evh_v, seqK_n, ends_r, endK1_e, endK2_e, evp, bin, gt, st, putf, X.get, mkfr, rep, rdR, tupled, clV, clS, clo, undef, Nat.reduceSub, true_and, s44, r44, t1]
  exact res hK (by simp [leR, h1])
def hE (T : List Int) (a i : Int) : Bool := decide (0 ≤ a ∧ a ≤ (T.length : Int) - 1) && decide (0 ≤ i ∧ i ≤ T.getD a.toNat 0)
def F55 : FC := fun args => match args with
 | [.agg [.ints .i64 T, .int .i64 m], .int .i64 a, .int .i64 i] => some (T.length ≤ 100, .bool (hE T a i))
 | _ => none
theorem p55 : PureOk Try.prog 55 (fcC F55) := by
 refine pure_of (T := [(44, .fc Fw)]) ⟨⟨p44, q44⟩, trivial⟩ Try.func55 k55 ?_
 intro args K hC
 unfold fcC F55 at hC
 split at hC <;> first | (exact hC.elim) | skip
 rename_i h
 split at h <;> first | (cases h; done) | skip
 cases h
 rename_i T m a i
 obtain ⟨hl, hK⟩ := hC
 by_cases h1 : 0 ≤ a ∧ a ≤ (T.length : Int) - 1
 ·have t1 := eq_true h1
  simp only [gdK_btt, decide_true, inr64, e_reg, e_seq, e_ret, o_nil, o_cons, gd_none, gd_some, gdK_tt, putK_e, runK_e, vK_e, boxK_e, conK_e, callK_e, evh_v, evh_box, evh_call, seqK_n, ends_r, endK1_e, endK2_e, gam_e, gamK_f, pc_e, pcK_e, fcC_e, fcK_e, evp, bin, gt, gq, st, putf, X.get, gets, ap, mkfr, rep, rdR, tupled, clV, clL, clS, clo, ld, lda, lens, ixs, cs1, gb, pb, ln, lk, undef, Nat.reduceSub, Nat.reduceAdd, beq_self_eq_true, true_and, s55, r55, Fw, t1]
  exact ⟨by omega, by omega, res hK (by simp [leR, hE, h1])⟩
 ·have t1 := eq_false h1
  simp only [gdK_btf, decide_false, inr64, e_reg, e_seq, e_ret, o_nil, o_cons, gd_none, gd_some, gdK_ft, putK_e, runK_e, skipK_e, vK_e, boxK_e, conK_e, callK_e, evh_v, evh_box, evh_call, seqK_n, ends_r, endK1_e, endK2_e, gam_e, gamK_f, pc_e, pcK_e, fcC_e, fcK_e, evp, bin, gt, gq, st, putf, X.get, gets, ap, mkfr, rep, rdR, tupled, clV, clL, clS, clo, ld, lda, lens, cs1, gb, pb, ln, lk, undef, Nat.reduceSub, Nat.reduceAdd, beq_self_eq_true, true_and, s55, r55, Fw, t1]
  exact ⟨by omega, res hK (by simp [leR, hE, h1])⟩
def F47 : FC := fun args => match args with
 | [.int .i64 a, .int .i64 b] => some ((0 ≤ a ∧ a ≤ 100) ∧ (0 ≤ b ∧ b ≤ 100), .int .i64 (a * 9 + b))
 | _ => none
theorem p47 : PureOk Try.prog 47 (fcC F47) := by
 refine pure_of (T := []) trivial Try.func47 k47 ?_
 intro args K hC
 unfold fcC F47 at hC
 split at hC <;> first | (exact hC.elim) | skip
 rename_i h
 split at h <;> first | (cases h; done) | skip
 cases h
 obtain ⟨⟨h1, h2⟩, hK⟩ := hC
 simp only [inr64, e_reg, e_seq, e_ret, o_nil, o_cons, gd_none, putK_e, runK_e, vK_e, evh_v, seqK_n, ends_r, endK1_e, endK2_e, evp, bin, gt, st, putf, X.get, mkfr, rep, rdR, tupled, clV, clS, clo, undef, Nat.reduceSub, true_and, s47, r47]
 exact ⟨by omega, by omega, res hK (by simp [leR])⟩
def okT (t : Int) : Bool := decide (1 ≤ t ∧ t ≤ 8)
def okS (T : List Int) (m : Int) : Bool := decide (1 ≤ (T.length : Int) ∧ (T.length : Int) ≤ 4) && (decide (0 ≤ m ∧ m ≤ 100000) && T.all okT)
theorem allI_snoc {q : Int → Bool} {T : List Int} {i : Nat} (h : i < T.length) : (T.take (i + 1)).all q = ((T.take i).all q && q (T.getD i 0)) := by
 rw [List.take_add_one, List.getElem?_eq_getElem h, List.all_append]; simp [List.getD, h]
theorem allI_get {q : Int → Bool} {T : List Int} {i : Nat} (h : i < T.length) (ha : T.all q = true) : q (T.getD i 0) = true := by
 simp only [List.all_eq_true] at ha
 have : T.getD i 0 = T[i] := by simp [List.getD, h]
 rw [this]; exact ha _ (List.getElem_mem h)
def F42 : FC := fun args => match args with
 | [.agg [.ints .i64 T, .int .i64 m]] => some (True, .bool (okS T m))
 | _ => none
theorem p42 : PureOk Try.prog 42 (fcC F42) := by
 refine pure_of (T := [(44, .fc Fw)]) ⟨⟨p44, q44⟩, trivial⟩ Try.func42 k42 ?_
 intro args K hC
 unfold fcC F42 at hC
 split at hC <;> first | (exact hC.elim) | skip
 rename_i h
 split at h <;> first | (cases h; done) | skip
 cases h
 rename_i T m
 obtain ⟨_, hK⟩ := hC
 by_cases h1 : 1 ≤ (T.length : Int) ∧ (T.length : Int) ≤ 4
 ·have t1 := eq_true h1
  by_cases h2 : 0 ≤ m ∧ m ≤ 100000
  ·have t2 := eq_true h2
   have ek : okS T m = T.all okT := by simp [okS, h1, h2]
   rw [ek] at hK
   simp only [gdK_bff, condK_bf, decide_true, e_skip, e_reg, e_seq, e_cond, e_block, e_loop, o_nil, o_cons, gd_none, gd_some, gdK_ff, putK_e, runK_e, vK_e, boxK_e, conK_e, callK_e, evh_v, evh_box, evh_call, seqK_n, gam_e, gamK_f, pc_e, pcK_e, fcC_e, fcK_e, evp, gt, gq, st, putf, X.get, gets, ap, mkfr, rep, clV, clL, clS, clo, ld, lda, lens, cs1, gb, pb, ln, lk, undef, Bool.not_true, Nat.reduceSub, Nat.reduceAdd, beq_self_eq_true, true_and, s42, r42, Fw, t1, t2]
   refine loop_at2 (G := Nat) (fun i => [(22, .int .i64 i)]) (fun _ => [.box 70 [.ints .i64 T, .int .i64 m]]) (fun i => i ≤ T.length ∧ (T.take i).all okT = true) (fun i => T.length - i) 0 ⟨Nat.zero_le _, rfl⟩ ?_
   (intro fr1 hf1; simp only [forget, dstC, dstO, st] at hf1; subst hf1)
   refine ⟨?_, ?_⟩
   ·refine Lw_re 1 [] (Nat.zero_le _) (by simp [ln]) (by simp [ln]) rfl ?_ ?_
    ·simp only [reL, reX, inb, inb.inbs, ln, sts, st, Bool.and_self, Nat.reduceLT, Nat.reduceAdd, decide_true, and_self, Int.natCast_zero]
    ·simp only [reL, reX, reH, reB, reN, inb, and_self]
   ·rintro i ⟨hii, hall⟩
    by_cases hlt : i < T.length
    ·have n0 : ((i : Int) < (T.length : Int)) = True := by simp; omega
     by_cases h3 : 1 ≤ T.getD i 0 ∧ T.getD i 0 ≤ 8
     ·have t3 := eq_true h3
      have hall1 : (T.take (i + 1)).all okT = true := by rw [allI_snoc hlt, hall]; simp only [Bool.true_and]; exact decide_eq_true h3
      simp only [condK_bt, condK_bf, decide_true, inr64, e_skip, e_reg, e_seq, e_cond, e_block, o_nil, o_cons, gd_none, putK_e, runK_e, vK_e, conK_e, callK_e, evh_v, evh_call, loopK_n, seqK_n, blockK_n, gam_e, gamK_f, pc_e, pcK_e, fcC_e, fcK_e, evp, bin, gt, gq, st, putf, X.get, gets, ap, clV, clL, clS, clo, ld, lda, ixs, lk, Bool.not_true, beq_self_eq_true, true_and, and_true, sts, n0, Fw, Int.toNat_natCast, t3]
      repeat' (first | omega | refine And.intro ?_ ?_)
      refine Nx.mk (i + 1) ⟨by show i + 1 ≤ T.length; omega, hall1⟩ (by show T.length - (i + 1) < T.length - i; omega) (Lw_re 1 [] (Nat.zero_le _) (by simp [ln]) (by simp [ln]) rfl ?_ ?_)
      ·simp only [reL, reX, inb, inb.inbs, Bool.and_self, Nat.reduceLT, decide_true, and_self, Int.natCast_add, Int.natCast_one]
      ·simp only [reL, reX, reH, reB, reN, inb, and_self]
     ·have t3 := eq_false h3
      have hno : T.all okT = false := by
       cases ha : T.all okT with
       | false => rfl
       | true => exact absurd (of_decide_eq_true (allI_get hlt ha)) h3
      rw [hno] at hK
      simp only [condK_bt, decide_true, decide_false, e_skip, e_reg, e_seq, e_cond, e_block, e_ret, o_nil, o_cons, gd_none, putK_e, runK_e, vK_e, conK_e, callK_e, evh_v, evh_call, loopK_r, seqK_n, seqK_r, blockK_r, ends_r, endK1_e, endK2_e, gam_e, gamK_f, pc_e, pcK_e, fcC_e, fcK_e, evp, bin, gt, gq, st, putf, X.get, gets, ap, rdR, tupled, clV, clL, clS, clo, ld, lda, ixs, lk, Bool.not_false, beq_self_eq_true, true_and, and_true, sts, n0, Fw, Int.toNat_natCast, t3]
      exact ⟨by omega, res hK (by simp [leR])⟩
    ·have n0 : ((i : Int) < (T.length : Int)) = False := by simp; omega
     obtain rfl : i = T.length := by omega
     rw [List.take_length] at hall
     rw [hall] at hK
     simp only [condK_bf, decide_false, e_reg, e_seq, e_cond, e_exit, e_ret, o_nil, o_cons, gd_none, putK_e, runK_e, vK_e, evh_v, loopK_x, seqK_n, seqK_x, exitK_t, blockK_x, ends_r, endK1_e, endK2_e, evp, bin, gt, st, putf, X.get, rdR, tupled, clV, clS, clo, beq_self_eq_true, true_and, sts, n0]
     exact res hK (by simp [leR])
  ·have t2 := eq_false h2
   simp only [gdK_bff, condK_bt, decide_true, decide_false, e_reg, e_seq, e_cond, e_ret, o_nil, o_cons, gd_none, gd_some, gdK_ff, putK_e, runK_e, vK_e, boxK_e, conK_e, callK_e, evh_v, evh_box, evh_call, seqK_n, seqK_r, ends_r, endK1_e, endK2_e, gam_e, gamK_f, pc_e, pcK_e, fcC_e, fcK_e, evp, gt, gq, st, putf, X.get, gets, ap, mkfr, rep, rdR, tupled, clV, clL, clS, clo, ld, lda, lens, cs1, gb, pb, ln, lk, undef, Bool.not_true, Bool.not_false, Nat.reduceSub, Nat.reduceAdd, beq_self_eq_true, true_and, s42, r42, Fw, t1, t2]
   exact res hK (by simp [leR, okS, h2])
 ·have t1 := eq_false h1
  simp only [gdK_bft, decide_false, e_reg, e_seq, e_cond, e_ret, o_nil, o_cons, gd_none, gd_some, gdK_tf, putK_e, runK_e, skipK_e, vK_e, boxK_e, conK_e, callK_e, evh_v, evh_box, evh_call, seqK_n, seqK_r, condK_t, ends_r, endK1_e, endK2_e, gam_e, gamK_f, pc_e, pcK_e, fcC_e, fcK_e, evp, gt, gq, st, putf, X.get, gets, ap, mkfr, rep, rdR, tupled, clV, clL, clS, clo, ld, lda, lens, cs1, gb, pb, ln, lk, undef, Bool.not_false, Nat.reduceSub, Nat.reduceAdd, beq_self_eq_true, true_and, s42, r42, Fw, t1]
  exact res hK (by simp [leR, okS, h1])
structure Rdg where
 (A I B J V W : Int)
def Rdg.row (r : Rdg) : List SV := [.int .i64 r.A, .int .i64 r.I, .int .i64 r.B, .int .i64 r.J, .int .i64 r.V, .int .i64 r.W]
def rgG (L : List Rdg) (i : Nat) : Rdg := L.getD i ⟨0, 0, 0, 0, 0, 0⟩
def rgR (L : List Rdg) (i : Nat) : List SV := (rgG L i).row
def okR (T : List Int) (r : Rdg) : Bool := (hE T r.A r.I && hE T r.B r.J) && (decide (-200000 ≤ r.V ∧ r.V ≤ 200000) && decide (0 ≤ r.W ∧ r.W ≤ 100000))
def okL (T : List Int) (L : List Rdg) : Bool := decide (L.length ≤ 24) && L.all (okR T)
theorem allR_snoc {q : Rdg → Bool} {L : List Rdg} {i : Nat} (h : i < L.length) : (L.take (i + 1)).all q = ((L.take i).all q && q (rgG L i)) := by
 rw [List.take_add_one, List.getElem?_eq_getElem h, List.all_append]; simp [rgG, List.getD, h]
theorem allR_get {q : Rdg → Bool} {L : List Rdg} {i : Nat} (h : i < L.length) (ha : L.all q = true) : q (rgG L i) = true := by
 simp only [List.all_eq_true] at ha
 have : rgG L i = L[i] := by simp [rgG, List.getD, h]
 rw [this]; exact ha _ (List.getElem_mem h)
theorem okR_no {T : List Int} {L : List Rdg} {i : Nat} (h : i < L.length) (hx : okR T (rgG L i) = false) : okL T L = false := by
 cases hs : okL T L with
 | false => rfl
 | true =>
  simp only [okL, Bool.and_eq_true] at hs
  rw [allR_get h hs.2] at hx; cases hx
def C43 : PC := fun args K => ∃ (T : List Int) (m : Int) (L : List Rdg), args = [.agg [.ints .i64 T, .int .i64 m], .rd 6 L.length (rgR L)] ∧ T.length ≤ 4 ∧ K (.bool (okL T L))
theorem p43 : PureOk Try.prog 43 C43 := by
 refine pure_of (T := [(44, .fc Fw), (55, .fc F55)]) ⟨⟨p44, q44⟩, ⟨p55, q55⟩, trivial⟩ Try.func43 k43 ?_
 rintro args K ⟨T, m, L, rfl, hT, hK⟩
 by_cases h1 : (L.length : Int) > 24
 ·have t1 := eq_true h1
  have hno : okL T L = false := by
   have : ¬ L.length ≤ 24 := by omega
   simp [okL, this]
  rw [hno] at hK
  simp only [condK_bt, decide_true, e_reg, e_seq, e_cond, e_ret, o_nil, o_cons, gd_none, putK_e, runK_e, vK_e, boxK_e, evh_v, evh_box, seqK_n, seqK_r, ends_r, endK1_e, endK2_e, evp, bin, gt, st, putf, X.get, mkfr, rep, rdR, tupled, clV, clS, clo, lens, cs1, pb, ln, undef, Nat.reduceSub, true_and, s43, r43, t1]
  exact res hK (by simp [leR])
 ·have t1 := eq_false h1
  simp only [condK_bf, decide_false, e_skip, e_reg, e_seq, e_cond, e_block, e_loop, o_nil, o_cons, gd_none, putK_e, runK_e, vK_e, boxK_e, evh_v, evh_box, seqK_n, evp, bin, gt, st, putf, X.get, mkfr, rep, lens, cs1, pb, ln, undef, Nat.reduceSub, true_and, s43, r43, t1]
  refine loop_at2 (G := Nat) (fun i => [(12, .int .i64 i)]) (fun _ => [.box 70 [.ints .i64 T, .int .i64 m]]) (fun i => i ≤ L.length ∧ (L.take i).all (okR T) = true) (fun i => L.length - i) 0 ⟨Nat.zero_le _, rfl⟩ ?_
  (intro fr1 hf1; simp only [forget, dstC, dstO, st] at hf1; subst hf1)
  refine ⟨?_, ?_⟩
  ·refine Lw_re 1 [] (Nat.zero_le _) (by simp [ln]) (by simp [ln]) rfl ?_ ?_
   ·simp only [reL, reX, inb, inb.inbs, ln, sts, st, Bool.and_self, Nat.reduceLT, Nat.reduceAdd, decide_true, and_self, Int.natCast_zero, implies_true]
   ·simp only [reL, reX, reH, reB, reN, inb, and_self]
  ·rintro i ⟨hii, hall⟩
   by_cases hlt : i < L.length
   ·have n0 : ((i : Int) < (L.length : Int)) = True := by simp; omega
    cases g1 : hE T (rgG L i).A (rgG L i).I with
    | false =>
     rw [okR_no hlt (by simp [okR, g1])] at hK
     simp only [gdK_bft, condK_bt, decide_true, e_skip, e_reg, and_self, e_seq, e_cond, e_block, e_ret, o_nil, o_cons, gd_none, gd_some, gdK_tf, putK_e, runK_e, skipK_e, vK_e, storeK3_e, storeK2_e, storeK_e, conK_e, callK_e, evh_v, evh_new, evh_store, evh_call, loopK_r, seqK_n, seqK_r, condK_t, blockK_r, ends_r, endK1_e, endK2_e, gam_e, gamK_f, pc_e, pcK_e, fcC_e, fcK_e, evp, bin, gt, gq, st, putf, X.get, gets, ap, rdR, tupled, clV, clL, clS, clo, ld, lda, ixs, tk, dr, sp, sp.spl, ll, cs1, one, allOne, gb, sb, pb, ln, lk, undef, Bool.and_true, Bool.not_false, Nat.reduceAdd, Nat.reduceBEq, beq_self_eq_true, true_and, and_true, sts, n0, rgR, Rdg.row, Int.toNat_natCast, F55, g1]
     repeat' (first | omega | refine And.intro ?_ ?_)
     exact res hK (by simp [leR])
    | true =>
     cases g2 : hE T (rgG L i).B (rgG L i).J with
     | false =>
      rw [okR_no hlt (by simp [okR, g2])] at hK
      simp only [gdK_bff, condK_bt, decide_true, e_skip, e_reg, and_self, e_seq, e_cond, e_block, e_ret, o_nil, o_cons, gd_none, gd_some, gdK_ff, putK_e, runK_e, vK_e, storeK3_e, storeK2_e, storeK_e, conK_e, callK_e, evh_v, evh_new, evh_store, evh_call, loopK_r, seqK_n, seqK_r, blockK_r, ends_r, endK1_e, endK2_e, gam_e, gamK_f, pc_e, pcK_e, fcC_e, fcK_e, evp, bin, gt, gq, st, putf, X.get, gets, ap, rdR, tupled, clV, clL, clS, clo, ld, lda, ixs, tk, dr, sp, sp.spl, ll, cs1, one, allOne, gb, sb, pb, ln, lk, Bool.and_true, Bool.not_true, Bool.not_false, Nat.reduceAdd, Nat.reduceBEq, beq_self_eq_true, true_and, and_true, sts, n0, rgR, Rdg.row, Int.toNat_natCast, F55, g1, g2]
      repeat' (first | omega | refine And.intro ?_ ?_)
      exact res hK (by simp [leR])
     | true =>
      by_cases g3 : -200000 ≤ (rgG L i).V ∧ (rgG L i).V ≤ 200000
      ·have v3 := eq_true g3
       by_cases g4 : 0 ≤ (rgG L i).W ∧ (rgG L i).W ≤ 100000
       ·have v4 := eq_true g4
        have hall1 : (L.take (i + 1)).all (okR T) = true := by rw [allR_snoc hlt, hall]; simp [okR, g1, g2, g3, g4]
        simp only [gdK_bff, condK_bt, condK_bf, decide_true, inr64, e_skip, e_reg, and_self, e_seq, e_cond, e_block, o_nil, o_cons, gd_none, gd_some, gdK_ff, putK_e, runK_e, vK_e, storeK3_e, storeK2_e, storeK_e, conK_e, callK_e, evh_v, evh_new, evh_store, evh_call, loopK_n, seqK_n, blockK_n, gam_e, gamK_f, pc_e, pcK_e, fcC_e, fcK_e, evp, bin, gt, gq, st, putf, X.get, gets, ap, clV, clL, clS, clo, ld, lda, ixs, tk, dr, sp, sp.spl, ll, cs1, one, allOne, gb, sb, pb, ln, lk, Bool.and_true, Bool.not_true, Nat.reduceAdd, Nat.reduceBEq, beq_self_eq_true, true_and, and_true, sts, n0, rgR, Rdg.row, Int.toNat_natCast, F55, g1, g2, Fw, v3, v4]
        repeat' (first | omega | refine And.intro ?_ ?_)
        refine Nx.mk (i + 1) ⟨by show i + 1 ≤ L.length; omega, hall1⟩ (by show L.length - (i + 1) < L.length - i; omega) (Lw_re 1 [] (Nat.zero_le _) (by simp [ln]) (by simp [ln]) rfl ?_ ?_)
        ·simp only [reL, reX, inb, inb.inbs, Bool.and_self, Nat.reduceLT, decide_true, and_self, Int.natCast_add, Int.natCast_one, implies_true]
        ·simp only [reL, reX, reH, reB, reN, inb, and_self]
       ·have v4 := eq_false g4
        rw [okR_no hlt (by simp [okR, g4])] at hK
        simp only [gdK_bff, condK_bt, condK_bf, decide_true, decide_false, e_skip, e_reg, and_self, e_seq, e_cond, e_block, e_ret, o_nil, o_cons, gd_none, gd_some, gdK_ff, putK_e, runK_e, vK_e, storeK3_e, storeK2_e, storeK_e, conK_e, callK_e, evh_v, evh_new, evh_store, evh_call, loopK_r, seqK_n, seqK_r, blockK_r, ends_r, endK1_e, endK2_e, gam_e, gamK_f, pc_e, pcK_e, fcC_e, fcK_e, evp, bin, gt, gq, st, putf, X.get, gets, ap, rdR, tupled, clV, clL, clS, clo, ld, lda, ixs, tk, dr, sp, sp.spl, ll, cs1, one, allOne, gb, sb, pb, ln, lk, Bool.and_true, Bool.not_true, Bool.not_false, Nat.reduceAdd, Nat.reduceBEq, beq_self_eq_true, true_and, and_true, sts, n0, rgR, Rdg.row, Int.toNat_natCast, F55, g1, g2, Fw, v3, v4]
        repeat' (first | omega | refine And.intro ?_ ?_)
        exact res hK (by simp [leR])
      ·have v3 := eq_false g3
       rw [okR_no hlt (by simp [okR, g3])] at hK
       simp only [gdK_bft, gdK_bff, condK_bt, condK_bf, decide_true, decide_false, e_skip, e_reg, and_self, e_seq, e_cond, e_block, e_ret, o_nil, o_cons, gd_none, gd_some, gdK_tf, gdK_ff, putK_e, runK_e, skipK_e, vK_e, storeK3_e, storeK2_e, storeK_e, conK_e, callK_e, evh_v, evh_new, evh_store, evh_call, loopK_r, seqK_n, seqK_r, condK_t, blockK_r, ends_r, endK1_e, endK2_e, gam_e, gamK_f, pc_e, pcK_e, fcC_e, fcK_e, evp, bin, gt, gq, st, putf, X.get, gets, ap, rdR, tupled, clV, clL, clS, clo, ld, lda, ixs, tk, dr, sp, sp.spl, ll, cs1, one, allOne, gb, sb, pb, ln, lk, undef, Bool.and_true, Bool.not_true, Bool.not_false, Nat.reduceAdd, Nat.reduceBEq, beq_self_eq_true, true_and, and_true, sts, n0, rgR, Rdg.row, Int.toNat_natCast, F55, g1, g2, Fw, v3]
       repeat' (first | omega | refine And.intro ?_ ?_)
       exact res hK (by simp [leR])
   ·have n0 : ((i : Int) < (L.length : Int)) = False := by simp; omega
    obtain rfl : i = L.length := by omega
    rw [List.take_length] at hall
    have hy : okL T L = true := by
     have : L.length ≤ 24 := by omega
     simp [okL, hall, this]
    rw [hy] at hK
    simp only [condK_bf, decide_false, e_reg, e_seq, e_cond, e_exit, e_ret, o_nil, o_cons, gd_none, putK_e, runK_e, vK_e, evh_v, loopK_x, seqK_n, seqK_x, exitK_t, blockK_x, ends_r, endK1_e, endK2_e, evp, bin, gt, st, putf, X.get, rdR, tupled, clV, clS, clo, beq_self_eq_true, true_and, sts, n0]
    exact res hK (by simp [leR])
def chk (T : List Int) (m : Int) (L : List Rdg) : Int := if okS T m = true then (if okL T L = true then 0 else 24) else 23
def C22 : PC := fun args K => ∃ (T : List Int) (m : Int) (L : List Rdg), args = [.agg [.ints .i64 T, .int .i64 m], .rd 6 L.length (rgR L)] ∧ K (.int .i64 (chk T m L))
theorem okS_len {T : List Int} {m : Int} (h : okS T m = true) : 1 ≤ T.length ∧ T.length ≤ 4 := by
 simp only [okS, Bool.and_eq_true, decide_eq_true_eq] at h; omega
theorem p22 : PureOk Try.prog 22 C22 := by
 refine pure_of (T := [(42, .fc F42), (43, .pc C43)]) ⟨⟨p42, q42⟩, ⟨p43, q43⟩, trivial⟩ Try.func22 k22 ?_
 rintro args K ⟨T, m, L, rfl, hK⟩
 cases h1 : okS T m with
 | false =>
  have e : chk T m L = 23 := by simp [chk, h1]
  rw [e] at hK
  simp only [condK_bt, e_reg, and_self, e_seq, e_cond, e_ret, o_nil, o_cons, gd_none, putK_e, runK_e, vK_e, boxK_e, bldK_e, storeK3_e, storeK2_e, storeK_e, conK_e, callK_e, evh_v, evh_new, evh_box, evh_bld, evh_store, evh_call, seqK_n, seqK_r, ends_r, endK1_e, endK2_e, gam_e, gamK_f, pc_e, pcK_e, fcC_e, fcK_e, evp, gt, st, putf, X.get, gets, getp, ap, mkfr, rep, rdR, tupled, clV, clL, clS, clo, ld, lda, tk, dr, sp, sp.spl, lay, ll, cs1, one, allOne, gb, sb, pb, ln, lk, undef, Bool.and_true, Bool.not_false, Nat.reduceSub, Nat.reduceAdd, beq_self_eq_true, true_and, s22, r22, F42, h1]
  exact res hK (by simp [leR])
 | true =>
  have hT := okS_len h1
  simp only [condK_bf, e_skip, e_reg, and_self, e_seq, e_cond, o_nil, o_cons, gd_none, putK_e, runK_e, vK_e, boxK_e, bldK_e, storeK3_e, storeK2_e, storeK_e, conK_e, callK_e, evh_v, evh_new, evh_box, evh_bld, evh_store, evh_call, seqK_n, gam_e, gamK_f, gamK_p, pc_e, pcK_e, fcC_e, fcK_e, evp, gt, st, putf, X.get, gets, getp, ap, mkfr, rep, clV, clL, clS, clo, ld, lda, tk, dr, sp, sp.spl, lay, ll, cs1, one, allOne, gb, sb, pb, ln, lk, undef, Bool.and_true, Bool.not_true, Nat.reduceSub, Nat.reduceAdd, Nat.reduceBEq, beq_self_eq_true, true_and, s22, r22, F42, h1]
  refine ⟨T, m, L, rfl, hT.2, ?_⟩
  cases h2 : okL T L with
  | false =>
   have e : chk T m L = 24 := by simp [chk, h1, h2]
   rw [e] at hK
   simp only [condK_bt, e_reg, e_seq, e_cond, e_ret, o_nil, o_cons, gd_none, putK_e, runK_e, vK_e, evh_v, seqK_n, seqK_r, ends_r, endK1_e, endK2_e, evp, gt, st, putf, X.get, rdR, tupled, clV, clS, clo, Bool.not_false, true_and]
   exact res hK (by simp [leR])
  | true =>
   have e : chk T m L = 0 := by simp [chk, h1, h2]
   rw [e] at hK
   simp only [condK_bf, e_skip, e_reg, e_seq, e_cond, e_ret, o_nil, o_cons, gd_none, putK_e, runK_e, vK_e, evh_v, seqK_n, ends_r, endK1_e, endK2_e, evp, gt, st, putf, X.get, rdR, tupled, clV, clS, clo, Bool.not_true, true_and]
   exact res hK (by simp [leR])
end Go.Proofs.Ytplldhepmmjmmaa
