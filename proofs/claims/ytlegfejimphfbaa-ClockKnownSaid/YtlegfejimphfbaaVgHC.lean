import Derived.Test.YtlegfejimphfbaaVgHB
section
namespace Go.Proofs.Ytlegfejimphfbaa
open Go Go.Vg
set_option linter.unusedSimpArgs false
set_option linter.unusedVariables false
set_option maxRecDepth 10000
def s83 : SC :=
 (.seq (.reg [⟨(some 2), none, .box 58 (.t 0)⟩,
  ⟨(some 4), none, .v (.mov (.c (.lit (.bool false))))⟩])
 (.seq (.drw [(0, ⟨(some 5), none, .v (.mov (.t 1))⟩, false),
  (1, ⟨(some 6), none, .v (.len (.t 5))⟩, false),
  (2, ⟨(some 7), none, .call (.c (.fn 18 [])) [(.t 6), (.c (.int .i64 (1))), (.c (.int .i64 (60)))]⟩, false),
  (3, ⟨(some 8), none, .v (.mov (.t 7))⟩, true),
  (4, ⟨(some 9), (some (8, true)), .v (.mov (.t 1))⟩, false),
  (5, ⟨(some 10), (some (8, true)), .v (.load (.t 2) (some 6))⟩, false),
  (6, ⟨(some 11), (some (8, true)), .call (.c (.fn 19 [])) [(.t 10)]⟩, false),
  (7, ⟨(some 12), (some (8, true)), .v (.load (.t 2) (some 6))⟩, false),
  (8, ⟨(some 13), (some (8, true)), .call (.c (.fn 20 [])) [(.t 12)]⟩, false)]
  none
  [⟨(some 14), (some (8, true)), .call (.c (.fn 44 [])) [(.t 9), (.t 11), (.t 13)]⟩,
  ⟨(some 15), none, .v (.pick (.t 8) (.t 14) (.c (.lit (.bool false))))⟩,
  ⟨(some 4), none, .v (.mov (.t 15))⟩])
 .ret))
def r83 : List RV := [.t 4]
theorem k83 : (Try.f38.body.bind (cC Try.prog), cR Try.prog Try.f38.results.toList, Try.f38.ntmps) = (some s83, some r83, 16) := by kernel_rfl
theorem q83 : Known Try.prog 38 := ⟨_, Try.func38, by decide, by simp [Try.f38]⟩
def s53 : SC :=
 (.seq (.reg [⟨(some 2), none, .box 27 (.t 0)⟩,
  ⟨(some 4), none, .v (.mov (.c (.int .i64 (0))))⟩])
 (.seq (.seq (.reg [⟨(some 6), none, .v (.load (.t 2) (some 6))⟩,
  ⟨(some 7), none, .call (.c (.fn 9 [])) [(.t 6)]⟩,
  ⟨(some 5), none, .v (.mov (.t 7))⟩])
 (.seq (.reg [⟨(some 8), none, .v (.mov (.t 5))⟩,
  ⟨(some 9), none, .v (.bin .neq (.t 8) (.c (.int .i64 (0))))⟩])
 (.cond (.t 9)
  (.seq (.reg [⟨(some 10), none, .v (.mov (.t 5))⟩,
   ⟨(some 4), none, .v (.mov (.t 10))⟩])
  .ret)
  .skip)))
 (.seq (.seq (.reg [⟨(some 11), none, .v (.load (.t 2) (some 6))⟩,
  ⟨(some 12), none, .bld [(.lit (.slice none 0 0)), (.lit (.slice none 0 0)), (.int .i64 (0)), (.int .i64 (0)), (.int .i64 (0)), (.int .i64 (0))] [(0, 6, (.t 11))]⟩,
  ⟨(some 13), none, .v (.mov (.t 1))⟩,
  ⟨(some 14), none, .call (.c (.fn 38 [])) [(.t 12), (.t 13)]⟩,
  ⟨(some 15), none, .v (.not (.t 14))⟩])
 (.cond (.t 15)
  (.seq (.reg [⟨(some 4), none, .v (.mov (.c (.int .i64 (71))))⟩])
  .ret)
  .skip))
 (.seq (.reg [⟨(some 4), none, .v (.mov (.c (.int .i64 (0))))⟩])
 .ret))))
def r53 : List RV := [.t 4]
theorem k53 : (Try.f22.body.bind (cC Try.prog), cR Try.prog Try.f22.results.toList, Try.f22.ntmps) = (some s53, some r53, 16) := by kernel_rfl
theorem q53 : Known Try.prog 22 := ⟨_, Try.func22, by decide, by simp [Try.f22]⟩
def s86 : SC :=
 (.seq (.reg [⟨(some 3), none, .box 25 (.t 1)⟩,
  ⟨(some 4), none, .v (.mov (.c (.lit (.bool false))))⟩])
 (.seq (.reg [⟨(some 5), none, .v (.mov (.t 0))⟩,
  ⟨(some 6), none, .v (.off (.t 3) 0)⟩,
  ⟨(some 7), none, .v (.load (.t 6) none)⟩,
  ⟨(some 8), none, .v (.off (.t 3) 1)⟩,
  ⟨(some 9), none, .v (.load (.t 8) none)⟩,
  ⟨(some 10), none, .call (.c (.fn 18 [])) [(.t 5), (.t 7), (.t 9)]⟩,
  ⟨(some 4), none, .v (.mov (.t 10))⟩])
 .ret))
def r86 : List RV := [.t 4]
theorem k86 : (Try.f40.body.bind (cC Try.prog), cR Try.prog Try.f40.results.toList, Try.f40.ntmps) = (some s86, some r86, 11) := by kernel_rfl
theorem q86 : Known Try.prog 40 := ⟨_, Try.func40, by decide, by simp [Try.f40]⟩
def s85 : SC :=
 (.seq (.reg [⟨(some 4), none, .v (.mov (.c (.lit (.bool false))))⟩])
 (.seq (.seq (.reg [⟨(some 7), none, .v (.mov (.t 0))⟩,
  ⟨(some 8), none, .v (.len (.t 7))⟩,
  ⟨(some 9), none, .v (.mov (.t 1))⟩,
  ⟨(some 10), none, .v (.len (.t 9))⟩,
  ⟨(some 11), none, .v (.bin .neq (.t 8) (.t 10))⟩])
 (.cond (.t 11)
  (.seq (.reg [⟨(some 4), none, .v (.mov (.c (.lit (.bool false))))⟩])
  .ret)
  .skip))
 (.seq (.seq (.reg [⟨(some 12), none, .v (.mov (.t 1))⟩,
  ⟨(some 13), none, .v (.len (.t 12))⟩,
  ⟨(some 14), none, .v (.mov (.c (.int .i64 (0))))⟩])
 (.block 0 (.loop
  (.seq (.reg [⟨(some 15), none, .v (.bin .lss (.t 14) (.t 13))⟩])
  (.seq (.cond (.t 15)
   .skip
   (.exit 0))
  (.seq (.block 1 (.seq (.reg [⟨(some 16), none, .v (.mov (.t 14))⟩,
   ⟨(some 17), none, .v (.ixa (.t 12) (.t 14) 2)⟩,
   ⟨(some 18), none, .v (.load (.t 17) (some 2))⟩,
   ⟨(some 6), none, .new 25 [(.int .i64 (0)), (.int .i64 (0))]⟩,
   ⟨(some 5), none, .v (.mov (.t 16))⟩,
   ⟨none, none, .store 2 (.t 6) (.t 18)⟩])
  (.seq (.drw [(0, ⟨(some 19), none, .v (.mov (.t 0))⟩, false),
   (1, ⟨(some 20), none, .v (.mov (.t 5))⟩, false),
   (2, ⟨(some 21), none, .v (.ixa (.t 19) (.t 20) 1)⟩, false),
   (3, ⟨(some 22), none, .v (.load (.t 21) none)⟩, false),
   (4, ⟨(some 23), none, .v (.load (.t 6) (some 2))⟩, false)]
   none
   [⟨(some 24), none, .call (.c (.fn 40 [])) [(.t 22), (.t 23)]⟩,
   ⟨(some 25), none, .v (.not (.t 24))⟩])
  (.cond (.t 25)
   (.seq (.reg [⟨(some 4), none, .v (.mov (.c (.lit (.bool false))))⟩])
   .ret)
   .skip))))
  (.reg [⟨(some 26), none, .v (.bin .add (.t 14) (.c (.int .i64 (1))))⟩,
   ⟨(some 14), none, .v (.mov (.t 26))⟩])))))))
 (.seq (.reg [⟨(some 4), none, .v (.mov (.c (.lit (.bool true))))⟩])
 .ret))))
def r85 : List RV := [.t 4]
theorem k85 : (Try.f39.body.bind (cC Try.prog), cR Try.prog Try.f39.results.toList, Try.f39.ntmps) = (some s85, some r85, 27) := by kernel_rfl
theorem q85 : Known Try.prog 39 := ⟨_, Try.func39, by decide, by simp [Try.f39]⟩
def s61 : SC :=
 (.seq (.reg [⟨(some 3), none, .box 58 (.t 0)⟩,
  ⟨(some 5), none, .box 37 (.t 2)⟩,
  ⟨(some 6), none, .v (.mov (.c (.lit (.bool false))))⟩])
 (.seq (.reg [⟨(some 7), none, .v (.off (.t 5) 0)⟩,
  ⟨(some 8), none, .v (.load (.t 7) none)⟩,
  ⟨(some 9), none, .v (.off (.t 3) 0)⟩,
  ⟨(some 10), none, .v (.off (.t 9) 1)⟩,
  ⟨(some 11), none, .v (.load (.t 10) none)⟩,
  ⟨(some 12), none, .call (.c (.fn 39 [])) [(.t 8), (.t 11)]⟩,
  ⟨(some 13), none, .v (.mov (.t 12))⟩,
  ⟨(some 14), (some (13, true)), .v (.off (.t 5) 1)⟩,
  ⟨(some 15), (some (13, true)), .v (.load (.t 14) none)⟩,
  ⟨(some 16), (some (13, true)), .v (.off (.t 3) 0)⟩,
  ⟨(some 17), (some (13, true)), .v (.off (.t 16) 2)⟩,
  ⟨(some 18), (some (13, true)), .v (.load (.t 17) (some 2))⟩,
  ⟨(some 19), (some (13, true)), .call (.c (.fn 40 [])) [(.t 15), (.t 18)]⟩,
  ⟨(some 20), none, .v (.pick (.t 13) (.t 19) (.c (.lit (.bool false))))⟩,
  ⟨(some 21), none, .v (.mov (.t 20))⟩,
  ⟨(some 22), (some (21, true)), .v (.off (.t 5) 2)⟩,
  ⟨(some 23), (some (21, true)), .v (.load (.t 22) none)⟩,
  ⟨(some 24), (some (21, true)), .v (.off (.t 3) 0)⟩,
  ⟨(some 25), (some (21, true)), .v (.off (.t 24) 4)⟩,
  ⟨(some 26), (some (21, true)), .v (.load (.t 25) (some 2))⟩,
  ⟨(some 27), (some (21, true)), .call (.c (.fn 40 [])) [(.t 23), (.t 26)]⟩,
  ⟨(some 28), none, .v (.pick (.t 21) (.t 27) (.c (.lit (.bool false))))⟩,
  ⟨(some 29), none, .v (.mov (.t 28))⟩,
  ⟨(some 30), (some (29, true)), .v (.off (.t 5) 3)⟩,
  ⟨(some 31), (some (29, true)), .v (.load (.t 30) none)⟩,
  ⟨(some 32), (some (29, true)), .v (.mov (.t 1))⟩,
  ⟨(some 33), (some (29, true)), .call (.c (.fn 39 [])) [(.t 31), (.t 32)]⟩,
  ⟨(some 34), none, .v (.pick (.t 29) (.t 33) (.c (.lit (.bool false))))⟩,
  ⟨(some 6), none, .v (.mov (.t 34))⟩])
 .ret))
def r61 : List RV := [.t 6]
theorem k61 : (Try.f23.body.bind (cC Try.prog), cR Try.prog Try.f23.results.toList, Try.f23.ntmps) = (some s61, some r61, 35) := by kernel_rfl
theorem q61 : Known Try.prog 23 := ⟨_, Try.func23, by decide, by simp [Try.f23]⟩
def s62 : SC :=
 (.seq (.reg [⟨(some 2), none, .box 58 (.t 0)⟩,
  ⟨(some 3), none, .box 37 (.t 1)⟩,
  ⟨(some 4), none, .v (.mov (.c (.lit (.slice none 0 0))))⟩])
 (.seq (.drw [(0, ⟨(some 9), none, .v (.load (.t 2) (some 6))⟩, false),
  (1, ⟨(some 10), none, .v (.off (.t 3) 0)⟩, false),
  (2, ⟨(some 11), none, .v (.load (.t 10) none)⟩, false),
  (3, ⟨(some 12), none, .v (.off (.t 3) 1)⟩, false),
  (4, ⟨(some 13), none, .v (.load (.t 12) none)⟩, false),
  (5, ⟨(some 14), none, .call (.c (.fn 41 [])) [(.t 9), (.t 11), (.t 13)]⟩, false),
  (6, ⟨(some 15), none, .v (.off (.t 3) 2)⟩, false),
  (7, ⟨(some 16), none, .v (.load (.t 15) none)⟩, false),
  (8, ⟨(some 5), none, .v (.mov (.t 14))⟩, false)]
  none
  [⟨(some 6), none, .v (.mov (.t 16))⟩])
 (.seq (.reg [⟨(some 7), none, .v (.mov (.c (.lit (.slice none 0 0))))⟩])
 (.seq (.seq (.reg [⟨(some 17), none, .v (.off (.t 3) 3)⟩,
  ⟨(some 18), none, .v (.load (.t 17) none)⟩,
  ⟨(some 19), none, .v (.len (.t 18))⟩,
  ⟨(some 20), none, .v (.mov (.c (.int .i64 (0))))⟩])
 (.block 0 (.loop
  (.seq (.reg [⟨(some 21), none, .v (.bin .lss (.t 20) (.t 19))⟩])
  (.seq (.cond (.t 21)
   .skip
   (.exit 0))
  (.seq (.block 1 (.seq (.reg [⟨(some 22), none, .v (.mov (.t 20))⟩,
   ⟨(some 8), none, .v (.mov (.t 22))⟩])
  (.seq (.tre (.op ⟨(some 23), none, .v (.mov (.t 6))⟩ (.op ⟨(some 24), none, .v (.mov (.t 5))⟩ (.op ⟨(some 25), none, .v (.mov (.t 8))⟩ (.op ⟨(some 26), none, .v (.off (.t 3) 3)⟩ (.op ⟨(some 28), none, .v (.mov (.t 8))⟩ (.op ⟨(some 32), none, .v (.mkmm "octant/clock.on" (.t 24))⟩ (.op ⟨(some 27), none, .v (.load (.t 26) none)⟩ (.op ⟨(some 29), none, .v (.ixa (.t 27) (.t 28) 1)⟩ (.op ⟨(some 30), none, .v (.load (.t 29) none)⟩ (.op ⟨(some 31), none, .bld [(.int .i64 (0)), (.int .i64 (0))] [(0, 1, (.t 25)), (1, 1, (.t 30))]⟩ (.op ⟨(some 33), none, .nck (.t 32)⟩ (.op ⟨(some 34), none, .v (.mov (.t 24))⟩ (.op ⟨(some 35), none, .inv [(111, 111), (112, 116), (114, 117)] (.t 34) [(.t 31)]⟩ (.op ⟨(some 36), none, .v (.bin .add (.t 23) (.t 35))⟩ (.op ⟨(some 6), none, .v (.mov (.t 36))⟩ .leaf
  .stop)
  .stop)
  .stop)
  .stop)
  .stop)
  .stop)
  (.op ⟨(some 33), none, .nck (.t 32)⟩ (.op ⟨(some 34), none, .v (.mov (.t 24))⟩ (.op ⟨(some 30), none, .v (.load (.t 29) none)⟩ (.op ⟨(some 31), none, .bld [(.int .i64 (0)), (.int .i64 (0))] [(0, 1, (.t 25)), (1, 1, (.t 30))]⟩ (.op ⟨(some 35), none, .inv [(111, 111), (112, 116), (114, 117)] (.t 34) [(.t 31)]⟩ (.op ⟨(some 36), none, .v (.bin .add (.t 23) (.t 35))⟩ (.op ⟨(some 6), none, .v (.mov (.t 36))⟩ .leaf
  .stop)
  .stop)
  .stop)
  .stop)
  .stop)
  .stop)
  .stop))
  (.op ⟨(some 33), none, .nck (.t 32)⟩ (.op ⟨(some 34), none, .v (.mov (.t 24))⟩ (.op ⟨(some 29), none, .v (.ixa (.t 27) (.t 28) 1)⟩ (.op ⟨(some 30), none, .v (.load (.t 29) none)⟩ (.op ⟨(some 31), none, .bld [(.int .i64 (0)), (.int .i64 (0))] [(0, 1, (.t 25)), (1, 1, (.t 30))]⟩ (.op ⟨(some 35), none, .inv [(111, 111), (112, 116), (114, 117)] (.t 34) [(.t 31)]⟩ (.op ⟨(some 36), none, .v (.bin .add (.t 23) (.t 35))⟩ (.op ⟨(some 6), none, .v (.mov (.t 36))⟩ .leaf
  .stop)
  .stop)
  .stop)
  .stop)
  .stop)
  .stop)
  .stop)
  .stop))
  (.op ⟨(some 33), none, .nck (.t 32)⟩ (.op ⟨(some 34), none, .v (.mov (.t 24))⟩ (.op ⟨(some 27), none, .v (.load (.t 26) none)⟩ (.op ⟨(some 29), none, .v (.ixa (.t 27) (.t 28) 1)⟩ (.op ⟨(some 30), none, .v (.load (.t 29) none)⟩ (.op ⟨(some 31), none, .bld [(.int .i64 (0)), (.int .i64 (0))] [(0, 1, (.t 25)), (1, 1, (.t 30))]⟩ (.op ⟨(some 35), none, .inv [(111, 111), (112, 116), (114, 117)] (.t 34) [(.t 31)]⟩ (.op ⟨(some 36), none, .v (.bin .add (.t 23) (.t 35))⟩ (.op ⟨(some 6), none, .v (.mov (.t 36))⟩ .leaf
  .stop)
  .stop)
  .stop)
  .stop)
  .stop)
  .stop)
  .stop)
  .stop)
  .stop))
  .stop)
  .stop)
  .stop)
  .stop)
  .stop)
  .stop))
  (.reg [⟨(some 37), none, .v (.mov (.t 7))⟩,
   ⟨(some 38), none, .v (.mov (.t 6))⟩,
   ⟨(some 39), none, .bsl 3 1 [(.int .i64 (0))] [(0, 1, (.t 38))]⟩,
   ⟨(some 40), none, .app 3 1 8 (.t 37) (.t 39)⟩,
   ⟨(some 7), none, .v (.mov (.t 40))⟩]))))
  (.reg [⟨(some 41), none, .v (.bin .add (.t 20) (.c (.int .i64 (1))))⟩,
   ⟨(some 20), none, .v (.mov (.t 41))⟩])))))))
 (.seq (.reg [⟨(some 42), none, .v (.mov (.t 7))⟩,
  ⟨(some 4), none, .v (.mov (.t 42))⟩])
 .ret)))))
def r62 : List RV := [.t 4]
theorem k62 : (Try.f24.body.bind (cC Try.prog), cR Try.prog Try.f24.results.toList, Try.f24.ntmps) = (some s62, some r62, 43) := by kernel_rfl
theorem q62 : Known Try.prog 24 := ⟨_, Try.func24, by decide, by simp [Try.f24]⟩
def s22 : SC :=
 (.seq (.reg [⟨(some 3), none, .box 27 (.t 0)⟩,
  ⟨(some 5), none, .box 37 (.t 2)⟩,
  ⟨(some 6), none, .v (.mov (.c (.lit (.slice none 0 0))))⟩,
  ⟨(some 7), none, .v (.mov (.c (.int .i64 (0))))⟩])
 (.seq (.seq (.reg [⟨(some 10), none, .v (.load (.t 3) (some 6))⟩,
  ⟨(some 11), none, .v (.mov (.t 1))⟩,
  ⟨(some 12), none, .call (.c (.fn 22 [])) [(.t 10), (.t 11)]⟩,
  ⟨(some 8), none, .v (.mov (.t 12))⟩])
 (.seq (.reg [⟨(some 13), none, .v (.mov (.t 8))⟩,
  ⟨(some 14), none, .v (.bin .neq (.t 13) (.c (.int .i64 (0))))⟩])
 (.cond (.t 14)
  (.seq (.reg [⟨(some 15), none, .v (.mov (.t 8))⟩,
   ⟨(some 6), none, .v (.mov (.c (.lit (.slice none 0 0))))⟩,
   ⟨(some 7), none, .v (.mov (.t 15))⟩])
  .ret)
  .skip)))
 (.seq (.reg [⟨(some 16), none, .v (.load (.t 3) (some 6))⟩,
  ⟨(some 17), none, .bld [(.lit (.slice none 0 0)), (.lit (.slice none 0 0)), (.int .i64 (0)), (.int .i64 (0)), (.int .i64 (0)), (.int .i64 (0))] [(0, 6, (.t 16))]⟩,
  ⟨(some 9), none, .new 58 [(.lit (.slice none 0 0)), (.lit (.slice none 0 0)), (.int .i64 (0)), (.int .i64 (0)), (.int .i64 (0)), (.int .i64 (0))]⟩,
  ⟨none, none, .store 6 (.t 9) (.t 17)⟩])
 (.seq (.seq (.reg [⟨(some 18), none, .v (.load (.t 9) (some 6))⟩,
  ⟨(some 19), none, .v (.mov (.t 1))⟩,
  ⟨(some 20), none, .v (.load (.t 5) (some 4))⟩,
  ⟨(some 21), none, .call (.c (.fn 23 [])) [(.t 18), (.t 19), (.t 20)]⟩,
  ⟨(some 22), none, .v (.not (.t 21))⟩])
 (.cond (.t 22)
  (.seq (.reg [⟨(some 6), none, .v (.mov (.c (.lit (.slice none 0 0))))⟩,
   ⟨(some 7), none, .v (.mov (.c (.int .i64 (74))))⟩])
  .ret)
  .skip))
 (.seq (.reg [⟨(some 23), none, .v (.load (.t 9) (some 6))⟩,
  ⟨(some 24), none, .v (.load (.t 5) (some 4))⟩,
  ⟨(some 25), none, .call (.c (.fn 24 [])) [(.t 23), (.t 24)]⟩,
  ⟨(some 6), none, .v (.mov (.t 25))⟩,
  ⟨(some 7), none, .v (.mov (.c (.int .i64 (0))))⟩])
 .ret)))))
def r22 : List RV := [.t 6, .t 7]
theorem k22 : (Try.f7.body.bind (cC Try.prog), cR Try.prog Try.f7.results.toList, Try.f7.ntmps) = (some s22, some r22, 26) := by kernel_rfl
theorem q22 : Known Try.prog 7 := ⟨_, Try.func7, by decide, by simp [Try.f7]⟩
def voy (c : Ck) (D : List (Int × Int)) : Prop := (1 ≤ (D.length : Int) ∧ (D.length : Int) ≤ 60) ∧ D.all (spE (c.T.getD 0 0) (c.T.getD (c.T.length - 1) 0)) = true
instance (c : Ck) (D : List (Int × Int)) : Decidable (voy c D) := by unfold voy; infer_instance
def C83 : PC := fun args K => ∃ (c : Ck) (D : List (Int × Int)), args = [c.sv, .rd 2 D.length (rowsS D)] ∧ c.ok ∧ K (.bool (decide (voy c D)))
theorem p83 : PureOk Try.prog 38 C83 := by
 refine pure_of (T := [(18, .fc Fin), (19, .fc Fcold), (20, .fc Fwarm), (44, .pc C81)]) ⟨⟨p46, q46⟩, ⟨p47, q47⟩, ⟨p48, q48⟩, ⟨p81, q81⟩, trivial⟩ Try.func38 k83 ?_
 rintro args K ⟨c, D, rfl, hok, hK⟩
 have hsv : c.sv = .agg [.ints .i64 c.T, .rd 2 c.R.length (rowsS c.R), .int .i64 c.a, .int .i64 c.b, .int .i64 c.e, .int .i64 c.g] := rfl
 have hl := (c.eo hok (w := 56) (.inl rfl)).tb.len
 rw [hsv]
 by_cases h : 1 ≤ (D.length : Int) ∧ (D.length : Int) ≤ 60
 ·have n0 : (1 ≤ (D.length : Int) ∧ (D.length : Int) ≤ 60) = True := eq_true h
  simp only [dX_bt, decide_true, e_reg, e_drw, e_seq, e_ret, o_nil, o_cons, gd_none, gd_some, gdK_tt, putK_e, runK_e, vK_e, boxK_e, conK_e, callK_e, evh_v, evh_box, evh_call, dX_e, dG_t, d_nil, d_cons, tlK_n, seqK_n, ends_r, endK1_e, gam_e, gamK_p, gamq_e, gamqK_f, pc_e, pcK_e, evp, gt, st, putf, X.get, gets, ap, mkfr, rep, rdR, tupled, clV, clL, clS, clo, clo.clos, ld, lda, lens, tk, dr, cs1, gb, pb, ln, lk, evq, gdl, undef, Bool.and_true, Nat.reduceSub, Nat.reduceBEq, beq_self_eq_true, true_and, s83, r83, Fin, Fcold, Fwarm, n0]
  refine ⟨by omega, by omega, D, _, _, rfl, by omega, ?_⟩
  simp only [endK2_e, clo]
  refine res hK ?_
  have : decide (voy c D) = D.all (spE (c.T.getD 0 0) (c.T.getD (c.T.length - 1) 0)) := by
   rw [Bool.eq_iff_iff, decide_eq_true_iff]
   exact ⟨fun h => h.2, fun h2 => ⟨h, h2⟩⟩
  simp only [leR, this]
 ·have n0 : (1 ≤ (D.length : Int) ∧ (D.length : Int) ≤ 60) = False := eq_false h
  simp only [dX_bf, decide_false, e_reg, e_drw, e_seq, e_ret, o_nil, o_cons, gd_none, gd_some, gdK_ft, putK_e, runK_e, skipK_e, vK_e, boxK_e, evh_v, evh_box, dX_e, dG_t, dG_f, d_nil, d_cons, tlK_n, seqK_n, ends_r, endK1_e, endK2_e, gamq_e, gamqK_f, evp, gt, st, putf, X.get, gets, ap, mkfr, rep, rdR, tupled, clV, clS, clo, clo.clos, ld, lda, lens, tk, dr, cs1, gb, pb, ln, lk, evq, gdl, undef, Bool.and_true, Bool.not_true, Nat.reduceSub, Nat.reduceBEq, beq_self_eq_true, true_and, s83, r83, Fin, Fcold, Fwarm, n0]
  exact res hK (by simp [leR, voy, h])
def askE (c : Ck) (D : List (Int × Int)) : Int := if c.ok then if voy c D then 0 else 71 else 70
def C53 : PC := fun args K => ∃ (c : Ck) (D : List (Int × Int)), args = [c.sv, .rd 2 D.length (rowsS D)] ∧ K (.int .i64 (askE c D))
theorem p53 : PureOk Try.prog 22 C53 := by
 refine pure_of (T := [(9, .pc C16), (38, .pc C83)]) ⟨⟨p16, q16⟩, ⟨p83, q83⟩, trivial⟩ Try.func22 k53 ?_
 rintro args K ⟨c, D, rfl, hK⟩
 have hsv : c.sv = .agg [.ints .i64 c.T, .rd 2 c.R.length (rowsS c.R), .int .i64 c.a, .int .i64 c.b, .int .i64 c.e, .int .i64 c.g] := rfl
 rw [hsv]
 simp only [e_reg, e_seq, o_nil, o_cons, gd_none, putK_e, runK_e, vK_e, boxK_e, conK_e, callK_e, evh_v, evh_box, evh_call, seqK_n, gam_e, gamK_p, pc_e, pcK_e, evp, bin, gt, st, putf, X.get, gets, ap, mkfr, rep, clV, clL, clS, clo, ld, lda, tk, dr, cs1, gb, pb, ln, lk, undef, Nat.reduceSub, beq_self_eq_true, true_and, s53, r53]
 refine ⟨c, rfl, ?_⟩
 by_cases hok : c.ok
 ·have h1 : c.chk = 0 := by simp [Ck.chk, hok]
  simp only [condK_bf, decide_true, e_skip, e_reg, e_seq, e_cond, o_nil, o_cons, gd_none, putK_e, runK_e, vK_e, bldK_e, conK_e, callK_e, evh_v, evh_bld, evh_call, seqK_n, gam_e, gamK_p, pc_e, pcK_e, evp, gt, st, putf, X.get, gets, getp, ap, clV, clL, clS, clo, ld, lda, tk, dr, sp, sp.spl, lay, ll, cs1, gb, lk, Bool.not_true, Nat.reduceAdd, Nat.reduceBEq, beq_self_eq_true, true_and, h1]
  refine ⟨c, D, rfl, hok, ?_⟩
  by_cases hv : voy c D
  ·have h2 : voy c D = True := eq_true hv
   simp only [condK_bf, decide_true, e_skip, e_reg, e_seq, e_cond, e_ret, o_nil, o_cons, gd_none, putK_e, runK_e, vK_e, evh_v, seqK_n, ends_r, endK1_e, endK2_e, evp, gt, st, putf, X.get, rdR, tupled, clV, clS, clo, Bool.not_true, true_and, h2]
   exact res hK (by simp [leR, askE, hok, hv])
  ·have h2 : voy c D = False := eq_false hv
   simp only [condK_bt, decide_false, e_reg, e_seq, e_cond, e_ret, o_nil, o_cons, gd_none, putK_e, runK_e, vK_e, evh_v, seqK_n, seqK_r, ends_r, endK1_e, endK2_e, evp, gt, st, putf, X.get, rdR, tupled, clV, clS, clo, Bool.not_false, true_and, h2]
   exact res hK (by simp [leR, askE, hok, hv])
 ·have h1 : c.chk = 70 := by simp [Ck.chk, hok]
  have h70 : ((70 : Int) = 0) = False := by simp
  simp only [condK_bt, decide_false, e_reg, e_seq, e_cond, e_ret, o_nil, o_cons, gd_none, putK_e, runK_e, vK_e, evh_v, seqK_n, seqK_r, ends_r, endK1_e, endK2_e, evp, gt, st, putf, X.get, rdR, tupled, clV, clS, clo, Bool.not_false, true_and, h1, h70]
  exact res hK (by simp [leR, askE, hok])
def Fisin : FC := fun args => match args with
 | [.int .i64 x, .agg [.int .i64 a, .int .i64 b]] => some (True, .bool (decide (a ≤ x ∧ x ≤ b)))
 | _ => none
theorem p86 : PureOk Try.prog 40 (fcC Fisin) := by
 refine pure_of (T := [(18, .fc Fin)]) ⟨⟨p46, q46⟩, trivial⟩ Try.func40 k86 ?_
 intro args K hC
 unfold fcC Fisin at hC
 split at hC <;> first | (exact hC.elim) | skip
 rename_i h
 split at h <;> first | (cases h; done) | skip
 cases h
 simp only [e_reg, e_seq, e_ret, o_nil, o_cons, gd_none, putK_e, runK_e, vK_e, boxK_e, conK_e, callK_e, evh_v, evh_box, evh_call, seqK_n, ends_r, endK1_e, endK2_e, gam_e, gamK_f, pc_e, pcK_e, fcC_e, fcK_e, evp, gt, gq, st, putf, X.get, gets, ap, mkfr, rep, rdR, tupled, clV, clL, clS, clo, ld, lda, cs1, gb, pb, ln, lk, undef, Nat.reduceSub, Nat.reduceAdd, beq_self_eq_true, true_and, s86, r86, Fin]
 exact res hC.2 (by simp [leR])
def areI (l : List Int) (L : List (Int × Int)) : Prop := l.length = L.length ∧ ∀ i, i < L.length → lo L i ≤ l.getD i 0 ∧ l.getD i 0 ≤ hi L i
noncomputable instance (l : List Int) (L : List (Int × Int)) : Decidable (areI l L) := Classical.propDecidable _
def C85 : PC := fun args K => ∃ (l : List Int) (L : List (Int × Int)), args = [.ints .i64 l, .rd 2 L.length (rowsS L)] ∧ L.length ≤ 1000 ∧ K (.bool (decide (areI l L)))
theorem p85 : PureOk Try.prog 39 C85 := by
 refine pure_of (T := [(40, .fc Fisin)]) ⟨⟨p86, q86⟩, trivial⟩ Try.func39 k85 ?_
 rintro args K ⟨l, L, rfl, hL, hK⟩
 by_cases hl : l.length = L.length
 ·have n0 : ((l.length : Int) = (L.length : Int)) = True := by simp [hl]
  simp only [condK_bf, decide_true, e_skip, e_reg, e_seq, e_cond, e_block, e_loop, o_nil, o_cons, gd_none, putK_e, runK_e, vK_e, evh_v, seqK_n, evp, bin, gt, st, putf, X.get, mkfr, rep, lens, undef, Bool.not_true, Nat.reduceSub, true_and, s85, r85, n0]
  refine loop_at2 (G := Nat) (fun i => [(14, .int .i64 i)]) (fun i => []) (fun i => i ≤ L.length ∧ ∀ j, j < i → lo L j ≤ l.getD j 0 ∧ l.getD j 0 ≤ hi L j) (fun i => L.length - i) 0 ⟨Nat.zero_le _, fun j hj => by simp at hj⟩ ?_
  (intro fr1 hf1; simp only [forget, dstC, dstO, dstD, dst1, st] at hf1; subst hf1)
  refine ⟨?_, ?_⟩
  ·refine Lw_re 0 [] (Nat.zero_le _) (by simp [ln]) (by simp [ln]) rfl ?_ ?_
   ·simp only [reL, reX, inb, ln, sts, st, and_self, Int.natCast_zero, implies_true]
   ·simp only [reH, reN]
  ·rintro i ⟨hi1, hp⟩
   by_cases hlt : i < L.length
   ·have n1 : ((i : Int) < (L.length : Int)) = True := by simp; omega
    by_cases hq : lo L i ≤ l.getD i 0 ∧ l.getD i 0 ≤ hi L i
    ·have n2 : (lo L i ≤ l.getD i 0 ∧ l.getD i 0 ≤ hi L i) = True := eq_true hq
     simp only [condK_bt, condK_bf, decide_true, inr64, e_skip, e_reg, and_self, e_drw, e_seq, e_cond, e_block, o_nil, o_cons, gd_none, putK_e, runK_e, vK_e, storeK3_e, storeK2_e, storeK_e, conK_e, callK_e, evh_v, evh_new, evh_store, evh_call, dX_e, dG_t, d_nil, d_cons, tlK_n, loopK_n, seqK_n, blockK_n, gam_e, gamK_f, pc_e, pcK_e, fcC_e, fcK_e, evp, bin, gt, gq, st, putf, X.get, gets, ap, clV, clL, clS, clo, ld, lda, ixs, tk, dr, sp, sp.spl, ll, cs1, one, allOne, gb, sb, pb, ln, lk, evq, gdl, Bool.and_true, Bool.not_true, Nat.reduceAdd, beq_self_eq_true, true_and, and_true, sts, n1, Int.toNat_natCast, rowsS, Fisin, n2]
     repeat refine And.intro (by omega) ?_
     refine Nx.mk (i + 1) ⟨by omega, fun j hj => ?_⟩ (by omega) (Lw_re 0 [] (Nat.zero_le _) (by simp [ln]) (by simp [ln]) rfl ?_ ?_)
     ·by_cases hji : j = i
      ·subst hji; exact hq
      ·exact hp j (by omega)
     ·simp only [reL, reX, inb, and_self, Int.natCast_add, Int.natCast_one, implies_true]
     ·simp only [reH, reN]
    ·have n2 : (lo L i ≤ l.getD i 0 ∧ l.getD i 0 ≤ hi L i) = False := eq_false hq
     simp only [condK_bt, decide_true, decide_false, e_skip, e_reg, and_self, e_drw, e_seq, e_cond, e_block, e_ret, o_nil, o_cons, gd_none, putK_e, runK_e, vK_e, storeK3_e, storeK2_e, storeK_e, conK_e, callK_e, evh_v, evh_new, evh_store, evh_call, dX_e, dG_t, d_nil, d_cons, tlK_n, loopK_r, seqK_n, seqK_r, blockK_r, ends_r, endK1_e, endK2_e, gam_e, gamK_f, pc_e, pcK_e, fcC_e, fcK_e, evp, bin, gt, gq, st, putf, X.get, gets, ap, rdR, tupled, clV, clL, clS, clo, ld, lda, ixs, tk, dr, sp, sp.spl, ll, cs1, one, allOne, gb, sb, pb, ln, lk, evq, gdl, Bool.and_true, Bool.not_false, Nat.reduceAdd, beq_self_eq_true, true_and, and_true, sts, n1, Int.toNat_natCast, rowsS, Fisin, n2]
     repeat refine And.intro (by omega) ?_
     refine res hK ?_
     have : ¬ areI l L := fun h => hq (h.2 i hlt)
     simp [leR, this]
   ·have n1 : ((i : Int) < (L.length : Int)) = False := by simp; omega
    simp only [condK_bf, decide_false, e_reg, e_seq, e_cond, e_exit, e_ret, o_nil, o_cons, gd_none, putK_e, runK_e, vK_e, evh_v, loopK_x, seqK_n, seqK_x, exitK_t, blockK_x, ends_r, endK1_e, endK2_e, evp, bin, gt, st, putf, X.get, rdR, tupled, clV, clS, clo, beq_self_eq_true, true_and, sts, n1]
    refine res hK ?_
    have : areI l L := ⟨hl, fun j hj => hp j (by omega)⟩
    simp [leR, this]
 ·have n0 : ((l.length : Int) = (L.length : Int)) = False := by simp; omega
  simp only [condK_bt, decide_false, e_reg, e_seq, e_cond, e_ret, o_nil, o_cons, gd_none, putK_e, runK_e, vK_e, evh_v, seqK_n, seqK_r, ends_r, endK1_e, endK2_e, evp, bin, gt, st, putf, X.get, mkfr, rep, rdR, tupled, clV, clS, clo, lens, undef, Bool.not_false, Nat.reduceSub, true_and, s85, r85, n0]
  refine res hK ?_
  have : ¬ areI l L := fun h => hl h.1
  simp [leR, this]
structure Tr where
 (R : List Int) (a e : Int) (T : List Int)
def Tr.sv (t : Tr) : SV := .agg [.ints .i64 t.R, .int .i64 t.a, .int .i64 t.e, .ints .i64 t.T]
def truT (c : Ck) (D : List (Int × Int)) (t : Tr) : Prop := areI t.R c.R ∧ (c.a ≤ t.a ∧ t.a ≤ c.b) ∧ (c.e ≤ t.e ∧ t.e ≤ c.g) ∧ areI t.T D
noncomputable instance (c : Ck) (D : List (Int × Int)) (t : Tr) : Decidable (truT c D t) := Classical.propDecidable _
def C61 : PC := fun args K => ∃ (c : Ck) (D : List (Int × Int)) (t : Tr), args = [c.sv, .rd 2 D.length (rowsS D), t.sv] ∧ (c.R.length ≤ 1000 ∧ D.length ≤ 1000) ∧ K (.bool (decide (truT c D t)))
theorem p61 : PureOk Try.prog 23 C61 := by
 refine pure_of (T := [(39, .pc C85), (40, .fc Fisin)]) ⟨⟨p85, q85⟩, ⟨p86, q86⟩, trivial⟩ Try.func23 k61 ?_
 rintro args K ⟨c, D, t, rfl, hb, hK⟩
 have hsv : c.sv = .agg [.ints .i64 c.T, .rd 2 c.R.length (rowsS c.R), .int .i64 c.a, .int .i64 c.b, .int .i64 c.e, .int .i64 c.g] := rfl
 have htv : t.sv = .agg [.ints .i64 t.R, .int .i64 t.a, .int .i64 t.e, .ints .i64 t.T] := rfl
 have hn : ¬ truT c D t → ∃ r', K r' ∧ leR 4 (SV.lit (.bool false)) r' := fun h => res hK (by simp [leR, h])
 rw [hsv, htv]
 simp only [e_reg, e_seq, o_nil, o_cons, gd_none, gd_some, putK_e, runK_e, vK_e, boxK_e, conK_e, callK_e, evh_v, evh_box, evh_call, seqK_n, gam_e, gamK_p, pc_e, pcK_e, evp, gt, gq, st, putf, X.get, gets, ap, mkfr, rep, clV, clL, clS, clo, ld, lda, cs1, gb, pb, ln, lk, undef, Nat.reduceSub, Nat.reduceAdd, beq_self_eq_true, true_and, s61, r61]
 refine ⟨t.R, c.R, rfl, hb.1, ?_⟩
 simp only [e_ret, o_nil, o_cons, gd_none, gd_some, gdK_tt, gdK_ft, gdK_bt, putK_e, runK_e, skipK_e, vK_e, conK_e, callK_e, evh_v, evh_call, seqK_n, ends_r, endK1_e, endK2_e, gam_e, gamK_f, gamK_p, pc_e, pcK_e, fcC_e, fcK_e, evp, gt, gq, st, putf, X.get, gets, ap, rdR, tupled, clV, clL, clS, clo, ld, lda, tk, dr, gb, lk, undef, Nat.reduceAdd, Nat.reduceBEq, beq_self_eq_true, true_and, decide_eq_true_eq, decide_eq_false_iff_not, Fisin]
 refine ⟨fun h1 => ⟨fun h2 => ⟨fun h3 => ⟨t.T, D, rfl, hb.2, ?_⟩, fun h3 => hn fun h => h3 h.2.2.1⟩, fun h2 => hn fun h => h2 h.2.1⟩, fun h1 => hn fun h => h1 h.1⟩
 simp only [endK2_e, clo]
 refine res hK ?_
 have : truT c D t ↔ areI t.T D := ⟨fun h => h.2.2.2, fun h => ⟨h1, h2, h3, h⟩⟩
 simp [leR, this]
def errS (T : List Int) (t : Tr) : Nat → Int
 | 0 => t.e
 | k + 1 => errS T t k + (itp T t.R (t.T.getD k 0) + t.a * k)
def errL (T : List Int) (t : Tr) (n : Nat) : List Int := (List.range n).map fun k => errS T t (k + 1)
theorem errL_len {T : List Int} {t : Tr} {n : Nat} : (errL T t n).length = n := by simp [errL]
theorem errL_snoc {T : List Int} {t : Tr} {n : Nat} : errL T t (n + 1) = errL T t n ++ [errS T t (n + 1)] := by simp [errL, List.range_succ]
structure Eq' (T : List Int) (t : Tr) : Prop where
 tb : Tb T
 rb : Rb t.R
 len : T.length = t.R.length
 a : -1000 ≤ t.a ∧ t.a ≤ 1000
 e : -10000000 ≤ t.e ∧ t.e ≤ 10000000
 n : t.T.length ≤ 60
 at' : ∀ i, i < t.T.length → At T (t.T.getD i 0)
theorem Eq'.stepB {T : List Int} {t : Tr} (h : Eq' T t) {k : Nat} (hk : k < t.T.length) : -160000 ≤ itp T t.R (t.T.getD k 0) + t.a * k ∧ itp T t.R (t.T.getD k 0) + t.a * k ≤ 160000 := by
 have hn := h.n
 have b1 := itpB h.tb h.rb (h.at' k hk)
 have b2 := ageB h.a.1 h.a.2 (show (0 : Int) ≤ k by omega) (by omega)
 omega
theorem Eq'.errB {T : List Int} {t : Tr} (h : Eq' T t) : ∀ k, k ≤ t.T.length → -10000000 - 160000 * (k : Int) ≤ errS T t k ∧ errS T t k ≤ 10000000 + 160000 * (k : Int)
 | 0, _ => by have := h.e; simp only [errS]; omega
 | k + 1, hk => by
  have b1 := h.stepB (k := k) (by omega)
  have b2 := h.errB k (by omega)
  simp only [errS]; omega
def C62 : PC := fun args K => ∃ (c : Ck) (t : Tr), args = [c.sv, t.sv] ∧ Eq' c.T t ∧ K (.ints .i64 (errL c.T t t.T.length))
theorem p62 : PureOk Try.prog 24 C62 := by
 refine pure_of (T := [(41, .fc F87), (117, .fc F162)]) ⟨⟨p87, q87⟩, ⟨p162, q162⟩, trivial⟩ Try.func24 k62 ?_
 rintro args K ⟨c, t, rfl, hE, hK⟩
 have hsv : c.sv = .agg [.ints .i64 c.T, .rd 2 c.R.length (rowsS c.R), .int .i64 c.a, .int .i64 c.b, .int .i64 c.e, .int .i64 c.g] := rfl
 have htv : t.sv = .agg [.ints .i64 t.R, .int .i64 t.a, .int .i64 t.e, .ints .i64 t.T] := rfl
 have hl := hE.tb.len
 have hn := hE.n
 have hlen := hE.len
 rw [hsv, htv]
 simp only [e_reg, e_drw, e_seq, e_block, e_loop, o_nil, o_cons, gd_none, putK_e, runK_e, vK_e, boxK_e, evh_v, evh_box, dX_e, dG_t, d_nil, d_cons, tlK_n, seqK_n, gamq_e, gamqK_f, evp, gt, gq, st, putf, X.get, gets, ap, mkfr, rep, clo, clo.clos, ld, lda, lens, tk, dr, cs1, gb, pb, ln, lk, evq, gdl, undef, Bool.and_true, Nat.reduceSub, Nat.reduceAdd, beq_self_eq_true, true_and, s62, r62, F87, rateV]
 refine ⟨⟨hlen, by omega⟩, ?_⟩
 refine loop_at2 (G := Nat) (fun i => [(20, .int .i64 i), (6, .int .i64 (errS c.T t i)), (7, .own 2)]) (fun i => [.box 58 [.ints .i64 c.T, .rd 2 c.R.length (rowsS c.R), .int .i64 c.a, .int .i64 c.b, .int .i64 c.e, .int .i64 c.g], .box 37 [.ints .i64 t.R, .int .i64 t.a, .int .i64 t.e, .ints .i64 t.T], .oi .i64 3 (errL c.T t i)]) (fun i => i ≤ t.T.length) (fun i => t.T.length - i) 0 (Nat.zero_le _) ?_
 (intro fr1 hf1; simp only [forget, dstC, dstT, dstO, dst1, st] at hf1; subst hf1)
 refine ⟨?_, ?_⟩
 ·refine Lw_re 2 [none] (Nat.zero_le _) (by simp [ln]) (by simp [ln]) rfl ?_ ?_
  ·simp only [reL, reX, rn, List.getElem?_cons_zero, Nat.reduceSub, Nat.lt_irrefl, Nat.le_refl, reduceCtorEq, or_true, inb, inb.inbs, ln, sts, st, Bool.and_self, Nat.reduceLT, Nat.reduceAdd, decide_true, and_self, Int.natCast_zero, errS]
  ·simp only [reL, reX, reH, reB, reN, newB, inb, and_self, implies_true, errL, List.range_zero, List.map_nil]
 ·intro i hi
  have hb := hE.errB i hi
  have hll := errL_len (T := c.T) (t := t) (n := i)
  by_cases hlt : i < t.T.length
  ·have n0 : ((i : Int) < (t.T.length : Int)) = True := by simp; omega
   have hb2 := hE.stepB hlt
   have hat := hE.at' i hlt
   have he : errS c.T t (i + 1) = errS c.T t i + (itp c.T t.R (t.T.getD i 0) + t.a * i) := rfl
   have hs := errL_snoc (T := c.T) (t := t) (n := i)
   rw [he] at hs
   simp (maxSteps := 3000000) only [condK_bt, decide_true, inr64, ↓reduceIte, e_skip, e_reg, e_tre, t_leaf, t_stop, t_op, and_self, e_seq, e_cond, e_block, o_nil, o_cons, gd_none, putK_e, runK_e, vK_e, bslK_e, bldK_e, appK2_oi, appK_e, conK_e, evh_v, evh_bsl, evh_bld, evh_app, evh_inv, invK_e, invK2_e, evh_nck, nckK_m, lkm, loopK_n, seqK_n, blockK_n, gam_e, gamK_f, pc_e, pcK_e, fcC_e, fcK_e, evp, bin, gt, gq, st, putf, X.get, gets, getp, clV, clL, clS, clo, ld, lda, ixs, sp, sp.spl, lay, ll, cs1, one, gb, sb, pb, ln, lk, Nat.reduceAdd, Nat.reduceBEq, beq_self_eq_true, true_and, and_true, sts, n0, Int.toNat_natCast, gam_P, mt_on, F162, row2_0, row2_1, hll]
   generalize hz : itp c.T t.R (t.T.getD i 0) + t.a * i = z at *
   have f1 := hE.tb
   have f2 := hE.rb
   have f3 := hE.a
   repeat' (first | omega | rfl | exact f1 | exact f2 | exact hlen | exact hat | exact f3 | apply And.intro)
   all_goals
    refine Nx.mk (i + 1) (by omega) (by omega) (Lw_re 2 [some 4] (Nat.zero_le _) (by simp [ln]) (by simp [ln]) rfl ?_ ?_)
    ·simp only [reL, reX, rn, List.getElem?_cons_zero, Nat.reduceSub, Nat.lt_irrefl, Nat.le_refl, and_false, or_true, inb, inb.inbs, ln, Bool.and_self, Nat.reduceLT, Nat.reduceAdd, decide_true, and_self, Int.natCast_add, Int.natCast_one, he]
    ·simp only [reL, reX, reH, reB, reM, reN, gb, Nat.reduceLeDiff, inb, ln, Nat.reduceLT, Nat.reduceAdd, and_self, implies_true, hs]
  ·have n0 : ((i : Int) < (t.T.length : Int)) = False := by simp; omega
   have ei : i = t.T.length := by omega
   subst ei
   simp only [condK_bf, decide_false, e_reg, e_seq, e_cond, e_exit, e_ret, o_nil, o_cons, gd_none, putK_e, runK_e, vK_e, evh_v, loopK_x, seqK_n, seqK_x, exitK_t, blockK_x, ends_r, endK1_e, endK2_e, evp, bin, gt, st, putf, X.get, rdR, tupled, clV, gb, sb, beq_self_eq_true, true_and, sts, n0]
   exact res hK (by simp [leR])
theorem Ck.truEq {c : Ck} {D : List (Int × Int)} {t : Tr} (hok : c.ok) (hv : voy c D) (ht : truT c D t) : Eq' c.T t := by
 have hE := c.eo hok (w := 56) (.inl rfl)
 have h4 := hok.1.2.2.2
 obtain ⟨⟨t1, t2⟩, t3, t4, t5, t6⟩ := ht
 have hab := hok.2.1
 have heg := hok.2.2
 have hvl := hv.1
 have hl := hE.len
 refine ⟨hE.tb, fun i => ?_, by omega, by omega, by omega, by omega, fun i hi => ?_⟩
 ·by_cases hi : i < c.R.length
  ·have := t2 i hi
   have := all_get h4 hi
   omega
  ·have : t.R.getD i 0 = 0 := by simp [List.getD, show t.R.length ≤ i by omega]
   omega
 ·have h1 := t6 i (by omega)
  have h2 := all_get hv.2 (show i < D.length by omega)
  exact ⟨by omega, by omega⟩
noncomputable def erE (c : Ck) (D : List (Int × Int)) (t : Tr) : Int := if c.ok then if voy c D then if truT c D t then 0 else 74 else 71 else 70
noncomputable def erL (c : Ck) (D : List (Int × Int)) (t : Tr) : List Int := if c.ok ∧ voy c D ∧ truT c D t then errL c.T t t.T.length else []
def C22 : PC := fun args K => ∃ (c : Ck) (D : List (Int × Int)) (t : Tr), args = [c.sv, .rd 2 D.length (rowsS D), t.sv] ∧ K (.tup [.ints .i64 (erL c D t), .int .i64 (erE c D t)])
theorem p22 : PureOk Try.prog 7 C22 := by
 refine pure_of (T := [(22, .pc C53), (23, .pc C61), (24, .pc C62)]) ⟨⟨p53, q53⟩, ⟨p61, q61⟩, ⟨p62, q62⟩, trivial⟩ Try.func7 k22 ?_
 rintro args K ⟨c, D, t, rfl, hK⟩
 have hsv : c.sv = .agg [.ints .i64 c.T, .rd 2 c.R.length (rowsS c.R), .int .i64 c.a, .int .i64 c.b, .int .i64 c.e, .int .i64 c.g] := rfl
 have htv : t.sv = .agg [.ints .i64 t.R, .int .i64 t.a, .int .i64 t.e, .ints .i64 t.T] := rfl
 have h70 : ((70 : Int) = 0) = False := by simp
 have h71 : ((71 : Int) = 0) = False := by simp
 rw [hsv, htv]
 simp only [e_reg, e_seq, o_nil, o_cons, gd_none, putK_e, runK_e, vK_e, boxK_e, conK_e, callK_e, evh_v, evh_box, evh_call, seqK_n, gam_e, gamK_p, pc_e, pcK_e, evp, bin, gt, st, putf, X.get, gets, ap, mkfr, rep, clV, clL, clS, clo, ld, lda, tk, dr, cs1, gb, pb, ln, lk, undef, Nat.reduceSub, Nat.reduceAdd, beq_self_eq_true, true_and, s22, r22]
 refine ⟨c, D, rfl, ?_⟩
 by_cases hok : c.ok
 ·by_cases hv : voy c D
  ·have h1 : askE c D = 0 := by simp [askE, hok, hv]
   simp only [condK_bf, decide_true, e_skip, e_reg, and_self, e_seq, e_cond, o_nil, o_cons, gd_none, putK_e, runK_e, vK_e, bldK_e, storeK3_e, storeK2_e, storeK_e, conK_e, callK_e, evh_v, evh_new, evh_bld, evh_store, evh_call, seqK_n, gam_e, gamK_p, pc_e, pcK_e, evp, gt, st, putf, X.get, gets, getp, ap, clV, clL, clS, clo, ld, lda, tk, dr, sp, sp.spl, lay, ll, cs1, one, allOne, gb, sb, pb, ln, lk, Bool.and_true, Bool.not_true, Nat.reduceAdd, Nat.reduceBEq, beq_self_eq_true, true_and, h1]
   have hE := (c.eo hok (w := 56) (.inl rfl))
   have hl := hE.tb.len
   have hl2 := hE.len
   have hvl := hv.1
   refine ⟨c, D, t, rfl, ⟨by omega, by omega⟩, ?_⟩
   by_cases ht : truT c D t
   ·have h2 : truT c D t = True := eq_true ht
    simp only [condK_bf, decide_true, e_skip, e_reg, e_seq, e_cond, e_ret, o_nil, o_cons, gd_none, putK_e, runK_e, vK_e, conK_e, callK_e, evh_v, evh_call, seqK_n, ends_r, endK1_e, gam_e, gamK_p, pc_e, pcK_e, evp, gt, st, putf, X.get, gets, ap, rdR, tupled, clV, clL, clS, clo, ld, lda, tk, dr, gb, lk, Bool.not_true, Nat.reduceBEq, beq_self_eq_true, true_and, h2]
    refine ⟨c, t, rfl, c.truEq hok hv ht, ?_⟩
    simp only [endK2_e, clo]
    exact res hK (by simp [leR, leR.leRs, erE, erL, hok, hv, ht])
   ·have h2 : truT c D t = False := eq_false ht
    simp only [condK_bt, decide_false, e_reg, e_seq, e_cond, e_ret, o_nil, o_cons, gd_none, putK_e, runK_e, vK_e, evh_v, seqK_n, seqK_r, ends_r, endK1_e, endK2_e, evp, gt, st, putf, X.get, rdR, tupled, clV, clL, clS, clo, Bool.not_false, true_and, h2]
    exact res hK (by simp [leR, leR.leRs, erE, erL, hok, hv, ht])
  ·have h1 : askE c D = 71 := by simp [askE, hok, hv]
   simp only [condK_bt, decide_false, e_reg, e_seq, e_cond, e_ret, o_nil, o_cons, gd_none, putK_e, runK_e, vK_e, evh_v, seqK_n, seqK_r, ends_r, endK1_e, endK2_e, evp, gt, st, putf, X.get, rdR, tupled, clV, clL, clS, clo, Bool.not_false, true_and, h1, h71]
   exact res hK (by simp [leR, leR.leRs, erE, erL, hok, hv])
 ·have h1 : askE c D = 70 := by simp [askE, hok]
  simp only [condK_bt, decide_false, e_reg, e_seq, e_cond, e_ret, o_nil, o_cons, gd_none, putK_e, runK_e, vK_e, evh_v, seqK_n, seqK_r, ends_r, endK1_e, endK2_e, evp, gt, st, putf, X.get, rdR, tupled, clV, clL, clS, clo, Bool.not_false, true_and, h1, h70]
  exact res hK (by simp [leR, leR.leRs, erE, erL, hok])
end Go.Proofs.Ytlegfejimphfbaa
end
section
namespace Go.Proofs.Ytlegfejimphfbaa
open Go Go.Vg
set_option linter.unusedSimpArgs false
set_option linter.unusedVariables false
set_option maxRecDepth 10000
def s118 : SC :=
 (.seq (.reg [⟨(some 2), none, .box 3 (.t 0)⟩,
  ⟨(some 3), none, .box 25 (.t 1)⟩,
  ⟨(some 4), none, .v (.mov (.c (.lit .nilFunc)))⟩])
 (.seq (.reg [⟨(some 5), none, .v (.mkfn 89 [(.t 3), (.t 2)])⟩,
  ⟨(some 4), none, .v (.mov (.t 5))⟩])
 .ret))
def r118 : List RV := [.t 4]
theorem k118 : (Try.f73.body.bind (cC Try.prog), cR Try.prog Try.f73.results.toList, Try.f73.ntmps) = (some s118, some r118, 6) := by kernel_rfl
theorem q118 : Known Try.prog 73 := ⟨_, Try.func73, by decide, by simp [Try.f73]⟩
def s134 : SC :=
 (.seq (.reg [⟨(some 5), none, .v (.off (.t 1) 0)⟩,
  ⟨(some 6), none, .v (.load (.t 5) none)⟩,
  ⟨(some 4), none, .v (.mov (.t 6))⟩])
 (.block 0 (.loop
  (.seq (.seq (.reg [⟨(some 7), none, .v (.mov (.t 4))⟩,
   ⟨(some 8), none, .v (.off (.t 1) 1)⟩,
   ⟨(some 9), none, .v (.load (.t 8) none)⟩,
   ⟨(some 10), none, .v (.bin .leq (.t 7) (.t 9))⟩])
  (.cond (.t 10)
   .skip
   (.exit 0)))
  (.seq (.block 1 (.seq (.reg [⟨(some 13), none, .v (.mov (.t 0))⟩,
   ⟨(some 14), none, .v (.load (.t 2) none)⟩,
   ⟨(some 15), none, .v (.mov (.t 4))⟩,
   ⟨(some 16), none, .bld [(.int .i64 (0)), (.int .i64 (0))] [(0, 1, (.t 14)), (1, 1, (.t 15))]⟩,
   ⟨(some 17), none, .call (.t 13) [(.t 16)]⟩,
   ⟨(some 18), none, .v (.not (.t 17))⟩])
  (.cond (.t 18)
   .ret
   .skip)))
  (.reg [⟨(some 11), none, .v (.mov (.t 4))⟩,
   ⟨(some 12), none, .v (.bin .add (.t 11) (.c (.int .i64 (1))))⟩,
   ⟨(some 4), none, .v (.mov (.t 12))⟩]))))))
def r134 : List RV := []
theorem k134 : (Try.f89.body.bind (cC Try.prog), cR Try.prog Try.f89.results.toList, Try.f89.ntmps) = (some s134, some r134, 19) := by kernel_rfl
def s103a0 : SC :=
 (.reg [⟨(some 8), none, .new 82 [(.int .i64 (0)), (.int .i64 (0))]⟩,
  ⟨none, none, .store 2 (.t 8) (.t 12)⟩])
def s103b0 : SC :=
 (.block 1 (.reg [⟨(some 13), none, .v (.load (.t 7) none)⟩,
  ⟨(some 14), none, .v (.load (.t 8) (some 2))⟩,
  ⟨(some 15), none, .bsl 82 1 [(.int .i64 (0)), (.int .i64 (0))] [(0, 2, (.t 14))]⟩,
  ⟨(some 16), none, .app 82 2 16 (.t 13) (.t 15)⟩,
  ⟨none, none, .store 1 (.t 7) (.t 16)⟩]))
noncomputable def s103 : SC :=
 (.seq (.reg [⟨(some 3), none, .box 76 (.t 0)⟩,
  ⟨(some 5), none, .box 25 (.t 2)⟩,
  ⟨(some 6), none, .v (.mov (.c (.int .i64 (0))))⟩])
 (.seq (.reg [⟨(some 7), none, .new 134 [(.lit (.slice none 0 0))]⟩])
 (.seq (.seq (.reg [⟨(some 9), none, .v (.mov (.t 1))⟩,
  ⟨(some 10), none, .v (.load (.t 5) (some 2))⟩,
  ⟨(some 11), none, .call (.c (.fn 73 [])) [(.t 9), (.t 10)]⟩])
 (.block 0 (.sem (rg Try.f58 0))))
 (.seq (.shut [3, 17, 19, 20, 21, 7, 23, 24, 26, 22, 25, 27, 18, 28, 29]
  (.drw [(0, ⟨(some 17), none, .v (.off (.t 3) 6)⟩, false),
   (1, ⟨(some 18), none, .v (.load (.t 17) none)⟩, false),
   (2, ⟨(some 19), none, .v (.load (.t 3) (some 7))⟩, false),
   (3, ⟨(some 20), none, .call (.c (.fn 34 [])) [(.t 19)]⟩, false),
   (4, ⟨(some 21), none, .nck (.t 20)⟩, false),
   (5, ⟨(some 22), none, .v (.mkmm "octant/clock.on" (.t 21))⟩, false),
   (6, ⟨(some 23), none, .v (.load (.t 7) none)⟩, false),
   (7, ⟨(some 24), none, .v (.ixa (.t 23) (.c (.int .i64 (0))) 2)⟩, false),
   (8, ⟨(some 25), none, .v (.load (.t 24) (some 2))⟩, false),
   (9, ⟨(some 26), none, .v (.load (.t 7) none)⟩, false),
   (10, ⟨(some 27), none, .slc (.t 26) (some (.c (.int .i64 (1)))) none none 2⟩, false),
   (11, ⟨(some 28), none, .call (.c (.fn 74 [])) [(.t 22), (.t 25), (.t 27)]⟩, false)]
   none
   [⟨(some 29), none, .call (.t 18) [(.t 28)]⟩,
   ⟨(some 6), none, .v (.mov (.t 29))⟩]))
 .ret))))
def r103 : List RV := [.t 6]
theorem k103a0 : cC Try.prog (rgA (rg Try.f58 0)) = some s103a0 := by kernel_rfl
theorem k103b0 : cC Try.prog (rgB (rg Try.f58 0)) = some s103b0 := by kernel_rfl
theorem k103 : (Try.f58.body.bind (cC Try.prog), cR Try.prog Try.f58.results.toList, Try.f58.ntmps) = (some s103, some r103, 30) := by kernel_rfl
theorem q103 : Known Try.prog 58 := ⟨_, Try.func58, by decide, by simp [Try.f58]⟩
theorem c103r : rIs (rg Try.f58 0) = true := by kernel_rfl
theorem c103q : (rgQ (rg Try.f58 0)).toList = [12] := by kernel_rfl
theorem c103o : cX (rgO (rg Try.f58 0)) = some (.t 11) := by kernel_rfl
def F118 : FC := fun args => match args with
 | [.int .i64 d, .agg [.int .i64 a, .int .i64 b]] => some (True, .fn 89 [.rp [.int .i64 a, .int .i64 b] 0, .rp [.int .i64 d] 0])
 | _ => none
theorem p118 : PureOk Try.prog 73 (fcC F118) := by
 refine pure_of (T := []) trivial Try.func73 k118 ?_
 intro args K hC
 unfold fcC F118 at hC
 split at hC <;> first | (exact hC.elim) | skip
 rename_i h
 split at h <;> first | (cases h; done) | skip
 cases h
 simp only [↓reduceIte, e_reg, e_seq, e_ret, o_nil, o_cons, gd_none, putK_e, runK_e, vK_e, boxK_e, evh_v, evh_box, seqK_n, ends_r, endK1_e, endK2_e, evp, gt, st, putf, X.get, gets, mkfr, rep, rdR, tupled, clV, clL, clS, clo, cs1, one, gb, sb, pb, ln, undef, Nat.reduceSub, Nat.reduceAdd, true_and, s118, r118]
 exact res hC.2 (by simp [leR, leR.leRs])
def dayF (d x : Int) (i : Nat) : List SV := [.int .i64 d, .int .i64 (x + i)]
theorem dayF_snoc {d x : Int} {n i : Nat} (h : i < n + 1) : (if i < n then dayF d x i else [.int .i64 d, .int .i64 (x + n)]) = dayF d x i := by
 split
 ·rfl
 ·have : i = n := by omega
  subst this; rfl
def gain (T : List Int) (R : List (Int × Int)) (a b : Int) (w : Nat) (d x y : Int) : Int :=
 sel w (mnF (fun z => itp T (endsL w R) z + sel w (a, b) * d) x (y - x).toNat, mxF (fun z => itp T (endsL w R) z + sel w (a, b) * d) x (y - x).toNat)
def F103 : FC := fun args => match args with
 | [.agg [.ints .i64 T, .rd 2 n f, .int .i64 a, .int .i64 b, .int .i64 e, .int .i64 g, .fn w []], .int .i64 d, .agg [.int .i64 x, .int .i64 y]] =>
  some ((∃ R, n = R.length ∧ f = rowsS R) ∧ Eo T (Tof n f) a b w ∧ (0 ≤ d ∧ d ≤ 60) ∧ x ≤ y ∧ At T x ∧ At T y, .int .i64 (gain T (Tof n f) a b w d x y))
 | _ => none
theorem p103 : PureOk Try.prog 58 (fcC F103) := by
 have hT : TabOk Try.prog [(73, .fc F118), (34, .fc F75), (74, .fc F119), (56, .fc Fslow), (57, .fc Ffast)] := ⟨⟨p118, q118⟩, ⟨p75, q75⟩, ⟨p119, q119⟩, ⟨p101, q101⟩, ⟨p102, q102⟩, trivial⟩
 refine pure_of hT Try.func58 k103 ?_
 intro args K hC
 unfold fcC F103 at hC
 split at hC <;> first | (exact hC.elim) | skip
 rename_i h
 split at h <;> first | (cases h; done) | skip
 cases h
 rename_i T n f a b e g w d x y
 obtain ⟨⟨⟨R, rfl, rfl⟩, hE, hd, hxy, hx, hy⟩, hK⟩ := hC
 rw [Tof_rows] at hK hE
 simp only [e_reg, e_seq, e_block, o_nil, o_cons, gd_none, putK_e, runK_e, vK_e, boxK_e, conK_e, callK_e, evh_v, evh_new, evh_box, evh_call, seqK_n, gam_e, gamK_f, pc_e, pcK_e, fcC_e, fcK_e, evp, gt, st, putf, X.get, gets, ap, mkfr, rep, clV, clL, clS, clo, ld, lda, tk, dr, cs1, gb, pb, ln, lk, undef, Nat.reduceSub, Nat.reduceAdd, beq_self_eq_true, true_and, s103, r103, F118, e_sem]
 obtain ⟨F0, hF0⟩ : ∃ F0 : List SV, (mkfr [.agg [.ints .i64 T, .rd 2 R.length (rowsS R), .int .i64 a, .int .i64 b, .int .i64 e, .int .i64 g, .fn w []], .int .i64 d, .agg [.int .i64 x, .int .i64 y], .ptr 0 0, .lit undef, .ptr 1 0, .int .i64 0, .ptr 2 0, .lit undef, .int .i64 d, .agg [.int .i64 x, .int .i64 y], .fn 89 [.rp [.int .i64 x, .int .i64 y] 0, .rp [.int .i64 d] 0]] 30) = F0 := ⟨_, rfl⟩
 have rF : ∀ ρ, reL 5 6 ρ F0 F0 = True := fun ρ => by
  rw [← hF0]
  simp only [reL, reX, Nat.reduceSub, inb, inb.inbs, Bool.and_self, Nat.reduceLT, decide_true, and_self, mkfr, rep, Nat.reduceSub, undef]
 refine sem_ofF hT c103r c103q (F0 := F0) (by rw [← hF0]; rfl) c103o rfl Try.func89 (by decide) k134 rfl ?_
 have hxT := hE.tb.b (T.length - 1)
 have hx0 := hE.tb.b 0
 have hy2 := hy.2
 have hx1 := hx.1
 have hnb : (y - x).toNat ≤ 60 := by omega
 simp only [e_reg, e_seq, e_block, e_loop, o_nil, o_cons, gd_none, putK_e, runK_e, vK_e, evh_v, seqK_n, evp, gt, gq, st, putf, X.get, mkfr, rep, ld, lda, pb, ln, undef, Nat.reduceSub, Nat.reduceAdd, true_and, s134]
 refine loop_at2 (G := Nat) (fun n => [(4, .int .i64 (x + n))]) (fun n => [.box 76 [.ints .i64 T, .rd 2 R.length (rowsS R), .int .i64 a, .int .i64 b, .int .i64 e, .int .i64 g, .fn w []], .box 25 [.int .i64 x, .int .i64 y], .box 134 [.own 5], .ob .df, .ob (.wl .ready none F0 [12] (rgA (rg Try.f58 0)) (rgB (rg Try.f58 0)) 3), .orw 82 2 n (dayF d x)]) (fun n => x + n ≤ y + 1) (fun n => (y + 1 - x - n).toNat) 0 (by omega) ?_
 (intro fr1 hf1; simp only [forget, dstC, dstO, st] at hf1; subst hf1)
 refine ⟨?_, ?_⟩
 ·refine Lw_re 5 [none] (by omega) (by simp [ln]) (by simp [ln]) rfl ?_ ?_
  ·simp only [reL, reX, inb, ln, sts, st, Nat.reduceLT, Nat.reduceAdd, decide_true, and_self, Int.natCast_zero, Int.add_zero]
  ·simp only [reL, reX, reH, reB, reN, newB, rn, List.getElem?_cons_zero, Nat.reduceSub, Nat.lt_irrefl, Nat.le_refl, reduceCtorEq, or_true, inb, inb.inbs, ln, Nat.reduceLT, Nat.reduceAdd, and_self, implies_true, rF]
 ·intro n hn
  by_cases hb : x + n ≤ y
  ·have hbT : (x + (n : Int) ≤ y) = True := by simp [hb]
   simp only [condK_bt, decide_true, ↓reduceIte, e_skip, e_reg, e_seq, e_cond, e_block, o_nil, o_cons, gd_none, putK_e, runK_e, vK_e, bldK_e, evh_v, evh_bld, evh_call, seqK_n, evp, bin, gt, gq, st, putf, X.get, gets, getp, ld, lda, sp, sp.spl, lay, ll, cs1, one, Nat.reduceAdd, beq_self_eq_true, true_and, sts, hbT, callK_y]
   refine yld_ofF hT hF0 k103a0 k103b0 rfl rfl (by rfl) rfl ?_
   simp only [e_reg, and_self, o_nil, o_cons, gd_none, putK_e, runK_e, storeK3_e, storeK2_e, storeK_e, evh_new, evh_store, gt, st, putf, X.get, mkfr, rep, sp, sp.spl, ll, cs1, one, allOne, gb, sb, pb, ln, undef, Bool.and_true, Nat.reduceSub, Nat.reduceAdd, true_and, s103a0, setL, mkfr, rep]
   refine ⟨fun _ _ _ _ _ _ h => by cases h; rfl, ?_⟩
   simp only [inr64, ↓reduceIte, e_skip, e_reg, and_self, e_cond, e_block, o_nil, o_cons, gd_none, putK_e, runK_e, vK_e, bslK_e, storeK3_e, storeK2_e, storeK_e, appK2_or, appK_e, evh_v, evh_bsl, evh_store, evh_app, loopK_n, seqK_n, condK_f, blockK_n, evp, bin, gt, gq, st, putf, X.get, getp, clo, clo.clos, ld, lda, tk, dr, sp, sp.spl, lay, ll, cs1, one, allOne, gb, sb, pb, ln, Bool.and_true, Nat.reduceAdd, beq_self_eq_true, true_and, yK1, yK2, s103b0]
   refine ⟨by omega, by omega, ?_⟩
   refine Nx.mk (n + 1) (by omega) (by omega) (Lw_re 5 [some 8] (by omega) (by simp [ln]) (by simp [ln]) rfl ?_ ?_)
   ·simp only [reL, reX, inb, Nat.reduceLT, decide_true, and_self, Int.natCast_add, Int.natCast_one, Int.add_assoc]
   ·simp only [reL, reX, reH, reB, reM, reN, rn, gb, List.getElem?_cons_zero, Nat.reduceSub, Nat.reduceLeDiff, Nat.lt_irrefl, Nat.le_refl, and_false, or_true, inb, inb.inbs, ln, Nat.reduceLT, Nat.reduceAdd, true_and, and_true, and_self, implies_true, rF]
    exact fun i hi => dayF_snoc hi
  ·have hbF : (x + (n : Int) ≤ y) = False := by simp; omega
   have en : (n : Int) = y - x + 1 := by omega
   have hel := ends_len (w := w) (L := R)
   have hl := hE.tb.len
   have hle := hE.len
   have en2 : (y - x).toNat = n - 1 := by omega
   have hg : gain T R a b w d x y = sel w (mnF (fun z => itp T (endsL w R) z + sel w (a, b) * d) x (n - 1), mxF (fun z => itp T (endsL w R) z + sel w (a, b) * d) x (n - 1)) := by unfold gain; rw [en2]
   rw [hg] at hK
   have t1 : ((n : Int) - 1).toNat = n - 1 := by omega
   have d0 : dayF d x 0 = [.int .i64 d, .int .i64 x] := by simp [dayF]
   rcases hE.ww with rfl | rfl
   all_goals
    simp only [condK_bf, decide_false, ne_eq, not_false_eq_true, reduceCtorEq, e_reg, e_drw, e_seq, e_cond, e_exit, e_ret, e_shut, shutG, shutQ, shut2, shutH, shut1, shutB, slQ, o_nil, o_cons, gd_none, putK_e, runK_e, vK_e, conK_e, callK_e, evh_v, evh_call, bnd, slv, od_none, od_some, nckV, dX_e, dG_t, d_nil, d_cons, tlK_n, loopK_x, seqK_n, seqK_x, exitK_t, blockK_x, blockK_n, ends_r, endK1_e, endK2_e, gam_e, gamK_f, gamq_e, gamqK_f, pc_e, pcK_e, fcC_e, fcK_e, evp, bin, gt, gq, st, putf, X.get, gets, ap, rdR, tupled, clV, clL, clS, clo, clo.clos, ld, lda, ixs, tk, dr, gb, sb, lk, evq, gdl, Bool.and_true, Nat.reduceAdd, Nat.reduceBEq, beq_self_eq_true, true_and, sts, hbF, rK, ne_eq, true_or, or_true, F75, Tof_rows, rateV, Int.toNat_zero, Int.toNat_one, t1, d0, F119, row2_0, row2_1, Fslow, Ffast, eq_self]
    have c1 : ∃ R_1, R.length = R_1.length ∧ rowsS R = rowsS R_1 := ⟨R, rfl, rfl⟩
    have c2 := hE.tb
    have c3 := hE.rb
    have c4 := hE.selB
    have c5 : ∀ i : Nat, i < n - 1 → At T (x + 1 + i) := fun i hi => ⟨by omega, by omega⟩
    have c6 : ∀ i, i < n - 1 → dayF d x (1 + i) = [.int .i64 d, .int .i64 (x + 1 + i)] := fun i hi => by
     have : x + ((1 + i : Nat) : Int) = x + 1 + i := by omega
     simp only [dayF, this]
    repeat' (first | omega | exact c1 | exact c2 | exact c3 | exact hx | exact c5 | exact c6 | (exact res hK (by simp [leR, sel])) | apply And.intro)
end Go.Proofs.Ytlegfejimphfbaa
end
section
namespace Go.Proofs.Ytlegfejimphfbaa
open Go Go.Vg
set_option linter.unusedSimpArgs false
set_option linter.unusedVariables false
set_option maxRecDepth 10000
def s84 : SC :=
 (.seq (.reg [⟨(some 2), none, .box 76 (.t 0)⟩,
  ⟨(some 4), none, .v (.mov (.c (.lit (.slice none 0 0))))⟩])
 (.seq (.reg [⟨(some 8), none, .v (.off (.t 2) 6)⟩,
  ⟨(some 9), none, .v (.load (.t 8) none)⟩,
  ⟨(some 10), none, .v (.off (.t 2) 0)⟩,
  ⟨(some 11), none, .v (.off (.t 10) 0)⟩,
  ⟨(some 12), none, .v (.off (.t 11) 4)⟩,
  ⟨(some 13), none, .v (.load (.t 12) (some 2))⟩,
  ⟨(some 14), none, .call (.t 9) [(.t 13)]⟩,
  ⟨(some 5), none, .v (.mov (.t 14))⟩])
 (.seq (.reg [⟨(some 6), none, .v (.mov (.c (.lit (.slice none 0 0))))⟩])
 (.seq (.seq (.reg [⟨(some 15), none, .v (.mov (.t 1))⟩,
  ⟨(some 16), none, .v (.len (.t 15))⟩,
  ⟨(some 17), none, .v (.mov (.c (.int .i64 (0))))⟩])
 (.block 0 (.loop
  (.seq (.reg [⟨(some 18), none, .v (.bin .lss (.t 17) (.t 16))⟩])
  (.seq (.cond (.t 18)
   .skip
   (.exit 0))
  (.seq (.block 1 (.seq (.reg [⟨(some 19), none, .v (.mov (.t 17))⟩,
   ⟨(some 7), none, .v (.mov (.t 19))⟩])
  (.seq (.drw [(0, ⟨(some 20), none, .v (.mov (.t 5))⟩, false),
   (1, ⟨(some 21), none, .v (.load (.t 2) (some 7))⟩, false),
   (2, ⟨(some 22), none, .v (.mov (.t 7))⟩, false),
   (3, ⟨(some 23), none, .v (.mov (.t 1))⟩, false),
   (4, ⟨(some 24), none, .v (.mov (.t 7))⟩, false),
   (5, ⟨(some 25), none, .v (.ixa (.t 23) (.t 24) 2)⟩, false),
   (6, ⟨(some 26), none, .v (.load (.t 25) (some 2))⟩, false),
   (7, ⟨(some 27), none, .call (.c (.fn 58 [])) [(.t 21), (.t 22), (.t 26)]⟩, false)]
   none
   [⟨(some 28), none, .v (.bin .add (.t 20) (.t 27))⟩,
   ⟨(some 5), none, .v (.mov (.t 28))⟩])
  (.reg [⟨(some 29), none, .v (.mov (.t 6))⟩,
   ⟨(some 30), none, .v (.mov (.t 5))⟩,
   ⟨(some 31), none, .bsl 3 1 [(.int .i64 (0))] [(0, 1, (.t 30))]⟩,
   ⟨(some 32), none, .app 3 1 8 (.t 29) (.t 31)⟩,
   ⟨(some 6), none, .v (.mov (.t 32))⟩]))))
  (.reg [⟨(some 33), none, .v (.bin .add (.t 17) (.c (.int .i64 (1))))⟩,
   ⟨(some 17), none, .v (.mov (.t 33))⟩])))))))
 (.seq (.reg [⟨(some 34), none, .v (.mov (.t 6))⟩,
  ⟨(some 4), none, .v (.mov (.t 34))⟩])
 .ret)))))
def r84 : List RV := [.t 4]
theorem k84 : (Try.f42.body.bind (cC Try.prog), cR Try.prog Try.f42.results.toList, Try.f42.ntmps) = (some s84, some r84, 35) := by kernel_rfl
theorem q84 : Known Try.prog 42 := ⟨_, Try.func42, by decide, by simp [Try.f42]⟩
def s54 : SC :=
 (.seq (.reg [⟨(some 2), none, .box 58 (.t 0)⟩,
  ⟨(some 4), none, .v (.mov (.c (.lit (.slice none 0 0))))⟩])
 (.seq (.drw [(0, ⟨(some 9), none, .v (.load (.t 2) (some 6))⟩, false),
  (1, ⟨(some 10), none, .call (.c (.fn 36 [])) [(.t 9)]⟩, false),
  (2, ⟨(some 11), none, .v (.mov (.t 1))⟩, false),
  (3, ⟨(some 12), none, .call (.c (.fn 42 [])) [(.t 10), (.t 11)]⟩, false),
  (4, ⟨(some 13), none, .v (.load (.t 2) (some 6))⟩, false),
  (5, ⟨(some 14), none, .call (.c (.fn 37 [])) [(.t 13)]⟩, false),
  (6, ⟨(some 15), none, .v (.mov (.t 1))⟩, false)]
  none
  [⟨(some 16), none, .call (.c (.fn 42 [])) [(.t 14), (.t 15)]⟩,
  ⟨(some 5), none, .v (.mov (.t 12))⟩,
  ⟨(some 6), none, .v (.mov (.t 16))⟩])
 (.seq (.reg [⟨(some 7), none, .v (.mov (.c (.lit (.slice none 0 0))))⟩])
 (.seq (.seq (.reg [⟨(some 17), none, .v (.mov (.t 1))⟩,
  ⟨(some 18), none, .v (.len (.t 17))⟩,
  ⟨(some 19), none, .v (.mov (.c (.int .i64 (0))))⟩])
 (.block 0 (.loop
  (.seq (.reg [⟨(some 20), none, .v (.bin .lss (.t 19) (.t 18))⟩])
  (.seq (.cond (.t 20)
   .skip
   (.exit 0))
  (.seq (.block 1 (.seq (.reg [⟨(some 21), none, .v (.mov (.t 19))⟩,
   ⟨(some 8), none, .v (.mov (.t 21))⟩])
  (.drw [(0, ⟨(some 22), none, .v (.mov (.t 7))⟩, false),
   (1, ⟨(some 23), none, .v (.mov (.t 5))⟩, false),
   (2, ⟨(some 24), none, .v (.mov (.t 8))⟩, false),
   (3, ⟨(some 25), none, .v (.ixa (.t 23) (.t 24) 1)⟩, false),
   (4, ⟨(some 26), none, .v (.load (.t 25) none)⟩, false),
   (5, ⟨(some 27), none, .v (.mov (.t 6))⟩, false),
   (6, ⟨(some 28), none, .v (.mov (.t 8))⟩, false),
   (7, ⟨(some 29), none, .v (.ixa (.t 27) (.t 28) 1)⟩, false),
   (8, ⟨(some 30), none, .v (.load (.t 29) none)⟩, false),
   (9, ⟨(some 31), none, .bld [(.int .i64 (0)), (.int .i64 (0))] [(0, 1, (.t 26)), (1, 1, (.t 30))]⟩, false)]
   (some ⟨(some 32), none, .bsl 25 1 [(.int .i64 (0)), (.int .i64 (0))] [(0, 2, (.t 31))]⟩)
   [⟨(some 33), none, .app 25 2 16 (.t 22) (.t 32)⟩,
   ⟨(some 7), none, .v (.mov (.t 33))⟩])))
  (.reg [⟨(some 34), none, .v (.bin .add (.t 19) (.c (.int .i64 (1))))⟩,
   ⟨(some 19), none, .v (.mov (.t 34))⟩])))))))
 (.seq (.reg [⟨(some 35), none, .v (.mov (.t 7))⟩,
  ⟨(some 4), none, .v (.mov (.t 35))⟩])
 .ret)))))
def r54 : List RV := [.t 4]
theorem k54 : (Try.f25.body.bind (cC Try.prog), cR Try.prog Try.f25.results.toList, Try.f25.ntmps) = (some s54, some r54, 36) := by kernel_rfl
theorem q54 : Known Try.prog 25 := ⟨_, Try.func25, by decide, by simp [Try.f25]⟩
def s18 : SC :=
 (.seq (.reg [⟨(some 2), none, .box 27 (.t 0)⟩,
  ⟨(some 4), none, .v (.mov (.c (.lit (.slice none 0 0))))⟩,
  ⟨(some 5), none, .v (.mov (.c (.int .i64 (0))))⟩])
 (.seq (.seq (.reg [⟨(some 7), none, .v (.load (.t 2) (some 6))⟩,
  ⟨(some 8), none, .v (.mov (.t 1))⟩,
  ⟨(some 9), none, .call (.c (.fn 22 [])) [(.t 7), (.t 8)]⟩,
  ⟨(some 6), none, .v (.mov (.t 9))⟩])
 (.seq (.reg [⟨(some 10), none, .v (.mov (.t 6))⟩,
  ⟨(some 11), none, .v (.bin .neq (.t 10) (.c (.int .i64 (0))))⟩])
 (.cond (.t 11)
  (.seq (.reg [⟨(some 12), none, .v (.mov (.t 6))⟩,
   ⟨(some 4), none, .v (.mov (.c (.lit (.slice none 0 0))))⟩,
   ⟨(some 5), none, .v (.mov (.t 12))⟩])
  .ret)
  .skip)))
 (.seq (.reg [⟨(some 13), none, .v (.load (.t 2) (some 6))⟩,
  ⟨(some 14), none, .bld [(.lit (.slice none 0 0)), (.lit (.slice none 0 0)), (.int .i64 (0)), (.int .i64 (0)), (.int .i64 (0)), (.int .i64 (0))] [(0, 6, (.t 13))]⟩,
  ⟨(some 15), none, .v (.mov (.t 1))⟩,
  ⟨(some 16), none, .call (.c (.fn 25 [])) [(.t 14), (.t 15)]⟩,
  ⟨(some 4), none, .v (.mov (.t 16))⟩,
  ⟨(some 5), none, .v (.mov (.c (.int .i64 (0))))⟩])
 .ret)))
def r18 : List RV := [.t 4, .t 5]
theorem k18 : (Try.f8.body.bind (cC Try.prog), cR Try.prog Try.f8.results.toList, Try.f8.ntmps) = (some s18, some r18, 17) := by kernel_rfl
theorem q18 : Known Try.prog 8 := ⟨_, Try.func8, by decide, by simp [Try.f8]⟩
theorem mnF_b {h : Int → Int} {L U x : Int} : ∀ {n : Nat}, (∀ k : Nat, k ≤ n → L ≤ h (x + k) ∧ h (x + k) ≤ U) → (L ≤ mnF h x n ∧ mnF h x n ≤ U) ∧ L ≤ mxF h x n ∧ mxF h x n ≤ U
 | 0, hb => by have := hb 0 (Nat.le_refl _); simp only [Int.natCast_zero, Int.add_zero] at this; exact ⟨this, this⟩
 | n + 1, hb => by
  have ih := mnF_b (n := n) fun k hk => hb k (by omega)
  have h1 := hb (n + 1) (Nat.le_refl _)
  rw [show x + ((n + 1 : Nat) : Int) = x + 1 + n by omega] at h1
  simp only [mnF, mxF]
  split <;> split <;> omega
theorem Eo.at' {T : List Int} {x y : Int} (hx : At T x) (hy : At T y) {k : Nat} (hk : x + k ≤ y) : At T (x + k) := ⟨by have := hx.1; omega, by have := hy.2; omega⟩
theorem Eo.gainB {T : List Int} {R : List (Int × Int)} {a b : Int} {w : Nat} (h : Eo T R a b w) {d x y : Int} (hd : 0 ≤ d ∧ d ≤ 60) (hxy : x ≤ y) (hx : At T x) (hy : At T y) : -160000 ≤ gain T R a b w d x y ∧ gain T R a b w d x y ≤ 160000 := by
 have hb := mnF_b (h := fun z => itp T (endsL w R) z + sel w (a, b) * d) (L := -160000) (U := 160000) (x := x) (n := (y - x).toNat) fun k hk => h.rteB (Eo.at' hx hy (by omega)) hd
 have e : ∀ p : Int × Int, sel w p = p.1 ∨ sel w p = p.2 := fun p => by
  unfold sel; split
  ·exact .inl rfl
  ·exact .inr rfl
 unfold gain
 rcases e (mnF (fun z => itp T (endsL w R) z + sel w (a, b) * d) x (y - x).toNat, mxF (fun z => itp T (endsL w R) z + sel w (a, b) * d) x (y - x).toNat) with h1 | h1
 ·rw [h1]; exact hb.1
 ·rw [h1]; exact hb.2
def conS (T : List Int) (R : List (Int × Int)) (a b e g : Int) (w : Nat) (D : List (Int × Int)) : Nat → Int
 | 0 => sel w (e, g)
 | k + 1 => conS T R a b e g w D k + gain T R a b w k (lo D k) (hi D k)
def conL (T : List Int) (R : List (Int × Int)) (a b e g : Int) (w : Nat) (D : List (Int × Int)) (n : Nat) : List Int := (List.range n).map fun k => conS T R a b e g w D (k + 1)
theorem conL_len {T : List Int} {R : List (Int × Int)} {a b e g : Int} {w : Nat} {D : List (Int × Int)} {n : Nat} : (conL T R a b e g w D n).length = n := by simp [conL]
theorem conL_snoc {T : List Int} {R : List (Int × Int)} {a b e g : Int} {w : Nat} {D : List (Int × Int)} {n : Nat} : conL T R a b e g w D (n + 1) = conL T R a b e g w D n ++ [conS T R a b e g w D (n + 1)] := by simp [conL, List.range_succ]
theorem conL_get {T : List Int} {R : List (Int × Int)} {a b e g : Int} {w : Nat} {D : List (Int × Int)} {n i : Nat} (h : i < n) : (conL T R a b e g w D n).getD i 0 = conS T R a b e g w D (i + 1) := by simp [conL, List.getD, h]
def DAt (T : List Int) (D : List (Int × Int)) : Prop := ∀ i, i < D.length → lo D i ≤ hi D i ∧ At T (lo D i) ∧ At T (hi D i)
theorem Eo.conB {T : List Int} {R : List (Int × Int)} {a b e g : Int} {w : Nat} {D : List (Int × Int)} (h : Eo T R a b w) (he : (-10000000 ≤ e ∧ e ≤ 10000000) ∧ -10000000 ≤ g ∧ g ≤ 10000000) (hD : DAt T D) (hn : D.length ≤ 60) : ∀ k, k ≤ D.length →
  -10000000 - 160000 * (k : Int) ≤ conS T R a b e g w D k ∧ conS T R a b e g w D k ≤ 10000000 + 160000 * (k : Int)
 | 0, _ => by simp only [conS, sel]; split <;> omega
 | k + 1, hk => by
  have ih := h.conB he hD hn k (by omega)
  obtain ⟨h1, h2, h3⟩ := hD k (by omega)
  have := h.gainB (d := k) (by omega) h1 h2 h3
  simp only [conS]; omega
def F84 : FC := fun args => match args with
 | [.agg [.ints .i64 T, .rd 2 n f, .int .i64 a, .int .i64 b, .int .i64 e, .int .i64 g, .fn w []], .rd 2 m h] =>
  some (((∃ R, n = R.length ∧ f = rowsS R) ∧ ∃ D, m = D.length ∧ h = rowsS D) ∧ Eo T (Tof n f) a b w ∧ ((-10000000 ≤ e ∧ e ≤ 10000000) ∧ -10000000 ≤ g ∧ g ≤ 10000000) ∧ DAt T (Tof m h) ∧ m ≤ 60, .ints .i64 (conL T (Tof n f) a b e g w (Tof m h) m))
 | _ => none
theorem p84 : PureOk Try.prog 42 (fcC F84) := by
 refine pure_of (T := [(58, .fc F103), (56, .fc Fslow), (57, .fc Ffast)]) ⟨⟨p103, q103⟩, ⟨p101, q101⟩, ⟨p102, q102⟩, trivial⟩ Try.func42 k84 ?_
 intro args K hC
 unfold fcC F84 at hC
 split at hC <;> first | (exact hC.elim) | skip
 rename_i h
 split at h <;> first | (cases h; done) | skip
 cases h
 rename_i T n f a b e g w m h
 obtain ⟨⟨⟨⟨R, rfl, rfl⟩, D, rfl, rfl⟩, hE, he, hD, hm⟩, hK⟩ := hC
 rw [Tof_rows] at hK hE
 rw [Tof_rows] at hK hD
 have c1 : ∃ R_1, R.length = R_1.length ∧ rowsS R = rowsS R_1 := ⟨R, rfl, rfl⟩
 have e0 : ∀ w, conS T R a b e g w D 0 = sel w (e, g) := fun w => rfl
 rcases hE.ww with rfl | rfl
 ·simp only [e_reg, e_seq, e_block, e_loop, o_nil, o_cons, gd_none, putK_e, runK_e, vK_e, boxK_e, conK_e, callK_e, evh_v, evh_box, evh_call, seqK_n, gam_e, gamK_f, pc_e, pcK_e, fcC_e, fcK_e, evp, gt, gq, st, putf, X.get, gets, ap, mkfr, rep, clV, clL, clS, clo, ld, lda, lens, tk, dr, cs1, gb, pb, ln, lk, undef, Nat.reduceSub, Nat.reduceAdd, Nat.reduceBEq, beq_self_eq_true, true_and, s84, r84, Fslow]
  refine loop_at2 (G := Nat) (fun i => [(17, .int .i64 i), (5, .int .i64 (conS T R a b e g 56 D i)), (6, .own 1)]) (fun i => [.box 76 [.ints .i64 T, .rd 2 R.length (rowsS R), .int .i64 a, .int .i64 b, .int .i64 e, .int .i64 g, .fn 56 []], .oi .i64 3 (conL T R a b e g 56 D i)]) (fun i => i ≤ D.length) (fun i => D.length - i) 0 (Nat.zero_le _) ?_
  (intro fr1 hf1; simp only [forget, dstC, dstO, dstD, dst1, st] at hf1; subst hf1)
  refine ⟨?_, ?_⟩
  ·refine Lw_re 1 [none] (Nat.zero_le _) (by simp [ln]) (by simp [ln]) rfl ?_ ?_
   ·simp only [reL, reX, rn, List.getElem?_cons_zero, Nat.reduceSub, Nat.lt_irrefl, Nat.le_refl, reduceCtorEq, or_true, inb, inb.inbs, ln, sts, st, Bool.and_self, Nat.reduceLT, Nat.reduceAdd, decide_true, true_and, and_true, and_self, Int.natCast_zero, implies_true, e0, sel]
    rfl
   ·simp only [reL, reX, reH, reB, reN, newB, inb, inb.inbs, and_self, implies_true, conL, List.range_zero, List.map_nil]
  ·intro i hii
   have hb := hE.conB he hD hm i hii
   by_cases hlt : i < D.length
   ·have n0 : ((i : Int) < (D.length : Int)) = True := by simp; omega
    obtain ⟨d1, d2, d3⟩ := hD i hlt
    have hgb := hE.gainB (d := i) (by omega) d1 d2 d3
    have hs := conL_snoc (T := T) (R := R) (a := a) (b := b) (e := e) (g := g) (w := 56) (D := D) (n := i)
    have hl := conL_len (T := T) (R := R) (a := a) (b := b) (e := e) (g := g) (w := 56) (D := D) (n := i)
    have he1 : conS T R a b e g 56 D (i + 1) = conS T R a b e g 56 D i + gain T R a b 56 i (lo D i) (hi D i) := rfl
    rw [he1] at hs
    simp only [condK_bt, decide_true, inr64, ↓reduceIte, e_skip, e_reg, e_drw, e_seq, e_cond, e_block, o_nil, o_cons, gd_none, putK_e, runK_e, vK_e, bslK_e, appK2_oi, appK_e, evh_v, evh_bsl, evh_app, dX_e, dG_t, d_nil, d_cons, tlK_n, loopK_n, seqK_n, blockK_n, gamq_e, gamqK_f, evp, bin, gt, st, putf, X.get, gets, getp, ap, clo, clo.clos, ld, lda, ixs, tk, dr, sp, sp.spl, lay, ll, cs1, one, gb, sb, pb, ln, lk, evq, gdl, Bool.and_true, Nat.reduceAdd, beq_self_eq_true, true_and, and_true, sts, n0, Int.toNat_natCast, rowsS, F103, Tof_rows, hl]
    repeat' (first | omega | exact c1 | exact hE | exact d1 | exact d2 | exact d3 | decide | refine And.intro ?_ ?_)
    refine Nx.mk (i + 1) (by omega) (by omega) (Lw_re 1 [some 3] (Nat.zero_le _) (by simp [ln]) (by simp [ln]) rfl ?_ ?_)
    ·simp only [reL, reX, rn, List.getElem?_cons_zero, Nat.reduceSub, Nat.lt_irrefl, Nat.le_refl, and_false, or_true, inb, inb.inbs, ln, Bool.and_self, Nat.reduceLT, Nat.reduceAdd, decide_true, and_self, Int.natCast_add, Int.natCast_one, implies_true, he1]
    ·simp only [reL, reX, reH, reB, reM, reN, gb, Nat.reduceLeDiff, inb, inb.inbs, ln, Nat.reduceLT, Nat.reduceAdd, and_self, implies_true, hs]
   ·have n0 : ((i : Int) < (D.length : Int)) = False := by simp; omega
    have ei : i = D.length := by omega
    subst ei
    simp only [condK_bf, decide_false, e_reg, e_seq, e_cond, e_exit, e_ret, o_nil, o_cons, gd_none, putK_e, runK_e, vK_e, evh_v, loopK_x, seqK_n, seqK_x, exitK_t, blockK_x, ends_r, endK1_e, endK2_e, evp, bin, gt, st, putf, X.get, rdR, tupled, clV, gb, sb, beq_self_eq_true, true_and, sts, n0]
    exact res hK (by simp [leR])
 ·simp only [e_reg, e_seq, e_block, e_loop, o_nil, o_cons, gd_none, putK_e, runK_e, vK_e, boxK_e, conK_e, callK_e, evh_v, evh_box, evh_call, seqK_n, gam_e, gamK_f, pc_e, pcK_e, fcC_e, fcK_e, evp, gt, gq, st, putf, X.get, gets, ap, mkfr, rep, clV, clL, clS, clo, ld, lda, lens, tk, dr, cs1, gb, pb, ln, lk, undef, Nat.reduceSub, Nat.reduceAdd, Nat.reduceBEq, beq_self_eq_true, true_and, s84, r84, Ffast]
  refine loop_at2 (G := Nat) (fun i => [(17, .int .i64 i), (5, .int .i64 (conS T R a b e g 57 D i)), (6, .own 1)]) (fun i => [.box 76 [.ints .i64 T, .rd 2 R.length (rowsS R), .int .i64 a, .int .i64 b, .int .i64 e, .int .i64 g, .fn 57 []], .oi .i64 3 (conL T R a b e g 57 D i)]) (fun i => i ≤ D.length) (fun i => D.length - i) 0 (Nat.zero_le _) ?_
  (intro fr1 hf1; simp only [forget, dstC, dstO, dstD, dst1, st] at hf1; subst hf1)
  refine ⟨?_, ?_⟩
  ·refine Lw_re 1 [none] (Nat.zero_le _) (by simp [ln]) (by simp [ln]) rfl ?_ ?_
   ·simp only [reL, reX, rn, List.getElem?_cons_zero, Nat.reduceSub, Nat.lt_irrefl, Nat.le_refl, reduceCtorEq, or_true, inb, inb.inbs, ln, sts, st, Bool.and_self, Nat.reduceLT, Nat.reduceAdd, decide_true, true_and, and_true, and_self, Int.natCast_zero, implies_true, e0, sel]
    rfl
   ·simp only [reL, reX, reH, reB, reN, newB, inb, inb.inbs, and_self, implies_true, conL, List.range_zero, List.map_nil]
  ·intro i hii
   have hb := hE.conB he hD hm i hii
   by_cases hlt : i < D.length
   ·have n0 : ((i : Int) < (D.length : Int)) = True := by simp; omega
    obtain ⟨d1, d2, d3⟩ := hD i hlt
    have hgb := hE.gainB (d := i) (by omega) d1 d2 d3
    have hs := conL_snoc (T := T) (R := R) (a := a) (b := b) (e := e) (g := g) (w := 57) (D := D) (n := i)
    have hl := conL_len (T := T) (R := R) (a := a) (b := b) (e := e) (g := g) (w := 57) (D := D) (n := i)
    have he1 : conS T R a b e g 57 D (i + 1) = conS T R a b e g 57 D i + gain T R a b 57 i (lo D i) (hi D i) := rfl
    rw [he1] at hs
    simp only [condK_bt, decide_true, inr64, ↓reduceIte, e_skip, e_reg, e_drw, e_seq, e_cond, e_block, o_nil, o_cons, gd_none, putK_e, runK_e, vK_e, bslK_e, appK2_oi, appK_e, evh_v, evh_bsl, evh_app, dX_e, dG_t, d_nil, d_cons, tlK_n, loopK_n, seqK_n, blockK_n, gamq_e, gamqK_f, evp, bin, gt, st, putf, X.get, gets, getp, ap, clo, clo.clos, ld, lda, ixs, tk, dr, sp, sp.spl, lay, ll, cs1, one, gb, sb, pb, ln, lk, evq, gdl, Bool.and_true, Nat.reduceAdd, beq_self_eq_true, true_and, and_true, sts, n0, Int.toNat_natCast, rowsS, F103, Tof_rows, hl]
    repeat' (first | omega | exact c1 | exact hE | exact d1 | exact d2 | exact d3 | decide | refine And.intro ?_ ?_)
    refine Nx.mk (i + 1) (by omega) (by omega) (Lw_re 1 [some 3] (Nat.zero_le _) (by simp [ln]) (by simp [ln]) rfl ?_ ?_)
    ·simp only [reL, reX, rn, List.getElem?_cons_zero, Nat.reduceSub, Nat.lt_irrefl, Nat.le_refl, and_false, or_true, inb, inb.inbs, ln, Bool.and_self, Nat.reduceLT, Nat.reduceAdd, decide_true, and_self, Int.natCast_add, Int.natCast_one, implies_true, he1]
    ·simp only [reL, reX, reH, reB, reM, reN, gb, Nat.reduceLeDiff, inb, inb.inbs, ln, Nat.reduceLT, Nat.reduceAdd, and_self, implies_true, hs]
   ·have n0 : ((i : Int) < (D.length : Int)) = False := by simp; omega
    have ei : i = D.length := by omega
    subst ei
    simp only [condK_bf, decide_false, e_reg, e_seq, e_cond, e_exit, e_ret, o_nil, o_cons, gd_none, putK_e, runK_e, vK_e, evh_v, loopK_x, seqK_n, seqK_x, exitK_t, blockK_x, ends_r, endK1_e, endK2_e, evp, bin, gt, st, putf, X.get, rdR, tupled, clV, gb, sb, beq_self_eq_true, true_and, sts, n0]
    exact res hK (by simp [leR])
def cnP (c : Ck) (D : List (Int × Int)) (n : Nat) : List (Int × Int) := (List.range n).map fun k => (conS c.T c.R c.a c.b c.e c.g 56 D (k + 1), conS c.T c.R c.a c.b c.e c.g 57 D (k + 1))
theorem cnP_len {c : Ck} {D : List (Int × Int)} {n : Nat} : (cnP c D n).length = n := by simp [cnP]
theorem cnP_snoc {c : Ck} {D : List (Int × Int)} {n : Nat} : cnP c D (n + 1) = cnP c D n ++ [(conS c.T c.R c.a c.b c.e c.g 56 D (n + 1), conS c.T c.R c.a c.b c.e c.g 57 D (n + 1))] := by simp [cnP, List.range_succ]
theorem rowsS_snoc (L : List (Int × Int)) (p : Int × Int) (i : Nat) (h : i < L.length + 1) : (if i < L.length then rowsS L i else [.int .i64 p.1, .int .i64 p.2]) = rowsS (L ++ [p]) i := by
 unfold rowsS lo hi
 by_cases h1 : i < L.length
 ·rw [if_pos h1]; simp [List.getD, List.getElem?_append_left h1]
 ·have : i = L.length := by omega
  subst this
  rw [if_neg h1]; simp [List.getD]
theorem Ck.dat {c : Ck} {D : List (Int × Int)} (hv : voy c D) : DAt c.T D := fun i hi' => by
 have := all_get hv.2 hi'
 exact ⟨this.1.2, ⟨by omega, by omega⟩, by omega, by omega⟩
def C54 : PC := fun args K => ∃ (c : Ck) (D : List (Int × Int)), args = [c.sv, .rd 2 D.length (rowsS D)] ∧ c.ok ∧ voy c D ∧ K (.rd 2 D.length (rowsS (cnP c D D.length)))
theorem p54 : PureOk Try.prog 25 C54 := by
 refine pure_of (T := [(36, .fc F77), (37, .fc F78), (42, .fc F84)]) ⟨⟨p77, q77⟩, ⟨p78, q78⟩, ⟨p84, q84⟩, trivial⟩ Try.func25 k54 ?_
 rintro args K ⟨c, D, rfl, hok, hv, hK⟩
 have hsv : c.sv = .agg [.ints .i64 c.T, .rd 2 c.R.length (rowsS c.R), .int .i64 c.a, .int .i64 c.b, .int .i64 c.e, .int .i64 c.g] := rfl
 have hE1 := c.eo hok (w := 56) (.inl rfl)
 have hE2 := c.eo hok (w := 57) (.inr rfl)
 have hvl := hv.1
 have hdat := c.dat hv
 have heg := hok.2.2
 have c1 : ∃ R_1, c.R.length = R_1.length ∧ rowsS c.R = rowsS R_1 := ⟨c.R, rfl, rfl⟩
 have c2 : ∃ R_1, D.length = R_1.length ∧ rowsS D = rowsS R_1 := ⟨D, rfl, rfl⟩
 rw [hsv]
 simp only [e_reg, e_drw, e_seq, e_block, e_loop, o_nil, o_cons, gd_none, putK_e, runK_e, vK_e, boxK_e, conK_e, callK_e, evh_v, evh_box, evh_call, dX_e, dG_t, d_nil, d_cons, tlK_n, seqK_n, gam_e, gamK_f, gamq_e, gamqK_f, pc_e, pcK_e, fcC_e, fcK_e, evp, gt, st, putf, X.get, gets, ap, mkfr, rep, clV, clL, clS, clo, clo.clos, ld, lda, lens, tk, dr, cs1, gb, pb, ln, lk, evq, gdl, undef, Bool.and_true, Nat.reduceSub, Nat.reduceBEq, beq_self_eq_true, true_and, s54, r54, F77, F78, F84, Tof_rows]
 have hcond : ∀ w, Eo c.T c.R c.a c.b w → ((∃ R, c.R.length = R.length ∧ rowsS c.R = rowsS R) ∧ ∃ D_1, D.length = D_1.length ∧ rowsS D = rowsS D_1) ∧ Eo c.T c.R c.a c.b w ∧ ((-10000000 ≤ c.e ∧ c.e ≤ 10000000) ∧ -10000000 ≤ c.g ∧ c.g ≤ 10000000) ∧ DAt c.T D ∧ D.length ≤ 60 := fun w hw => ⟨⟨c1, c2⟩, hw, by omega, hdat, by omega⟩
 refine ⟨hcond 56 hE1, hcond 57 hE2, ?_⟩
 refine loop_at2 (G := Nat) (fun i => [(19, .int .i64 i), (7, .own 1)]) (fun i => [.box 58 [.ints .i64 c.T, .rd 2 c.R.length (rowsS c.R), .int .i64 c.a, .int .i64 c.b, .int .i64 c.e, .int .i64 c.g], .orw 25 2 i (rowsS (cnP c D i))]) (fun i => i ≤ D.length) (fun i => D.length - i) 0 (Nat.zero_le _) ?_
 (intro fr1 hf1; simp only [forget, dstC, dstO, dstD, dst1, st] at hf1; subst hf1)
 refine ⟨?_, ?_⟩
 ·refine Lw_re 1 [none] (Nat.zero_le _) (by simp [ln]) (by simp [ln]) rfl ?_ ?_
  ·simp only [reL, reX, rn, List.getElem?_cons_zero, Nat.reduceSub, Nat.lt_irrefl, Nat.le_refl, reduceCtorEq, or_true, inb, inb.inbs, ln, sts, st, Bool.and_self, Nat.reduceLT, Nat.reduceAdd, decide_true, and_self, Int.natCast_zero, implies_true]
  ·simp only [reL, reX, reH, reB, reN, newB, inb, and_self, implies_true]
 ·intro i hii
  by_cases hlt : i < D.length
  ·have n0 : ((i : Int) < (D.length : Int)) = True := by simp; omega
   have g1 := conL_get (T := c.T) (R := c.R) (a := c.a) (b := c.b) (e := c.e) (g := c.g) (w := 56) (D := D) hlt
   have g2 := conL_get (T := c.T) (R := c.R) (a := c.a) (b := c.b) (e := c.e) (g := c.g) (w := 57) (D := D) hlt
   have l1 := conL_len (T := c.T) (R := c.R) (a := c.a) (b := c.b) (e := c.e) (g := c.g) (w := 56) (D := D) (n := D.length)
   have l2 := conL_len (T := c.T) (R := c.R) (a := c.a) (b := c.b) (e := c.e) (g := c.g) (w := 57) (D := D) (n := D.length)
   have hs := cnP_snoc (c := c) (D := D) (n := i)
   have hl := cnP_len (c := c) (D := D) (n := i)
   simp only [condK_bt, decide_true, inr64, ↓reduceIte, e_skip, e_reg, e_drw, e_seq, e_cond, e_block, o_nil, o_cons, gd_none, putK_e, runK_e, vK_e, appK2_or, appK_e, evh_v, evh_app, dX_e, dG_t, d_nil, d_cons, creK_e, tlK_s, evc_e, loopK_n, seqK_n, blockK_n, evp, bin, gt, gq, st, putf, X.get, getp, clo, clo.clos, ld, lda, ixs, sp, sp.spl, lay, ll, cs1, one, allOne, gb, sb, pb, ln, evq, gdl, crv, Bool.and_true, Nat.reduceAdd, beq_self_eq_true, true_and, and_true, sts, n0, Int.toNat_natCast, g1, g2, l1, l2]
   repeat refine And.intro (by first | omega | decide) ?_
   refine Nx.mk (i + 1) (by omega) (by omega) (Lw_re 1 [some 3] (Nat.zero_le _) (by simp [ln]) (by simp [ln]) rfl ?_ ?_)
   ·simp only [reL, reX, rn, List.getElem?_cons_zero, Nat.reduceSub, Nat.lt_irrefl, Nat.le_refl, and_false, or_true, inb, inb.inbs, ln, Bool.and_self, Nat.reduceLT, Nat.reduceAdd, decide_true, and_self, Int.natCast_add, Int.natCast_one, implies_true]
   ·simp only [reL, reX, reH, reB, reM, reN, gb, Nat.reduceLeDiff, inb, ln, Nat.reduceLT, Nat.reduceAdd, true_and, and_true, and_self, implies_true, hs]
    intro j hj
    have := rowsS_snoc (cnP c D i) (conS c.T c.R c.a c.b c.e c.g 56 D (i + 1), conS c.T c.R c.a c.b c.e c.g 57 D (i + 1)) j (by rw [hl]; exact hj)
    rw [hl] at this
    exact this
  ·have n0 : ((i : Int) < (D.length : Int)) = False := by simp; omega
   have ei : i = D.length := by omega
   subst ei
   simp only [condK_bf, decide_false, e_reg, e_seq, e_cond, e_exit, e_ret, o_nil, o_cons, gd_none, putK_e, runK_e, vK_e, evh_v, loopK_x, seqK_n, seqK_x, exitK_t, blockK_x, ends_r, endK1_e, endK2_e, evp, bin, gt, st, putf, X.get, rdR, tupled, clV, gb, sb, beq_self_eq_true, true_and, sts, n0]
   exact res hK (by simp [leR])
def cnR (c : Ck) (D : List (Int × Int)) : List (Int × Int) := if c.ok ∧ voy c D then cnP c D D.length else []
def C18 : PC := fun args K => ∃ (c : Ck) (D : List (Int × Int)), args = [c.sv, .rd 2 D.length (rowsS D)] ∧ K (.tup [.rd 2 (cnR c D).length (rowsS (cnR c D)), .int .i64 (askE c D)])
theorem p18 : PureOk Try.prog 8 C18 := by
 refine pure_of (T := [(22, .pc C53), (25, .pc C54)]) ⟨⟨p53, q53⟩, ⟨p54, q54⟩, trivial⟩ Try.func8 k18 ?_
 rintro args K ⟨c, D, rfl, hK⟩
 have hsv : c.sv = .agg [.ints .i64 c.T, .rd 2 c.R.length (rowsS c.R), .int .i64 c.a, .int .i64 c.b, .int .i64 c.e, .int .i64 c.g] := rfl
 have h70 : ((70 : Int) = 0) = False := by simp
 have h71 : ((71 : Int) = 0) = False := by simp
 rw [hsv]
 simp only [e_reg, e_seq, o_nil, o_cons, gd_none, putK_e, runK_e, vK_e, boxK_e, conK_e, callK_e, evh_v, evh_box, evh_call, seqK_n, gam_e, gamK_p, pc_e, pcK_e, evp, bin, gt, st, putf, X.get, gets, ap, mkfr, rep, clV, clL, clS, clo, ld, lda, tk, dr, cs1, gb, pb, ln, lk, undef, Nat.reduceSub, beq_self_eq_true, true_and, s18, r18]
 refine ⟨c, D, rfl, ?_⟩
 by_cases hok : c.ok
 ·by_cases hv : voy c D
  ·have h1 : askE c D = 0 := by simp [askE, hok, hv]
   simp only [condK_bf, decide_true, e_skip, e_reg, e_seq, e_cond, e_ret, o_nil, o_cons, gd_none, putK_e, runK_e, vK_e, bldK_e, conK_e, callK_e, evh_v, evh_bld, evh_call, seqK_n, ends_r, endK1_e, gam_e, gamK_p, pc_e, pcK_e, evp, gt, st, putf, X.get, gets, getp, ap, rdR, tupled, clV, clL, clS, clo, ld, lda, tk, dr, sp, sp.spl, lay, ll, cs1, gb, lk, Bool.not_true, Nat.reduceAdd, Nat.reduceBEq, beq_self_eq_true, true_and, h1]
   refine ⟨c, D, rfl, hok, hv, ?_⟩
   simp only [endK2_e, clo]
   have : cnR c D = cnP c D D.length := if_pos ⟨hok, hv⟩
   rw [this, h1, cnP_len] at hK
   exact res hK (by simp [leR, leR.leRs])
  ·have h1 : askE c D = 71 := by simp [askE, hok, hv]
   have : cnR c D = [] := if_neg fun h => hv h.2
   rw [this, h1] at hK
   simp only [condK_bt, decide_false, e_reg, e_seq, e_cond, e_ret, o_nil, o_cons, gd_none, putK_e, runK_e, vK_e, evh_v, seqK_n, seqK_r, ends_r, endK1_e, endK2_e, evp, gt, st, putf, X.get, rdR, tupled, clV, clL, clS, clo, Bool.not_false, true_and, h1, h71]
   exact res hK (by simp [leR, leR.leRs])
 ·have h1 : askE c D = 70 := by simp [askE, hok]
  have : cnR c D = [] := if_neg fun h => hok h.1
  rw [this, h1] at hK
  simp only [condK_bt, decide_false, e_reg, e_seq, e_cond, e_ret, o_nil, o_cons, gd_none, putK_e, runK_e, vK_e, evh_v, seqK_n, seqK_r, ends_r, endK1_e, endK2_e, evp, gt, st, putf, X.get, rdR, tupled, clV, clL, clS, clo, Bool.not_false, true_and, h1, h70]
  exact res hK (by simp [leR, leR.leRs])
end Go.Proofs.Ytlegfejimphfbaa
end
