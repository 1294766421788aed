import Derived.Test.YtbbbpdajikblbaaVgR18
import Derived.Test.YtbbbpdajikblbaaChecked
import Derived.KernelRfl
namespace Go.Proofs.Ytbbbpdajikblbaa
open Go Go.Vg
set_option maxRecDepth 100000
set_option maxHeartbeats 4000000
def g15 : RC :=
  (.seq (.reg [⟨(some 2), none, .o (.box 24 (.t 0))⟩,
    ⟨(some 4), none, .o (.v (.mov (.c (.int .i64 (0)))))⟩,
    ⟨(some 5), none, .o (.v (.mov (.c (.int .i64 (0)))))⟩,
    ⟨(some 6), none, .o (.v (.mov (.c (.int .i64 (0)))))⟩])
  (.seq (.seq (.reg [⟨(some 9), none, .o (.v (.load (.t 2) (some 3)))⟩,
    ⟨(some 10), none, .o (.call (.c (.fn 17 [])) [(.t 9)])⟩,
    ⟨(some 7), none, .o (.v (.mov (.t 10)))⟩])
  (.seq (.reg [⟨(some 11), none, .o (.v (.mov (.t 7)))⟩,
    ⟨(some 12), none, .o (.v (.bin .neq (.t 11) (.c (.int .i64 (0)))))⟩])
  (.cond (.t 12)
    (.seq (.reg [⟨(some 13), none, .o (.v (.mov (.t 7)))⟩,
      ⟨(some 4), none, .o (.v (.mov (.c (.int .i64 (0)))))⟩,
      ⟨(some 5), none, .o (.v (.mov (.c (.int .i64 (0)))))⟩,
      ⟨(some 6), none, .o (.v (.mov (.t 13)))⟩])
    .ret)
    .skip)))
  (.seq (.reg [⟨(some 14), none, .o (.v (.load (.t 2) (some 3)))⟩,
    ⟨(some 15), none, .o (.bld [(.lit (.slice none 0 0)), (.int .i64 (0)), (.int .i64 (0))] [(0, 3, (.t 14))])⟩,
    ⟨(some 8), none, .o (.new 78 [(.lit (.slice none 0 0)), (.int .i64 (0)), (.int .i64 (0))])⟩,
    ⟨none, none, .o (.store 3 (.t 8) (.t 15))⟩])
  (.seq (.seq (.reg [⟨(some 16), none, .o (.v (.load (.t 8) (some 3)))⟩,
    ⟨(some 17), none, .o (.v (.mov (.t 1)))⟩,
    ⟨(some 18), none, .o (.call (.c (.fn 55 [])) [(.t 16), (.t 17)])⟩,
    ⟨(some 19), none, .o (.v (.not (.t 18)))⟩])
  (.cond (.t 19)
    (.seq (.reg [⟨(some 4), none, .o (.v (.mov (.c (.int .i64 (0)))))⟩,
      ⟨(some 5), none, .o (.v (.mov (.c (.int .i64 (0)))))⟩,
      ⟨(some 6), none, .o (.v (.mov (.c (.int .i64 (22)))))⟩])
    .ret)
    .skip))
  (.seq (.reg [⟨(some 21), none, .o (.v (.load (.t 8) (some 3)))⟩,
    ⟨(some 22), none, .o (.v (.mov (.t 1)))⟩,
    ⟨(some 23), none, .o (.call (.c (.fn 56 [])) [(.t 21), (.t 22)])⟩,
    ⟨(some 20), none, .o (.v (.mov (.t 23)))⟩,
    ⟨(some 24), none, .o (.v (.ext (.t 20) 0))⟩,
    ⟨(some 25), none, .o (.v (.ext (.t 20) 1))⟩,
    ⟨(some 4), none, .o (.v (.mov (.t 24)))⟩,
    ⟨(some 5), none, .o (.v (.mov (.t 25)))⟩])
  (.seq (.reg [⟨(some 26), none, .o (.v (.mov (.t 4)))⟩,
    ⟨(some 27), none, .o (.v (.mov (.t 5)))⟩,
    ⟨(some 4), none, .o (.v (.mov (.t 26)))⟩,
    ⟨(some 5), none, .o (.v (.mov (.t 27)))⟩,
    ⟨(some 6), none, .o (.v (.mov (.c (.int .i64 (0)))))⟩])
  .ret))))))
theorem h15 : FdOk Try.prog 15 ⟨g15, [.t 4, .t 5, .t 6], 28, [], false⟩ := .of Try.func15 (by simp [Try.f15]) (by kernel_rfl)
def g17 : RC :=
  (.seq (.reg [⟨(some 1), none, .o (.box 24 (.t 0))⟩,
    ⟨(some 2), none, .o (.v (.mov (.c (.int .i64 (0)))))⟩])
  (.seq (.seq (.reg [⟨(some 6), none, .o (.v (.off (.t 1) 0))⟩,
    ⟨(some 7), none, .o (.v (.load (.t 6) none))⟩,
    ⟨(some 8), none, .o (.v (.len (.t 7)))⟩,
    ⟨(some 9), none, .o (.call (.c (.fn 60 [])) [(.t 8), (.c (.int .i64 (2))), (.c (.int .i64 (10)))])⟩,
    ⟨(some 10), none, .o (.v (.not (.t 9)))⟩,
    ⟨(some 11), none, .o (.v (.mov (.t 10)))⟩,
    ⟨(some 12), (some (11, false)), .o (.v (.off (.t 1) 1))⟩,
    ⟨(some 13), (some (11, false)), .o (.v (.load (.t 12) none))⟩,
    ⟨(some 14), (some (11, false)), .o (.v (.off (.t 1) 2))⟩,
    ⟨(some 15), (some (11, false)), .o (.v (.load (.t 14) none))⟩,
    ⟨(some 16), (some (11, false)), .o (.call (.c (.fn 61 [])) [(.t 13), (.t 15)])⟩,
    ⟨(some 17), (some (11, false)), .o (.v (.not (.t 16)))⟩,
    ⟨(some 18), none, .o (.v (.pick (.t 11) (.c (.lit (.bool true))) (.t 17)))⟩])
  (.cond (.t 18)
    (.seq (.reg [⟨(some 2), none, .o (.v (.mov (.c (.int .i64 (20)))))⟩])
    .ret)
    .skip))
  (.seq (.reg [⟨(some 3), none, .o (.v (.mov (.c (.int .i64 (10)))))⟩])
  (.seq (.seq (.reg [⟨(some 19), none, .o (.v (.off (.t 1) 0))⟩,
    ⟨(some 20), none, .o (.v (.load (.t 19) none))⟩,
    ⟨(some 21), none, .o (.v (.len (.t 20)))⟩,
    ⟨(some 22), none, .o (.v (.mov (.c (.int .i64 (0)))))⟩])
  (.block 0 (.loop
    (.seq (.reg [⟨(some 23), none, .o (.v (.bin .lss (.t 22) (.t 21)))⟩])
    (.seq (.cond (.t 23)
      .skip
      (.exit 0))
    (.seq (.block 1 (.seq (.reg [⟨(some 24), none, .o (.v (.ixa (.t 20) (.t 22) 1))⟩,
      ⟨(some 25), none, .o (.v (.load (.t 24) none))⟩,
      ⟨(some 5), none, .o (.v (.mov (.t 25)))⟩])
    (.seq (.seq (.reg [⟨(some 26), none, .o (.v (.mov (.t 5)))⟩,
      ⟨(some 27), none, .o (.v (.mov (.t 3)))⟩,
      ⟨(some 28), none, .o (.call (.c (.fn 60 [])) [(.t 26), (.t 27), (.c (.int .i64 (200)))])⟩,
      ⟨(some 29), none, .o (.v (.not (.t 28)))⟩])
    (.cond (.t 29)
      (.seq (.reg [⟨(some 2), none, .o (.v (.mov (.c (.int .i64 (20)))))⟩])
      .ret)
      .skip))
    (.reg [⟨(some 30), none, .o (.v (.mov (.t 5)))⟩,
      ⟨(some 3), none, .o (.v (.mov (.t 30)))⟩]))))
    (.reg [⟨(some 31), none, .o (.v (.bin .add (.t 22) (.c (.int .i64 (1)))))⟩,
      ⟨(some 22), none, .o (.v (.mov (.t 31)))⟩])))))))
  (.seq (.reg [⟨(some 2), none, .o (.v (.mov (.c (.int .i64 (0)))))⟩])
  .ret)))))
theorem h17 : FdOk Try.prog 17 ⟨g17, [.t 2], 32, [], false⟩ := .of Try.func17 (by simp [Try.f17]) (by kernel_rfl)
def g19 : RC :=
  (.seq (.reg [⟨(some 3), none, .o (.box 24 (.t 0))⟩,
    ⟨(some 6), none, .o (.v (.mov (.c (.lit (.slice none 0 0)))))⟩,
    ⟨(some 7), none, .o (.v (.mov (.c (.int .i64 (0)))))⟩])
  (.seq (.seq (.reg [⟨(some 11), none, .o (.v (.load (.t 3) (some 3)))⟩,
    ⟨(some 12), none, .o (.v (.mov (.t 1)))⟩,
    ⟨(some 13), none, .o (.v (.mov (.t 2)))⟩,
    ⟨(some 14), none, .o (.call (.c (.fn 62 [])) [(.t 11), (.t 12), (.t 13)])⟩,
    ⟨(some 8), none, .o (.v (.mov (.t 14)))⟩])
  (.seq (.reg [⟨(some 15), none, .o (.v (.mov (.t 8)))⟩,
    ⟨(some 16), none, .o (.v (.bin .neq (.t 15) (.c (.int .i64 (0)))))⟩])
  (.cond (.t 16)
    (.seq (.reg [⟨(some 17), none, .o (.v (.mov (.t 8)))⟩,
      ⟨(some 6), none, .o (.v (.mov (.c (.lit (.slice none 0 0)))))⟩,
      ⟨(some 7), none, .o (.v (.mov (.t 17)))⟩])
    .ret)
    .skip)))
  (.seq (.reg [⟨(some 18), none, .o (.v (.load (.t 3) (some 3)))⟩,
    ⟨(some 19), none, .o (.bld [(.lit (.slice none 0 0)), (.int .i64 (0)), (.int .i64 (0))] [(0, 3, (.t 18))])⟩,
    ⟨(some 9), none, .o (.new 78 [(.lit (.slice none 0 0)), (.int .i64 (0)), (.int .i64 (0))])⟩,
    ⟨none, none, .o (.store 3 (.t 9) (.t 19))⟩])
  (.seq (.drw [⟨[], 0, 1, [(⟨(some 20), none, .o (.v (.load (.t 9) (some 3)))⟩, .val 0 []),
    (⟨(some 21), none, .o (.v (.load (.t 9) (some 3)))⟩, .val 0 []),
    (⟨(some 22), none, .o (.v (.mov (.t 1)))⟩, .val 0 []),
    (⟨(some 23), none, .o (.v (.mov (.t 2)))⟩, .val 0 []),
    (⟨(some 24), none, .o (.call (.c (.fn 64 [])) [(.t 21), (.t 22), (.t 23)])⟩, .eff 0 [])],
    [],
    [⟨(some 25), none, .o (.call (.c (.fn 63 [])) [(.t 20), (.t 24)])⟩,
    ⟨(some 10), none, .o (.v (.mov (.t 25)))⟩], none⟩])
  (.seq (.seq (.reg [⟨(some 26), none, .o (.v (.mov (.t 10)))⟩,
    ⟨(some 27), none, .o (.v (.isnil false (.t 26)))⟩])
  (.cond (.t 27)
    (.seq (.reg [⟨(some 6), none, .o (.v (.mov (.c (.lit (.slice none 0 0)))))⟩,
      ⟨(some 7), none, .o (.v (.mov (.c (.int .i64 (4)))))⟩])
    .ret)
    .skip))
  (.seq (.reg [⟨(some 28), none, .o (.v (.mov (.t 10)))⟩,
    ⟨(some 6), none, .o (.v (.mov (.t 28)))⟩,
    ⟨(some 7), none, .o (.v (.mov (.c (.int .i64 (0)))))⟩])
  .ret))))))
theorem h19 : FdOk Try.prog 19 ⟨g19, [.t 6, .t 7], 29, [], false⟩ := .of Try.func19 (by simp [Try.f19]) (by kernel_rfl)
def g21 : RC :=
  (.seq (.reg [⟨(some 4), none, .o (.v (.mov (.c (.lit (.bool false)))))⟩])
  (.seq (.seq (.reg [⟨(some 6), none, .o (.v (.mov (.t 0)))⟩,
    ⟨(some 7), none, .o (.v (.len (.t 6)))⟩,
    ⟨(some 8), none, .o (.v (.mov (.t 1)))⟩,
    ⟨(some 9), none, .o (.v (.len (.t 8)))⟩,
    ⟨(some 10), none, .o (.v (.bin .neq (.t 7) (.t 9)))⟩])
  (.cond (.t 10)
    (.seq (.reg [⟨(some 4), none, .o (.v (.mov (.c (.lit (.bool false)))))⟩])
    .ret)
    .skip))
  (.seq (.seq (.reg [⟨(some 5), none, .o (.v (.mov (.c (.int .i64 (0)))))⟩])
  (.block 0 (.loop
    (.seq (.seq (.reg [⟨(some 11), none, .o (.v (.mov (.t 5)))⟩,
      ⟨(some 12), none, .o (.v (.mov (.t 0)))⟩,
      ⟨(some 13), none, .o (.v (.len (.t 12)))⟩,
      ⟨(some 14), none, .o (.v (.bin .lss (.t 11) (.t 13)))⟩])
    (.cond (.t 14)
      .skip
      (.exit 0)))
    (.seq (.block 1 (.seq (.drw [⟨[], 0, 0, [(⟨(some 17), none, .o (.v (.mov (.t 0)))⟩, .val 0 []),
      (⟨(some 18), none, .o (.v (.mov (.t 5)))⟩, .val 0 []),
      (⟨(some 19), none, .o (.v (.ixa (.t 17) (.t 18) 1))⟩, .val 0 []),
      (⟨(some 20), none, .o (.v (.load (.t 19) none))⟩, .val 0 []),
      (⟨(some 21), none, .o (.v (.mov (.t 1)))⟩, .val 0 []),
      (⟨(some 22), none, .o (.v (.mov (.t 5)))⟩, .val 0 []),
      (⟨(some 23), none, .o (.v (.ixa (.t 21) (.t 22) 1))⟩, .val 0 []),
      (⟨(some 24), none, .o (.v (.load (.t 23) none))⟩, .val 0 [])],
      [],
      [⟨(some 25), none, .o (.v (.bin .neq (.t 20) (.t 24)))⟩], none⟩])
    (.cond (.t 25)
      (.seq (.reg [⟨(some 4), none, .o (.v (.mov (.c (.lit (.bool false)))))⟩])
      .ret)
      .skip)))
    (.reg [⟨(some 15), none, .o (.v (.mov (.t 5)))⟩,
      ⟨(some 16), none, .o (.v (.bin .add (.t 15) (.c (.int .i64 (1)))))⟩,
      ⟨(some 5), none, .o (.v (.mov (.t 16)))⟩]))))))
  (.seq (.reg [⟨(some 4), none, .o (.v (.mov (.c (.lit (.bool true)))))⟩])
  .ret))))
theorem h21 : FdOk Try.prog 21 ⟨g21, [.t 4], 26, [], false⟩ := .of Try.func21 (by simp [Try.f21]) (by kernel_rfl)
def g22 : RC :=
  (.seq (.reg [⟨(some 3), none, .o (.box 24 (.t 0))⟩,
    ⟨(some 6), none, .o (.v (.mov (.c (.lit (.slice none 0 0)))))⟩,
    ⟨(some 7), none, .o (.v (.mov (.c (.int .i64 (0)))))⟩])
  (.seq (.seq (.reg [⟨(some 10), none, .o (.v (.load (.t 3) (some 3)))⟩,
    ⟨(some 11), none, .o (.v (.mov (.t 1)))⟩,
    ⟨(some 12), none, .o (.v (.mov (.t 2)))⟩,
    ⟨(some 13), none, .o (.call (.c (.fn 62 [])) [(.t 10), (.t 11), (.t 12)])⟩,
    ⟨(some 8), none, .o (.v (.mov (.t 13)))⟩])
  (.seq (.reg [⟨(some 14), none, .o (.v (.mov (.t 8)))⟩,
    ⟨(some 15), none, .o (.v (.bin .neq (.t 14) (.c (.int .i64 (0)))))⟩])
  (.cond (.t 15)
    (.seq (.reg [⟨(some 16), none, .o (.v (.mov (.t 8)))⟩,
      ⟨(some 6), none, .o (.v (.mov (.c (.lit (.slice none 0 0)))))⟩,
      ⟨(some 7), none, .o (.v (.mov (.t 16)))⟩])
    .ret)
    .skip)))
  (.seq (.reg [⟨(some 17), none, .o (.v (.load (.t 3) (some 3)))⟩,
    ⟨(some 18), none, .o (.bld [(.lit (.slice none 0 0)), (.int .i64 (0)), (.int .i64 (0))] [(0, 3, (.t 17))])⟩,
    ⟨(some 9), none, .o (.new 78 [(.lit (.slice none 0 0)), (.int .i64 (0)), (.int .i64 (0))])⟩,
    ⟨none, none, .o (.store 3 (.t 9) (.t 18))⟩])
  (.seq (.drw [⟨[], 0, 1, [(⟨(some 19), none, .o (.v (.load (.t 9) (some 3)))⟩, .val 0 []),
    (⟨(some 20), none, .o (.v (.load (.t 9) (some 3)))⟩, .val 0 []),
    (⟨(some 21), none, .o (.v (.mov (.t 1)))⟩, .val 0 []),
    (⟨(some 22), none, .o (.v (.mov (.t 2)))⟩, .val 0 []),
    (⟨(some 23), none, .o (.call (.c (.fn 64 [])) [(.t 20), (.t 21), (.t 22)])⟩, .eff 0 [])],
    [],
    [⟨(some 24), none, .o (.call (.c (.fn 67 [])) [(.t 19), (.t 23)])⟩,
    ⟨(some 6), none, .o (.v (.mov (.t 24)))⟩,
    ⟨(some 7), none, .o (.v (.mov (.c (.int .i64 (0)))))⟩], none⟩])
  .ret))))
theorem h22 : FdOk Try.prog 22 ⟨g22, [.t 6, .t 7], 25, [], false⟩ := .of Try.func22 (by simp [Try.f22]) (by kernel_rfl)
def g24 : RC :=
  (.seq (.reg [⟨(some 0), none, .o (.v (.mov (.c (.lit (.bool false)))))⟩])
  (.seq (.reg [⟨(some 17), none, .o (.call (.c (.fn 52 [])) [])⟩,
    ⟨(some 18), none, .o (.bsl 3 4 [(.int .i64 (0)), (.int .i64 (0)), (.int .i64 (0)), (.int .i64 (0))] [(0, 1, (.c (.int .i64 (0)))), (1, 1, (.c (.int .i64 (1)))), (2, 1, (.c (.int .i64 (2)))), (3, 1, (.c (.int .i64 (3))))])⟩,
    ⟨(some 19), none, .o (.call (.c (.fn 15 [])) [(.t 17), (.t 18)])⟩,
    ⟨(some 16), none, .o (.v (.mov (.t 19)))⟩,
    ⟨(some 20), none, .o (.v (.ext (.t 16) 0))⟩,
    ⟨(some 21), none, .o (.v (.ext (.t 16) 1))⟩,
    ⟨(some 22), none, .o (.v (.ext (.t 16) 2))⟩,
    ⟨(some 1), none, .o (.v (.mov (.t 20)))⟩,
    ⟨(some 2), none, .o (.v (.mov (.t 21)))⟩,
    ⟨(some 3), none, .o (.v (.mov (.t 22)))⟩])
  (.seq (.reg [⟨(some 24), none, .o (.call (.c (.fn 52 [])) [])⟩,
    ⟨(some 25), none, .o (.call (.c (.fn 19 [])) [(.t 24), (.c (.int .i64 (1))), (.c (.int .i64 (6)))])⟩,
    ⟨(some 23), none, .o (.v (.mov (.t 25)))⟩,
    ⟨(some 26), none, .o (.v (.ext (.t 23) 0))⟩,
    ⟨(some 27), none, .o (.v (.ext (.t 23) 1))⟩,
    ⟨(some 4), none, .o (.v (.mov (.t 26)))⟩,
    ⟨(some 5), none, .o (.v (.mov (.t 27)))⟩])
  (.seq (.reg [⟨(some 29), none, .o (.call (.c (.fn 52 [])) [])⟩,
    ⟨(some 30), none, .o (.call (.c (.fn 22 [])) [(.t 29), (.c (.int .i64 (1))), (.c (.int .i64 (15)))])⟩,
    ⟨(some 28), none, .o (.v (.mov (.t 30)))⟩,
    ⟨(some 31), none, .o (.v (.ext (.t 28) 0))⟩,
    ⟨(some 32), none, .o (.v (.ext (.t 28) 1))⟩,
    ⟨(some 6), none, .o (.v (.mov (.t 31)))⟩,
    ⟨(some 7), none, .o (.v (.mov (.t 32)))⟩])
  (.seq (.reg [⟨(some 34), none, .o (.call (.c (.fn 53 [])) [])⟩,
    ⟨(some 35), none, .o (.call (.c (.fn 54 [])) [(.c (.int .i64 (3)))])⟩,
    ⟨(some 36), none, .o (.call (.c (.fn 27 [])) [(.t 34), (.t 35)])⟩,
    ⟨(some 33), none, .o (.v (.mov (.t 36)))⟩,
    ⟨(some 37), none, .o (.v (.ext (.t 33) 0))⟩,
    ⟨(some 38), none, .o (.v (.ext (.t 33) 1))⟩,
    ⟨(some 8), none, .o (.v (.mov (.t 37)))⟩,
    ⟨(some 9), none, .o (.v (.mov (.t 38)))⟩])
  (.seq (.seq (.reg [⟨(some 39), none, .o (.v (.mov (.t 3)))⟩,
    ⟨(some 40), none, .o (.v (.bin .neq (.t 39) (.c (.int .i64 (0)))))⟩,
    ⟨(some 41), none, .o (.v (.mov (.t 40)))⟩,
    ⟨(some 42), (some (41, false)), .o (.v (.mov (.t 5)))⟩,
    ⟨(some 43), (some (41, false)), .o (.v (.bin .neq (.t 42) (.c (.int .i64 (0)))))⟩,
    ⟨(some 44), none, .o (.v (.pick (.t 41) (.c (.lit (.bool true))) (.t 43)))⟩,
    ⟨(some 45), none, .o (.v (.mov (.t 44)))⟩,
    ⟨(some 46), (some (45, false)), .o (.v (.mov (.t 7)))⟩,
    ⟨(some 47), (some (45, false)), .o (.v (.bin .neq (.t 46) (.c (.int .i64 (0)))))⟩,
    ⟨(some 48), none, .o (.v (.pick (.t 45) (.c (.lit (.bool true))) (.t 47)))⟩,
    ⟨(some 49), none, .o (.v (.mov (.t 48)))⟩,
    ⟨(some 50), (some (49, false)), .o (.v (.mov (.t 9)))⟩,
    ⟨(some 51), (some (49, false)), .o (.v (.bin .neq (.t 50) (.c (.int .i64 (0)))))⟩,
    ⟨(some 52), none, .o (.v (.pick (.t 49) (.c (.lit (.bool true))) (.t 51)))⟩,
    ⟨(some 53), none, .o (.v (.mov (.t 52)))⟩,
    ⟨(some 54), (some (53, false)), .o (.v (.mov (.t 1)))⟩,
    ⟨(some 55), (some (53, false)), .o (.v (.bin .neq (.t 54) (.c (.int .i64 (2)))))⟩,
    ⟨(some 56), none, .o (.v (.pick (.t 53) (.c (.lit (.bool true))) (.t 55)))⟩,
    ⟨(some 57), none, .o (.v (.mov (.t 56)))⟩,
    ⟨(some 58), (some (57, false)), .o (.v (.mov (.t 2)))⟩,
    ⟨(some 59), (some (57, false)), .o (.v (.bin .neq (.t 58) (.c (.int .i64 (15)))))⟩,
    ⟨(some 60), none, .o (.v (.pick (.t 57) (.c (.lit (.bool true))) (.t 59)))⟩,
    ⟨(some 61), none, .o (.v (.mov (.t 60)))⟩,
    ⟨(some 62), (some (61, false)), .o (.v (.mov (.t 4)))⟩,
    ⟨(some 63), (some (61, false)), .o (.bsl 3 2 [(.int .i64 (0)), (.int .i64 (0))] [(0, 1, (.c (.int .i64 (0)))), (1, 1, (.c (.int .i64 (1))))])⟩,
    ⟨(some 64), (some (61, false)), .o (.call (.c (.fn 21 [])) [(.t 62), (.t 63)])⟩,
    ⟨(some 65), (some (61, false)), .o (.v (.not (.t 64)))⟩,
    ⟨(some 66), none, .o (.v (.pick (.t 61) (.c (.lit (.bool true))) (.t 65)))⟩,
    ⟨(some 67), none, .o (.v (.mov (.t 66)))⟩,
    ⟨(some 68), (some (67, false)), .o (.v (.mov (.t 6)))⟩,
    ⟨(some 69), (some (67, false)), .o (.bsl 3 4 [(.int .i64 (0)), (.int .i64 (0)), (.int .i64 (0)), (.int .i64 (0))] [(0, 1, (.c (.int .i64 (0)))), (1, 1, (.c (.int .i64 (2)))), (2, 1, (.c (.int .i64 (1)))), (3, 1, (.c (.int .i64 (3))))])⟩,
    ⟨(some 70), (some (67, false)), .o (.call (.c (.fn 21 [])) [(.t 68), (.t 69)])⟩,
    ⟨(some 71), (some (67, false)), .o (.v (.not (.t 70)))⟩,
    ⟨(some 72), none, .o (.v (.pick (.t 67) (.c (.lit (.bool true))) (.t 71)))⟩,
    ⟨(some 73), none, .o (.v (.mov (.t 72)))⟩,
    ⟨(some 74), (some (73, false)), .o (.v (.mov (.t 8)))⟩,
    ⟨(some 75), (some (73, false)), .o (.call (.c (.fn 51 [])) [(.c (.int .i64 (0))), (.c (.int .i64 (0)))])⟩,
    ⟨(some 76), (some (73, false)), .o (.call (.c (.fn 51 [])) [(.c (.int .i64 (15))), (.c (.int .i64 (25)))])⟩,
    ⟨(some 77), (some (73, false)), .o (.bsl 63 2 [(.int .i64 (0)), (.int .i64 (0)), (.int .i64 (0)), (.int .i64 (0))] [(0, 2, (.t 75)), (2, 2, (.t 76))])⟩,
    ⟨(some 78), (some (73, false)), .o (.call (.c (.fn 51 [])) [(.c (.int .i64 (0))), (.c (.int .i64 (0)))])⟩,
    ⟨(some 79), (some (73, false)), .o (.call (.c (.fn 51 [])) [(.c (.int .i64 (3))), (.c (.int .i64 (17)))])⟩,
    ⟨(some 80), (some (73, false)), .o (.call (.c (.fn 51 [])) [(.c (.int .i64 (19))), (.c (.int .i64 (31)))])⟩,
    ⟨(some 81), (some (73, false)), .o (.bsl 63 3 [(.int .i64 (0)), (.int .i64 (0)), (.int .i64 (0)), (.int .i64 (0)), (.int .i64 (0)), (.int .i64 (0))] [(0, 2, (.t 78)), (2, 2, (.t 79)), (4, 2, (.t 80))])⟩,
    ⟨(some 82), (some (73, false)), .o (.bsl 51 2 [(.lit (.slice none 0 0)), (.lit (.slice none 0 0))] [(0, 1, (.t 77)), (1, 1, (.t 81))])⟩,
    ⟨(some 83), (some (73, false)), .o (.call (.c (.fn 45 [])) [(.t 74), (.t 82)])⟩,
    ⟨(some 84), (some (73, false)), .o (.v (.not (.t 83)))⟩,
    ⟨(some 85), none, .o (.v (.pick (.t 73) (.c (.lit (.bool true))) (.t 84)))⟩])
  (.cond (.t 85)
    (.seq (.reg [⟨(some 0), none, .o (.v (.mov (.c (.lit (.bool false)))))⟩])
    .ret)
    .skip))
  (.seq (.reg [⟨(some 87), none, .o (.call (.c (.fn 53 [])) [])⟩,
    ⟨(some 88), none, .o (.call (.c (.fn 54 [])) [(.c (.int .i64 (3)))])⟩,
    ⟨(some 89), none, .o (.bsl 3 2 [(.int .i64 (0)), (.int .i64 (0))] [(0, 1, (.c (.int .i64 (0)))), (1, 1, (.c (.int .i64 (20))))])⟩,
    ⟨(some 90), none, .o (.bsl 3 3 [(.int .i64 (0)), (.int .i64 (0)), (.int .i64 (0))] [(0, 1, (.c (.int .i64 (0)))), (1, 1, (.c (.int .i64 (10)))), (2, 1, (.c (.int .i64 (25))))])⟩,
    ⟨(some 91), none, .o (.bsl 22 2 [(.lit (.slice none 0 0)), (.lit (.slice none 0 0))] [(0, 1, (.t 89)), (1, 1, (.t 90))])⟩,
    ⟨(some 92), none, .o (.call (.c (.fn 25 [])) [(.t 87), (.t 88), (.t 91)])⟩,
    ⟨(some 86), none, .o (.v (.mov (.t 92)))⟩,
    ⟨(some 93), none, .o (.v (.ext (.t 86) 0))⟩,
    ⟨(some 94), none, .o (.v (.ext (.t 86) 1))⟩,
    ⟨(some 10), none, .o (.v (.mov (.t 93)))⟩,
    ⟨(some 3), none, .o (.v (.mov (.t 94)))⟩])
  (.seq (.reg [⟨(some 96), none, .o (.call (.c (.fn 53 [])) [])⟩,
    ⟨(some 97), none, .o (.call (.c (.fn 54 [])) [(.c (.int .i64 (4)))])⟩,
    ⟨(some 98), none, .o (.call (.c (.fn 30 [])) [(.t 96), (.t 97)])⟩,
    ⟨(some 95), none, .o (.v (.mov (.t 98)))⟩,
    ⟨(some 99), none, .o (.v (.ext (.t 95) 0))⟩,
    ⟨(some 100), none, .o (.v (.ext (.t 95) 1))⟩,
    ⟨(some 11), none, .o (.v (.mov (.t 99)))⟩,
    ⟨(some 5), none, .o (.v (.mov (.t 100)))⟩])
  (.seq (.reg [⟨(some 102), none, .o (.bsl 3 5 [(.int .i64 (0)), (.int .i64 (0)), (.int .i64 (0)), (.int .i64 (0)), (.int .i64 (0))] [(0, 1, (.c (.int .i64 (3)))), (1, 1, (.c (.int .i64 (-1)))), (2, 1, (.c (.int .i64 (3)))), (3, 1, (.c (.int .i64 (-1)))), (4, 1, (.c (.int .i64 (3))))])⟩,
    ⟨(some 103), none, .o (.call (.c (.fn 32 [])) [(.t 102), (.c (.int .i64 (3)))])⟩,
    ⟨(some 101), none, .o (.v (.mov (.t 103)))⟩,
    ⟨(some 104), none, .o (.v (.ext (.t 101) 0))⟩,
    ⟨(some 105), none, .o (.v (.ext (.t 101) 1))⟩,
    ⟨(some 12), none, .o (.v (.mov (.t 104)))⟩,
    ⟨(some 7), none, .o (.v (.mov (.t 105)))⟩])
  (.seq (.reg [⟨(some 107), none, .o (.bsl 3 5 [(.int .i64 (0)), (.int .i64 (0)), (.int .i64 (0)), (.int .i64 (0)), (.int .i64 (0))] [(0, 1, (.c (.int .i64 (3)))), (1, 1, (.c (.int .i64 (-1)))), (2, 1, (.c (.int .i64 (3)))), (3, 1, (.c (.int .i64 (-1)))), (4, 1, (.c (.int .i64 (3))))])⟩,
    ⟨(some 108), none, .o (.call (.c (.fn 34 [])) [(.t 107), (.c (.int .i64 (3))), (.c (.int .i64 (1)))])⟩,
    ⟨(some 106), none, .o (.v (.mov (.t 108)))⟩,
    ⟨(some 109), none, .o (.v (.ext (.t 106) 0))⟩,
    ⟨(some 110), none, .o (.v (.ext (.t 106) 1))⟩,
    ⟨(some 13), none, .o (.v (.mov (.t 109)))⟩,
    ⟨(some 9), none, .o (.v (.mov (.t 110)))⟩])
  (.seq (.reg [⟨(some 112), none, .o (.call (.c (.fn 51 [])) [(.c (.int .i64 (0))), (.c (.int .i64 (1)))])⟩,
    ⟨(some 113), none, .o (.call (.c (.fn 51 [])) [(.c (.int .i64 (5))), (.c (.int .i64 (6)))])⟩,
    ⟨(some 114), none, .o (.call (.c (.fn 51 [])) [(.c (.int .i64 (1))), (.c (.int .i64 (2)))])⟩,
    ⟨(some 115), none, .o (.call (.c (.fn 51 [])) [(.c (.int .i64 (6))), (.c (.int .i64 (7)))])⟩,
    ⟨(some 116), none, .o (.bsl 63 4 [(.int .i64 (0)), (.int .i64 (0)), (.int .i64 (0)), (.int .i64 (0)), (.int .i64 (0)), (.int .i64 (0)), (.int .i64 (0)), (.int .i64 (0))] [(0, 2, (.t 112)), (2, 2, (.t 113)), (4, 2, (.t 114)), (6, 2, (.t 115))])⟩,
    ⟨(some 117), none, .o (.call (.c (.fn 36 [])) [(.t 116)])⟩,
    ⟨(some 111), none, .o (.v (.mov (.t 117)))⟩,
    ⟨(some 118), none, .o (.v (.ext (.t 111) 0))⟩,
    ⟨(some 119), none, .o (.v (.ext (.t 111) 1))⟩,
    ⟨(some 14), none, .o (.v (.mov (.t 118)))⟩,
    ⟨(some 15), none, .o (.v (.mov (.t 119)))⟩])
  (.seq (.reg [⟨(some 120), none, .o (.v (.mov (.t 3)))⟩,
    ⟨(some 121), none, .o (.v (.bin .eql (.t 120) (.c (.int .i64 (0)))))⟩,
    ⟨(some 122), none, .o (.v (.mov (.t 121)))⟩,
    ⟨(some 123), (some (122, true)), .o (.v (.mov (.t 5)))⟩,
    ⟨(some 124), (some (122, true)), .o (.v (.bin .eql (.t 123) (.c (.int .i64 (0)))))⟩,
    ⟨(some 125), none, .o (.v (.pick (.t 122) (.t 124) (.c (.lit (.bool false)))))⟩,
    ⟨(some 126), none, .o (.v (.mov (.t 125)))⟩,
    ⟨(some 127), (some (126, true)), .o (.v (.mov (.t 7)))⟩,
    ⟨(some 128), (some (126, true)), .o (.v (.bin .eql (.t 127) (.c (.int .i64 (0)))))⟩,
    ⟨(some 129), none, .o (.v (.pick (.t 126) (.t 128) (.c (.lit (.bool false)))))⟩,
    ⟨(some 130), none, .o (.v (.mov (.t 129)))⟩,
    ⟨(some 131), (some (130, true)), .o (.v (.mov (.t 9)))⟩,
    ⟨(some 132), (some (130, true)), .o (.v (.bin .eql (.t 131) (.c (.int .i64 (0)))))⟩,
    ⟨(some 133), none, .o (.v (.pick (.t 130) (.t 132) (.c (.lit (.bool false)))))⟩,
    ⟨(some 134), none, .o (.v (.mov (.t 133)))⟩,
    ⟨(some 135), (some (134, true)), .o (.v (.mov (.t 15)))⟩,
    ⟨(some 136), (some (134, true)), .o (.v (.bin .eql (.t 135) (.c (.int .i64 (0)))))⟩,
    ⟨(some 137), none, .o (.v (.pick (.t 134) (.t 136) (.c (.lit (.bool false)))))⟩,
    ⟨(some 138), none, .o (.v (.mov (.t 137)))⟩,
    ⟨(some 139), (some (138, true)), .o (.v (.mov (.t 10)))⟩,
    ⟨(some 140), none, .o (.v (.pick (.t 138) (.t 139) (.c (.lit (.bool false)))))⟩,
    ⟨(some 141), none, .o (.v (.mov (.t 140)))⟩,
    ⟨(some 142), (some (141, true)), .o (.v (.mov (.t 11)))⟩,
    ⟨(some 143), (some (141, true)), .o (.bsl 3 3 [(.int .i64 (0)), (.int .i64 (0)), (.int .i64 (0))] [(0, 1, (.c (.int .i64 (0)))), (1, 1, (.c (.int .i64 (2)))), (2, 1, (.c (.int .i64 (3))))])⟩,
    ⟨(some 144), (some (141, true)), .o (.call (.c (.fn 21 [])) [(.t 142), (.t 143)])⟩,
    ⟨(some 145), none, .o (.v (.pick (.t 141) (.t 144) (.c (.lit (.bool false)))))⟩,
    ⟨(some 146), none, .o (.v (.mov (.t 145)))⟩,
    ⟨(some 147), (some (146, true)), .o (.v (.mov (.t 12)))⟩,
    ⟨(some 148), (some (146, true)), .o (.bsl 3 3 [(.int .i64 (0)), (.int .i64 (0)), (.int .i64 (0))] [(0, 1, (.c (.int .i64 (5)))), (1, 1, (.c (.int .i64 (1)))), (2, 1, (.c (.int .i64 (5))))])⟩,
    ⟨(some 149), (some (146, true)), .o (.call (.c (.fn 21 [])) [(.t 147), (.t 148)])⟩,
    ⟨(some 150), none, .o (.v (.pick (.t 146) (.t 149) (.c (.lit (.bool false)))))⟩,
    ⟨(some 151), none, .o (.v (.mov (.t 150)))⟩,
    ⟨(some 152), (some (151, true)), .o (.v (.mov (.t 13)))⟩,
    ⟨(some 153), (some (151, true)), .o (.v (.bin .eql (.t 152) (.c (.int .i64 (2)))))⟩,
    ⟨(some 154), none, .o (.v (.pick (.t 151) (.t 153) (.c (.lit (.bool false)))))⟩,
    ⟨(some 155), none, .o (.v (.mov (.t 154)))⟩,
    ⟨(some 156), (some (155, true)), .o (.v (.mov (.t 14)))⟩,
    ⟨(some 157), (some (155, true)), .o (.bsl 3 2 [(.int .i64 (0)), (.int .i64 (0))] [(0, 1, (.c (.int .i64 (2)))), (1, 1, (.c (.int .i64 (4))))])⟩,
    ⟨(some 158), (some (155, true)), .o (.call (.c (.fn 21 [])) [(.t 156), (.t 157)])⟩,
    ⟨(some 159), none, .o (.v (.pick (.t 155) (.t 158) (.c (.lit (.bool false)))))⟩,
    ⟨(some 0), none, .o (.v (.mov (.t 159)))⟩])
  .ret))))))))))))
theorem h24 : FdOk Try.prog 24 ⟨g24, [.t 0], 160, [], false⟩ := .of Try.func24 (by simp [Try.f24]) (by kernel_rfl)
def g25 : RC :=
  (.seq (.reg [⟨(some 3), none, .o (.box 36 (.t 0))⟩,
    ⟨(some 6), none, .o (.v (.mov (.c (.lit (.bool false)))))⟩,
    ⟨(some 7), none, .o (.v (.mov (.c (.int .i64 (0)))))⟩])
  (.seq (.seq (.reg [⟨(some 9), none, .o (.v (.load (.t 3) (some 2)))⟩,
    ⟨(some 10), none, .o (.v (.mov (.t 1)))⟩,
    ⟨(some 11), none, .o (.call (.c (.fn 68 [])) [(.t 9), (.t 10)])⟩,
    ⟨(some 8), none, .o (.v (.mov (.t 11)))⟩])
  (.seq (.reg [⟨(some 12), none, .o (.v (.mov (.t 8)))⟩,
    ⟨(some 13), none, .o (.v (.bin .neq (.t 12) (.c (.int .i64 (0)))))⟩])
  (.cond (.t 13)
    (.seq (.reg [⟨(some 14), none, .o (.v (.mov (.t 8)))⟩,
      ⟨(some 6), none, .o (.v (.mov (.c (.lit (.bool false)))))⟩,
      ⟨(some 7), none, .o (.v (.mov (.t 14)))⟩])
    .ret)
    .skip)))
  (.seq (.reg [⟨(some 15), none, .o (.v (.load (.t 3) (some 2)))⟩,
    ⟨(some 16), none, .o (.bld [(.lit (.slice none 0 0)), (.int .i64 (0))] [(0, 2, (.t 15))])⟩,
    ⟨(some 17), none, .o (.v (.mov (.t 2)))⟩,
    ⟨(some 18), none, .o (.call (.c (.fn 69 [])) [(.t 16), (.t 17)])⟩,
    ⟨(some 19), none, .o (.v (.mov (.t 18)))⟩,
    ⟨(some 20), (some (19, true)), .o (.v (.mov (.t 1)))⟩,
    ⟨(some 21), (some (19, true)), .o (.v (.mov (.t 2)))⟩,
    ⟨(some 22), (some (19, true)), .o (.call (.c (.fn 70 [])) [(.t 20), (.t 21)])⟩,
    ⟨(some 23), none, .o (.v (.pick (.t 19) (.t 22) (.c (.lit (.bool false)))))⟩,
    ⟨(some 6), none, .o (.v (.mov (.t 23)))⟩,
    ⟨(some 7), none, .o (.v (.mov (.c (.int .i64 (0)))))⟩])
  .ret)))
theorem h25 : FdOk Try.prog 25 ⟨g25, [.t 6, .t 7], 24, [], false⟩ := .of Try.func25 (by simp [Try.f25]) (by kernel_rfl)
def g27 : RC :=
  (.seq (.reg [⟨(some 2), none, .o (.box 36 (.t 0))⟩,
    ⟨(some 4), none, .o (.v (.mov (.c (.lit (.slice none 0 0)))))⟩,
    ⟨(some 5), none, .o (.v (.mov (.c (.int .i64 (0)))))⟩])
  (.seq (.seq (.reg [⟨(some 10), none, .o (.v (.load (.t 2) (some 2)))⟩,
    ⟨(some 11), none, .o (.v (.mov (.t 1)))⟩,
    ⟨(some 12), none, .o (.call (.c (.fn 68 [])) [(.t 10), (.t 11)])⟩,
    ⟨(some 6), none, .o (.v (.mov (.t 12)))⟩])
  (.seq (.reg [⟨(some 13), none, .o (.v (.mov (.t 6)))⟩,
    ⟨(some 14), none, .o (.v (.bin .neq (.t 13) (.c (.int .i64 (0)))))⟩])
  (.cond (.t 14)
    (.seq (.reg [⟨(some 15), none, .o (.v (.mov (.t 6)))⟩,
      ⟨(some 4), none, .o (.v (.mov (.c (.lit (.slice none 0 0)))))⟩,
      ⟨(some 5), none, .o (.v (.mov (.t 15)))⟩])
    .ret)
    .skip)))
  (.seq (.reg [⟨(some 16), none, .o (.v (.load (.t 2) (some 2)))⟩,
    ⟨(some 17), none, .o (.bld [(.lit (.slice none 0 0)), (.int .i64 (0))] [(0, 2, (.t 16))])⟩,
    ⟨(some 7), none, .o (.new 93 [(.lit (.slice none 0 0)), (.int .i64 (0))])⟩,
    ⟨none, none, .o (.store 2 (.t 7) (.t 17))⟩])
  (.seq (.reg [⟨(some 19), none, .o (.v (.load (.t 7) (some 2)))⟩,
    ⟨(some 20), none, .o (.v (.mov (.t 1)))⟩,
    ⟨(some 21), none, .o (.call (.c (.fn 73 [])) [(.t 19), (.t 20)])⟩,
    ⟨(some 18), none, .o (.v (.mov (.t 21)))⟩,
    ⟨(some 22), none, .o (.v (.ext (.t 18) 0))⟩,
    ⟨(some 23), none, .o (.v (.ext (.t 18) 1))⟩,
    ⟨(some 8), none, .o (.new 98 (List.replicate 72 (.int .i64 (0))))⟩,
    ⟨none, none, .o (.store 72 (.t 8) (.t 22))⟩,
    ⟨(some 9), none, .o (.v (.mov (.t 23)))⟩])
  (.seq (.seq (.reg [⟨(some 24), none, .o (.v (.mov (.t 9)))⟩,
    ⟨(some 25), none, .o (.v (.not (.t 24)))⟩])
  (.cond (.t 25)
    (.seq (.reg [⟨(some 4), none, .o (.v (.mov (.c (.lit (.slice none 0 0)))))⟩,
      ⟨(some 5), none, .o (.v (.mov (.c (.int .i64 (4)))))⟩])
    .ret)
    .skip))
  (.seq (.reg [⟨(some 26), none, .o (.v (.load (.t 7) (some 2)))⟩,
    ⟨(some 27), none, .o (.v (.load (.t 8) (some 72)))⟩,
    ⟨(some 28), none, .o (.call (.c (.fn 74 [])) [(.t 26), (.t 27)])⟩,
    ⟨(some 4), none, .o (.v (.mov (.t 28)))⟩,
    ⟨(some 5), none, .o (.v (.mov (.c (.int .i64 (0)))))⟩])
  .ret))))))
theorem h27 : FdOk Try.prog 27 ⟨g27, [.t 4, .t 5], 29, [], false⟩ := .of Try.func27 (by simp [Try.f27]) (by kernel_rfl)
def g30 : RC :=
  (.seq (.reg [⟨(some 2), none, .o (.box 36 (.t 0))⟩,
    ⟨(some 4), none, .o (.v (.mov (.c (.lit (.slice none 0 0)))))⟩,
    ⟨(some 5), none, .o (.v (.mov (.c (.int .i64 (0)))))⟩])
  (.seq (.seq (.reg [⟨(some 10), none, .o (.v (.load (.t 2) (some 2)))⟩,
    ⟨(some 11), none, .o (.v (.mov (.t 1)))⟩,
    ⟨(some 12), none, .o (.call (.c (.fn 68 [])) [(.t 10), (.t 11)])⟩,
    ⟨(some 6), none, .o (.v (.mov (.t 12)))⟩])
  (.seq (.reg [⟨(some 13), none, .o (.v (.mov (.t 6)))⟩,
    ⟨(some 14), none, .o (.v (.bin .neq (.t 13) (.c (.int .i64 (0)))))⟩])
  (.cond (.t 14)
    (.seq (.reg [⟨(some 15), none, .o (.v (.mov (.t 6)))⟩,
      ⟨(some 4), none, .o (.v (.mov (.c (.lit (.slice none 0 0)))))⟩,
      ⟨(some 5), none, .o (.v (.mov (.t 15)))⟩])
    .ret)
    .skip)))
  (.seq (.reg [⟨(some 16), none, .o (.v (.load (.t 2) (some 2)))⟩,
    ⟨(some 17), none, .o (.bld [(.lit (.slice none 0 0)), (.int .i64 (0))] [(0, 2, (.t 16))])⟩,
    ⟨(some 7), none, .o (.new 93 [(.lit (.slice none 0 0)), (.int .i64 (0))])⟩,
    ⟨none, none, .o (.store 2 (.t 7) (.t 17))⟩])
  (.seq (.seq (.reg [⟨(some 19), none, .o (.v (.load (.t 7) (some 2)))⟩,
    ⟨(some 20), none, .o (.v (.mov (.t 1)))⟩,
    ⟨(some 21), none, .o (.call (.c (.fn 73 [])) [(.t 19), (.t 20)])⟩,
    ⟨(some 18), none, .o (.v (.mov (.t 21)))⟩,
    ⟨(some 22), none, .o (.v (.ext (.t 18) 0))⟩,
    ⟨(some 23), none, .o (.v (.ext (.t 18) 1))⟩,
    ⟨(some 8), none, .o (.new 98 (List.replicate 72 (.int .i64 (0))))⟩,
    ⟨none, none, .o (.store 72 (.t 8) (.t 22))⟩,
    ⟨(some 9), none, .o (.v (.mov (.t 23)))⟩])
  (.seq (.reg [⟨(some 24), none, .o (.v (.mov (.t 9)))⟩])
  (.cond (.t 24)
    (.seq (.reg [⟨(some 4), none, .o (.v (.mov (.c (.lit (.slice none 0 0)))))⟩,
      ⟨(some 5), none, .o (.v (.mov (.c (.int .i64 (4)))))⟩])
    .ret)
    .skip)))
  (.seq (.reg [⟨(some 25), none, .o (.v (.load (.t 7) (some 2)))⟩,
    ⟨(some 26), none, .o (.v (.mov (.t 1)))⟩,
    ⟨(some 27), none, .o (.call (.c (.fn 78 [])) [(.t 25), (.t 26)])⟩,
    ⟨(some 4), none, .o (.v (.mov (.t 27)))⟩,
    ⟨(some 5), none, .o (.v (.mov (.c (.int .i64 (0)))))⟩])
  .ret)))))
theorem h30 : FdOk Try.prog 30 ⟨g30, [.t 4, .t 5], 28, [], false⟩ := .of Try.func30 (by simp [Try.f30]) (by kernel_rfl)
def g32 : RC :=
  (.seq (.reg [⟨(some 4), none, .o (.v (.mov (.c (.lit (.slice none 0 0)))))⟩,
    ⟨(some 5), none, .o (.v (.mov (.c (.int .i64 (0)))))⟩])
  (.seq (.seq (.reg [⟨(some 6), none, .o (.v (.mov (.t 0)))⟩,
    ⟨(some 7), none, .o (.call (.c (.fn 79 [])) [(.t 6)])⟩,
    ⟨(some 8), none, .o (.v (.not (.t 7)))⟩,
    ⟨(some 9), none, .o (.v (.mov (.t 8)))⟩,
    ⟨(some 10), (some (9, false)), .o (.v (.mov (.t 1)))⟩,
    ⟨(some 11), (some (9, false)), .o (.v (.mov (.t 0)))⟩,
    ⟨(some 12), (some (9, false)), .o (.v (.len (.t 11)))⟩,
    ⟨(some 13), (some (9, false)), .o (.call (.c (.fn 60 [])) [(.t 10), (.c (.int .i64 (1))), (.t 12)])⟩,
    ⟨(some 14), (some (9, false)), .o (.v (.not (.t 13)))⟩,
    ⟨(some 15), none, .o (.v (.pick (.t 9) (.c (.lit (.bool true))) (.t 14)))⟩])
  (.cond (.t 15)
    (.seq (.reg [⟨(some 4), none, .o (.v (.mov (.c (.lit (.slice none 0 0)))))⟩,
      ⟨(some 5), none, .o (.v (.mov (.c (.int .i64 (25)))))⟩])
    .ret)
    .skip))
  (.seq (.reg [⟨(some 16), none, .o (.v (.mov (.t 1)))⟩,
    ⟨(some 17), none, .o (.v (.mov (.t 0)))⟩,
    ⟨(some 18), none, .o (.call (.c (.fn 80 [])) [(.t 16), (.t 17)])⟩,
    ⟨(some 4), none, .o (.v (.mov (.t 18)))⟩,
    ⟨(some 5), none, .o (.v (.mov (.c (.int .i64 (0)))))⟩])
  .ret)))
theorem h32 : FdOk Try.prog 32 ⟨g32, [.t 4, .t 5], 19, [], false⟩ := .of Try.func32 (by simp [Try.f32]) (by kernel_rfl)
def g34 : RC :=
  (.seq (.reg [⟨(some 6), none, .o (.v (.mov (.c (.int .i64 (0)))))⟩,
    ⟨(some 7), none, .o (.v (.mov (.c (.int .i64 (0)))))⟩])
  (.seq (.seq (.reg [⟨(some 10), none, .o (.v (.mov (.t 0)))⟩,
    ⟨(some 11), none, .o (.call (.c (.fn 79 [])) [(.t 10)])⟩,
    ⟨(some 12), none, .o (.v (.not (.t 11)))⟩,
    ⟨(some 13), none, .o (.v (.mov (.t 12)))⟩,
    ⟨(some 14), (some (13, false)), .o (.v (.mov (.t 1)))⟩,
    ⟨(some 15), (some (13, false)), .o (.v (.mov (.t 0)))⟩,
    ⟨(some 16), (some (13, false)), .o (.v (.len (.t 15)))⟩,
    ⟨(some 17), (some (13, false)), .o (.call (.c (.fn 60 [])) [(.t 14), (.c (.int .i64 (1))), (.t 16)])⟩,
    ⟨(some 18), (some (13, false)), .o (.v (.not (.t 17)))⟩,
    ⟨(some 19), none, .o (.v (.pick (.t 13) (.c (.lit (.bool true))) (.t 18)))⟩])
  (.cond (.t 19)
    (.seq (.reg [⟨(some 6), none, .o (.v (.mov (.c (.int .i64 (0)))))⟩,
      ⟨(some 7), none, .o (.v (.mov (.c (.int .i64 (25)))))⟩])
    .ret)
    .skip))
  (.seq (.seq (.reg [⟨(some 20), none, .o (.v (.mov (.t 2)))⟩,
    ⟨(some 21), none, .o (.call (.c (.fn 60 [])) [(.t 20), (.c (.int .i64 (0))), (.c (.int .i64 (2000000)))])⟩,
    ⟨(some 22), none, .o (.v (.not (.t 21)))⟩])
  (.cond (.t 22)
    (.seq (.reg [⟨(some 6), none, .o (.v (.mov (.c (.int .i64 (0)))))⟩,
      ⟨(some 7), none, .o (.v (.mov (.c (.int .i64 (7)))))⟩])
    .ret)
    .skip))
  (.seq (.reg [⟨(some 24), none, .o (.v (.mov (.t 1)))⟩,
    ⟨(some 25), none, .o (.v (.mov (.t 0)))⟩,
    ⟨(some 26), none, .o (.v (.mov (.t 2)))⟩,
    ⟨(some 27), none, .o (.call (.c (.fn 83 [])) [(.t 24), (.t 25), (.t 26)])⟩,
    ⟨(some 23), none, .o (.v (.mov (.t 27)))⟩,
    ⟨(some 28), none, .o (.v (.ext (.t 23) 0))⟩,
    ⟨(some 29), none, .o (.v (.ext (.t 23) 1))⟩,
    ⟨(some 8), none, .o (.v (.mov (.t 28)))⟩,
    ⟨(some 9), none, .o (.v (.mov (.t 29)))⟩])
  (.seq (.seq (.reg [⟨(some 30), none, .o (.v (.mov (.t 9)))⟩,
    ⟨(some 31), none, .o (.v (.not (.t 30)))⟩])
  (.cond (.t 31)
    (.seq (.reg [⟨(some 6), none, .o (.v (.mov (.c (.int .i64 (0)))))⟩,
      ⟨(some 7), none, .o (.v (.mov (.c (.int .i64 (4)))))⟩])
    .ret)
    .skip))
  (.seq (.reg [⟨(some 32), none, .o (.v (.mov (.t 8)))⟩,
    ⟨(some 6), none, .o (.v (.mov (.t 32)))⟩,
    ⟨(some 7), none, .o (.v (.mov (.c (.int .i64 (0)))))⟩])
  .ret))))))
theorem h34 : FdOk Try.prog 34 ⟨g34, [.t 6, .t 7], 33, [], false⟩ := .of Try.func34 (by simp [Try.f34]) (by kernel_rfl)
def g36 : RC :=
  (.seq (.reg [⟨(some 2), none, .o (.v (.mov (.c (.lit (.slice none 0 0)))))⟩,
    ⟨(some 3), none, .o (.v (.mov (.c (.int .i64 (0)))))⟩])
  (.seq (.seq (.reg [⟨(some 6), none, .o (.v (.mov (.t 0)))⟩,
    ⟨(some 7), none, .o (.call (.c (.fn 85 [])) [(.t 6)])⟩,
    ⟨(some 8), none, .o (.v (.not (.t 7)))⟩])
  (.cond (.t 8)
    (.seq (.reg [⟨(some 2), none, .o (.v (.mov (.c (.lit (.slice none 0 0)))))⟩,
      ⟨(some 3), none, .o (.v (.mov (.c (.int .i64 (25)))))⟩])
    .ret)
    .skip))
  (.seq (.reg [⟨(some 4), none, .o (.v (.mov (.c (.lit (.slice none 0 0)))))⟩])
  (.seq (.seq (.reg [⟨(some 9), none, .o (.v (.mov (.t 0)))⟩,
    ⟨(some 10), none, .o (.v (.len (.t 9)))⟩,
    ⟨(some 11), none, .o (.v (.mov (.c (.int .i64 (0)))))⟩])
  (.block 0 (.loop
    (.seq (.reg [⟨(some 12), none, .o (.v (.bin .lss (.t 11) (.t 10)))⟩])
    (.seq (.cond (.t 12)
      .skip
      (.exit 0))
    (.seq (.block 1 (.seq (.reg [⟨(some 13), none, .o (.v (.mov (.t 11)))⟩,
      ⟨(some 5), none, .o (.v (.mov (.t 13)))⟩])
    (.seq (.reg [⟨(some 14), none, .o (.v (.mov (.t 0)))⟩,
      ⟨(some 15), none, .o (.v (.mov (.t 5)))⟩,
      ⟨(some 16), none, .o (.v (.bin .add (.t 15) (.c (.int .i64 (1)))))⟩,
      ⟨(some 17), none, .o (.call (.c (.fn 86 [])) [(.t 14), (.t 16)])⟩])
    (.cond (.t 17)
      (.reg [⟨(some 18), none, .o (.v (.mov (.t 4)))⟩,
        ⟨(some 19), none, .o (.v (.mov (.t 5)))⟩,
        ⟨(some 20), none, .o (.v (.bin .add (.t 19) (.c (.int .i64 (1)))))⟩,
        ⟨(some 21), none, .o (.bsl 3 1 [(.int .i64 (0))] [(0, 1, (.t 20))])⟩,
        ⟨(some 22), none, .o (.app 3 1 8 (.t 18) (.t 21))⟩,
        ⟨(some 4), none, .o (.v (.mov (.t 22)))⟩])
      .skip))))
    (.reg [⟨(some 23), none, .o (.v (.bin .add (.t 11) (.c (.int .i64 (1)))))⟩,
      ⟨(some 11), none, .o (.v (.mov (.t 23)))⟩])))))))
  (.seq (.reg [⟨(some 24), none, .o (.v (.mov (.t 4)))⟩,
    ⟨(some 25), none, .o (.v (.mov (.t 4)))⟩,
    ⟨(some 26), none, .o (.v (.len (.t 25)))⟩,
    ⟨(some 27), none, .o (.v (.mov (.t 4)))⟩,
    ⟨(some 28), none, .o (.v (.len (.t 27)))⟩,
    ⟨(some 29), none, .o (.slc (.t 24) none (some (.t 26)) (some (.t 28)) 1)⟩,
    ⟨(some 2), none, .o (.v (.mov (.t 29)))⟩,
    ⟨(some 3), none, .o (.v (.mov (.c (.int .i64 (0)))))⟩])
  .ret)))))
theorem h36 : FdOk Try.prog 36 ⟨g36, [.t 2, .t 3], 30, [], false⟩ := .of Try.func36 (by simp [Try.f36]) (by kernel_rfl)
def g45 : RC :=
  (.seq (.reg [⟨(some 4), none, .o (.v (.mov (.c (.lit (.bool false)))))⟩])
  (.seq (.reg [⟨(some 7), none, .o (.v (.mov (.t 0)))⟩,
    ⟨(some 8), none, .o (.v (.len (.t 7)))⟩,
    ⟨(some 9), none, .o (.v (.mov (.t 1)))⟩,
    ⟨(some 10), none, .o (.v (.len (.t 9)))⟩,
    ⟨(some 11), none, .o (.v (.bin .eql (.t 8) (.t 10)))⟩,
    ⟨(some 5), none, .o (.v (.mov (.t 11)))⟩])
  (.seq (.seq (.reg [⟨(some 6), none, .o (.v (.mov (.c (.int .i64 (0)))))⟩])
  (.block 0 (.loop
    (.seq (.seq (.reg [⟨(some 12), none, .o (.v (.mov (.t 5)))⟩,
      ⟨(some 13), none, .o (.v (.mov (.t 12)))⟩,
      ⟨(some 14), (some (13, true)), .o (.v (.mov (.t 6)))⟩,
      ⟨(some 15), (some (13, true)), .o (.v (.mov (.t 0)))⟩,
      ⟨(some 16), (some (13, true)), .o (.v (.len (.t 15)))⟩,
      ⟨(some 17), (some (13, true)), .o (.v (.bin .lss (.t 14) (.t 16)))⟩,
      ⟨(some 18), none, .o (.v (.pick (.t 13) (.t 17) (.c (.lit (.bool false)))))⟩])
    (.cond (.t 18)
      .skip
      (.exit 0)))
    (.seq (.block 1 (.drw [⟨[], 0, 0, [(⟨(some 21), none, .o (.v (.mov (.t 0)))⟩, .val 0 []),
      (⟨(some 22), none, .o (.v (.mov (.t 6)))⟩, .val 0 []),
      (⟨(some 23), none, .o (.v (.ixa (.t 21) (.t 22) 1))⟩, .val 0 []),
      (⟨(some 24), none, .o (.v (.load (.t 23) none))⟩, .val 0 []),
      (⟨(some 25), none, .o (.v (.mov (.t 1)))⟩, .val 0 []),
      (⟨(some 26), none, .o (.v (.mov (.t 6)))⟩, .val 0 []),
      (⟨(some 27), none, .o (.v (.ixa (.t 25) (.t 26) 1))⟩, .val 0 []),
      (⟨(some 28), none, .o (.v (.load (.t 27) none))⟩, .val 0 [])],
      [],
      [⟨(some 29), none, .o (.call (.c (.fn 77 [])) [(.t 24), (.t 28)])⟩,
      ⟨(some 5), none, .o (.v (.mov (.t 29)))⟩], none⟩]))
    (.reg [⟨(some 19), none, .o (.v (.mov (.t 6)))⟩,
      ⟨(some 20), none, .o (.v (.bin .add (.t 19) (.c (.int .i64 (1)))))⟩,
      ⟨(some 6), none, .o (.v (.mov (.t 20)))⟩]))))))
  (.seq (.reg [⟨(some 30), none, .o (.v (.mov (.t 5)))⟩,
    ⟨(some 4), none, .o (.v (.mov (.t 30)))⟩])
  .ret))))
theorem h45 : FdOk Try.prog 45 ⟨g45, [.t 4], 31, [], false⟩ := .of Try.func45 (by simp [Try.f45]) (by kernel_rfl)
def g51 : RC :=
  (.seq (.reg [⟨(some 4), none, .o (.new 63 [(.int .i64 (0)), (.int .i64 (0))])⟩])
  (.seq (.reg [⟨(some 5), none, .o (.v (.mov (.t 0)))⟩,
    ⟨(some 6), none, .o (.v (.mov (.t 1)))⟩,
    ⟨(some 7), none, .o (.bld [(.int .i64 (0)), (.int .i64 (0))] [(0, 1, (.t 5)), (1, 1, (.t 6))])⟩,
    ⟨none, none, .o (.store 2 (.t 4) (.t 7))⟩])
  .ret))
theorem h51 : FdOk Try.prog 51 ⟨g51, [.c 4 (some 2)], 8, [], false⟩ := .of Try.func51 (by simp [Try.f51]) (by kernel_rfl)
def g52 : RC :=
  (.seq (.reg [⟨(some 0), none, .o (.new 24 [(.lit (.slice none 0 0)), (.int .i64 (0)), (.int .i64 (0))])⟩])
  (.seq (.reg [⟨(some 1), none, .o (.bsl 3 4 [(.int .i64 (0)), (.int .i64 (0)), (.int .i64 (0)), (.int .i64 (0))] [(0, 1, (.c (.int .i64 (20)))), (1, 1, (.c (.int .i64 (30)))), (2, 1, (.c (.int .i64 (40)))), (3, 1, (.c (.int .i64 (50))))])⟩,
    ⟨(some 2), none, .o (.bld [(.lit (.slice none 0 0)), (.int .i64 (0)), (.int .i64 (0))] [(0, 1, (.t 1)), (1, 1, (.c (.int .i64 (1)))), (2, 1, (.c (.int .i64 (4))))])⟩,
    ⟨none, none, .o (.store 3 (.t 0) (.t 2))⟩])
  .ret))
theorem h52 : FdOk Try.prog 52 ⟨g52, [.c 0 (some 3)], 3, [], false⟩ := .of Try.func52 (by simp [Try.f52]) (by kernel_rfl)
def g53 : RC :=
  (.seq (.reg [⟨(some 0), none, .o (.new 36 [(.lit (.slice none 0 0)), (.int .i64 (0))])⟩])
  (.seq (.reg [⟨(some 1), none, .o (.bsl 3 2 [(.int .i64 (0)), (.int .i64 (0))] [(0, 1, (.c (.int .i64 (1)))), (1, 1, (.c (.int .i64 (2))))])⟩,
    ⟨(some 2), none, .o (.bld [(.lit (.slice none 0 0)), (.int .i64 (0))] [(0, 1, (.t 1)), (1, 1, (.c (.int .i64 (100))))])⟩,
    ⟨none, none, .o (.store 2 (.t 0) (.t 2))⟩])
  .ret))
theorem h53 : FdOk Try.prog 53 ⟨g53, [.c 0 (some 2)], 3, [], false⟩ := .of Try.func53 (by simp [Try.f53]) (by kernel_rfl)
def g54 : RC :=
  (.seq (.reg [⟨(some 2), none, .o (.v (.mov (.c (.lit (.slice none 0 0)))))⟩])
  (.seq (.reg [⟨(some 3), none, .o (.bld [(.int .i64 (0)), (.int .i64 (0)), (.int .i64 (0)), (.int .i64 (0)), (.int .i64 (0)), (.int .i64 (0))] [(0, 1, (.c (.int .i64 (0)))), (1, 1, (.c (.int .i64 (1)))), (2, 1, (.c (.int .i64 (1)))), (3, 1, (.c (.int .i64 (1)))), (4, 1, (.c (.int .i64 (10)))), (5, 1, (.c (.int .i64 (2))))])⟩,
    ⟨(some 4), none, .o (.bld [(.int .i64 (0)), (.int .i64 (0)), (.int .i64 (0)), (.int .i64 (0)), (.int .i64 (0)), (.int .i64 (0))] [(0, 1, (.c (.int .i64 (1)))), (1, 1, (.c (.int .i64 (2)))), (2, 1, (.c (.int .i64 (0)))), (3, 1, (.c (.int .i64 (1)))), (4, 1, (.c (.int .i64 (5)))), (5, 1, (.c (.int .i64 (1))))])⟩,
    ⟨(some 5), none, .o (.bld [(.int .i64 (0)), (.int .i64 (0)), (.int .i64 (0)), (.int .i64 (0)), (.int .i64 (0)), (.int .i64 (0))] [(0, 1, (.c (.int .i64 (0)))), (1, 1, (.c (.int .i64 (1)))), (4, 1, (.c (.int .i64 (20)))), (5, 1, (.c (.int .i64 (5))))])⟩,
    ⟨(some 6), none, .o (.bld [(.int .i64 (0)), (.int .i64 (0)), (.int .i64 (0)), (.int .i64 (0)), (.int .i64 (0)), (.int .i64 (0))] [(0, 1, (.c (.int .i64 (1)))), (1, 1, (.c (.int .i64 (1)))), (2, 1, (.c (.int .i64 (1)))), (5, 1, (.c (.int .i64 (1))))])⟩,
    ⟨(some 7), none, .o (.bsl 65 4 (List.replicate 24 (.int .i64 (0))) [(0, 6, (.t 3)), (6, 6, (.t 4)), (12, 6, (.t 5)), (18, 6, (.t 6))])⟩,
    ⟨(some 8), none, .o (.v (.mov (.t 0)))⟩,
    ⟨(some 9), none, .o (.slc (.t 7) none (some (.t 8)) none 6)⟩,
    ⟨(some 2), none, .o (.v (.mov (.t 9)))⟩])
  .ret))
theorem h54 : FdOk Try.prog 54 ⟨g54, [.t 2], 10, [], false⟩ := .of Try.func54 (by simp [Try.f54]) (by kernel_rfl)
def g55 : RC :=
  (.seq (.reg [⟨(some 2), none, .o (.box 78 (.t 0))⟩,
    ⟨(some 4), none, .o (.v (.mov (.c (.lit (.bool false)))))⟩])
  (.seq (.seq (.reg [⟨(some 7), none, .o (.v (.mov (.t 1)))⟩,
    ⟨(some 8), none, .o (.v (.len (.t 7)))⟩,
    ⟨(some 9), none, .o (.v (.bin .neq (.t 8) (.c (.int .i64 (2)))))⟩,
    ⟨(some 10), none, .o (.v (.mov (.t 9)))⟩,
    ⟨(some 11), (some (10, true)), .o (.v (.mov (.t 1)))⟩,
    ⟨(some 12), (some (10, true)), .o (.v (.len (.t 11)))⟩,
    ⟨(some 13), (some (10, true)), .o (.v (.bin .neq (.t 12) (.c (.int .i64 (4)))))⟩,
    ⟨(some 14), none, .o (.v (.pick (.t 10) (.t 13) (.c (.lit (.bool false)))))⟩])
  (.cond (.t 14)
    (.seq (.reg [⟨(some 4), none, .o (.v (.mov (.c (.lit (.bool false)))))⟩])
    .ret)
    .skip))
  (.seq (.seq (.reg [⟨(some 15), none, .o (.v (.mov (.t 1)))⟩,
    ⟨(some 16), none, .o (.v (.len (.t 15)))⟩,
    ⟨(some 17), none, .o (.v (.mov (.c (.int .i64 (0)))))⟩])
  (.block 0 (.loop
    (.seq (.reg [⟨(some 18), none, .o (.v (.bin .lss (.t 17) (.t 16)))⟩])
    (.seq (.cond (.t 18)
      .skip
      (.exit 0))
    (.seq (.block 1 (.seq (.reg [⟨(some 19), none, .o (.v (.mov (.t 17)))⟩,
      ⟨(some 20), none, .o (.v (.ixa (.t 15) (.t 17) 1))⟩,
      ⟨(some 21), none, .o (.v (.load (.t 20) none))⟩,
      ⟨(some 5), none, .o (.v (.mov (.t 19)))⟩,
      ⟨(some 6), none, .o (.v (.mov (.t 21)))⟩])
    (.seq (.reg [⟨(some 22), none, .o (.v (.mov (.t 6)))⟩,
      ⟨(some 23), none, .o (.v (.off (.t 2) 0))⟩,
      ⟨(some 24), none, .o (.v (.off (.t 23) 0))⟩,
      ⟨(some 25), none, .o (.v (.load (.t 24) none))⟩,
      ⟨(some 26), none, .o (.v (.len (.t 25)))⟩,
      ⟨(some 27), none, .o (.v (.bin .sub (.t 26) (.c (.int .i64 (1)))))⟩,
      ⟨(some 28), none, .o (.call (.c (.fn 60 [])) [(.t 22), (.c (.int .i64 (0))), (.t 27)])⟩,
      ⟨(some 29), none, .o (.v (.not (.t 28)))⟩,
      ⟨(some 30), none, .o (.v (.mov (.t 29)))⟩,
      ⟨(some 31), (some (30, false)), .o (.v (.mov (.t 1)))⟩,
      ⟨(some 32), (some (30, false)), .o (.v (.mov (.t 5)))⟩,
      ⟨(some 33), (some (30, false)), .o (.slc (.t 31) none (some (.t 32)) none 1)⟩,
      ⟨(some 34), (some (30, false)), .o (.v (.mov (.t 6)))⟩,
      ⟨(some 35), (some (30, false)), .o (.call (.c (.fn 89 [])) [(.t 33), (.t 34)])⟩,
      ⟨(some 36), none, .o (.v (.pick (.t 30) (.c (.lit (.bool true))) (.t 35)))⟩])
    (.cond (.t 36)
      (.seq (.reg [⟨(some 4), none, .o (.v (.mov (.c (.lit (.bool false)))))⟩])
      .ret)
      .skip))))
    (.reg [⟨(some 37), none, .o (.v (.bin .add (.t 17) (.c (.int .i64 (1)))))⟩,
      ⟨(some 17), none, .o (.v (.mov (.t 37)))⟩])))))))
  (.seq (.reg [⟨(some 4), none, .o (.v (.mov (.c (.lit (.bool true)))))⟩])
  .ret))))
theorem h55 : FdOk Try.prog 55 ⟨g55, [.t 4], 38, [], false⟩ := .of Try.func55 (by simp [Try.f55]) (by kernel_rfl)
def g56 : RC :=
  (.seq (.reg [⟨(some 2), none, .o (.box 78 (.t 0))⟩,
    ⟨(some 4), none, .o (.v (.mov (.c (.int .i64 (0)))))⟩,
    ⟨(some 5), none, .o (.v (.mov (.c (.int .i64 (0)))))⟩])
  (.seq (.reg [⟨(some 8), none, .o (.v (.load (.t 2) (some 3)))⟩,
    ⟨(some 9), none, .o (.v (.mov (.t 1)))⟩,
    ⟨(some 10), none, .o (.call (.c (.fn 90 [])) [(.t 8), (.t 9)])⟩,
    ⟨(some 6), none, .o (.new 87 [(.int .i64 (0)), (.int .i64 (0))])⟩,
    ⟨none, none, .o (.store 2 (.t 6) (.t 10))⟩])
  (.seq (.reg [⟨(some 11), none, .o (.v (.off (.t 2) 0))⟩,
    ⟨(some 12), none, .o (.v (.off (.t 11) 1))⟩,
    ⟨(some 13), none, .o (.v (.load (.t 12) none))⟩,
    ⟨(some 14), none, .o (.v (.off (.t 6) 0))⟩,
    ⟨(some 15), none, .o (.v (.load (.t 14) none))⟩,
    ⟨(some 16), none, .o (.v (.bin .mul (.t 13) (.t 15)))⟩,
    ⟨(some 17), none, .o (.v (.off (.t 2) 0))⟩,
    ⟨(some 18), none, .o (.v (.off (.t 17) 2))⟩,
    ⟨(some 19), none, .o (.v (.load (.t 18) none))⟩,
    ⟨(some 20), none, .o (.v (.off (.t 6) 1))⟩,
    ⟨(some 21), none, .o (.v (.load (.t 20) none))⟩,
    ⟨(some 22), none, .o (.v (.bin .mul (.t 19) (.t 21)))⟩,
    ⟨(some 23), none, .o (.call (.c (.fn 91 [])) [(.t 16), (.t 22)])⟩,
    ⟨(some 7), none, .o (.new 87 [(.int .i64 (0)), (.int .i64 (0))])⟩,
    ⟨none, none, .o (.store 2 (.t 7) (.t 23))⟩])
  (.seq (.drw [⟨[], 0, 0, [(⟨(some 24), none, .o (.v (.off (.t 7) 0))⟩, .val 0 []),
    (⟨(some 25), none, .o (.v (.load (.t 24) none))⟩, .val 0 []),
    (⟨(some 26), none, .o (.v (.off (.t 7) 1))⟩, .val 0 []),
    (⟨(some 27), none, .o (.v (.load (.t 26) none))⟩, .val 0 []),
    (⟨(some 4), none, .o (.v (.mov (.t 25)))⟩, .val 0 [])],
    [],
    [⟨(some 5), none, .o (.v (.mov (.t 27)))⟩], none⟩])
  .ret))))
theorem h56 : FdOk Try.prog 56 ⟨g56, [.t 4, .t 5], 28, [], false⟩ := .of Try.func56 (by simp [Try.f56]) (by kernel_rfl)
def g60 : RC :=
  (.seq (.reg [⟨(some 6), none, .o (.v (.mov (.c (.lit (.bool false)))))⟩])
  (.seq (.reg [⟨(some 7), none, .o (.v (.mov (.t 1)))⟩,
    ⟨(some 8), none, .o (.v (.mov (.t 0)))⟩,
    ⟨(some 9), none, .o (.v (.bin .leq (.t 7) (.t 8)))⟩,
    ⟨(some 10), none, .o (.v (.mov (.t 9)))⟩,
    ⟨(some 11), (some (10, true)), .o (.v (.mov (.t 0)))⟩,
    ⟨(some 12), (some (10, true)), .o (.v (.mov (.t 2)))⟩,
    ⟨(some 13), (some (10, true)), .o (.v (.bin .leq (.t 11) (.t 12)))⟩,
    ⟨(some 14), none, .o (.v (.pick (.t 10) (.t 13) (.c (.lit (.bool false)))))⟩,
    ⟨(some 6), none, .o (.v (.mov (.t 14)))⟩])
  .ret))
theorem h60 : FdOk Try.prog 60 ⟨g60, [.t 6], 15, [], false⟩ := .of Try.func60 (by simp [Try.f60]) (by kernel_rfl)
def g61 : RC :=
  (.seq (.reg [⟨(some 4), none, .o (.v (.mov (.c (.lit (.bool false)))))⟩])
  (.seq (.reg [⟨(some 5), none, .o (.v (.mov (.t 0)))⟩,
    ⟨(some 6), none, .o (.call (.c (.fn 60 [])) [(.t 5), (.c (.int .i64 (1))), (.c (.int .i64 (1000)))])⟩,
    ⟨(some 7), none, .o (.v (.mov (.t 6)))⟩,
    ⟨(some 8), (some (7, true)), .o (.v (.mov (.t 1)))⟩,
    ⟨(some 9), (some (7, true)), .o (.call (.c (.fn 60 [])) [(.t 8), (.c (.int .i64 (1))), (.c (.int .i64 (1000)))])⟩,
    ⟨(some 10), none, .o (.v (.pick (.t 7) (.t 9) (.c (.lit (.bool false)))))⟩,
    ⟨(some 4), none, .o (.v (.mov (.t 10)))⟩])
  .ret))
theorem h61 : FdOk Try.prog 61 ⟨g61, [.t 4], 11, [], false⟩ := .of Try.func61 (by simp [Try.f61]) (by kernel_rfl)
def g62 : RC :=
  (.seq (.reg [⟨(some 3), none, .o (.box 24 (.t 0))⟩,
    ⟨(some 6), none, .o (.v (.mov (.c (.int .i64 (0)))))⟩])
  (.seq (.seq (.reg [⟨(some 8), none, .o (.v (.load (.t 3) (some 3)))⟩,
    ⟨(some 9), none, .o (.call (.c (.fn 17 [])) [(.t 8)])⟩,
    ⟨(some 7), none, .o (.v (.mov (.t 9)))⟩])
  (.seq (.reg [⟨(some 10), none, .o (.v (.mov (.t 7)))⟩,
    ⟨(some 11), none, .o (.v (.bin .neq (.t 10) (.c (.int .i64 (0)))))⟩])
  (.cond (.t 11)
    (.seq (.reg [⟨(some 12), none, .o (.v (.mov (.t 7)))⟩,
      ⟨(some 6), none, .o (.v (.mov (.t 12)))⟩])
    .ret)
    .skip)))
  (.seq (.seq (.reg [⟨(some 13), none, .o (.v (.mov (.t 1)))⟩,
    ⟨(some 14), none, .o (.v (.mov (.t 2)))⟩,
    ⟨(some 15), none, .o (.call (.c (.fn 61 [])) [(.t 13), (.t 14)])⟩,
    ⟨(some 16), none, .o (.v (.not (.t 15)))⟩])
  (.cond (.t 16)
    (.seq (.reg [⟨(some 6), none, .o (.v (.mov (.c (.int .i64 (21)))))⟩])
    .ret)
    .skip))
  (.seq (.reg [⟨(some 6), none, .o (.v (.mov (.c (.int .i64 (0)))))⟩])
  .ret))))
theorem h62 : FdOk Try.prog 62 ⟨g62, [.t 6], 17, [], false⟩ := .of Try.func62 (by simp [Try.f62]) (by kernel_rfl)
def g63 : RC :=
  (.seq (.reg [⟨(some 2), none, .o (.box 78 (.t 0))⟩,
    ⟨(some 3), none, .o (.box 87 (.t 1))⟩,
    ⟨(some 4), none, .o (.new 22 [(.lit (.slice none 0 0))])⟩])
  (.seq (.seq (.reg [⟨(some 6), none, .o (.v (.load (.t 2) (some 3)))⟩,
    ⟨(some 7), none, .o (.call (.c (.fn 92 [])) [(.t 6)])⟩])
  (.block 0 (.rng (.t 7) [8]
    (.reg [⟨(some 5), none, .o (.v (.mov (.t 8)))⟩])
    (.block 1 (.seq (.drw [⟨[], 0, 1, [(⟨(some 9), none, .o (.v (.load (.t 2) (some 3)))⟩, .val 0 []),
      (⟨(some 10), none, .o (.v (.mov (.t 5)))⟩, .val 0 []),
      (⟨(some 11), none, .o (.call (.c (.fn 90 [])) [(.t 9), (.t 10)])⟩, .eff 0 []),
      (⟨(some 12), none, .o (.v (.load (.t 3) (some 2)))⟩, .val 0 [])],
      [],
      [⟨(some 13), none, .o (.v (.eqs [(some .i64), (some .i64)] false (.t 11) (.t 12)))⟩], none⟩])
    (.cond (.t 13)
      (.seq (.reg [⟨(some 14), none, .o (.v (.mov (.t 5)))⟩,
        ⟨none, none, .o (.store 1 (.t 4) (.t 14))⟩])
      .ret)
      .skip))))))
  (.seq (.reg [⟨none, none, .o (.store 1 (.t 4) (.c (.lit (.slice none 0 0))))⟩])
  .ret)))
theorem h63 : FdOk Try.prog 63 ⟨g63, [.c 4 none], 15, [], false⟩ := .of Try.func63 (by simp [Try.f63]) (by kernel_rfl)
def g64 : RC :=
  (.seq (.reg [⟨(some 3), none, .o (.box 78 (.t 0))⟩,
    ⟨(some 6), none, .o (.new 87 [(.int .i64 (0)), (.int .i64 (0))])⟩])
  (.seq (.reg [⟨(some 7), none, .o (.v (.mov (.t 1)))⟩,
    ⟨(some 8), none, .o (.v (.off (.t 3) 0))⟩,
    ⟨(some 9), none, .o (.v (.off (.t 8) 2))⟩,
    ⟨(some 10), none, .o (.v (.load (.t 9) none))⟩,
    ⟨(some 11), none, .o (.v (.bin .mul (.t 7) (.t 10)))⟩,
    ⟨(some 12), none, .o (.v (.mov (.t 2)))⟩,
    ⟨(some 13), none, .o (.v (.off (.t 3) 0))⟩,
    ⟨(some 14), none, .o (.v (.off (.t 13) 1))⟩,
    ⟨(some 15), none, .o (.v (.load (.t 14) none))⟩,
    ⟨(some 16), none, .o (.v (.bin .mul (.t 12) (.t 15)))⟩,
    ⟨(some 17), none, .o (.call (.c (.fn 91 [])) [(.t 11), (.t 16)])⟩,
    ⟨none, none, .o (.store 2 (.t 6) (.t 17))⟩])
  .ret))
theorem h64 : FdOk Try.prog 64 ⟨g64, [.c 6 (some 2)], 18, [], false⟩ := .of Try.func64 (by simp [Try.f64]) (by kernel_rfl)
def g67 : RC :=
  (.seq (.reg [⟨(some 2), none, .o (.box 78 (.t 0))⟩,
    ⟨(some 3), none, .o (.box 87 (.t 1))⟩,
    ⟨(some 4), none, .o (.v (.mov (.c (.lit (.slice none 0 0)))))⟩])
  (.seq (.reg [⟨(some 5), none, .o (.new 120 [(.lit (.slice none 0 0))])⟩])
  (.seq (.reg [⟨(some 11), none, .mkm⟩,
    ⟨(some 6), none, .o (.new 121 [(.lit (.map none))])⟩,
    ⟨none, none, .o (.store 1 (.t 6) (.t 11))⟩])
  (.seq (.seq (.reg [⟨(some 12), none, .o (.v (.load (.t 2) (some 3)))⟩,
    ⟨(some 13), none, .o (.call (.c (.fn 92 [])) [(.t 12)])⟩])
  (.block 0 (.rng (.t 13) [14]
    (.reg [⟨(some 7), none, .o (.v (.mov (.t 14)))⟩])
    (.block 1 (.seq (.reg [⟨(some 15), none, .o (.v (.load (.t 2) (some 3)))⟩,
      ⟨(some 16), none, .o (.v (.mov (.t 7)))⟩,
      ⟨(some 17), none, .o (.call (.c (.fn 90 [])) [(.t 15), (.t 16)])⟩,
      ⟨(some 8), none, .o (.new 87 [(.int .i64 (0)), (.int .i64 (0))])⟩,
      ⟨none, none, .o (.store 2 (.t 8) (.t 17))⟩])
    (.seq (.reg [⟨(some 19), none, .o (.v (.load (.t 6) none))⟩,
      ⟨(some 20), none, .o (.v (.load (.t 8) (some 2)))⟩,
      ⟨(some 21), none, .lku (.w [(some .i64), (some .i64)]) (.lit (.slice none 0 0)) true (.t 19) (.t 20)⟩,
      ⟨(some 18), none, .o (.v (.mov (.t 21)))⟩,
      ⟨(some 22), none, .o (.v (.ext (.t 18) 0))⟩,
      ⟨(some 23), none, .o (.v (.ext (.t 18) 1))⟩,
      ⟨(some 9), none, .o (.v (.mov (.t 22)))⟩,
      ⟨(some 10), none, .o (.v (.mov (.t 23)))⟩])
    (.seq (.reg [⟨(some 24), none, .o (.v (.mov (.t 10)))⟩,
      ⟨(some 25), none, .o (.v (.not (.t 24)))⟩])
    (.cond (.t 25)
      (.seq (.reg [⟨(some 26), none, .o (.v (.load (.t 6) none))⟩,
        ⟨(some 27), none, .o (.v (.load (.t 8) (some 2)))⟩,
        ⟨(some 28), none, .o (.v (.mov (.t 7)))⟩,
        ⟨none, none, .upd (.w [(some .i64), (some .i64)]) (.t 26) (.t 27) (.t 28)⟩])
      (.reg [⟨(some 29), none, .o (.v (.load (.t 5) none))⟩,
        ⟨(some 30), none, .o (.v (.load (.t 8) (some 2)))⟩,
        ⟨(some 31), none, .o (.bsl 87 1 [(.int .i64 (0)), (.int .i64 (0))] [(0, 2, (.t 30))])⟩,
        ⟨(some 32), none, .o (.app 87 2 16 (.t 29) (.t 31))⟩,
        ⟨none, none, .o (.store 1 (.t 5) (.t 32))⟩]))
      .skip))))))))
  (.seq (.drw [⟨[6, 3, 5], 0, 1, [(⟨(some 33), none, .o (.v (.load (.t 6) none))⟩, .val 0 []),
    (⟨(some 34), none, .o (.v (.load (.t 3) (some 2)))⟩, .val 0 []),
    (⟨(some 35), none, .o (.v (.mkmv 95 [(.t 34)] []))⟩, .val 0 []),
    (⟨(some 36), none, .o (.v (.load (.t 5) none))⟩, .val 0 []),
    (⟨(some 37), none, .o (.v (.ixa (.t 36) (.c (.int .i64 (0))) 2))⟩, .val 0 []),
    (⟨(some 38), none, .o (.v (.load (.t 37) (some 2)))⟩, .val 0 []),
    (⟨(some 39), none, .o (.v (.load (.t 5) none))⟩, .val 0 []),
    (⟨(some 40), none, .o (.slc (.t 39) (some (.c (.int .i64 (1)))) none none 2)⟩, .val 0 []),
    (⟨(some 41), none, .o (.call (.c (.fn 94 [])) [(.t 35), (.t 38), (.t 40)])⟩, .eff 0 [])],
    [],
    [⟨(some 42), none, .lku (.w [(some .i64), (some .i64)]) (.lit (.slice none 0 0)) false (.t 33) (.t 41)⟩,
    ⟨(some 4), none, .o (.v (.mov (.t 42)))⟩], none⟩])
  .ret)))))
theorem h67 : FdOk Try.prog 67 ⟨g67, [.t 4], 43, [], false⟩ := .of Try.func67 (by simp [Try.f67]) (by kernel_rfl)
def g68 : RC :=
  (.seq (.reg [⟨(some 2), none, .o (.box 36 (.t 0))⟩,
    ⟨(some 4), none, .o (.v (.mov (.c (.int .i64 (0)))))⟩])
  (.seq (.reg [⟨(some 6), none, .o (.v (.load (.t 2) (some 2)))⟩,
    ⟨(some 7), none, .o (.bld [(.lit (.slice none 0 0)), (.int .i64 (0))] [(0, 2, (.t 6))])⟩,
    ⟨(some 5), none, .o (.new 93 [(.lit (.slice none 0 0)), (.int .i64 (0))])⟩,
    ⟨none, none, .o (.store 2 (.t 5) (.t 7))⟩])
  (.seq (.seq (.reg [⟨(some 8), none, .o (.v (.load (.t 5) (some 2)))⟩,
    ⟨(some 9), none, .o (.call (.c (.fn 96 [])) [(.t 8)])⟩,
    ⟨(some 10), none, .o (.v (.not (.t 9)))⟩])
  (.cond (.t 10)
    (.seq (.reg [⟨(some 4), none, .o (.v (.mov (.c (.int .i64 (23)))))⟩])
    .ret)
    .skip))
  (.seq (.seq (.reg [⟨(some 11), none, .o (.v (.load (.t 5) (some 2)))⟩,
    ⟨(some 12), none, .o (.v (.mov (.t 1)))⟩,
    ⟨(some 13), none, .o (.call (.c (.fn 97 [])) [(.t 11), (.t 12)])⟩,
    ⟨(some 14), none, .o (.v (.not (.t 13)))⟩])
  (.cond (.t 14)
    (.seq (.reg [⟨(some 4), none, .o (.v (.mov (.c (.int .i64 (24)))))⟩])
    .ret)
    .skip))
  (.seq (.reg [⟨(some 4), none, .o (.v (.mov (.c (.int .i64 (0)))))⟩])
  .ret)))))
theorem h68 : FdOk Try.prog 68 ⟨g68, [.t 4], 15, [], false⟩ := .of Try.func68 (by simp [Try.f68]) (by kernel_rfl)
def g69 : RC :=
  (.seq (.reg [⟨(some 2), none, .o (.box 93 (.t 0))⟩,
    ⟨(some 4), none, .o (.v (.mov (.c (.lit (.bool false)))))⟩])
  (.seq (.seq (.reg [⟨(some 9), none, .o (.v (.mov (.t 1)))⟩,
    ⟨(some 10), none, .o (.v (.len (.t 9)))⟩,
    ⟨(some 11), none, .o (.v (.off (.t 2) 0))⟩,
    ⟨(some 12), none, .o (.v (.off (.t 11) 0))⟩,
    ⟨(some 13), none, .o (.v (.load (.t 12) none))⟩,
    ⟨(some 14), none, .o (.v (.len (.t 13)))⟩,
    ⟨(some 15), none, .o (.v (.bin .neq (.t 10) (.t 14)))⟩])
  (.cond (.t 15)
    (.seq (.reg [⟨(some 4), none, .o (.v (.mov (.c (.lit (.bool false)))))⟩])
    .ret)
    .skip))
  (.seq (.seq (.reg [⟨(some 16), none, .o (.v (.mov (.t 1)))⟩,
    ⟨(some 17), none, .o (.v (.len (.t 16)))⟩,
    ⟨(some 18), none, .o (.v (.mov (.c (.int .i64 (0)))))⟩])
  (.block 0 (.loop
    (.seq (.reg [⟨(some 19), none, .o (.v (.bin .lss (.t 18) (.t 17)))⟩])
    (.seq (.cond (.t 19)
      .skip
      (.exit 0))
    (.seq (.block 1 (.seq (.reg [⟨(some 20), none, .o (.v (.mov (.t 18)))⟩,
      ⟨(some 21), none, .o (.v (.ixa (.t 16) (.t 18) 1))⟩,
      ⟨(some 22), none, .o (.v (.load (.t 21) none))⟩,
      ⟨(some 5), none, .o (.v (.mov (.t 20)))⟩,
      ⟨(some 6), none, .o (.v (.mov (.t 22)))⟩])
    (.seq (.seq (.reg [⟨(some 23), none, .o (.v (.mov (.t 6)))⟩,
      ⟨(some 24), none, .o (.v (.len (.t 23)))⟩,
      ⟨(some 25), none, .o (.v (.off (.t 2) 0))⟩,
      ⟨(some 26), none, .o (.v (.off (.t 25) 0))⟩,
      ⟨(some 27), none, .o (.v (.load (.t 26) none))⟩,
      ⟨(some 28), none, .o (.v (.mov (.t 5)))⟩,
      ⟨(some 29), none, .o (.v (.ixa (.t 27) (.t 28) 1))⟩,
      ⟨(some 30), none, .o (.v (.load (.t 29) none))⟩,
      ⟨(some 31), none, .o (.v (.bin .add (.t 30) (.c (.int .i64 (1)))))⟩,
      ⟨(some 32), none, .o (.v (.bin .neq (.t 24) (.t 31)))⟩,
      ⟨(some 33), none, .o (.v (.mov (.t 32)))⟩,
      ⟨(some 34), (some (33, false)), .o (.v (.mov (.t 6)))⟩,
      ⟨(some 35), (some (33, false)), .o (.v (.ixa (.t 34) (.c (.int .i64 (0))) 1))⟩,
      ⟨(some 36), (some (33, false)), .o (.v (.load (.t 35) none))⟩,
      ⟨(some 37), (some (33, false)), .o (.v (.bin .neq (.t 36) (.c (.int .i64 (0)))))⟩,
      ⟨(some 38), none, .o (.v (.pick (.t 33) (.c (.lit (.bool true))) (.t 37)))⟩])
    (.cond (.t 38)
      (.seq (.reg [⟨(some 4), none, .o (.v (.mov (.c (.lit (.bool false)))))⟩])
      .ret)
      .skip))
    (.seq (.reg [⟨(some 39), none, .o (.v (.mov (.t 6)))⟩,
      ⟨(some 40), none, .o (.v (.len (.t 39)))⟩,
      ⟨(some 41), none, .o (.v (.mov (.c (.int .i64 (0)))))⟩])
    (.block 2 (.loop
      (.seq (.reg [⟨(some 42), none, .o (.v (.bin .lss (.t 41) (.t 40)))⟩])
      (.seq (.cond (.t 42)
        .skip
        (.exit 2))
      (.seq (.block 3 (.seq (.reg [⟨(some 43), none, .o (.v (.ixa (.t 39) (.t 41) 1))⟩,
        ⟨(some 44), none, .o (.v (.load (.t 43) none))⟩,
        ⟨(some 8), none, .o (.v (.mov (.t 44)))⟩])
      (.seq (.reg [⟨(some 45), none, .o (.v (.mov (.t 8)))⟩,
        ⟨(some 46), none, .o (.v (.off (.t 2) 0))⟩,
        ⟨(some 47), none, .o (.v (.off (.t 46) 1))⟩,
        ⟨(some 48), none, .o (.v (.load (.t 47) none))⟩,
        ⟨(some 49), none, .o (.v (.neg (.t 48)))⟩,
        ⟨(some 50), none, .o (.v (.off (.t 2) 0))⟩,
        ⟨(some 51), none, .o (.v (.off (.t 50) 1))⟩,
        ⟨(some 52), none, .o (.v (.load (.t 51) none))⟩,
        ⟨(some 53), none, .o (.call (.c (.fn 60 [])) [(.t 45), (.t 49), (.t 52)])⟩,
        ⟨(some 54), none, .o (.v (.not (.t 53)))⟩])
      (.cond (.t 54)
        (.seq (.reg [⟨(some 4), none, .o (.v (.mov (.c (.lit (.bool false)))))⟩])
        .ret)
        .skip))))
      (.reg [⟨(some 55), none, .o (.v (.bin .add (.t 41) (.c (.int .i64 (1)))))⟩,
        ⟨(some 41), none, .o (.v (.mov (.t 55)))⟩]))))))))))
    (.reg [⟨(some 56), none, .o (.v (.bin .add (.t 18) (.c (.int .i64 (1)))))⟩,
      ⟨(some 18), none, .o (.v (.mov (.t 56)))⟩])))))))
  (.seq (.reg [⟨(some 4), none, .o (.v (.mov (.c (.lit (.bool true)))))⟩])
  .ret))))
theorem h69 : FdOk Try.prog 69 ⟨g69, [.t 4], 57, [], false⟩ := .of Try.func69 (by simp [Try.f69]) (by kernel_rfl)
def g70 : RC :=
  (.seq (.reg [⟨(some 4), none, .o (.v (.mov (.c (.lit (.bool false)))))⟩])
  (.seq (.seq (.reg [⟨(some 7), none, .o (.v (.mov (.t 0)))⟩,
    ⟨(some 8), none, .o (.v (.len (.t 7)))⟩,
    ⟨(some 9), none, .o (.v (.mov (.c (.int .i64 (0)))))⟩])
  (.block 0 (.loop
    (.seq (.reg [⟨(some 10), none, .o (.v (.bin .lss (.t 9) (.t 8)))⟩])
    (.seq (.cond (.t 10)
      .skip
      (.exit 0))
    (.seq (.block 1 (.seq (.reg [⟨(some 11), none, .o (.v (.ixa (.t 7) (.t 9) 6))⟩,
      ⟨(some 12), none, .o (.v (.load (.t 11) (some 6)))⟩,
      ⟨(some 6), none, .o (.new 65 [(.int .i64 (0)), (.int .i64 (0)), (.int .i64 (0)), (.int .i64 (0)), (.int .i64 (0)), (.int .i64 (0))])⟩,
      ⟨none, none, .o (.store 6 (.t 6) (.t 12))⟩])
    (.seq (.drw [⟨[], 0, 0, [(⟨(some 13), none, .o (.v (.mov (.t 1)))⟩, .val 0 []),
      (⟨(some 14), none, .o (.v (.off (.t 6) 0))⟩, .val 0 []),
      (⟨(some 15), none, .o (.v (.load (.t 14) none))⟩, .val 0 []),
      (⟨(some 16), none, .o (.v (.ixa (.t 13) (.t 15) 1))⟩, .val 0 []),
      (⟨(some 17), none, .o (.v (.load (.t 16) none))⟩, .val 0 []),
      (⟨(some 18), none, .o (.v (.off (.t 6) 1))⟩, .val 0 []),
      (⟨(some 19), none, .o (.v (.load (.t 18) none))⟩, .val 0 []),
      (⟨(some 20), none, .o (.v (.ixa (.t 17) (.t 19) 1))⟩, .val 0 []),
      (⟨(some 21), none, .o (.v (.load (.t 20) none))⟩, .val 0 []),
      (⟨(some 22), none, .o (.v (.mov (.t 1)))⟩, .val 0 []),
      (⟨(some 23), none, .o (.v (.off (.t 6) 2))⟩, .val 0 []),
      (⟨(some 24), none, .o (.v (.load (.t 23) none))⟩, .val 0 []),
      (⟨(some 25), none, .o (.v (.ixa (.t 22) (.t 24) 1))⟩, .val 0 []),
      (⟨(some 26), none, .o (.v (.load (.t 25) none))⟩, .val 0 []),
      (⟨(some 27), none, .o (.v (.off (.t 6) 3))⟩, .val 0 []),
      (⟨(some 28), none, .o (.v (.load (.t 27) none))⟩, .val 0 []),
      (⟨(some 29), none, .o (.v (.ixa (.t 26) (.t 28) 1))⟩, .val 0 []),
      (⟨(some 30), none, .o (.v (.load (.t 29) none))⟩, .val 0 []),
      (⟨(some 31), none, .o (.v (.bin .sub (.t 21) (.t 30)))⟩, .val 0 []),
      (⟨(some 32), none, .o (.v (.off (.t 6) 4))⟩, .val 0 []),
      (⟨(some 33), none, .o (.v (.load (.t 32) none))⟩, .val 0 []),
      (⟨(some 34), none, .o (.v (.bin .sub (.t 31) (.t 33)))⟩, .val 0 []),
      (⟨(some 35), none, .o (.v (.off (.t 6) 5))⟩, .val 0 []),
      (⟨(some 36), none, .o (.v (.load (.t 35) none))⟩, .val 0 []),
      (⟨(some 37), none, .o (.v (.neg (.t 36)))⟩, .val 0 []),
      (⟨(some 38), none, .o (.v (.off (.t 6) 5))⟩, .val 0 []),
      (⟨(some 39), none, .o (.v (.load (.t 38) none))⟩, .val 0 [])],
      [],
      [⟨(some 40), none, .o (.call (.c (.fn 60 [])) [(.t 34), (.t 37), (.t 39)])⟩,
      ⟨(some 41), none, .o (.v (.not (.t 40)))⟩], none⟩])
    (.cond (.t 41)
      (.seq (.reg [⟨(some 4), none, .o (.v (.mov (.c (.lit (.bool false)))))⟩])
      .ret)
      .skip))))
    (.reg [⟨(some 42), none, .o (.v (.bin .add (.t 9) (.c (.int .i64 (1)))))⟩,
      ⟨(some 9), none, .o (.v (.mov (.t 42)))⟩])))))))
  (.seq (.reg [⟨(some 4), none, .o (.v (.mov (.c (.lit (.bool true)))))⟩])
  .ret)))
theorem h70 : FdOk Try.prog 70 ⟨g70, [.t 4], 43, [], false⟩ := .of Try.func70 (by simp [Try.f70]) (by kernel_rfl)
def g73 : RC :=
  (.seq (.reg [⟨(some 2), none, .o (.box 93 (.t 0))⟩,
    ⟨(some 4), none, .o (.new 98 (List.replicate 72 (.int .i64 (0))))⟩,
    ⟨(some 5), none, .o (.v (.mov (.c (.lit (.bool false)))))⟩])
  (.scp (.seq (.reg [⟨(some 9), none, .o (.v (.load (.t 2) (some 2)))⟩,
    ⟨(some 10), none, .o (.call (.c (.fn 98 [])) [(.t 9)])⟩,
    ⟨none, none, .o (.store 72 (.t 4) (.t 10))⟩])
  (.seq .skip
  (.seq (.seq (.reg [⟨(some 11), none, .o (.v (.mov (.c (.int .i64 (0)))))⟩])
  (.block 0 (.loop
    (.seq (.reg [⟨(some 12), none, .o (.v (.bin .lss (.t 11) (.c (.int .i64 (36)))))⟩])
    (.seq (.cond (.t 12)
      .skip
      (.exit 0))
    (.seq (.block 1 (.seq (.reg [⟨(some 13), none, .o (.v (.load (.t 4) (some 72)))⟩,
      ⟨(some 6), none, .o (.new 98 (List.replicate 72 (.int .i64 (0))))⟩,
      ⟨none, none, .o (.store 72 (.t 6) (.t 13))⟩])
    (.seq (.seq (.reg [⟨(some 14), none, .o (.v (.mov (.t 1)))⟩,
      ⟨(some 15), none, .o (.v (.len (.t 14)))⟩,
      ⟨(some 16), none, .o (.v (.mov (.c (.int .i64 (0)))))⟩])
    (.block 2 (.loop
      (.seq (.reg [⟨(some 17), none, .o (.v (.bin .lss (.t 16) (.t 15)))⟩])
      (.seq (.cond (.t 17)
        .skip
        (.exit 2))
      (.seq (.block 3 (.seq (.reg [⟨(some 18), none, .o (.v (.ixa (.t 14) (.t 16) 6))⟩,
        ⟨(some 19), none, .o (.v (.load (.t 18) (some 6)))⟩,
        ⟨(some 8), none, .o (.new 65 [(.int .i64 (0)), (.int .i64 (0)), (.int .i64 (0)), (.int .i64 (0)), (.int .i64 (0)), (.int .i64 (0))])⟩,
        ⟨none, none, .o (.store 6 (.t 8) (.t 19))⟩])
      (.seq (.reg [⟨(some 20), none, .o (.v (.load (.t 8) (some 6)))⟩,
        ⟨(some 21), none, .o (.call (.c (.fn 99 [])) [(.t 4), (.t 20)])⟩,
        ⟨(some 22), none, .o (.v (.not (.t 21)))⟩])
      (.cond (.t 22)
        (.exit 0)
        .skip))))
      (.reg [⟨(some 23), none, .o (.v (.bin .add (.t 16) (.c (.int .i64 (1)))))⟩,
        ⟨(some 16), none, .o (.v (.mov (.t 23)))⟩])))))))
    (.seq (.reg [⟨(some 24), none, .o (.v (.load (.t 4) (some 72)))⟩,
      ⟨(some 25), none, .o (.v (.load (.t 6) (some 72)))⟩,
      ⟨(some 26), none, .o (.v (.eqs (List.replicate 72 (some .i64)) false (.t 24) (.t 25)))⟩])
    (.cond (.t 26)
      (.seq (.reg [⟨(some 27), none, .o (.v (.load (.t 4) (some 72)))⟩,
        ⟨none, none, .o (.store 72 (.t 4) (.t 27))⟩,
        ⟨(some 5), none, .o (.v (.mov (.c (.lit (.bool true)))))⟩])
      .ret)
      .skip)))))
    (.reg [⟨(some 28), none, .o (.v (.bin .add (.t 11) (.c (.int .i64 (1)))))⟩,
      ⟨(some 11), none, .o (.v (.mov (.t 28)))⟩])))))))
  (.seq (.reg [⟨(some 29), none, .o (.bld (List.replicate 72 (.int .i64 (0))) [])⟩,
    ⟨none, none, .o (.store 72 (.t 4) (.t 29))⟩,
    ⟨(some 5), none, .o (.v (.mov (.c (.lit (.bool false)))))⟩])
  .ret))))))
theorem h73 : FdOk Try.prog 73 ⟨g73, [.c 4 (some 72), .t 5], 30, [], false⟩ := .of Try.func73 (by simp [Try.f73]) (by kernel_rfl)
def g74 : RC :=
  (.seq (.reg [⟨(some 2), none, .o (.box 93 (.t 0))⟩,
    ⟨(some 3), none, .o (.box 98 (.t 1))⟩,
    ⟨(some 4), none, .o (.v (.mov (.c (.lit (.slice none 0 0)))))⟩])
  (.seq (.reg [⟨(some 5), none, .o (.v (.mov (.c (.lit (.slice none 0 0)))))⟩])
  (.seq (.seq (.reg [⟨(some 10), none, .o (.v (.off (.t 2) 0))⟩,
    ⟨(some 11), none, .o (.v (.off (.t 10) 0))⟩,
    ⟨(some 12), none, .o (.v (.load (.t 11) none))⟩,
    ⟨(some 13), none, .o (.v (.len (.t 12)))⟩,
    ⟨(some 14), none, .o (.v (.mov (.c (.int .i64 (0)))))⟩])
  (.block 0 (.loop
    (.seq (.reg [⟨(some 15), none, .o (.v (.bin .lss (.t 14) (.t 13)))⟩])
    (.seq (.cond (.t 15)
      .skip
      (.exit 0))
    (.seq (.block 1 (.seq (.reg [⟨(some 16), none, .o (.v (.mov (.t 14)))⟩,
      ⟨(some 17), none, .o (.v (.ixa (.t 12) (.t 14) 1))⟩,
      ⟨(some 18), none, .o (.v (.load (.t 17) none))⟩,
      ⟨(some 6), none, .o (.v (.mov (.t 16)))⟩,
      ⟨(some 7), none, .o (.v (.mov (.t 18)))⟩])
    (.seq (.reg [⟨(some 8), none, .o (.v (.mov (.c (.lit (.slice none 0 0)))))⟩])
    (.seq (.seq (.reg [⟨(some 19), none, .o (.v (.mov (.t 7)))⟩,
      ⟨(some 20), none, .o (.v (.bin .add (.t 19) (.c (.int .i64 (1)))))⟩,
      ⟨(some 21), none, .o (.v (.mov (.c (.int .i64 (0)))))⟩])
    (.block 2 (.loop
      (.seq (.reg [⟨(some 22), none, .o (.v (.bin .lss (.t 21) (.t 20)))⟩])
      (.seq (.cond (.t 22)
        .skip
        (.exit 2))
      (.seq (.block 3 (.seq (.reg [⟨(some 23), none, .o (.v (.mov (.t 21)))⟩,
        ⟨(some 9), none, .o (.v (.mov (.t 23)))⟩])
      (.reg [⟨(some 24), none, .o (.v (.mov (.t 8)))⟩,
        ⟨(some 25), none, .o (.v (.mov (.t 6)))⟩,
        ⟨(some 26), none, .o (.v (.mov (.t 9)))⟩,
        ⟨(some 27), none, .o (.call (.c (.fn 100 [])) [(.t 25), (.t 26)])⟩,
        ⟨(some 28), none, .o (.v (.ixarr (.t 3) (.t 27) 36 2))⟩,
        ⟨(some 29), none, .o (.v (.load (.t 28) (some 2)))⟩,
        ⟨(some 30), none, .o (.bsl 63 1 [(.int .i64 (0)), (.int .i64 (0))] [(0, 2, (.t 29))])⟩,
        ⟨(some 31), none, .o (.app 63 2 16 (.t 24) (.t 30))⟩,
        ⟨(some 8), none, .o (.v (.mov (.t 31)))⟩])))
      (.reg [⟨(some 32), none, .o (.v (.bin .add (.t 21) (.c (.int .i64 (1)))))⟩,
        ⟨(some 21), none, .o (.v (.mov (.t 32)))⟩])))))))
    (.reg [⟨(some 33), none, .o (.v (.mov (.t 5)))⟩,
      ⟨(some 34), none, .o (.v (.mov (.t 8)))⟩,
      ⟨(some 35), none, .o (.v (.mov (.t 8)))⟩,
      ⟨(some 36), none, .o (.v (.len (.t 35)))⟩,
      ⟨(some 37), none, .o (.v (.mov (.t 8)))⟩,
      ⟨(some 38), none, .o (.v (.len (.t 37)))⟩,
      ⟨(some 39), none, .o (.slc (.t 34) none (some (.t 36)) (some (.t 38)) 2)⟩,
      ⟨(some 40), none, .o (.bsl 51 1 [(.lit (.slice none 0 0))] [(0, 1, (.t 39))])⟩,
      ⟨(some 41), none, .o (.app 51 1 24 (.t 33) (.t 40))⟩,
      ⟨(some 5), none, .o (.v (.mov (.t 41)))⟩])))))
    (.reg [⟨(some 42), none, .o (.v (.bin .add (.t 14) (.c (.int .i64 (1)))))⟩,
      ⟨(some 14), none, .o (.v (.mov (.t 42)))⟩])))))))
  (.seq (.reg [⟨(some 43), none, .o (.v (.mov (.t 5)))⟩,
    ⟨(some 44), none, .o (.v (.mov (.t 5)))⟩,
    ⟨(some 45), none, .o (.v (.len (.t 44)))⟩,
    ⟨(some 46), none, .o (.v (.mov (.t 5)))⟩,
    ⟨(some 47), none, .o (.v (.len (.t 46)))⟩,
    ⟨(some 48), none, .o (.slc (.t 43) none (some (.t 45)) (some (.t 47)) 1)⟩,
    ⟨(some 4), none, .o (.v (.mov (.t 48)))⟩])
  .ret))))
theorem h74 : FdOk Try.prog 74 ⟨g74, [.t 4], 49, [], false⟩ := .of Try.func74 (by simp [Try.f74]) (by kernel_rfl)
def g77 : RC :=
  (.seq (.reg [⟨(some 4), none, .o (.v (.mov (.c (.lit (.bool false)))))⟩])
  (.seq (.seq (.reg [⟨(some 6), none, .o (.v (.mov (.t 0)))⟩,
    ⟨(some 7), none, .o (.v (.len (.t 6)))⟩,
    ⟨(some 8), none, .o (.v (.mov (.t 1)))⟩,
    ⟨(some 9), none, .o (.v (.len (.t 8)))⟩,
    ⟨(some 10), none, .o (.v (.bin .neq (.t 7) (.t 9)))⟩])
  (.cond (.t 10)
    (.seq (.reg [⟨(some 4), none, .o (.v (.mov (.c (.lit (.bool false)))))⟩])
    .ret)
    .skip))
  (.seq (.seq (.reg [⟨(some 5), none, .o (.v (.mov (.c (.int .i64 (0)))))⟩])
  (.block 0 (.loop
    (.seq (.seq (.reg [⟨(some 11), none, .o (.v (.mov (.t 5)))⟩,
      ⟨(some 12), none, .o (.v (.mov (.t 0)))⟩,
      ⟨(some 13), none, .o (.v (.len (.t 12)))⟩,
      ⟨(some 14), none, .o (.v (.bin .lss (.t 11) (.t 13)))⟩])
    (.cond (.t 14)
      .skip
      (.exit 0)))
    (.seq (.block 1 (.seq (.drw [⟨[], 0, 0, [(⟨(some 17), none, .o (.v (.mov (.t 0)))⟩, .val 0 []),
      (⟨(some 18), none, .o (.v (.mov (.t 5)))⟩, .val 0 []),
      (⟨(some 19), none, .o (.v (.ixa (.t 17) (.t 18) 2))⟩, .val 0 []),
      (⟨(some 20), none, .o (.v (.load (.t 19) (some 2)))⟩, .val 0 []),
      (⟨(some 21), none, .o (.v (.mov (.t 1)))⟩, .val 0 []),
      (⟨(some 22), none, .o (.v (.mov (.t 5)))⟩, .val 0 []),
      (⟨(some 23), none, .o (.v (.ixa (.t 21) (.t 22) 2))⟩, .val 0 []),
      (⟨(some 24), none, .o (.v (.load (.t 23) (some 2)))⟩, .val 0 [])],
      [],
      [⟨(some 25), none, .o (.v (.eqs [(some .i64), (some .i64)] true (.t 20) (.t 24)))⟩], none⟩])
    (.cond (.t 25)
      (.seq (.reg [⟨(some 4), none, .o (.v (.mov (.c (.lit (.bool false)))))⟩])
      .ret)
      .skip)))
    (.reg [⟨(some 15), none, .o (.v (.mov (.t 5)))⟩,
      ⟨(some 16), none, .o (.v (.bin .add (.t 15) (.c (.int .i64 (1)))))⟩,
      ⟨(some 5), none, .o (.v (.mov (.t 16)))⟩]))))))
  (.seq (.reg [⟨(some 4), none, .o (.v (.mov (.c (.lit (.bool true)))))⟩])
  .ret))))
theorem h77 : FdOk Try.prog 77 ⟨g77, [.t 4], 26, [], false⟩ := .of Try.func77 (by simp [Try.f77]) (by kernel_rfl)
def g78 : RC :=
  (.seq (.reg [⟨(some 2), none, .o (.box 93 (.t 0))⟩,
    ⟨(some 3), none, .o (.box 37 (.t 1))⟩,
    ⟨(some 4), none, .o (.v (.mov (.c (.lit (.slice none 0 0)))))⟩])
  (.seq (.reg [⟨(some 8), none, .o (.v (.mkfn 101 [(.t 2), (.t 3)]))⟩,
    ⟨(some 5), none, .o (.v (.mov (.t 8)))⟩])
  (.seq (.reg [⟨(some 6), none, .o (.v (.mov (.c (.lit (.slice none 0 0)))))⟩])
  (.seq (.seq (.reg [⟨(some 9), none, .o (.v (.load (.t 3) none))⟩,
    ⟨(some 10), none, .o (.v (.len (.t 9)))⟩,
    ⟨(some 11), none, .o (.v (.mov (.c (.int .i64 (0)))))⟩])
  (.block 0 (.loop
    (.seq (.reg [⟨(some 12), none, .o (.v (.bin .lss (.t 11) (.t 10)))⟩])
    (.seq (.cond (.t 12)
      .skip
      (.exit 0))
    (.seq (.block 1 (.seq (.reg [⟨(some 13), none, .o (.v (.mov (.t 11)))⟩,
      ⟨(some 7), none, .o (.v (.mov (.t 13)))⟩])
    (.seq (.reg [⟨(some 14), none, .o (.v (.mov (.t 5)))⟩,
      ⟨(some 15), none, .o (.v (.mov (.t 7)))⟩,
      ⟨(some 16), none, .o (.call (.t 14) [(.t 15)])⟩])
    (.cond (.t 16)
      (.reg [⟨(some 17), none, .o (.v (.mov (.t 6)))⟩,
        ⟨(some 18), none, .o (.v (.mov (.t 7)))⟩,
        ⟨(some 19), none, .o (.bsl 3 1 [(.int .i64 (0))] [(0, 1, (.t 18))])⟩,
        ⟨(some 20), none, .o (.app 3 1 8 (.t 17) (.t 19))⟩,
        ⟨(some 6), none, .o (.v (.mov (.t 20)))⟩])
      .skip))))
    (.reg [⟨(some 21), none, .o (.v (.bin .add (.t 11) (.c (.int .i64 (1)))))⟩,
      ⟨(some 11), none, .o (.v (.mov (.t 21)))⟩])))))))
  (.seq (.reg [⟨(some 22), none, .o (.v (.mov (.t 6)))⟩,
    ⟨(some 23), none, .o (.v (.mov (.t 6)))⟩,
    ⟨(some 24), none, .o (.v (.len (.t 23)))⟩,
    ⟨(some 25), none, .o (.v (.mov (.t 6)))⟩,
    ⟨(some 26), none, .o (.v (.len (.t 25)))⟩,
    ⟨(some 27), none, .o (.slc (.t 22) none (some (.t 24)) (some (.t 26)) 1)⟩,
    ⟨(some 4), none, .o (.v (.mov (.t 27)))⟩])
  .ret)))))
theorem h78 : FdOk Try.prog 78 ⟨g78, [.t 4], 28, [], false⟩ := .of Try.func78 (by simp [Try.f78]) (by kernel_rfl)
def g79 : RC :=
  (.seq (.reg [⟨(some 2), none, .o (.v (.mov (.c (.lit (.bool false)))))⟩])
  (.seq (.seq (.reg [⟨(some 5), none, .o (.v (.mov (.t 0)))⟩,
    ⟨(some 6), none, .o (.v (.len (.t 5)))⟩,
    ⟨(some 7), none, .o (.call (.c (.fn 60 [])) [(.t 6), (.c (.int .i64 (1))), (.c (.int .i64 (64)))])⟩,
    ⟨(some 8), none, .o (.v (.not (.t 7)))⟩])
  (.cond (.t 8)
    (.seq (.reg [⟨(some 2), none, .o (.v (.mov (.c (.lit (.bool false)))))⟩])
    .ret)
    .skip))
  (.seq (.seq (.reg [⟨(some 9), none, .o (.v (.mov (.t 0)))⟩,
    ⟨(some 10), none, .o (.v (.len (.t 9)))⟩,
    ⟨(some 11), none, .o (.v (.mov (.c (.int .i64 (0)))))⟩])
  (.block 0 (.loop
    (.seq (.reg [⟨(some 12), none, .o (.v (.bin .lss (.t 11) (.t 10)))⟩])
    (.seq (.cond (.t 12)
      .skip
      (.exit 0))
    (.seq (.block 1 (.seq (.reg [⟨(some 13), none, .o (.v (.ixa (.t 9) (.t 11) 1))⟩,
      ⟨(some 14), none, .o (.v (.load (.t 13) none))⟩,
      ⟨(some 4), none, .o (.v (.mov (.t 14)))⟩])
    (.seq (.reg [⟨(some 15), none, .o (.v (.mov (.t 4)))⟩,
      ⟨(some 16), none, .o (.call (.c (.fn 60 [])) [(.t 15), (.c (.int .i64 (-1000000))), (.c (.int .i64 (1000000)))])⟩,
      ⟨(some 17), none, .o (.v (.not (.t 16)))⟩])
    (.cond (.t 17)
      (.seq (.reg [⟨(some 2), none, .o (.v (.mov (.c (.lit (.bool false)))))⟩])
      .ret)
      .skip))))
    (.reg [⟨(some 18), none, .o (.v (.bin .add (.t 11) (.c (.int .i64 (1)))))⟩,
      ⟨(some 11), none, .o (.v (.mov (.t 18)))⟩])))))))
  (.seq (.reg [⟨(some 2), none, .o (.v (.mov (.c (.lit (.bool true)))))⟩])
  .ret))))
theorem h79 : FdOk Try.prog 79 ⟨g79, [.t 2], 19, [], false⟩ := .of Try.func79 (by simp [Try.f79]) (by kernel_rfl)
def g80 : RC :=
  (.seq (.reg [⟨(some 4), none, .o (.v (.mov (.c (.lit (.slice none 0 0)))))⟩])
  (.seq (.reg [⟨(some 5), none, .o (.v (.mov (.c (.lit (.slice none 0 0)))))⟩])
  (.seq (.seq (.reg [⟨(some 8), none, .o (.v (.mov (.t 1)))⟩,
    ⟨(some 9), none, .o (.v (.len (.t 8)))⟩,
    ⟨(some 10), none, .o (.v (.mov (.t 0)))⟩,
    ⟨(some 11), none, .o (.v (.bin .sub (.t 9) (.t 10)))⟩,
    ⟨(some 12), none, .o (.v (.bin .add (.t 11) (.c (.int .i64 (1)))))⟩,
    ⟨(some 13), none, .o (.v (.mov (.c (.int .i64 (0)))))⟩])
  (.block 0 (.loop
    (.seq (.reg [⟨(some 14), none, .o (.v (.bin .lss (.t 13) (.t 12)))⟩])
    (.seq (.cond (.t 14)
      .skip
      (.exit 0))
    (.seq (.block 1 (.seq (.reg [⟨(some 15), none, .o (.v (.mov (.t 13)))⟩,
      ⟨(some 6), none, .o (.v (.mov (.t 15)))⟩])
    (.seq (.reg [⟨(some 16), none, .o (.v (.mov (.t 6)))⟩,
      ⟨(some 17), none, .o (.v (.mov (.t 0)))⟩,
      ⟨(some 18), none, .o (.v (.bin .add (.t 16) (.t 17)))⟩,
      ⟨(some 7), none, .o (.v (.mov (.t 18)))⟩])
    (.reg [⟨(some 19), none, .o (.v (.mov (.t 5)))⟩,
      ⟨(some 20), none, .o (.v (.mov (.t 1)))⟩,
      ⟨(some 21), none, .o (.v (.mov (.t 6)))⟩,
      ⟨(some 22), none, .o (.v (.mov (.t 7)))⟩,
      ⟨(some 23), none, .o (.v (.mov (.t 7)))⟩,
      ⟨(some 24), none, .o (.slc (.t 20) (some (.t 21)) (some (.t 22)) (some (.t 23)) 1)⟩,
      ⟨(some 25), none, .o (.call (.c (.fn 102 [])) [(.t 24)])⟩,
      ⟨(some 26), none, .o (.bsl 3 1 [(.int .i64 (0))] [(0, 1, (.t 25))])⟩,
      ⟨(some 27), none, .o (.app 3 1 8 (.t 19) (.t 26))⟩,
      ⟨(some 5), none, .o (.v (.mov (.t 27)))⟩]))))
    (.reg [⟨(some 28), none, .o (.v (.bin .add (.t 13) (.c (.int .i64 (1)))))⟩,
      ⟨(some 13), none, .o (.v (.mov (.t 28)))⟩])))))))
  (.seq (.reg [⟨(some 29), none, .o (.v (.mov (.t 5)))⟩,
    ⟨(some 30), none, .o (.v (.mov (.t 5)))⟩,
    ⟨(some 31), none, .o (.v (.len (.t 30)))⟩,
    ⟨(some 32), none, .o (.v (.mov (.t 5)))⟩,
    ⟨(some 33), none, .o (.v (.len (.t 32)))⟩,
    ⟨(some 34), none, .o (.slc (.t 29) none (some (.t 31)) (some (.t 33)) 1)⟩,
    ⟨(some 4), none, .o (.v (.mov (.t 34)))⟩])
  .ret))))
theorem h80 : FdOk Try.prog 80 ⟨g80, [.t 4], 35, [], false⟩ := .of Try.func80 (by simp [Try.f80]) (by kernel_rfl)
def g83 : RC :=
  (.seq (.reg [⟨(some 6), none, .o (.v (.mov (.c (.int .i64 (0)))))⟩,
    ⟨(some 7), none, .o (.v (.mov (.c (.lit (.bool false)))))⟩])
  (.seq (.reg [⟨(some 10), none, .o (.v (.mov (.t 0)))⟩,
    ⟨(some 11), none, .o (.v (.mkmv 80 [(.t 10)] []))⟩,
    ⟨(some 8), none, .o (.v (.mov (.t 11)))⟩])
  (.seq (.seq (.reg [⟨(some 12), none, .o (.v (.mov (.c (.int .i64 (0)))))⟩])
  (.block 0 (.loop
    (.seq (.reg [⟨(some 13), none, .o (.v (.bin .lss (.t 12) (.c (.int .i64 (5)))))⟩])
    (.seq (.cond (.t 13)
      .skip
      (.exit 0))
    (.seq (.block 1 (.seq (.reg [⟨(some 14), none, .o (.v (.mov (.t 12)))⟩,
      ⟨(some 9), none, .o (.v (.mov (.t 14)))⟩])
    (.seq (.seq (.reg [⟨(some 15), none, .o (.v (.mov (.t 1)))⟩,
      ⟨(some 16), none, .o (.call (.c (.fn 103 [])) [(.t 15)])⟩,
      ⟨(some 17), none, .o (.v (.mov (.t 2)))⟩,
      ⟨(some 18), none, .o (.v (.bin .leq (.t 16) (.t 17)))⟩])
    (.cond (.t 18)
      (.seq (.reg [⟨(some 19), none, .o (.v (.mov (.t 9)))⟩,
        ⟨(some 6), none, .o (.v (.mov (.t 19)))⟩,
        ⟨(some 7), none, .o (.v (.mov (.c (.lit (.bool true)))))⟩])
      .ret)
      .skip))
    (.seq (.seq (.reg [⟨(some 20), none, .o (.v (.mov (.t 1)))⟩,
      ⟨(some 21), none, .o (.v (.len (.t 20)))⟩,
      ⟨(some 22), none, .o (.v (.mov (.t 0)))⟩,
      ⟨(some 23), none, .o (.v (.bin .lss (.t 21) (.t 22)))⟩])
    (.cond (.t 23)
      (.exit 0)
      .skip))
    (.seq (.reg [⟨(some 24), none, .o (.v (.mov (.t 8)))⟩,
      ⟨(some 25), none, .o (.v (.mov (.t 1)))⟩,
      ⟨(some 26), none, .o (.call (.t 24) [(.t 25)])⟩,
      ⟨(some 1), none, .o (.v (.mov (.t 26)))⟩])
    (.reg [⟨(some 27), none, .o (.v (.mov (.t 2)))⟩,
      ⟨(some 28), none, .o (.v (.mov (.t 0)))⟩,
      ⟨(some 29), none, .o (.v (.bin .mul (.t 27) (.t 28)))⟩,
      ⟨(some 2), none, .o (.v (.mov (.t 29)))⟩]))))))
    (.reg [⟨(some 30), none, .o (.v (.bin .add (.t 12) (.c (.int .i64 (1)))))⟩,
      ⟨(some 12), none, .o (.v (.mov (.t 30)))⟩])))))))
  (.seq (.reg [⟨(some 6), none, .o (.v (.mov (.c (.int .i64 (0)))))⟩,
    ⟨(some 7), none, .o (.v (.mov (.c (.lit (.bool false)))))⟩])
  .ret))))
theorem h83 : FdOk Try.prog 83 ⟨g83, [.t 6, .t 7], 31, [], false⟩ := .of Try.func83 (by simp [Try.f83]) (by kernel_rfl)
def g85 : RC :=
  (.seq (.reg [⟨(some 2), none, .o (.v (.mov (.c (.lit (.bool false)))))⟩])
  (.seq (.seq (.reg [⟨(some 5), none, .o (.v (.mov (.t 0)))⟩,
    ⟨(some 6), none, .o (.v (.len (.t 5)))⟩,
    ⟨(some 7), none, .o (.call (.c (.fn 60 [])) [(.t 6), (.c (.int .i64 (1))), (.c (.int .i64 (64)))])⟩,
    ⟨(some 8), none, .o (.v (.not (.t 7)))⟩])
  (.cond (.t 8)
    (.seq (.reg [⟨(some 2), none, .o (.v (.mov (.c (.lit (.bool false)))))⟩])
    .ret)
    .skip))
  (.seq (.seq (.reg [⟨(some 9), none, .o (.v (.mov (.t 0)))⟩,
    ⟨(some 10), none, .o (.v (.len (.t 9)))⟩,
    ⟨(some 11), none, .o (.v (.mov (.c (.int .i64 (0)))))⟩])
  (.block 0 (.loop
    (.seq (.reg [⟨(some 12), none, .o (.v (.bin .lss (.t 11) (.t 10)))⟩])
    (.seq (.cond (.t 12)
      .skip
      (.exit 0))
    (.seq (.block 1 (.seq (.reg [⟨(some 13), none, .o (.v (.ixa (.t 9) (.t 11) 2))⟩,
      ⟨(some 14), none, .o (.v (.load (.t 13) (some 2)))⟩,
      ⟨(some 4), none, .o (.new 63 [(.int .i64 (0)), (.int .i64 (0))])⟩,
      ⟨none, none, .o (.store 2 (.t 4) (.t 14))⟩])
    (.seq (.reg [⟨(some 15), none, .o (.v (.off (.t 4) 0))⟩,
      ⟨(some 16), none, .o (.v (.load (.t 15) none))⟩,
      ⟨(some 17), none, .o (.v (.off (.t 4) 1))⟩,
      ⟨(some 18), none, .o (.v (.load (.t 17) none))⟩,
      ⟨(some 19), none, .o (.v (.bin .gtr (.t 16) (.t 18)))⟩,
      ⟨(some 20), none, .o (.v (.mov (.t 19)))⟩,
      ⟨(some 21), (some (20, false)), .o (.v (.off (.t 4) 0))⟩,
      ⟨(some 22), (some (20, false)), .o (.v (.load (.t 21) none))⟩,
      ⟨(some 23), (some (20, false)), .o (.v (.bin .lss (.t 22) (.c (.int .i64 (-1000000)))))⟩,
      ⟨(some 24), none, .o (.v (.pick (.t 20) (.c (.lit (.bool true))) (.t 23)))⟩,
      ⟨(some 25), none, .o (.v (.mov (.t 24)))⟩,
      ⟨(some 26), (some (25, false)), .o (.v (.off (.t 4) 1))⟩,
      ⟨(some 27), (some (25, false)), .o (.v (.load (.t 26) none))⟩,
      ⟨(some 28), (some (25, false)), .o (.v (.bin .gtr (.t 27) (.c (.int .i64 (1000000)))))⟩,
      ⟨(some 29), none, .o (.v (.pick (.t 25) (.c (.lit (.bool true))) (.t 28)))⟩])
    (.cond (.t 29)
      (.seq (.reg [⟨(some 2), none, .o (.v (.mov (.c (.lit (.bool false)))))⟩])
      .ret)
      .skip))))
    (.reg [⟨(some 30), none, .o (.v (.bin .add (.t 11) (.c (.int .i64 (1)))))⟩,
      ⟨(some 11), none, .o (.v (.mov (.t 30)))⟩])))))))
  (.seq (.reg [⟨(some 2), none, .o (.v (.mov (.c (.lit (.bool true)))))⟩])
  .ret))))
theorem h85 : FdOk Try.prog 85 ⟨g85, [.t 2], 31, [], false⟩ := .of Try.func85 (by simp [Try.f85]) (by kernel_rfl)
def g86 : RC :=
  (.seq (.reg [⟨(some 4), none, .o (.v (.mov (.c (.lit (.bool false)))))⟩])
  (.seq (.seq (.reg [⟨(some 8), none, .o (.v (.mov (.t 1)))⟩,
    ⟨(some 9), none, .o (.v (.mov (.c (.int .i64 (0)))))⟩])
  (.block 0 (.loop
    (.seq (.reg [⟨(some 10), none, .o (.v (.bin .lss (.t 9) (.t 8)))⟩])
    (.seq (.cond (.t 10)
      .skip
      (.exit 0))
    (.seq (.block 1 (.seq (.reg [⟨(some 11), none, .o (.v (.mov (.t 9)))⟩,
      ⟨(some 5), none, .o (.v (.mov (.t 11)))⟩])
    (.seq (.reg [⟨(some 12), none, .o (.v (.mov (.t 0)))⟩,
      ⟨(some 13), none, .o (.v (.mov (.t 5)))⟩,
      ⟨(some 14), none, .o (.v (.ixa (.t 12) (.t 13) 2))⟩,
      ⟨(some 15), none, .o (.v (.load (.t 14) (some 2)))⟩,
      ⟨(some 6), none, .o (.new 63 [(.int .i64 (0)), (.int .i64 (0))])⟩,
      ⟨none, none, .o (.store 2 (.t 6) (.t 15))⟩])
    (.seq (.seq (.reg [⟨(some 16), none, .o (.v (.mov (.t 5)))⟩,
      ⟨(some 7), none, .o (.v (.mov (.t 16)))⟩])
    (.block 2 (.loop
      (.seq (.seq (.reg [⟨(some 17), none, .o (.v (.mov (.t 7)))⟩,
        ⟨(some 18), none, .o (.v (.mov (.t 0)))⟩,
        ⟨(some 19), none, .o (.v (.len (.t 18)))⟩,
        ⟨(some 20), none, .o (.v (.bin .lss (.t 17) (.t 19)))⟩])
      (.cond (.t 20)
        .skip
        (.exit 2)))
      (.seq (.block 3 (.seq (.drw [⟨[], 1, 0, [(⟨(some 24), none, .o (.v (.off (.t 6) 0))⟩, .val 0 []),
        (⟨(some 25), none, .o (.v (.load (.t 24) none))⟩, .val 0 []),
        (⟨(some 26), none, .o (.v (.mov (.t 0)))⟩, .val 0 []),
        (⟨(some 27), none, .o (.v (.mov (.t 7)))⟩, .val 0 []),
        (⟨(some 28), none, .o (.v (.ixa (.t 26) (.t 27) 2))⟩, .val 0 []),
        (⟨(some 29), none, .o (.v (.off (.t 28) 0))⟩, .val 0 []),
        (⟨(some 30), none, .o (.v (.load (.t 29) none))⟩, .val 0 []),
        (⟨(some 31), none, .o (.bsl 3 1 [(.int .i64 (0))] [(0, 1, (.t 30))])⟩, .cre 0)],
        [0],
        [⟨(some 32), none, .o (.call (.c (.fn 104 [])) [(.t 25), (.t 31)])⟩,
        ⟨(some 33), none, .o (.v (.off (.t 6) 0))⟩,
        ⟨none, none, .o (.store 1 (.t 33) (.t 32))⟩], none⟩])
      (.drw [⟨[], 1, 0, [(⟨(some 34), none, .o (.v (.off (.t 6) 1))⟩, .val 0 []),
        (⟨(some 35), none, .o (.v (.load (.t 34) none))⟩, .val 0 []),
        (⟨(some 36), none, .o (.v (.mov (.t 0)))⟩, .val 0 []),
        (⟨(some 37), none, .o (.v (.mov (.t 7)))⟩, .val 0 []),
        (⟨(some 38), none, .o (.v (.ixa (.t 36) (.t 37) 2))⟩, .val 0 []),
        (⟨(some 39), none, .o (.v (.off (.t 38) 1))⟩, .val 0 []),
        (⟨(some 40), none, .o (.v (.load (.t 39) none))⟩, .val 0 []),
        (⟨(some 41), none, .o (.bsl 3 1 [(.int .i64 (0))] [(0, 1, (.t 40))])⟩, .cre 0)],
        [0],
        [⟨(some 42), none, .o (.call (.c (.fn 105 [])) [(.t 35), (.t 41)])⟩,
        ⟨(some 43), none, .o (.v (.off (.t 6) 1))⟩,
        ⟨none, none, .o (.store 1 (.t 43) (.t 42))⟩], none⟩])))
      (.reg [⟨(some 21), none, .o (.v (.mov (.t 7)))⟩,
        ⟨(some 22), none, .o (.v (.mov (.t 1)))⟩,
        ⟨(some 23), none, .o (.v (.bin .add (.t 21) (.t 22)))⟩,
        ⟨(some 7), none, .o (.v (.mov (.t 23)))⟩]))))))
    (.seq (.reg [⟨(some 44), none, .o (.v (.off (.t 6) 0))⟩,
      ⟨(some 45), none, .o (.v (.load (.t 44) none))⟩,
      ⟨(some 46), none, .o (.v (.off (.t 6) 1))⟩,
      ⟨(some 47), none, .o (.v (.load (.t 46) none))⟩,
      ⟨(some 48), none, .o (.v (.bin .gtr (.t 45) (.t 47)))⟩])
    (.cond (.t 48)
      (.seq (.reg [⟨(some 4), none, .o (.v (.mov (.c (.lit (.bool false)))))⟩])
      .ret)
      .skip))))))
    (.reg [⟨(some 49), none, .o (.v (.bin .add (.t 9) (.c (.int .i64 (1)))))⟩,
      ⟨(some 9), none, .o (.v (.mov (.t 49)))⟩])))))))
  (.seq (.reg [⟨(some 4), none, .o (.v (.mov (.c (.lit (.bool true)))))⟩])
  .ret)))
theorem h86 : FdOk Try.prog 86 ⟨g86, [.t 4], 50, [], false⟩ := .of Try.func86 (by simp [Try.f86]) (by kernel_rfl)
def g89 : RC :=
  (.seq (.reg [⟨(some 4), none, .o (.v (.mov (.c (.lit (.bool false)))))⟩])
  (.seq (.reg [⟨(some 5), none, .o (.v (.mov (.t 0)))⟩,
    ⟨(some 6), none, .o (.v (.mov (.t 1)))⟩,
    ⟨(some 7), none, .o (.call (.c (.fn 106 [])) [(.t 5), (.t 6)])⟩,
    ⟨(some 8), none, .o (.v (.bin .geq (.t 7) (.c (.int .i64 (0)))))⟩,
    ⟨(some 4), none, .o (.v (.mov (.t 8)))⟩])
  .ret))
theorem h89 : FdOk Try.prog 89 ⟨g89, [.t 4], 9, [], false⟩ := .of Try.func89 (by simp [Try.f89]) (by kernel_rfl)
def g90 : RC :=
  (.seq (.reg [⟨(some 2), none, .o (.box 78 (.t 0))⟩,
    ⟨(some 4), none, .o (.new 87 [(.int .i64 (0)), (.int .i64 (0))])⟩])
  (.seq (.reg [⟨(some 8), none, .o (.bld [(.int .i64 (0)), (.int .i64 (0))] [(0, 1, (.c (.int .i64 (1)))), (1, 1, (.c (.int .i64 (1))))])⟩,
    ⟨(some 5), none, .o (.new 25 [(.int .i64 (0)), (.int .i64 (0))])⟩,
    ⟨none, none, .o (.store 2 (.t 5) (.t 8))⟩])
  (.seq (.seq (.reg [⟨(some 9), none, .o (.v (.mov (.t 1)))⟩,
    ⟨(some 10), none, .o (.v (.len (.t 9)))⟩,
    ⟨(some 11), none, .o (.v (.mov (.c (.int .i64 (0)))))⟩])
  (.block 0 (.loop
    (.seq (.reg [⟨(some 12), none, .o (.v (.bin .lss (.t 11) (.t 10)))⟩])
    (.seq (.cond (.t 12)
      .skip
      (.exit 0))
    (.seq (.block 1 (.seq (.reg [⟨(some 13), none, .o (.v (.mov (.t 11)))⟩,
      ⟨(some 14), none, .o (.v (.ixa (.t 9) (.t 11) 1))⟩,
      ⟨(some 15), none, .o (.v (.load (.t 14) none))⟩,
      ⟨(some 6), none, .o (.v (.mov (.t 13)))⟩,
      ⟨(some 7), none, .o (.v (.mov (.t 15)))⟩])
    (.drw [⟨[], 0, 0, [(⟨(some 16), none, .o (.v (.mov (.t 6)))⟩, .val 0 []),
      (⟨(some 17), none, .o (.v (.bin .rem (.t 16) (.c (.int .i64 (2)))))⟩, .val 0 []),
      (⟨(some 18), none, .o (.v (.ixarr (.t 5) (.t 17) 2 1))⟩, .val 0 []),
      (⟨(some 19), none, .o (.v (.load (.t 18) none))⟩, .val 0 []),
      (⟨(some 20), none, .o (.v (.off (.t 2) 0))⟩, .val 0 []),
      (⟨(some 21), none, .o (.v (.off (.t 20) 0))⟩, .val 0 []),
      (⟨(some 22), none, .o (.v (.load (.t 21) none))⟩, .val 0 []),
      (⟨(some 23), none, .o (.v (.mov (.t 7)))⟩, .val 0 []),
      (⟨(some 24), none, .o (.v (.ixa (.t 22) (.t 23) 1))⟩, .val 0 []),
      (⟨(some 25), none, .o (.v (.load (.t 24) none))⟩, .val 0 [])],
      [],
      [⟨(some 26), none, .o (.v (.bin .mul (.t 19) (.t 25)))⟩,
      ⟨(some 27), none, .o (.v (.ixarr (.t 5) (.t 17) 2 1))⟩,
      ⟨none, none, .o (.store 1 (.t 27) (.t 26))⟩], none⟩])))
    (.reg [⟨(some 28), none, .o (.v (.bin .add (.t 11) (.c (.int .i64 (1)))))⟩,
      ⟨(some 11), none, .o (.v (.mov (.t 28)))⟩])))))))
  (.seq (.reg [⟨(some 29), none, .o (.v (.ixarr (.t 5) (.c (.int .i64 (0))) 2 1))⟩,
    ⟨(some 30), none, .o (.v (.load (.t 29) none))⟩,
    ⟨(some 31), none, .o (.v (.ixarr (.t 5) (.c (.int .i64 (1))) 2 1))⟩,
    ⟨(some 32), none, .o (.v (.load (.t 31) none))⟩,
    ⟨(some 33), none, .o (.call (.c (.fn 91 [])) [(.t 30), (.t 32)])⟩,
    ⟨none, none, .o (.store 2 (.t 4) (.t 33))⟩])
  .ret))))
theorem h90 : FdOk Try.prog 90 ⟨g90, [.c 4 (some 2)], 34, [], false⟩ := .of Try.func90 (by simp [Try.f90]) (by kernel_rfl)
def g91 : RC :=
  (.seq (.reg [⟨(some 4), none, .o (.new 87 [(.int .i64 (0)), (.int .i64 (0))])⟩])
  (.seq (.reg [⟨(some 7), none, .o (.v (.mov (.t 0)))⟩,
    ⟨(some 8), none, .o (.v (.mov (.t 1)))⟩,
    ⟨(some 5), none, .o (.v (.mov (.t 7)))⟩,
    ⟨(some 6), none, .o (.v (.mov (.t 8)))⟩])
  (.seq (.block 0 (.loop
    (.seq (.seq (.reg [⟨(some 9), none, .o (.v (.mov (.t 6)))⟩,
      ⟨(some 10), none, .o (.v (.bin .neq (.t 9) (.c (.int .i64 (0)))))⟩])
    (.cond (.t 10)
      .skip
      (.exit 0)))
    (.block 1 (.drw [⟨[], 0, 0, [(⟨(some 11), none, .o (.v (.mov (.t 6)))⟩, .val 0 []),
      (⟨(some 12), none, .o (.v (.mov (.t 5)))⟩, .val 0 []),
      (⟨(some 13), none, .o (.v (.mov (.t 6)))⟩, .val 0 []),
      (⟨(some 14), none, .o (.v (.bin .rem (.t 12) (.t 13)))⟩, .val 0 []),
      (⟨(some 5), none, .o (.v (.mov (.t 11)))⟩, .val 0 [])],
      [],
      [⟨(some 6), none, .o (.v (.mov (.t 14)))⟩], none⟩])))))
  (.seq (.drw [⟨[], 0, 0, [(⟨(some 15), none, .o (.v (.mov (.t 0)))⟩, .val 0 []),
    (⟨(some 16), none, .o (.v (.mov (.t 5)))⟩, .val 0 []),
    (⟨(some 17), none, .o (.v (.bin .quo (.t 15) (.t 16)))⟩, .val 0 []),
    (⟨(some 18), none, .o (.v (.mov (.t 1)))⟩, .val 0 []),
    (⟨(some 19), none, .o (.v (.mov (.t 5)))⟩, .val 0 []),
    (⟨(some 20), none, .o (.v (.bin .quo (.t 18) (.t 19)))⟩, .val 0 [])],
    [],
    [⟨(some 21), none, .o (.bld [(.int .i64 (0)), (.int .i64 (0))] [(0, 1, (.t 17)), (1, 1, (.t 20))])⟩,
    ⟨none, none, .o (.store 2 (.t 4) (.t 21))⟩], none⟩])
  .ret))))
theorem h91 : FdOk Try.prog 91 ⟨g91, [.c 4 (some 2)], 22, [], false⟩ := .of Try.func91 (by simp [Try.f91]) (by kernel_rfl)
def g92 : RC :=
  (.seq (.reg [⟨(some 1), none, .o (.box 78 (.t 0))⟩,
    ⟨(some 2), none, .o (.v (.mov (.c (.lit .nilFunc))))⟩])
  (.seq (.reg [⟨(some 3), none, .o (.v (.mkfn 107 [(.t 1)]))⟩,
    ⟨(some 2), none, .o (.v (.mov (.t 3)))⟩])
  .ret))
theorem h92 : FdOk Try.prog 92 ⟨g92, [.t 2], 4, [], false⟩ := .of Try.func92 (by simp [Try.f92]) (by kernel_rfl)
def g94 : RC :=
  (.seq (.reg [⟨(some 4), none, .o (.box 87 (.t 1))⟩,
    ⟨(some 6), none, .o (.new 87 [(.int .i64 (0)), (.int .i64 (0))])⟩])
  (.seq (.seq (.reg [⟨(some 9), none, .o (.v (.mov (.t 2)))⟩,
    ⟨(some 10), none, .o (.v (.len (.t 9)))⟩,
    ⟨(some 11), none, .o (.v (.mov (.c (.int .i64 (0)))))⟩])
  (.block 0 (.loop
    (.seq (.reg [⟨(some 12), none, .o (.v (.bin .lss (.t 11) (.t 10)))⟩])
    (.seq (.cond (.t 12)
      .skip
      (.exit 0))
    (.seq (.block 1 (.seq (.reg [⟨(some 13), none, .o (.v (.ixa (.t 9) (.t 11) 2))⟩,
      ⟨(some 14), none, .o (.v (.load (.t 13) (some 2)))⟩,
      ⟨(some 8), none, .o (.new 87 [(.int .i64 (0)), (.int .i64 (0))])⟩,
      ⟨none, none, .o (.store 2 (.t 8) (.t 14))⟩])
    (.seq (.reg [⟨(some 15), none, .o (.v (.mov (.t 0)))⟩,
      ⟨(some 16), none, .o (.v (.load (.t 8) (some 2)))⟩,
      ⟨(some 17), none, .o (.v (.load (.t 4) (some 2)))⟩,
      ⟨(some 18), none, .o (.call (.t 15) [(.t 16), (.t 17)])⟩])
    (.cond (.t 18)
      (.reg [⟨(some 19), none, .o (.v (.load (.t 8) (some 2)))⟩,
        ⟨none, none, .o (.store 2 (.t 4) (.t 19))⟩])
      .skip))))
    (.reg [⟨(some 20), none, .o (.v (.bin .add (.t 11) (.c (.int .i64 (1)))))⟩,
      ⟨(some 11), none, .o (.v (.mov (.t 20)))⟩])))))))
  (.seq (.reg [⟨(some 21), none, .o (.v (.load (.t 4) (some 2)))⟩,
    ⟨none, none, .o (.store 2 (.t 6) (.t 21))⟩])
  .ret)))
theorem h94 : FdOk Try.prog 94 ⟨g94, [.c 6 (some 2)], 22, [], false⟩ := .of Try.func94 (by simp [Try.f94]) (by kernel_rfl)
def g95 : RC :=
  (.seq (.reg [⟨(some 3), none, .o (.box 87 (.t 0))⟩,
    ⟨(some 4), none, .o (.box 87 (.t 1))⟩,
    ⟨(some 5), none, .o (.box 87 (.t 2))⟩,
    ⟨(some 6), none, .o (.v (.mov (.c (.lit (.bool false)))))⟩])
  (.seq (.drw [⟨[], 0, 2, [(⟨(some 7), none, .o (.v (.load (.t 3) (some 2)))⟩, .val 0 []),
    (⟨(some 8), none, .o (.v (.load (.t 4) (some 2)))⟩, .val 0 []),
    (⟨(some 9), none, .o (.call (.c (.fn 109 [])) [(.t 7), (.t 8)])⟩, .eff 0 []),
    (⟨(some 10), none, .o (.v (.off (.t 5) 1))⟩, .val 0 []),
    (⟨(some 11), none, .o (.v (.load (.t 10) none))⟩, .val 0 []),
    (⟨(some 12), none, .o (.v (.bin .mul (.t 9) (.t 11)))⟩, .val 1 []),
    (⟨(some 13), none, .o (.v (.load (.t 3) (some 2)))⟩, .val 0 []),
    (⟨(some 14), none, .o (.v (.load (.t 5) (some 2)))⟩, .val 0 []),
    (⟨(some 15), none, .o (.call (.c (.fn 109 [])) [(.t 13), (.t 14)])⟩, .eff 1 []),
    (⟨(some 16), none, .o (.v (.off (.t 4) 1))⟩, .val 0 []),
    (⟨(some 17), none, .o (.v (.load (.t 16) none))⟩, .val 0 []),
    (⟨(some 18), none, .o (.v (.bin .mul (.t 15) (.t 17)))⟩, .val 2 [])],
    [],
    [⟨(some 19), none, .o (.v (.bin .lss (.t 12) (.t 18)))⟩,
    ⟨(some 6), none, .o (.v (.mov (.t 19)))⟩], none⟩])
  .ret))
theorem h95 : FdOk Try.prog 95 ⟨g95, [.t 6], 20, [], false⟩ := .of Try.func95 (by simp [Try.f95]) (by kernel_rfl)
def g96 : RC :=
  (.seq (.reg [⟨(some 1), none, .o (.box 93 (.t 0))⟩,
    ⟨(some 2), none, .o (.v (.mov (.c (.lit (.bool false)))))⟩])
  (.seq (.seq (.reg [⟨(some 5), none, .o (.v (.off (.t 1) 0))⟩,
    ⟨(some 6), none, .o (.v (.off (.t 5) 0))⟩,
    ⟨(some 7), none, .o (.v (.load (.t 6) none))⟩,
    ⟨(some 8), none, .o (.v (.len (.t 7)))⟩,
    ⟨(some 9), none, .o (.call (.c (.fn 60 [])) [(.t 8), (.c (.int .i64 (1))), (.c (.int .i64 (4)))])⟩,
    ⟨(some 10), none, .o (.v (.not (.t 9)))⟩,
    ⟨(some 11), none, .o (.v (.mov (.t 10)))⟩,
    ⟨(some 12), (some (11, false)), .o (.v (.off (.t 1) 0))⟩,
    ⟨(some 13), (some (11, false)), .o (.v (.off (.t 12) 1))⟩,
    ⟨(some 14), (some (11, false)), .o (.v (.load (.t 13) none))⟩,
    ⟨(some 15), (some (11, false)), .o (.call (.c (.fn 60 [])) [(.t 14), (.c (.int .i64 (0))), (.c (.int .i64 (100000)))])⟩,
    ⟨(some 16), (some (11, false)), .o (.v (.not (.t 15)))⟩,
    ⟨(some 17), none, .o (.v (.pick (.t 11) (.c (.lit (.bool true))) (.t 16)))⟩])
  (.cond (.t 17)
    (.seq (.reg [⟨(some 2), none, .o (.v (.mov (.c (.lit (.bool false)))))⟩])
    .ret)
    .skip))
  (.seq (.seq (.reg [⟨(some 18), none, .o (.v (.off (.t 1) 0))⟩,
    ⟨(some 19), none, .o (.v (.off (.t 18) 0))⟩,
    ⟨(some 20), none, .o (.v (.load (.t 19) none))⟩,
    ⟨(some 21), none, .o (.v (.len (.t 20)))⟩,
    ⟨(some 22), none, .o (.v (.mov (.c (.int .i64 (0)))))⟩])
  (.block 0 (.loop
    (.seq (.reg [⟨(some 23), none, .o (.v (.bin .lss (.t 22) (.t 21)))⟩])
    (.seq (.cond (.t 23)
      .skip
      (.exit 0))
    (.seq (.block 1 (.seq (.reg [⟨(some 24), none, .o (.v (.ixa (.t 20) (.t 22) 1))⟩,
      ⟨(some 25), none, .o (.v (.load (.t 24) none))⟩,
      ⟨(some 4), none, .o (.v (.mov (.t 25)))⟩])
    (.seq (.reg [⟨(some 26), none, .o (.v (.mov (.t 4)))⟩,
      ⟨(some 27), none, .o (.call (.c (.fn 60 [])) [(.t 26), (.c (.int .i64 (1))), (.c (.int .i64 (8)))])⟩,
      ⟨(some 28), none, .o (.v (.not (.t 27)))⟩])
    (.cond (.t 28)
      (.seq (.reg [⟨(some 2), none, .o (.v (.mov (.c (.lit (.bool false)))))⟩])
      .ret)
      .skip))))
    (.reg [⟨(some 29), none, .o (.v (.bin .add (.t 22) (.c (.int .i64 (1)))))⟩,
      ⟨(some 22), none, .o (.v (.mov (.t 29)))⟩])))))))
  (.seq (.reg [⟨(some 2), none, .o (.v (.mov (.c (.lit (.bool true)))))⟩])
  .ret))))
theorem h96 : FdOk Try.prog 96 ⟨g96, [.t 2], 30, [], false⟩ := .of Try.func96 (by simp [Try.f96]) (by kernel_rfl)
def g97 : RC :=
  (.seq (.reg [⟨(some 2), none, .o (.box 93 (.t 0))⟩,
    ⟨(some 4), none, .o (.v (.mov (.c (.lit (.bool false)))))⟩])
  (.seq (.seq (.reg [⟨(some 7), none, .o (.v (.mov (.t 1)))⟩,
    ⟨(some 8), none, .o (.v (.len (.t 7)))⟩,
    ⟨(some 9), none, .o (.v (.bin .gtr (.t 8) (.c (.int .i64 (24)))))⟩])
  (.cond (.t 9)
    (.seq (.reg [⟨(some 4), none, .o (.v (.mov (.c (.lit (.bool false)))))⟩])
    .ret)
    .skip))
  (.seq (.seq (.reg [⟨(some 10), none, .o (.v (.mov (.t 1)))⟩,
    ⟨(some 11), none, .o (.v (.len (.t 10)))⟩,
    ⟨(some 12), none, .o (.v (.mov (.c (.int .i64 (0)))))⟩])
  (.block 0 (.loop
    (.seq (.reg [⟨(some 13), none, .o (.v (.bin .lss (.t 12) (.t 11)))⟩])
    (.seq (.cond (.t 13)
      .skip
      (.exit 0))
    (.seq (.block 1 (.seq (.reg [⟨(some 14), none, .o (.v (.ixa (.t 10) (.t 12) 6))⟩,
      ⟨(some 15), none, .o (.v (.load (.t 14) (some 6)))⟩,
      ⟨(some 6), none, .o (.new 65 [(.int .i64 (0)), (.int .i64 (0)), (.int .i64 (0)), (.int .i64 (0)), (.int .i64 (0)), (.int .i64 (0))])⟩,
      ⟨none, none, .o (.store 6 (.t 6) (.t 15))⟩])
    (.seq (.seq (.reg [⟨(some 16), none, .o (.v (.load (.t 2) (some 2)))⟩,
      ⟨(some 17), none, .o (.v (.off (.t 6) 0))⟩,
      ⟨(some 18), none, .o (.v (.load (.t 17) none))⟩,
      ⟨(some 19), none, .o (.v (.off (.t 6) 1))⟩,
      ⟨(some 20), none, .o (.v (.load (.t 19) none))⟩,
      ⟨(some 21), none, .o (.call (.c (.fn 110 [])) [(.t 16), (.t 18), (.t 20)])⟩,
      ⟨(some 22), none, .o (.v (.not (.t 21)))⟩,
      ⟨(some 23), none, .o (.v (.mov (.t 22)))⟩,
      ⟨(some 24), (some (23, false)), .o (.v (.load (.t 2) (some 2)))⟩,
      ⟨(some 25), (some (23, false)), .o (.v (.off (.t 6) 2))⟩,
      ⟨(some 26), (some (23, false)), .o (.v (.load (.t 25) none))⟩,
      ⟨(some 27), (some (23, false)), .o (.v (.off (.t 6) 3))⟩,
      ⟨(some 28), (some (23, false)), .o (.v (.load (.t 27) none))⟩,
      ⟨(some 29), (some (23, false)), .o (.call (.c (.fn 110 [])) [(.t 24), (.t 26), (.t 28)])⟩,
      ⟨(some 30), (some (23, false)), .o (.v (.not (.t 29)))⟩,
      ⟨(some 31), none, .o (.v (.pick (.t 23) (.c (.lit (.bool true))) (.t 30)))⟩])
    (.cond (.t 31)
      (.seq (.reg [⟨(some 4), none, .o (.v (.mov (.c (.lit (.bool false)))))⟩])
      .ret)
      .skip))
    (.seq (.reg [⟨(some 32), none, .o (.v (.off (.t 6) 4))⟩,
      ⟨(some 33), none, .o (.v (.load (.t 32) none))⟩,
      ⟨(some 34), none, .o (.call (.c (.fn 60 [])) [(.t 33), (.c (.int .i64 (-200000))), (.c (.int .i64 (200000)))])⟩,
      ⟨(some 35), none, .o (.v (.not (.t 34)))⟩,
      ⟨(some 36), none, .o (.v (.mov (.t 35)))⟩,
      ⟨(some 37), (some (36, false)), .o (.v (.off (.t 6) 5))⟩,
      ⟨(some 38), (some (36, false)), .o (.v (.load (.t 37) none))⟩,
      ⟨(some 39), (some (36, false)), .o (.call (.c (.fn 60 [])) [(.t 38), (.c (.int .i64 (0))), (.c (.int .i64 (100000)))])⟩,
      ⟨(some 40), (some (36, false)), .o (.v (.not (.t 39)))⟩,
      ⟨(some 41), none, .o (.v (.pick (.t 36) (.c (.lit (.bool true))) (.t 40)))⟩])
    (.cond (.t 41)
      (.seq (.reg [⟨(some 4), none, .o (.v (.mov (.c (.lit (.bool false)))))⟩])
      .ret)
      .skip)))))
    (.reg [⟨(some 42), none, .o (.v (.bin .add (.t 12) (.c (.int .i64 (1)))))⟩,
      ⟨(some 12), none, .o (.v (.mov (.t 42)))⟩])))))))
  (.seq (.reg [⟨(some 4), none, .o (.v (.mov (.c (.lit (.bool true)))))⟩])
  .ret))))
theorem h97 : FdOk Try.prog 97 ⟨g97, [.t 4], 43, [], false⟩ := .of Try.func97 (by simp [Try.f97]) (by kernel_rfl)
def g98 : RC :=
  (.seq (.reg [⟨(some 1), none, .o (.box 93 (.t 0))⟩,
    ⟨(some 2), none, .o (.new 98 (List.replicate 72 (.int .i64 (0))))⟩])
  (.seq (.reg [⟨(some 3), none, .o (.new 98 (List.replicate 72 (.int .i64 (0))))⟩])
  (.seq (.seq (.reg [⟨(some 7), none, .o (.v (.off (.t 1) 0))⟩,
    ⟨(some 8), none, .o (.v (.off (.t 7) 0))⟩,
    ⟨(some 9), none, .o (.v (.load (.t 8) none))⟩,
    ⟨(some 10), none, .o (.v (.len (.t 9)))⟩,
    ⟨(some 11), none, .o (.v (.mov (.c (.int .i64 (0)))))⟩])
  (.block 0 (.loop
    (.seq (.reg [⟨(some 12), none, .o (.v (.bin .lss (.t 11) (.t 10)))⟩])
    (.seq (.cond (.t 12)
      .skip
      (.exit 0))
    (.seq (.block 1 (.seq (.reg [⟨(some 13), none, .o (.v (.mov (.t 11)))⟩,
      ⟨(some 14), none, .o (.v (.ixa (.t 9) (.t 11) 1))⟩,
      ⟨(some 15), none, .o (.v (.load (.t 14) none))⟩,
      ⟨(some 4), none, .o (.v (.mov (.t 13)))⟩,
      ⟨(some 5), none, .o (.v (.mov (.t 15)))⟩])
    (.seq (.reg [⟨(some 16), none, .o (.v (.mov (.t 5)))⟩,
      ⟨(some 17), none, .o (.v (.mov (.c (.int .i64 (0)))))⟩])
    (.block 2 (.loop
      (.seq (.reg [⟨(some 18), none, .o (.v (.bin .lss (.t 17) (.t 16)))⟩])
      (.seq (.cond (.t 18)
        .skip
        (.exit 2))
      (.seq (.block 3 (.seq (.reg [⟨(some 19), none, .o (.v (.mov (.t 17)))⟩,
        ⟨(some 6), none, .o (.v (.mov (.t 19)))⟩])
      (.drw [⟨[], 0, 1, [(⟨(some 20), none, .o (.v (.mov (.t 4)))⟩, .val 0 []),
        (⟨(some 21), none, .o (.v (.mov (.t 6)))⟩, .val 0 []),
        (⟨(some 22), none, .o (.v (.bin .add (.t 21) (.c (.int .i64 (1)))))⟩, .val 0 []),
        (⟨(some 23), none, .o (.call (.c (.fn 100 [])) [(.t 20), (.t 22)])⟩, .eff 0 []),
        (⟨(some 24), none, .o (.v (.off (.t 1) 0))⟩, .val 0 []),
        (⟨(some 25), none, .o (.v (.off (.t 24) 1))⟩, .val 0 []),
        (⟨(some 26), none, .o (.v (.load (.t 25) none))⟩, .val 0 []),
        (⟨(some 27), none, .o (.v (.neg (.t 26)))⟩, .val 0 []),
        (⟨(some 28), none, .o (.v (.off (.t 1) 0))⟩, .val 0 []),
        (⟨(some 29), none, .o (.v (.off (.t 28) 1))⟩, .val 0 []),
        (⟨(some 30), none, .o (.v (.load (.t 29) none))⟩, .val 0 []),
        (⟨(some 31), none, .o (.bld [(.int .i64 (0)), (.int .i64 (0))] [(0, 1, (.t 27)), (1, 1, (.t 30))])⟩, .val 0 [])],
        [],
        [⟨(some 32), none, .o (.v (.ixarr (.t 3) (.t 23) 36 2))⟩,
        ⟨none, none, .o (.store 2 (.t 32) (.t 31))⟩], none⟩])))
      (.reg [⟨(some 33), none, .o (.v (.bin .add (.t 17) (.c (.int .i64 (1)))))⟩,
        ⟨(some 17), none, .o (.v (.mov (.t 33)))⟩])))))))))
    (.reg [⟨(some 34), none, .o (.v (.bin .add (.t 11) (.c (.int .i64 (1)))))⟩,
      ⟨(some 11), none, .o (.v (.mov (.t 34)))⟩])))))))
  (.seq (.reg [⟨(some 35), none, .o (.v (.load (.t 3) (some 72)))⟩,
    ⟨none, none, .o (.store 72 (.t 2) (.t 35))⟩])
  .ret))))
theorem h98 : FdOk Try.prog 98 ⟨g98, [.c 2 (some 72)], 36, [], false⟩ := .of Try.func98 (by simp [Try.f98]) (by kernel_rfl)
def g99 : RC :=
  (.seq (.reg [⟨(some 3), none, .o (.box 65 (.t 1))⟩,
    ⟨(some 4), none, .o (.v (.mov (.c (.lit (.bool false)))))⟩])
  (.seq (.drw [⟨[], 0, 2, [(⟨(some 9), none, .o (.v (.mov (.t 0)))⟩, .val 0 []),
    (⟨(some 10), none, .o (.v (.off (.t 3) 0))⟩, .val 0 []),
    (⟨(some 11), none, .o (.v (.load (.t 10) none))⟩, .val 0 []),
    (⟨(some 12), none, .o (.v (.off (.t 3) 1))⟩, .val 0 []),
    (⟨(some 13), none, .o (.v (.load (.t 12) none))⟩, .val 0 []),
    (⟨(some 14), none, .o (.call (.c (.fn 100 [])) [(.t 11), (.t 13)])⟩, .eff 0 []),
    (⟨(some 15), none, .o (.v (.nckv (.t 9)))⟩, .val 0 []),
    (⟨(some 16), none, .o (.v (.ixarr (.t 15) (.t 14) 36 2))⟩, .val 1 []),
    (⟨(some 17), none, .o (.v (.mov (.t 0)))⟩, .val 0 []),
    (⟨(some 18), none, .o (.v (.off (.t 3) 2))⟩, .val 0 []),
    (⟨(some 19), none, .o (.v (.load (.t 18) none))⟩, .val 0 []),
    (⟨(some 20), none, .o (.v (.off (.t 3) 3))⟩, .val 0 []),
    (⟨(some 21), none, .o (.v (.load (.t 20) none))⟩, .val 0 []),
    (⟨(some 22), none, .o (.call (.c (.fn 100 [])) [(.t 19), (.t 21)])⟩, .eff 1 []),
    (⟨(some 23), none, .o (.v (.nckv (.t 17)))⟩, .val 0 []),
    (⟨(some 24), none, .o (.v (.ixarr (.t 23) (.t 22) 36 2))⟩, .val 2 []),
    (⟨(some 5), none, .o (.v (.mov (.t 16)))⟩, .val 2 [])],
    [],
    [⟨(some 6), none, .o (.v (.mov (.t 24)))⟩], none⟩])
  (.seq (.drw [⟨[], 0, 0, [(⟨(some 25), none, .o (.v (.off (.t 3) 4))⟩, .val 0 []),
    (⟨(some 26), none, .o (.v (.load (.t 25) none))⟩, .val 0 []),
    (⟨(some 27), none, .o (.v (.off (.t 3) 5))⟩, .val 0 []),
    (⟨(some 28), none, .o (.v (.load (.t 27) none))⟩, .val 0 []),
    (⟨(some 29), none, .o (.v (.bin .sub (.t 26) (.t 28)))⟩, .val 0 []),
    (⟨(some 30), none, .o (.v (.off (.t 3) 4))⟩, .val 0 []),
    (⟨(some 31), none, .o (.v (.load (.t 30) none))⟩, .val 0 []),
    (⟨(some 32), none, .o (.v (.off (.t 3) 5))⟩, .val 0 []),
    (⟨(some 33), none, .o (.v (.load (.t 32) none))⟩, .val 0 []),
    (⟨(some 34), none, .o (.v (.bin .add (.t 31) (.t 33)))⟩, .val 0 []),
    (⟨(some 7), none, .o (.v (.mov (.t 29)))⟩, .val 0 [])],
    [],
    [⟨(some 8), none, .o (.v (.mov (.t 34)))⟩], none⟩])
  (.seq (.drw [⟨[], 0, 1, [(⟨(some 35), none, .o (.v (.mov (.t 5)))⟩, .val 0 []),
    (⟨(some 36), none, .o (.v (.mov (.t 5)))⟩, .pur),
    (⟨(some 37), none, .o (.v (.mov (.t 5)))⟩, .val 0 []),
    (⟨(some 38), none, .o (.v (.nckv (.t 37)))⟩, .val 0 []),
    (⟨(some 39), none, .o (.v (.off (.t 38) 0))⟩, .val 0 []),
    (⟨(some 40), none, .o (.v (.load (.t 39) none))⟩, .val 0 []),
    (⟨(some 41), none, .o (.v (.mov (.t 6)))⟩, .val 0 []),
    (⟨(some 42), none, .o (.v (.nckv (.t 41)))⟩, .val 0 []),
    (⟨(some 43), none, .o (.v (.off (.t 42) 0))⟩, .val 0 []),
    (⟨(some 44), none, .o (.v (.load (.t 43) none))⟩, .val 0 []),
    (⟨(some 45), none, .o (.v (.mov (.t 7)))⟩, .val 0 []),
    (⟨(some 46), none, .o (.v (.bin .add (.t 44) (.t 45)))⟩, .val 0 []),
    (⟨(some 47), none, .o (.v (.max2 (.t 40) (.t 46)))⟩, .val 0 []),
    (⟨(some 48), none, .o (.v (.mov (.t 5)))⟩, .val 0 []),
    (⟨(some 49), none, .o (.v (.nckv (.t 48)))⟩, .val 0 []),
    (⟨(some 50), none, .o (.v (.off (.t 49) 1))⟩, .val 0 []),
    (⟨(some 51), none, .o (.v (.load (.t 50) none))⟩, .val 0 []),
    (⟨(some 52), none, .o (.v (.mov (.t 6)))⟩, .val 0 []),
    (⟨(some 53), none, .o (.v (.nckv (.t 52)))⟩, .val 0 []),
    (⟨(some 54), none, .o (.v (.off (.t 53) 1))⟩, .val 0 []),
    (⟨(some 55), none, .o (.v (.load (.t 54) none))⟩, .val 0 []),
    (⟨(some 56), none, .o (.v (.mov (.t 8)))⟩, .pur),
    (⟨(some 57), none, .o (.v (.bin .add (.t 55) (.t 56)))⟩, .pur),
    (⟨(some 58), none, .o (.v (.min2 (.t 51) (.t 57)))⟩, .pur),
    (⟨(some 59), none, .o (.v (.nckv (.t 35)))⟩, .val 0 []),
    (⟨(some 60), none, .o (.v (.off (.t 59) 0))⟩, .val 0 []),
    (⟨none, none, .o (.store 1 (.t 60) (.t 47))⟩, .efs 0 [] [])],
    [],
    [⟨(some 61), none, .o (.v (.nckv (.t 36)))⟩,
    ⟨(some 62), none, .o (.v (.off (.t 61) 1))⟩,
    ⟨none, none, .o (.store 1 (.t 62) (.t 58))⟩], none⟩,
    ⟨[], 0, 1, [(⟨(some 35), none, .o (.v (.mov (.t 5)))⟩, .val 0 []),
    (⟨(some 36), none, .o (.v (.mov (.t 5)))⟩, .pur),
    (⟨(some 37), none, .o (.v (.mov (.t 5)))⟩, .val 0 []),
    (⟨(some 38), none, .o (.v (.nckv (.t 37)))⟩, .val 0 []),
    (⟨(some 39), none, .o (.v (.off (.t 38) 0))⟩, .val 0 []),
    (⟨(some 40), none, .o (.v (.load (.t 39) none))⟩, .val 0 []),
    (⟨(some 41), none, .o (.v (.mov (.t 6)))⟩, .val 0 []),
    (⟨(some 42), none, .o (.v (.nckv (.t 41)))⟩, .val 0 []),
    (⟨(some 43), none, .o (.v (.off (.t 42) 0))⟩, .val 0 []),
    (⟨(some 44), none, .o (.v (.load (.t 43) none))⟩, .val 0 []),
    (⟨(some 45), none, .o (.v (.mov (.t 7)))⟩, .val 0 []),
    (⟨(some 46), none, .o (.v (.bin .add (.t 44) (.t 45)))⟩, .val 0 []),
    (⟨(some 47), none, .o (.v (.max2 (.t 40) (.t 46)))⟩, .val 0 []),
    (⟨(some 48), none, .o (.v (.mov (.t 5)))⟩, .val 0 []),
    (⟨(some 49), none, .o (.v (.nckv (.t 48)))⟩, .val 0 []),
    (⟨(some 50), none, .o (.v (.off (.t 49) 1))⟩, .val 0 []),
    (⟨(some 51), none, .o (.v (.load (.t 50) none))⟩, .val 0 []),
    (⟨(some 52), none, .o (.v (.mov (.t 6)))⟩, .val 0 []),
    (⟨(some 53), none, .o (.v (.nckv (.t 52)))⟩, .val 0 []),
    (⟨(some 54), none, .o (.v (.off (.t 53) 1))⟩, .val 0 []),
    (⟨(some 55), none, .o (.v (.load (.t 54) none))⟩, .val 0 []),
    (⟨(some 56), none, .o (.v (.mov (.t 8)))⟩, .pur),
    (⟨(some 57), none, .o (.v (.bin .add (.t 55) (.t 56)))⟩, .pur),
    (⟨(some 58), none, .o (.v (.min2 (.t 51) (.t 57)))⟩, .pur),
    (⟨(some 59), none, .o (.v (.nckv (.t 35)))⟩, .val 0 []),
    (⟨(some 60), none, .o (.v (.off (.t 59) 0))⟩, .val 0 []),
    (⟨none, none, .o (.store 1 (.t 60) (.t 47))⟩, .efs 0 [] [])],
    [],
    [⟨(some 61), none, .o (.v (.nckv (.t 36)))⟩,
    ⟨(some 62), none, .o (.v (.off (.t 61) 1))⟩,
    ⟨none, none, .o (.store 1 (.t 62) (.t 58))⟩], none⟩])
  (.seq (.drw [⟨[], 0, 1, [(⟨(some 63), none, .o (.v (.mov (.t 6)))⟩, .val 0 []),
    (⟨(some 64), none, .o (.v (.mov (.t 6)))⟩, .pur),
    (⟨(some 65), none, .o (.v (.mov (.t 6)))⟩, .val 0 []),
    (⟨(some 66), none, .o (.v (.nckv (.t 65)))⟩, .val 0 []),
    (⟨(some 67), none, .o (.v (.off (.t 66) 0))⟩, .val 0 []),
    (⟨(some 68), none, .o (.v (.load (.t 67) none))⟩, .val 0 []),
    (⟨(some 69), none, .o (.v (.mov (.t 5)))⟩, .val 0 []),
    (⟨(some 70), none, .o (.v (.nckv (.t 69)))⟩, .val 0 []),
    (⟨(some 71), none, .o (.v (.off (.t 70) 0))⟩, .val 0 []),
    (⟨(some 72), none, .o (.v (.load (.t 71) none))⟩, .val 0 []),
    (⟨(some 73), none, .o (.v (.mov (.t 8)))⟩, .val 0 []),
    (⟨(some 74), none, .o (.v (.bin .sub (.t 72) (.t 73)))⟩, .val 0 []),
    (⟨(some 75), none, .o (.v (.max2 (.t 68) (.t 74)))⟩, .val 0 []),
    (⟨(some 76), none, .o (.v (.mov (.t 6)))⟩, .val 0 []),
    (⟨(some 77), none, .o (.v (.nckv (.t 76)))⟩, .val 0 []),
    (⟨(some 78), none, .o (.v (.off (.t 77) 1))⟩, .val 0 []),
    (⟨(some 79), none, .o (.v (.load (.t 78) none))⟩, .val 0 []),
    (⟨(some 80), none, .o (.v (.mov (.t 5)))⟩, .val 0 []),
    (⟨(some 81), none, .o (.v (.nckv (.t 80)))⟩, .val 0 []),
    (⟨(some 82), none, .o (.v (.off (.t 81) 1))⟩, .val 0 []),
    (⟨(some 83), none, .o (.v (.load (.t 82) none))⟩, .val 0 []),
    (⟨(some 84), none, .o (.v (.mov (.t 7)))⟩, .pur),
    (⟨(some 85), none, .o (.v (.bin .sub (.t 83) (.t 84)))⟩, .pur),
    (⟨(some 86), none, .o (.v (.min2 (.t 79) (.t 85)))⟩, .pur),
    (⟨(some 87), none, .o (.v (.nckv (.t 63)))⟩, .val 0 []),
    (⟨(some 88), none, .o (.v (.off (.t 87) 0))⟩, .val 0 []),
    (⟨none, none, .o (.store 1 (.t 88) (.t 75))⟩, .efs 0 [] [])],
    [],
    [⟨(some 89), none, .o (.v (.nckv (.t 64)))⟩,
    ⟨(some 90), none, .o (.v (.off (.t 89) 1))⟩,
    ⟨none, none, .o (.store 1 (.t 90) (.t 86))⟩], none⟩,
    ⟨[], 0, 1, [(⟨(some 63), none, .o (.v (.mov (.t 6)))⟩, .val 0 []),
    (⟨(some 64), none, .o (.v (.mov (.t 6)))⟩, .pur),
    (⟨(some 65), none, .o (.v (.mov (.t 6)))⟩, .val 0 []),
    (⟨(some 66), none, .o (.v (.nckv (.t 65)))⟩, .val 0 []),
    (⟨(some 67), none, .o (.v (.off (.t 66) 0))⟩, .val 0 []),
    (⟨(some 68), none, .o (.v (.load (.t 67) none))⟩, .val 0 []),
    (⟨(some 69), none, .o (.v (.mov (.t 5)))⟩, .val 0 []),
    (⟨(some 70), none, .o (.v (.nckv (.t 69)))⟩, .val 0 []),
    (⟨(some 71), none, .o (.v (.off (.t 70) 0))⟩, .val 0 []),
    (⟨(some 72), none, .o (.v (.load (.t 71) none))⟩, .val 0 []),
    (⟨(some 73), none, .o (.v (.mov (.t 8)))⟩, .val 0 []),
    (⟨(some 74), none, .o (.v (.bin .sub (.t 72) (.t 73)))⟩, .val 0 []),
    (⟨(some 75), none, .o (.v (.max2 (.t 68) (.t 74)))⟩, .val 0 []),
    (⟨(some 76), none, .o (.v (.mov (.t 6)))⟩, .val 0 []),
    (⟨(some 77), none, .o (.v (.nckv (.t 76)))⟩, .val 0 []),
    (⟨(some 78), none, .o (.v (.off (.t 77) 1))⟩, .val 0 []),
    (⟨(some 79), none, .o (.v (.load (.t 78) none))⟩, .val 0 []),
    (⟨(some 80), none, .o (.v (.mov (.t 5)))⟩, .val 0 []),
    (⟨(some 81), none, .o (.v (.nckv (.t 80)))⟩, .val 0 []),
    (⟨(some 82), none, .o (.v (.off (.t 81) 1))⟩, .val 0 []),
    (⟨(some 83), none, .o (.v (.load (.t 82) none))⟩, .val 0 []),
    (⟨(some 84), none, .o (.v (.mov (.t 7)))⟩, .pur),
    (⟨(some 85), none, .o (.v (.bin .sub (.t 83) (.t 84)))⟩, .pur),
    (⟨(some 86), none, .o (.v (.min2 (.t 79) (.t 85)))⟩, .pur),
    (⟨(some 87), none, .o (.v (.nckv (.t 63)))⟩, .val 0 []),
    (⟨(some 88), none, .o (.v (.off (.t 87) 0))⟩, .val 0 []),
    (⟨none, none, .o (.store 1 (.t 88) (.t 75))⟩, .efs 0 [] [])],
    [],
    [⟨(some 89), none, .o (.v (.nckv (.t 64)))⟩,
    ⟨(some 90), none, .o (.v (.off (.t 89) 1))⟩,
    ⟨none, none, .o (.store 1 (.t 90) (.t 86))⟩], none⟩])
  (.seq (.drw [⟨[], 0, 0, [(⟨(some 91), none, .o (.v (.mov (.t 5)))⟩, .val 0 []),
    (⟨(some 92), none, .o (.v (.nckv (.t 91)))⟩, .val 0 []),
    (⟨(some 93), none, .o (.v (.off (.t 92) 0))⟩, .val 0 []),
    (⟨(some 94), none, .o (.v (.load (.t 93) none))⟩, .val 0 []),
    (⟨(some 95), none, .o (.v (.mov (.t 5)))⟩, .val 0 []),
    (⟨(some 96), none, .o (.v (.nckv (.t 95)))⟩, .val 0 []),
    (⟨(some 97), none, .o (.v (.off (.t 96) 1))⟩, .val 0 []),
    (⟨(some 98), none, .o (.v (.load (.t 97) none))⟩, .val 0 [])],
    [],
    [⟨(some 99), none, .o (.v (.bin .leq (.t 94) (.t 98)))⟩,
    ⟨(some 4), none, .o (.v (.mov (.t 99)))⟩], none⟩])
  .ret))))))
theorem h99 : FdOk Try.prog 99 ⟨g99, [.t 4], 100, [], false⟩ := .of Try.func99 (by simp [Try.f99]) (by kernel_rfl)
def g100 : RC :=
  (.seq (.reg [⟨(some 4), none, .o (.v (.mov (.c (.int .i64 (0)))))⟩])
  (.seq (.reg [⟨(some 5), none, .o (.v (.mov (.t 0)))⟩,
    ⟨(some 6), none, .o (.v (.bin .mul (.t 5) (.c (.int .i64 (9)))))⟩,
    ⟨(some 7), none, .o (.v (.mov (.t 1)))⟩,
    ⟨(some 8), none, .o (.v (.bin .add (.t 6) (.t 7)))⟩,
    ⟨(some 4), none, .o (.v (.mov (.t 8)))⟩])
  .ret))
theorem h100 : FdOk Try.prog 100 ⟨g100, [.t 4], 9, [], false⟩ := .of Try.func100 (by simp [Try.f100]) (by kernel_rfl)
def g101 : RC :=
  (.seq (.reg [⟨(some 4), none, .o (.v (.mov (.c (.lit (.bool false)))))⟩])
  (.seq (.drw [⟨[1, 2, 0], 1, 1, [(⟨(some 8), none, .o (.v (.load (.t 1) (some 2)))⟩, .val 0 []),
    (⟨(some 9), none, .o (.v (.load (.t 2) none))⟩, .val 0 []),
    (⟨(some 10), none, .o (.v (.mov (.t 0)))⟩, .val 0 []),
    (⟨(some 11), none, .o (.v (.mov (.t 0)))⟩, .val 0 []),
    (⟨(some 12), none, .o (.slc (.t 9) none (some (.t 10)) (some (.t 11)) 6)⟩, .val 0 []),
    (⟨(some 13), none, .o (.v (.load (.t 2) none))⟩, .val 0 []),
    (⟨(some 14), none, .o (.v (.mov (.t 0)))⟩, .val 0 []),
    (⟨(some 15), none, .o (.v (.bin .add (.t 14) (.c (.int .i64 (1)))))⟩, .val 0 []),
    (⟨(some 16), none, .o (.slc (.t 13) (some (.t 15)) none none 6)⟩, .val 0 []),
    (⟨(some 17), none, .o (.app 65 6 48 (.t 12) (.t 16))⟩, .val 0 []),
    (⟨(some 18), none, .o (.call (.c (.fn 73 [])) [(.t 8), (.t 17)])⟩, .val 0 []),
    (⟨(some 7), none, .o (.v (.mov (.t 18)))⟩, .val 0 []),
    (⟨(some 19), none, .o (.v (.ext (.t 7) 0))⟩, .val 0 []),
    (⟨(some 20), none, .o (.v (.ext (.t 7) 1))⟩, .prd []),
    (⟨(some 5), none, .o (.new 98 (List.replicate 72 (.int .i64 (0))))⟩, .cre 0),
    (⟨none, none, .o (.store 72 (.t 5) (.t 19))⟩, .efs 0 [0] [])],
    [],
    [⟨(some 6), none, .o (.v (.mov (.t 20)))⟩], none⟩])
  (.seq (.reg [⟨(some 21), none, .o (.v (.mov (.t 6)))⟩,
    ⟨(some 4), none, .o (.v (.mov (.t 21)))⟩])
  .ret)))
theorem h101 : FdOk Try.prog 101 ⟨g101, [.t 4], 22, [], false⟩ := .of Try.func101 (by simp [Try.f101]) (by kernel_rfl)
def g102 : RC :=
  (.seq (.reg [⟨(some 2), none, .o (.v (.mov (.c (.int .i64 (0)))))⟩])
  (.seq (.reg [⟨(some 3), none, .o (.v (.mov (.c (.int .i64 (0)))))⟩])
  (.seq (.seq (.reg [⟨(some 6), none, .o (.v (.mov (.t 0)))⟩,
    ⟨(some 7), none, .o (.v (.len (.t 6)))⟩,
    ⟨(some 8), none, .o (.v (.mov (.c (.int .i64 (0)))))⟩])
  (.block 0 (.loop
    (.seq (.reg [⟨(some 9), none, .o (.v (.bin .lss (.t 8) (.t 7)))⟩])
    (.seq (.cond (.t 9)
      .skip
      (.exit 0))
    (.seq (.block 1 (.seq (.reg [⟨(some 10), none, .o (.v (.ixa (.t 6) (.t 8) 1))⟩,
      ⟨(some 11), none, .o (.v (.load (.t 10) none))⟩,
      ⟨(some 5), none, .o (.v (.mov (.t 11)))⟩])
    (.reg [⟨(some 12), none, .o (.v (.mov (.t 3)))⟩,
      ⟨(some 13), none, .o (.v (.mov (.t 5)))⟩,
      ⟨(some 14), none, .o (.v (.bin .add (.t 12) (.t 13)))⟩,
      ⟨(some 3), none, .o (.v (.mov (.t 14)))⟩])))
    (.reg [⟨(some 15), none, .o (.v (.bin .add (.t 8) (.c (.int .i64 (1)))))⟩,
      ⟨(some 8), none, .o (.v (.mov (.t 15)))⟩])))))))
  (.seq (.reg [⟨(some 16), none, .o (.v (.mov (.t 3)))⟩,
    ⟨(some 2), none, .o (.v (.mov (.t 16)))⟩])
  .ret))))
theorem h102 : FdOk Try.prog 102 ⟨g102, [.t 2], 17, [], false⟩ := .of Try.func102 (by simp [Try.f102]) (by kernel_rfl)
def g103 : RC :=
  (.seq (.reg [⟨(some 2), none, .o (.v (.mov (.c (.int .i64 (0)))))⟩])
  (.seq (.drw [⟨[0], 0, 1, [(⟨(some 3), none, .o (.v (.mov (.t 0)))⟩, .val 0 []),
    (⟨(some 4), none, .o (.v (.ixa (.t 3) (.c (.int .i64 (0))) 1))⟩, .val 0 []),
    (⟨(some 5), none, .o (.v (.load (.t 4) none))⟩, .val 0 []),
    (⟨(some 6), none, .o (.v (.mov (.t 0)))⟩, .val 0 []),
    (⟨(some 7), none, .o (.slc (.t 6) (some (.c (.int .i64 (1)))) none none 1)⟩, .val 0 []),
    (⟨(some 8), none, .o (.call (.c (.fn 104 [])) [(.t 5), (.t 7)])⟩, .eff 0 []),
    (⟨(some 9), none, .o (.v (.mov (.t 0)))⟩, .val 0 []),
    (⟨(some 10), none, .o (.v (.ixa (.t 9) (.c (.int .i64 (0))) 1))⟩, .val 0 []),
    (⟨(some 11), none, .o (.v (.load (.t 10) none))⟩, .val 0 []),
    (⟨(some 12), none, .o (.v (.mov (.t 0)))⟩, .val 0 []),
    (⟨(some 13), none, .o (.slc (.t 12) (some (.c (.int .i64 (1)))) none none 1)⟩, .val 0 [])],
    [],
    [⟨(some 14), none, .o (.call (.c (.fn 105 [])) [(.t 11), (.t 13)])⟩,
    ⟨(some 15), none, .o (.v (.bin .sub (.t 8) (.t 14)))⟩,
    ⟨(some 2), none, .o (.v (.mov (.t 15)))⟩], none⟩])
  .ret))
theorem h103 : FdOk Try.prog 103 ⟨g103, [.t 2], 16, [], false⟩ := .of Try.func103 (by simp [Try.f103]) (by kernel_rfl)
def g104 : RC :=
  (.seq (.reg [⟨(some 4), none, .o (.v (.mov (.c (.int .i64 (0)))))⟩])
  (.seq (.reg [⟨(some 5), none, .o (.v (.mov (.t 0)))⟩,
    ⟨(some 6), none, .o (.v (.mov (.t 1)))⟩,
    ⟨(some 7), none, .o (.call (.c (.fn 111 [])) [(.c (.fn 112 [])), (.t 5), (.t 6)])⟩,
    ⟨(some 4), none, .o (.v (.mov (.t 7)))⟩])
  .ret))
theorem h104 : FdOk Try.prog 104 ⟨g104, [.t 4], 8, [], false⟩ := .of Try.func104 (by simp [Try.f104]) (by kernel_rfl)
def g105 : RC :=
  (.seq (.reg [⟨(some 4), none, .o (.v (.mov (.c (.int .i64 (0)))))⟩])
  (.seq (.reg [⟨(some 5), none, .o (.v (.mov (.t 0)))⟩,
    ⟨(some 6), none, .o (.v (.mov (.t 1)))⟩,
    ⟨(some 7), none, .o (.call (.c (.fn 111 [])) [(.c (.fn 113 [])), (.t 5), (.t 6)])⟩,
    ⟨(some 4), none, .o (.v (.mov (.t 7)))⟩])
  .ret))
theorem h105 : FdOk Try.prog 105 ⟨g105, [.t 4], 8, [], false⟩ := .of Try.func105 (by simp [Try.f105]) (by kernel_rfl)
def g106 : RC :=
  (.seq (.reg [⟨(some 4), none, .o (.v (.mov (.c (.int .i64 (0)))))⟩])
  (.seq (.seq (.reg [⟨(some 6), none, .o (.v (.mov (.t 0)))⟩,
    ⟨(some 7), none, .o (.v (.len (.t 6)))⟩,
    ⟨(some 8), none, .o (.v (.mov (.c (.int .i64 (0)))))⟩])
  (.block 0 (.loop
    (.seq (.reg [⟨(some 9), none, .o (.v (.bin .lss (.t 8) (.t 7)))⟩])
    (.seq (.cond (.t 9)
      .skip
      (.exit 0))
    (.seq (.block 1 (.seq (.reg [⟨(some 10), none, .o (.v (.mov (.t 8)))⟩,
      ⟨(some 5), none, .o (.v (.mov (.t 10)))⟩])
    (.seq (.reg [⟨(some 11), none, .o (.v (.mov (.t 1)))⟩,
      ⟨(some 12), none, .o (.v (.mov (.t 0)))⟩,
      ⟨(some 13), none, .o (.v (.mov (.t 5)))⟩,
      ⟨(some 14), none, .o (.v (.ixa (.t 12) (.t 13) 1))⟩,
      ⟨(some 15), none, .o (.v (.load (.t 14) none))⟩,
      ⟨(some 16), none, .o (.v (.bin .eql (.t 11) (.t 15)))⟩])
    (.cond (.t 16)
      (.seq (.reg [⟨(some 17), none, .o (.v (.mov (.t 5)))⟩,
        ⟨(some 4), none, .o (.v (.mov (.t 17)))⟩])
      .ret)
      .skip))))
    (.reg [⟨(some 18), none, .o (.v (.bin .add (.t 8) (.c (.int .i64 (1)))))⟩,
      ⟨(some 8), none, .o (.v (.mov (.t 18)))⟩])))))))
  (.seq (.reg [⟨(some 4), none, .o (.v (.mov (.c (.int .i64 (-1)))))⟩])
  .ret)))
theorem h106 : FdOk Try.prog 106 ⟨g106, [.t 4], 19, [], false⟩ := .of Try.func106 (by simp [Try.f106]) (by kernel_rfl)
def g107 : RC :=
  (.seq (.reg [⟨(some 5), none, .o (.bld [(.int .i64 (0)), (.int .i64 (0))] [(0, 1, (.c (.int .i64 (2)))), (1, 1, (.c (.int .i64 (4))))])⟩,
    ⟨(some 6), none, .o (.v (.mov (.c (.int .i64 (0)))))⟩])
  (.block 0 (.loop
    (.seq (.reg [⟨(some 7), none, .o (.v (.bin .lss (.t 6) (.c (.int .i64 (2)))))⟩])
    (.seq (.cond (.t 7)
      .skip
      (.exit 0))
    (.seq (.block 1 (.seq (.reg [⟨(some 8), none, .o (.v (.ixv (.t 5) (.t 6) 2 1 none))⟩,
      ⟨(some 4), none, .o (.v (.mov (.t 8)))⟩])
    (.seq (.reg [⟨(some 9), none, .o (.v (.load (.t 1) (some 3)))⟩,
      ⟨(some 10), none, .o (.v (.mov (.t 4)))⟩,
      ⟨(some 11), none, .o (.v (.mov (.t 0)))⟩,
      ⟨(some 12), none, .o (.call (.c (.fn 108 [])) [(.t 9), (.c (.lit (.slice none 0 0))), (.t 10), (.t 11)])⟩,
      ⟨(some 13), none, .o (.v (.not (.t 12)))⟩])
    (.cond (.t 13)
      .ret
      .skip))))
    (.reg [⟨(some 14), none, .o (.v (.bin .add (.t 6) (.c (.int .i64 (1)))))⟩,
      ⟨(some 6), none, .o (.v (.mov (.t 14)))⟩])))))))
theorem h107 : FdOk Try.prog 107 ⟨g107, [], 15, [], false⟩ := .of Try.func107 (by simp [Try.f107]) (by kernel_rfl)
def g108 : RC :=
  (.seq (.reg [⟨(some 4), none, .o (.box 78 (.t 0))⟩,
    ⟨(some 8), none, .o (.v (.mov (.c (.lit (.bool false)))))⟩])
  (.seq (.seq (.reg [⟨(some 10), none, .o (.v (.mov (.t 1)))⟩,
    ⟨(some 11), none, .o (.v (.len (.t 10)))⟩,
    ⟨(some 12), none, .o (.v (.mov (.t 2)))⟩,
    ⟨(some 13), none, .o (.v (.bin .eql (.t 11) (.t 12)))⟩])
  (.cond (.t 13)
    (.seq (.reg [⟨(some 14), none, .o (.v (.mov (.t 3)))⟩,
      ⟨(some 15), none, .o (.v (.mov (.t 1)))⟩,
      ⟨(some 16), none, .o (.v (.mov (.t 2)))⟩,
      ⟨(some 17), none, .o (.v (.mov (.t 2)))⟩,
      ⟨(some 18), none, .o (.slc (.t 15) none (some (.t 16)) (some (.t 17)) 1)⟩,
      ⟨(some 19), none, .o (.call (.t 14) [(.t 18)])⟩,
      ⟨(some 8), none, .o (.v (.mov (.t 19)))⟩])
    .ret)
    .skip))
  (.seq (.seq (.reg [⟨(some 20), none, .o (.v (.off (.t 4) 0))⟩,
    ⟨(some 21), none, .o (.v (.off (.t 20) 0))⟩,
    ⟨(some 22), none, .o (.v (.load (.t 21) none))⟩,
    ⟨(some 23), none, .o (.v (.len (.t 22)))⟩,
    ⟨(some 24), none, .o (.v (.mov (.c (.int .i64 (0)))))⟩])
  (.block 0 (.loop
    (.seq (.reg [⟨(some 25), none, .o (.v (.bin .lss (.t 24) (.t 23)))⟩])
    (.seq (.cond (.t 25)
      .skip
      (.exit 0))
    (.seq (.block 1 (.seq (.reg [⟨(some 26), none, .o (.v (.mov (.t 24)))⟩,
      ⟨(some 9), none, .o (.v (.mov (.t 26)))⟩])
    (.seq (.seq (.reg [⟨(some 27), none, .o (.v (.mov (.t 1)))⟩,
      ⟨(some 28), none, .o (.v (.mov (.t 9)))⟩,
      ⟨(some 29), none, .o (.call (.c (.fn 89 [])) [(.t 27), (.t 28)])⟩])
    (.cond (.t 29)
      (.exit 1)
      .skip))
    (.seq (.drw [⟨[4, 1, 9, 2, 3], 1, 1, [(⟨(some 30), none, .o (.v (.load (.t 4) (some 3)))⟩, .val 0 []),
      (⟨(some 31), none, .o (.v (.mov (.t 1)))⟩, .val 0 []),
      (⟨(some 32), none, .o (.v (.mov (.t 1)))⟩, .val 0 []),
      (⟨(some 33), none, .o (.v (.len (.t 32)))⟩, .val 0 []),
      (⟨(some 34), none, .o (.v (.mov (.t 1)))⟩, .val 0 []),
      (⟨(some 35), none, .o (.v (.len (.t 34)))⟩, .val 0 []),
      (⟨(some 36), none, .o (.slc (.t 31) none (some (.t 33)) (some (.t 35)) 1)⟩, .val 0 []),
      (⟨(some 37), none, .o (.v (.mov (.t 9)))⟩, .val 0 []),
      (⟨(some 38), none, .o (.bsl 3 1 [(.int .i64 (0))] [(0, 1, (.t 37))])⟩, .cre 0),
      (⟨(some 39), none, .o (.app 3 1 8 (.t 36) (.t 38))⟩, .eff 0 [0]),
      (⟨(some 40), none, .o (.v (.mov (.t 2)))⟩, .val 0 []),
      (⟨(some 41), none, .o (.v (.mov (.t 3)))⟩, .val 0 [])],
      [],
      [⟨(some 42), none, .o (.call (.c (.fn 108 [])) [(.t 30), (.t 39), (.t 40), (.t 41)])⟩,
      ⟨(some 43), none, .o (.v (.not (.t 42)))⟩], none⟩])
    (.cond (.t 43)
      (.seq (.reg [⟨(some 8), none, .o (.v (.mov (.c (.lit (.bool false)))))⟩])
      .ret)
      .skip)))))
    (.reg [⟨(some 44), none, .o (.v (.bin .add (.t 24) (.c (.int .i64 (1)))))⟩,
      ⟨(some 24), none, .o (.v (.mov (.t 44)))⟩])))))))
  (.seq (.reg [⟨(some 8), none, .o (.v (.mov (.c (.lit (.bool true)))))⟩])
  .ret))))
theorem h108 : FdOk Try.prog 108 ⟨g108, [.t 8], 45, [], false⟩ := .of Try.func108 (by simp [Try.f108]) (by kernel_rfl)
def g109 : RC :=
  (.seq (.reg [⟨(some 2), none, .o (.box 87 (.t 0))⟩,
    ⟨(some 3), none, .o (.box 87 (.t 1))⟩,
    ⟨(some 4), none, .o (.v (.mov (.c (.int .i64 (0)))))⟩])
  (.seq (.reg [⟨(some 6), none, .o (.v (.off (.t 2) 0))⟩,
    ⟨(some 7), none, .o (.v (.load (.t 6) none))⟩,
    ⟨(some 8), none, .o (.v (.off (.t 3) 1))⟩,
    ⟨(some 9), none, .o (.v (.load (.t 8) none))⟩,
    ⟨(some 10), none, .o (.v (.bin .mul (.t 7) (.t 9)))⟩,
    ⟨(some 11), none, .o (.v (.off (.t 3) 0))⟩,
    ⟨(some 12), none, .o (.v (.load (.t 11) none))⟩,
    ⟨(some 13), none, .o (.v (.off (.t 2) 1))⟩,
    ⟨(some 14), none, .o (.v (.load (.t 13) none))⟩,
    ⟨(some 15), none, .o (.v (.bin .mul (.t 12) (.t 14)))⟩,
    ⟨(some 16), none, .o (.v (.bin .sub (.t 10) (.t 15)))⟩,
    ⟨(some 5), none, .o (.v (.mov (.t 16)))⟩])
  (.seq (.reg [⟨(some 17), none, .o (.v (.mov (.t 5)))⟩,
    ⟨(some 18), none, .o (.v (.mov (.t 5)))⟩,
    ⟨(some 19), none, .o (.v (.neg (.t 18)))⟩,
    ⟨(some 20), none, .o (.v (.max2 (.t 17) (.t 19)))⟩,
    ⟨(some 4), none, .o (.v (.mov (.t 20)))⟩])
  .ret)))
theorem h109 : FdOk Try.prog 109 ⟨g109, [.t 4], 21, [], false⟩ := .of Try.func109 (by simp [Try.f109]) (by kernel_rfl)
def g110 : RC :=
  (.seq (.reg [⟨(some 3), none, .o (.box 93 (.t 0))⟩,
    ⟨(some 6), none, .o (.v (.mov (.c (.lit (.bool false)))))⟩])
  (.seq (.reg [⟨(some 7), none, .o (.v (.mov (.t 1)))⟩,
    ⟨(some 8), none, .o (.v (.off (.t 3) 0))⟩,
    ⟨(some 9), none, .o (.v (.off (.t 8) 0))⟩,
    ⟨(some 10), none, .o (.v (.load (.t 9) none))⟩,
    ⟨(some 11), none, .o (.v (.len (.t 10)))⟩,
    ⟨(some 12), none, .o (.v (.bin .sub (.t 11) (.c (.int .i64 (1)))))⟩,
    ⟨(some 13), none, .o (.call (.c (.fn 60 [])) [(.t 7), (.c (.int .i64 (0))), (.t 12)])⟩,
    ⟨(some 14), none, .o (.v (.mov (.t 13)))⟩,
    ⟨(some 15), (some (14, true)), .o (.v (.mov (.t 2)))⟩,
    ⟨(some 16), (some (14, true)), .o (.v (.off (.t 3) 0))⟩,
    ⟨(some 17), (some (14, true)), .o (.v (.off (.t 16) 0))⟩,
    ⟨(some 18), (some (14, true)), .o (.v (.load (.t 17) none))⟩,
    ⟨(some 19), (some (14, true)), .o (.v (.mov (.t 1)))⟩,
    ⟨(some 20), (some (14, true)), .o (.v (.ixa (.t 18) (.t 19) 1))⟩,
    ⟨(some 21), (some (14, true)), .o (.v (.load (.t 20) none))⟩,
    ⟨(some 22), (some (14, true)), .o (.call (.c (.fn 60 [])) [(.t 15), (.c (.int .i64 (0))), (.t 21)])⟩,
    ⟨(some 23), none, .o (.v (.pick (.t 14) (.t 22) (.c (.lit (.bool false)))))⟩,
    ⟨(some 6), none, .o (.v (.mov (.t 23)))⟩])
  .ret))
theorem h110 : FdOk Try.prog 110 ⟨g110, [.t 6], 24, [], false⟩ := .of Try.func110 (by simp [Try.f110]) (by kernel_rfl)
def g111 : RC :=
  (.seq (.reg [⟨(some 6), none, .o (.v (.mov (.c (.int .i64 (0)))))⟩])
  (.seq (.seq (.reg [⟨(some 9), none, .o (.v (.mov (.t 2)))⟩,
    ⟨(some 10), none, .o (.v (.len (.t 9)))⟩,
    ⟨(some 11), none, .o (.v (.mov (.c (.int .i64 (0)))))⟩])
  (.block 0 (.loop
    (.seq (.reg [⟨(some 12), none, .o (.v (.bin .lss (.t 11) (.t 10)))⟩])
    (.seq (.cond (.t 12)
      .skip
      (.exit 0))
    (.seq (.block 1 (.seq (.reg [⟨(some 13), none, .o (.v (.ixa (.t 9) (.t 11) 1))⟩,
      ⟨(some 14), none, .o (.v (.load (.t 13) none))⟩,
      ⟨(some 8), none, .o (.v (.mov (.t 14)))⟩])
    (.seq (.reg [⟨(some 15), none, .o (.v (.mov (.t 0)))⟩,
      ⟨(some 16), none, .o (.v (.mov (.t 8)))⟩,
      ⟨(some 17), none, .o (.v (.mov (.t 1)))⟩,
      ⟨(some 18), none, .o (.call (.t 15) [(.t 16), (.t 17)])⟩])
    (.cond (.t 18)
      (.reg [⟨(some 19), none, .o (.v (.mov (.t 8)))⟩,
        ⟨(some 1), none, .o (.v (.mov (.t 19)))⟩])
      .skip))))
    (.reg [⟨(some 20), none, .o (.v (.bin .add (.t 11) (.c (.int .i64 (1)))))⟩,
      ⟨(some 11), none, .o (.v (.mov (.t 20)))⟩])))))))
  (.seq (.reg [⟨(some 21), none, .o (.v (.mov (.t 1)))⟩,
    ⟨(some 6), none, .o (.v (.mov (.t 21)))⟩])
  .ret)))
theorem h111 : FdOk Try.prog 111 ⟨g111, [.t 6], 22, [], false⟩ := .of Try.func111 (by simp [Try.f111]) (by kernel_rfl)
def g112 : RC :=
  (.seq (.reg [⟨(some 4), none, .o (.v (.mov (.c (.lit (.bool false)))))⟩])
  (.seq (.reg [⟨(some 5), none, .o (.v (.mov (.t 0)))⟩,
    ⟨(some 6), none, .o (.v (.mov (.t 1)))⟩,
    ⟨(some 7), none, .o (.v (.bin .gtr (.t 5) (.t 6)))⟩,
    ⟨(some 4), none, .o (.v (.mov (.t 7)))⟩])
  .ret))
theorem h112 : FdOk Try.prog 112 ⟨g112, [.t 4], 8, [], false⟩ := .of Try.func112 (by simp [Try.f112]) (by kernel_rfl)
def g113 : RC :=
  (.seq (.reg [⟨(some 4), none, .o (.v (.mov (.c (.lit (.bool false)))))⟩])
  (.seq (.reg [⟨(some 5), none, .o (.v (.mov (.t 0)))⟩,
    ⟨(some 6), none, .o (.v (.mov (.t 1)))⟩,
    ⟨(some 7), none, .o (.v (.bin .lss (.t 5) (.t 6)))⟩,
    ⟨(some 4), none, .o (.v (.mov (.t 7)))⟩])
  .ret))
theorem h113 : FdOk Try.prog 113 ⟨g113, [.t 4], 8, [], false⟩ := .of Try.func113 (by simp [Try.f113]) (by kernel_rfl)
end Go.Proofs.Ytbbbpdajikblbaa
