/- The code of the program's functions, as code that is run, and that it is theirs. -/
import Derived.Test.YtjagiieconpgbaaVgR18
import Derived.Test.YtjagiieconpgbaaChecked
import Derived.KernelRfl
namespace Go.Proofs.Ytjagiieconpgbaa
open Go Go.Vg
set_option maxRecDepth 100000
set_option maxHeartbeats 4000000
/-- octant/sextant.Read -/
def g15 : RC :=
  (.seq (.reg [⟨(some 2), none, .o (.box 26 (.t 0))⟩,
    ⟨(some 3), none, .o (.box 28 (.t 1))⟩,
    ⟨(some 4), none, .o (.new 24 [(.int .i64 (0)), (.int .i64 (0))])⟩,
    ⟨(some 5), none, .o (.v (.mov (.c (.int .i64 (0)))))⟩])
  (.seq (.seq (.reg [⟨(some 8), none, .o (.v (.load (.t 2) (some 6)))⟩,
    ⟨(some 9), none, .o (.call (.c (.fn 17 [])) [(.t 8)])⟩,
    ⟨(some 6), none, .o (.v (.mov (.t 9)))⟩])
  (.seq (.reg [⟨(some 10), none, .o (.v (.mov (.t 6)))⟩,
    ⟨(some 11), none, .o (.v (.bin .neq (.t 10) (.c (.int .i64 (0)))))⟩])
  (.cond (.t 11)
    (.seq (.reg [⟨(some 12), none, .o (.bld [(.int .i64 (0)), (.int .i64 (0))] [])⟩,
      ⟨(some 13), none, .o (.v (.mov (.t 6)))⟩,
      ⟨none, none, .o (.store 2 (.t 4) (.t 12))⟩,
      ⟨(some 5), none, .o (.v (.mov (.t 13)))⟩])
    .ret)
    .skip)))
  (.seq (.reg [⟨(some 14), none, .o (.v (.load (.t 2) (some 6)))⟩,
    ⟨(some 15), none, .o (.bld [(.int .i64 (0)), (.lit (.slice none 0 0)), (.int .i64 (0)), (.int .i64 (0)), (.int .i64 (0)), (.lit (.slice none 0 0))] [(0, 6, (.t 14))])⟩,
    ⟨(some 7), none, .o (.new 89 [(.int .i64 (0)), (.lit (.slice none 0 0)), (.int .i64 (0)), (.int .i64 (0)), (.int .i64 (0)), (.lit (.slice none 0 0))])⟩,
    ⟨none, none, .o (.store 6 (.t 7) (.t 15))⟩])
  (.seq (.seq (.reg [⟨(some 16), none, .o (.v (.load (.t 7) (some 6)))⟩,
    ⟨(some 17), none, .o (.v (.load (.t 3) (some 2)))⟩,
    ⟨(some 18), none, .o (.call (.c (.fn 55 [])) [(.t 16), (.t 17)])⟩,
    ⟨(some 19), none, .o (.v (.not (.t 18)))⟩])
  (.cond (.t 19)
    (.seq (.reg [⟨(some 20), none, .o (.bld [(.int .i64 (0)), (.int .i64 (0))] [])⟩,
      ⟨none, none, .o (.store 2 (.t 4) (.t 20))⟩,
      ⟨(some 5), none, .o (.v (.mov (.c (.int .i64 (51)))))⟩])
    .ret)
    .skip))
  (.seq (.reg [⟨(some 21), none, .o (.v (.load (.t 7) (some 6)))⟩,
    ⟨(some 22), none, .o (.v (.load (.t 3) (some 2)))⟩,
    ⟨(some 23), none, .o (.call (.c (.fn 56 [])) [(.t 21), (.t 22)])⟩,
    ⟨none, none, .o (.store 2 (.t 4) (.t 23))⟩,
    ⟨(some 5), none, .o (.v (.mov (.c (.int .i64 (0)))))⟩])
  .ret)))))
theorem h15 : FdOk Try.prog 15 ⟨g15, [.c 4 (some 2), .t 5], 24, [], false⟩ := .of Try.func15 (by simp [Try.f15]) (by kernel_rfl)
/-- octant/sextant.Check -/
def g17 : RC :=
  (.seq (.reg [⟨(some 1), none, .o (.box 26 (.t 0))⟩,
    ⟨(some 2), none, .o (.v (.mov (.c (.int .i64 (0)))))⟩])
  (.seq (.seq (.reg [⟨(some 3), none, .o (.v (.load (.t 1) (some 6)))⟩,
    ⟨(some 4), none, .o (.bld [(.int .i64 (0)), (.lit (.slice none 0 0)), (.int .i64 (0)), (.int .i64 (0)), (.int .i64 (0)), (.lit (.slice none 0 0))] [(0, 6, (.t 3))])⟩,
    ⟨(some 5), none, .o (.call (.c (.fn 61 [])) [(.t 4)])⟩,
    ⟨(some 6), none, .o (.v (.not (.t 5)))⟩])
  (.cond (.t 6)
    (.seq (.reg [⟨(some 2), none, .o (.v (.mov (.c (.int .i64 (50)))))⟩])
    .ret)
    .skip))
  (.seq (.reg [⟨(some 2), none, .o (.v (.mov (.c (.int .i64 (0)))))⟩])
  .ret)))
theorem h17 : FdOk Try.prog 17 ⟨g17, [.t 2], 7, [], false⟩ := .of Try.func17 (by simp [Try.f17]) (by kernel_rfl)
/-- octant/sextant.Class -/
def g19 : RC :=
  (.seq (.reg [⟨(some 1), none, .o (.box 26 (.t 0))⟩,
    ⟨(some 2), none, .o (.v (.mov (.c (.int .i64 (0)))))⟩,
    ⟨(some 3), none, .o (.v (.mov (.c (.int .i64 (0)))))⟩,
    ⟨(some 4), none, .o (.v (.mov (.c (.int .i64 (0)))))⟩])
  (.seq (.seq (.reg [⟨(some 6), none, .o (.v (.load (.t 1) (some 6)))⟩,
    ⟨(some 7), none, .o (.call (.c (.fn 17 [])) [(.t 6)])⟩,
    ⟨(some 5), none, .o (.v (.mov (.t 7)))⟩])
  (.seq (.reg [⟨(some 8), none, .o (.v (.mov (.t 5)))⟩,
    ⟨(some 9), none, .o (.v (.bin .neq (.t 8) (.c (.int .i64 (0)))))⟩])
  (.cond (.t 9)
    (.seq (.reg [⟨(some 10), none, .o (.v (.mov (.t 5)))⟩,
      ⟨(some 2), none, .o (.v (.mov (.c (.int .i64 (0)))))⟩,
      ⟨(some 3), none, .o (.v (.mov (.c (.int .i64 (0)))))⟩,
      ⟨(some 4), none, .o (.v (.mov (.t 10)))⟩])
    .ret)
    .skip)))
  (.seq (.reg [⟨(some 11), none, .o (.v (.load (.t 1) (some 6)))⟩,
    ⟨(some 12), none, .o (.bld [(.int .i64 (0)), (.lit (.slice none 0 0)), (.int .i64 (0)), (.int .i64 (0)), (.int .i64 (0)), (.lit (.slice none 0 0))] [(0, 6, (.t 11))])⟩,
    ⟨(some 13), none, .o (.call (.c (.fn 63 [])) [(.t 12)])⟩,
    ⟨(some 3), none, .o (.v (.mov (.t 13)))⟩])
  (.seq (.reg [⟨(some 14), none, .o (.v (.mov (.t 3)))⟩,
    ⟨(some 15), none, .o (.call (.c (.fn 64 [])) [(.t 14)])⟩,
    ⟨(some 16), none, .o (.v (.mov (.t 3)))⟩,
    ⟨(some 2), none, .o (.v (.mov (.t 15)))⟩,
    ⟨(some 3), none, .o (.v (.mov (.t 16)))⟩,
    ⟨(some 4), none, .o (.v (.mov (.c (.int .i64 (0)))))⟩])
  .ret))))
theorem h19 : FdOk Try.prog 19 ⟨g19, [.t 2, .t 3, .t 4], 17, [], false⟩ := .of Try.func19 (by simp [Try.f19]) (by kernel_rfl)
/-- octant/octantlaw05.works -/
def g21 : RC :=
  (.seq (.reg [⟨(some 0), none, .o (.v (.mov (.c (.lit (.bool false)))))⟩])
  (.seq (.reg [⟨(some 16), none, .o (.call (.c (.fn 50 [])) [])⟩,
    ⟨(some 17), none, .o (.bld [(.int .i64 (0)), (.int .i64 (0))] [(0, 1, (.c (.int .i64 (54000)))), (1, 1, (.c (.int .i64 (1))))])⟩,
    ⟨(some 18), none, .o (.call (.c (.fn 15 [])) [(.t 16), (.t 17)])⟩,
    ⟨(some 15), none, .o (.v (.mov (.t 18)))⟩,
    ⟨(some 19), none, .o (.v (.ext (.t 15) 0))⟩,
    ⟨(some 20), none, .o (.v (.ext (.t 15) 1))⟩,
    ⟨(some 1), none, .o (.new 24 [(.int .i64 (0)), (.int .i64 (0))])⟩,
    ⟨none, none, .o (.store 2 (.t 1) (.t 19))⟩,
    ⟨(some 2), none, .o (.v (.mov (.t 20)))⟩])
  (.seq (.reg [⟨(some 22), none, .o (.call (.c (.fn 50 [])) [])⟩,
    ⟨(some 23), none, .o (.call (.c (.fn 40 [])) [(.c (.int .i64 (1880))), (.c (.int .i64 (1900)))])⟩,
    ⟨(some 24), none, .o (.call (.c (.fn 51 [])) [])⟩,
    ⟨(some 25), none, .o (.call (.c (.fn 22 [])) [(.t 22), (.t 23), (.t 24)])⟩,
    ⟨(some 21), none, .o (.v (.mov (.t 25)))⟩,
    ⟨(some 26), none, .o (.v (.ext (.t 21) 0))⟩,
    ⟨(some 27), none, .o (.v (.ext (.t 21) 1))⟩,
    ⟨(some 28), none, .o (.v (.ext (.t 21) 2))⟩,
    ⟨(some 3), none, .o (.new 24 [(.int .i64 (0)), (.int .i64 (0))])⟩,
    ⟨(some 4), none, .o (.new 24 [(.int .i64 (0)), (.int .i64 (0))])⟩,
    ⟨none, none, .o (.store 2 (.t 3) (.t 26))⟩,
    ⟨none, none, .o (.store 2 (.t 4) (.t 27))⟩,
    ⟨(some 5), none, .o (.v (.mov (.t 28)))⟩])
  (.seq (.reg [⟨(some 30), none, .o (.call (.c (.fn 50 [])) [])⟩,
    ⟨(some 31), none, .o (.call (.c (.fn 53 [])) [])⟩,
    ⟨(some 32), none, .o (.slc (.t 31) none (some (.c (.int .i64 (2)))) none 3)⟩,
    ⟨(some 33), none, .o (.call (.c (.fn 24 [])) [(.t 30), (.t 32)])⟩,
    ⟨(some 29), none, .o (.v (.mov (.t 33)))⟩,
    ⟨(some 34), none, .o (.v (.ext (.t 29) 0))⟩,
    ⟨(some 35), none, .o (.v (.ext (.t 29) 1))⟩,
    ⟨(some 36), none, .o (.v (.ext (.t 29) 2))⟩,
    ⟨(some 7), none, .o (.new 24 [(.int .i64 (0)), (.int .i64 (0))])⟩,
    ⟨(some 6), none, .o (.v (.mov (.t 34)))⟩,
    ⟨none, none, .o (.store 2 (.t 7) (.t 35))⟩,
    ⟨(some 8), none, .o (.v (.mov (.t 36)))⟩])
  (.seq (.reg [⟨(some 38), none, .o (.call (.c (.fn 50 [])) [])⟩,
    ⟨(some 39), none, .o (.call (.c (.fn 53 [])) [])⟩,
    ⟨(some 40), none, .o (.call (.c (.fn 27 [])) [(.t 38), (.t 39)])⟩,
    ⟨(some 37), none, .o (.v (.mov (.t 40)))⟩,
    ⟨(some 41), none, .o (.v (.ext (.t 37) 0))⟩,
    ⟨(some 42), none, .o (.v (.ext (.t 37) 1))⟩,
    ⟨(some 9), none, .o (.v (.mov (.t 41)))⟩,
    ⟨(some 10), none, .o (.v (.mov (.t 42)))⟩])
  (.seq (.seq (.drw [⟨[2, 43, 44, 45, 5, 46, 47, 48, 49, 8, 50, 51, 52, 53, 10, 54, 55, 56, 57, 1, 58, 59, 60, 61, 62, 3, 63, 64, 65, 66, 67, 4, 68, 69, 70, 71, 72, 6, 74, 75, 76, 73, 77, 78, 79, 80, 81, 7, 82, 83, 84, 85, 86, 9, 87, 88, 89, 90], 0, 0, [(⟨(some 43), none, .o (.v (.mov (.t 2)))⟩, .val 0 []),
    (⟨(some 44), none, .o (.v (.bin .neq (.t 43) (.c (.int .i64 (0)))))⟩, .val 0 []),
    (⟨(some 45), none, .o (.v (.mov (.t 44)))⟩, .val 0 []),
    (⟨(some 46), (some (45, false)), .o (.v (.mov (.t 5)))⟩, .val 0 []),
    (⟨(some 47), (some (45, false)), .o (.v (.bin .neq (.t 46) (.c (.int .i64 (0)))))⟩, .val 0 []),
    (⟨(some 48), none, .o (.v (.pick (.t 45) (.c (.lit (.bool true))) (.t 47)))⟩, .val 0 []),
    (⟨(some 49), none, .o (.v (.mov (.t 48)))⟩, .val 0 []),
    (⟨(some 50), (some (49, false)), .o (.v (.mov (.t 8)))⟩, .val 0 []),
    (⟨(some 51), (some (49, false)), .o (.v (.bin .neq (.t 50) (.c (.int .i64 (0)))))⟩, .val 0 []),
    (⟨(some 52), none, .o (.v (.pick (.t 49) (.c (.lit (.bool true))) (.t 51)))⟩, .val 0 []),
    (⟨(some 53), none, .o (.v (.mov (.t 52)))⟩, .val 0 []),
    (⟨(some 54), (some (53, false)), .o (.v (.mov (.t 10)))⟩, .val 0 []),
    (⟨(some 55), (some (53, false)), .o (.v (.bin .neq (.t 54) (.c (.int .i64 (0)))))⟩, .val 0 []),
    (⟨(some 56), none, .o (.v (.pick (.t 53) (.c (.lit (.bool true))) (.t 55)))⟩, .val 0 []),
    (⟨(some 57), none, .o (.v (.mov (.t 56)))⟩, .val 0 []),
    (⟨(some 58), (some (57, false)), .o (.v (.load (.t 1) (some 2)))⟩, .val 0 []),
    (⟨(some 59), (some (57, false)), .o (.call (.c (.fn 40 [])) [(.c (.int .i64 (53970))), (.c (.int .i64 (54016)))])⟩, .val 0 []),
    (⟨(some 60), (some (57, false)), .o (.v (.eqs [(some .i64), (some .i64)] true (.t 58) (.t 59)))⟩, .val 0 []),
    (⟨(some 61), none, .o (.v (.pick (.t 57) (.c (.lit (.bool true))) (.t 60)))⟩, .val 0 []),
    (⟨(some 62), none, .o (.v (.mov (.t 61)))⟩, .val 0 []),
    (⟨(some 63), (some (62, false)), .o (.v (.load (.t 3) (some 2)))⟩, .val 0 []),
    (⟨(some 64), (some (62, false)), .o (.call (.c (.fn 40 [])) [(.c (.int .i64 (-28))), (.c (.int .i64 (-22)))])⟩, .val 0 []),
    (⟨(some 65), (some (62, false)), .o (.v (.eqs [(some .i64), (some .i64)] true (.t 63) (.t 64)))⟩, .val 0 []),
    (⟨(some 66), none, .o (.v (.pick (.t 62) (.c (.lit (.bool true))) (.t 65)))⟩, .val 0 []),
    (⟨(some 67), none, .o (.v (.mov (.t 66)))⟩, .val 0 []),
    (⟨(some 68), (some (67, false)), .o (.v (.load (.t 4) (some 2)))⟩, .val 0 []),
    (⟨(some 69), (some (67, false)), .o (.call (.c (.fn 40 [])) [(.c (.int .i64 (1885))), (.c (.int .i64 (1892)))])⟩, .val 0 []),
    (⟨(some 70), (some (67, false)), .o (.v (.eqs [(some .i64), (some .i64)] true (.t 68) (.t 69)))⟩, .val 0 []),
    (⟨(some 71), none, .o (.v (.pick (.t 67) (.c (.lit (.bool true))) (.t 70)))⟩, .val 0 []),
    (⟨(some 72), none, .o (.v (.mov (.t 71)))⟩, .val 0 []),
    (⟨(some 73), (some (72, false)), .o (.v (.mov (.t 6)))⟩, .val 0 []),
    (⟨(some 74), (some (72, false)), .o (.call (.c (.fn 40 [])) [(.c (.int .i64 (0))), (.c (.int .i64 (0)))])⟩, .val 0 []),
    (⟨(some 75), (some (72, false)), .o (.call (.c (.fn 40 [])) [(.c (.int .i64 (0))), (.c (.int .i64 (10)))])⟩, .val 0 []),
    (⟨(some 76), (some (72, false)), .o (.call (.c (.fn 40 [])) [(.c (.int .i64 (25))), (.c (.int .i64 (40)))])⟩, .val 0 []),
    (⟨(some 77), (some (72, false)), .o (.bsl 24 3 [(.int .i64 (0)), (.int .i64 (0)), (.int .i64 (0)), (.int .i64 (0)), (.int .i64 (0)), (.int .i64 (0))] [(0, 2, (.t 74)), (2, 2, (.t 75)), (4, 2, (.t 76))])⟩, .val 0 []),
    (⟨(some 78), (some (72, false)), .o (.call (.c (.fn 26 [])) [(.t 73), (.t 77)])⟩, .val 0 []),
    (⟨(some 79), (some (72, false)), .o (.v (.not (.t 78)))⟩, .val 0 []),
    (⟨(some 80), none, .o (.v (.pick (.t 72) (.c (.lit (.bool true))) (.t 79)))⟩, .val 0 []),
    (⟨(some 81), none, .o (.v (.mov (.t 80)))⟩, .val 0 []),
    (⟨(some 82), (some (81, false)), .o (.v (.load (.t 7) (some 2)))⟩, .val 0 []),
    (⟨(some 83), (some (81, false)), .o (.call (.c (.fn 40 [])) [(.c (.int .i64 (-30))), (.c (.int .i64 (-20)))])⟩, .val 0 []),
    (⟨(some 84), (some (81, false)), .o (.v (.eqs [(some .i64), (some .i64)] true (.t 82) (.t 83)))⟩, .val 0 []),
    (⟨(some 85), none, .o (.v (.pick (.t 81) (.c (.lit (.bool true))) (.t 84)))⟩, .val 0 []),
    (⟨(some 86), none, .o (.v (.mov (.t 85)))⟩, .val 0 []),
    (⟨(some 87), (some (86, false)), .o (.v (.mov (.t 9)))⟩, .val 0 []),
    (⟨(some 88), (some (86, false)), .o (.bsl 3 2 [(.int .i64 (0)), (.int .i64 (0))] [(0, 1, (.c (.int .i64 (0)))), (1, 1, (.c (.int .i64 (2))))])⟩, .val 0 [])],
    [],
    [⟨(some 89), (some (86, false)), .o (.call (.c (.fn 29 [])) [(.t 87), (.t 88)])⟩,
    ⟨(some 90), (some (86, false)), .o (.v (.not (.t 89)))⟩,
    ⟨(some 91), none, .o (.v (.pick (.t 86) (.c (.lit (.bool true))) (.t 90)))⟩], none⟩])
  (.cond (.t 91)
    (.seq (.reg [⟨(some 0), none, .o (.v (.mov (.c (.lit (.bool false)))))⟩])
    .ret)
    .skip))
  (.seq (.reg [⟨(some 93), none, .o (.call (.c (.fn 50 [])) [])⟩,
    ⟨(some 94), none, .o (.call (.c (.fn 19 [])) [(.t 93)])⟩,
    ⟨(some 92), none, .o (.v (.mov (.t 94)))⟩,
    ⟨(some 95), none, .o (.v (.ext (.t 92) 0))⟩,
    ⟨(some 96), none, .o (.v (.ext (.t 92) 1))⟩,
    ⟨(some 97), none, .o (.v (.ext (.t 92) 2))⟩,
    ⟨(some 11), none, .o (.v (.mov (.t 95)))⟩,
    ⟨(some 12), none, .o (.v (.mov (.t 96)))⟩,
    ⟨(some 2), none, .o (.v (.mov (.t 97)))⟩])
  (.seq (.reg [⟨(some 99), none, .o (.call (.c (.fn 54 [])) [])⟩,
    ⟨(some 100), none, .o (.call (.c (.fn 30 [])) [(.t 99), (.c (.int .i64 (20)))])⟩,
    ⟨(some 98), none, .o (.v (.mov (.t 100)))⟩,
    ⟨(some 101), none, .o (.v (.ext (.t 98) 0))⟩,
    ⟨(some 102), none, .o (.v (.ext (.t 98) 1))⟩,
    ⟨(some 103), none, .o (.v (.ext (.t 98) 2))⟩,
    ⟨(some 13), none, .o (.v (.mov (.t 101)))⟩,
    ⟨(some 14), none, .o (.v (.mov (.t 102)))⟩,
    ⟨(some 5), none, .o (.v (.mov (.t 103)))⟩])
  (.seq (.reg [⟨(some 104), none, .o (.v (.mov (.t 2)))⟩,
    ⟨(some 105), none, .o (.v (.bin .eql (.t 104) (.c (.int .i64 (0)))))⟩,
    ⟨(some 106), none, .o (.v (.mov (.t 105)))⟩,
    ⟨(some 107), (some (106, true)), .o (.v (.mov (.t 5)))⟩,
    ⟨(some 108), (some (106, true)), .o (.v (.bin .eql (.t 107) (.c (.int .i64 (0)))))⟩,
    ⟨(some 109), none, .o (.v (.pick (.t 106) (.t 108) (.c (.lit (.bool false)))))⟩,
    ⟨(some 110), none, .o (.v (.mov (.t 109)))⟩,
    ⟨(some 111), (some (110, true)), .o (.v (.mov (.t 11)))⟩,
    ⟨(some 112), (some (110, true)), .o (.v (.bin .eql (.t 111) (.c (.int .i64 (2)))))⟩,
    ⟨(some 113), none, .o (.v (.pick (.t 110) (.t 112) (.c (.lit (.bool false)))))⟩,
    ⟨(some 114), none, .o (.v (.mov (.t 113)))⟩,
    ⟨(some 115), (some (114, true)), .o (.v (.mov (.t 12)))⟩,
    ⟨(some 116), (some (114, true)), .o (.v (.bin .eql (.t 115) (.c (.int .i64 (54)))))⟩,
    ⟨(some 117), none, .o (.v (.pick (.t 114) (.t 116) (.c (.lit (.bool false)))))⟩,
    ⟨(some 118), none, .o (.v (.mov (.t 117)))⟩,
    ⟨(some 119), (some (118, true)), .o (.v (.mov (.t 13)))⟩,
    ⟨(some 120), (some (118, true)), .o (.bsl 3 3 [(.int .i64 (0)), (.int .i64 (0)), (.int .i64 (0))] [(0, 1, (.c (.int .i64 (1)))), (1, 1, (.c (.int .i64 (2)))), (2, 1, (.c (.int .i64 (3))))])⟩,
    ⟨(some 121), (some (118, true)), .o (.call (.c (.fn 29 [])) [(.t 119), (.t 120)])⟩,
    ⟨(some 122), none, .o (.v (.pick (.t 118) (.t 121) (.c (.lit (.bool false)))))⟩,
    ⟨(some 123), none, .o (.v (.mov (.t 122)))⟩,
    ⟨(some 124), (some (123, true)), .o (.v (.mov (.t 14)))⟩,
    ⟨(some 125), (some (123, true)), .o (.v (.bin .eql (.t 124) (.c (.int .i64 (60)))))⟩,
    ⟨(some 126), none, .o (.v (.pick (.t 123) (.t 125) (.c (.lit (.bool false)))))⟩,
    ⟨(some 0), none, .o (.v (.mov (.t 126)))⟩])
  .ret)))))))))
theorem h21 : FdOk Try.prog 21 ⟨g21, [.t 0], 127, [], false⟩ := .of Try.func21 (by simp [Try.f21]) (by kernel_rfl)
/-- octant/sextant.Index -/
def g22 : RC :=
  (.seq (.reg [⟨(some 3), none, .o (.box 26 (.t 0))⟩,
    ⟨(some 4), none, .o (.box 24 (.t 1))⟩,
    ⟨(some 6), none, .o (.new 24 [(.int .i64 (0)), (.int .i64 (0))])⟩,
    ⟨(some 7), none, .o (.new 24 [(.int .i64 (0)), (.int .i64 (0))])⟩,
    ⟨(some 8), none, .o (.v (.mov (.c (.int .i64 (0)))))⟩])
  (.seq (.seq (.reg [⟨(some 10), none, .o (.v (.load (.t 3) (some 6)))⟩,
    ⟨(some 11), none, .o (.call (.c (.fn 17 [])) [(.t 10)])⟩,
    ⟨(some 9), none, .o (.v (.mov (.t 11)))⟩])
  (.seq (.reg [⟨(some 12), none, .o (.v (.mov (.t 9)))⟩,
    ⟨(some 13), none, .o (.v (.bin .neq (.t 12) (.c (.int .i64 (0)))))⟩])
  (.cond (.t 13)
    (.seq (.reg [⟨(some 14), none, .o (.bld [(.int .i64 (0)), (.int .i64 (0))] [])⟩,
      ⟨(some 15), none, .o (.bld [(.int .i64 (0)), (.int .i64 (0))] [])⟩,
      ⟨(some 16), none, .o (.v (.mov (.t 9)))⟩,
      ⟨none, none, .o (.store 2 (.t 6) (.t 14))⟩,
      ⟨none, none, .o (.store 2 (.t 7) (.t 15))⟩,
      ⟨(some 8), none, .o (.v (.mov (.t 16)))⟩])
    .ret)
    .skip)))
  (.seq (.seq (.reg [⟨(some 17), none, .o (.v (.load (.t 4) (some 2)))⟩,
    ⟨(some 18), none, .o (.call (.c (.fn 65 [])) [(.t 17), (.c (.int .i64 (1))), (.c (.int .i64 (4000)))])⟩,
    ⟨(some 19), none, .o (.v (.not (.t 18)))⟩,
    ⟨(some 20), none, .o (.v (.mov (.t 19)))⟩,
    ⟨(some 21), (some (20, false)), .o (.v (.mov (.t 2)))⟩,
    ⟨(some 22), (some (20, false)), .o (.call (.c (.fn 66 [])) [(.t 21)])⟩,
    ⟨(some 23), (some (20, false)), .o (.v (.not (.t 22)))⟩,
    ⟨(some 24), none, .o (.v (.pick (.t 20) (.c (.lit (.bool true))) (.t 23)))⟩])
  (.cond (.t 24)
    (.seq (.reg [⟨(some 25), none, .o (.bld [(.int .i64 (0)), (.int .i64 (0))] [])⟩,
      ⟨(some 26), none, .o (.bld [(.int .i64 (0)), (.int .i64 (0))] [])⟩,
      ⟨none, none, .o (.store 2 (.t 6) (.t 25))⟩,
      ⟨none, none, .o (.store 2 (.t 7) (.t 26))⟩,
      ⟨(some 8), none, .o (.v (.mov (.c (.int .i64 (52)))))⟩])
    .ret)
    .skip))
  (.seq (.reg [⟨(some 28), none, .o (.v (.load (.t 3) (some 6)))⟩,
    ⟨(some 29), none, .o (.bld [(.int .i64 (0)), (.lit (.slice none 0 0)), (.int .i64 (0)), (.int .i64 (0)), (.int .i64 (0)), (.lit (.slice none 0 0))] [(0, 6, (.t 28))])⟩,
    ⟨(some 30), none, .o (.v (.load (.t 4) (some 2)))⟩,
    ⟨(some 31), none, .o (.v (.mov (.t 2)))⟩,
    ⟨(some 32), none, .o (.call (.c (.fn 67 [])) [(.t 29), (.t 30), (.t 31)])⟩,
    ⟨(some 27), none, .o (.v (.mov (.t 32)))⟩,
    ⟨(some 33), none, .o (.v (.ext (.t 27) 0))⟩,
    ⟨(some 34), none, .o (.v (.ext (.t 27) 1))⟩,
    ⟨none, none, .o (.store 2 (.t 6) (.t 33))⟩,
    ⟨none, none, .o (.store 2 (.t 7) (.t 34))⟩])
  (.seq (.seq (.drw [⟨[], 0, 1, [(⟨(some 35), none, .o (.v (.load (.t 6) (some 2)))⟩, .val 0 []),
    (⟨(some 36), none, .o (.call (.c (.fn 68 [])) [])⟩, .eff 0 [])],
    [],
    [⟨(some 37), none, .o (.v (.eqs [(some .i64), (some .i64)] false (.t 35) (.t 36)))⟩], none⟩])
  (.cond (.t 37)
    (.seq (.reg [⟨(some 38), none, .o (.bld [(.int .i64 (0)), (.int .i64 (0))] [])⟩,
      ⟨(some 39), none, .o (.bld [(.int .i64 (0)), (.int .i64 (0))] [])⟩,
      ⟨none, none, .o (.store 2 (.t 6) (.t 38))⟩,
      ⟨none, none, .o (.store 2 (.t 7) (.t 39))⟩,
      ⟨(some 8), none, .o (.v (.mov (.c (.int .i64 (54)))))⟩])
    .ret)
    .skip))
  (.seq (.drw [⟨[], 0, 1, [(⟨(some 40), none, .o (.v (.load (.t 6) (some 2)))⟩, .val 0 []),
    (⟨(some 41), none, .o (.v (.load (.t 7) (some 2)))⟩, .prd [6]),
    (⟨none, none, .o (.store 2 (.t 6) (.t 40))⟩, .efs 0 [] [])],
    [],
    [⟨none, none, .o (.store 2 (.t 7) (.t 41))⟩,
    ⟨(some 8), none, .o (.v (.mov (.c (.int .i64 (0)))))⟩], none⟩,
    ⟨[], 0, 1, [(⟨(some 40), none, .o (.v (.load (.t 6) (some 2)))⟩, .val 0 []),
    (⟨(some 41), none, .o (.v (.load (.t 7) (some 2)))⟩, .prd [6]),
    (⟨none, none, .o (.store 2 (.t 6) (.t 40))⟩, .efs 0 [] [])],
    [],
    [⟨none, none, .o (.store 2 (.t 7) (.t 41))⟩,
    ⟨(some 8), none, .o (.v (.mov (.c (.int .i64 (0)))))⟩], none⟩])
  .ret))))))
theorem h22 : FdOk Try.prog 22 ⟨g22, [.c 6 (some 2), .c 7 (some 2), .t 8], 42, [], false⟩ := .of Try.func22 (by simp [Try.f22]) (by kernel_rfl)
/-- octant/sextant.Trial -/
def g24 : RC :=
  (.seq (.reg [⟨(some 2), none, .o (.box 26 (.t 0))⟩,
    ⟨(some 4), none, .o (.v (.mov (.c (.lit (.slice none 0 0)))))⟩,
    ⟨(some 5), none, .o (.new 24 [(.int .i64 (0)), (.int .i64 (0))])⟩,
    ⟨(some 6), none, .o (.v (.mov (.c (.int .i64 (0)))))⟩])
  (.seq (.seq (.reg [⟨(some 9), none, .o (.v (.load (.t 2) (some 6)))⟩,
    ⟨(some 10), none, .o (.v (.mov (.t 1)))⟩,
    ⟨(some 11), none, .o (.call (.c (.fn 70 [])) [(.t 9), (.t 10)])⟩,
    ⟨(some 7), none, .o (.v (.mov (.t 11)))⟩])
  (.seq (.reg [⟨(some 12), none, .o (.v (.mov (.t 7)))⟩,
    ⟨(some 13), none, .o (.v (.bin .neq (.t 12) (.c (.int .i64 (0)))))⟩])
  (.cond (.t 13)
    (.seq (.reg [⟨(some 14), none, .o (.bld [(.int .i64 (0)), (.int .i64 (0))] [])⟩,
      ⟨(some 15), none, .o (.v (.mov (.t 7)))⟩,
      ⟨(some 4), none, .o (.v (.mov (.c (.lit (.slice none 0 0)))))⟩,
      ⟨none, none, .o (.store 2 (.t 5) (.t 14))⟩,
      ⟨(some 6), none, .o (.v (.mov (.t 15)))⟩])
    .ret)
    .skip)))
  (.seq (.reg [⟨(some 16), none, .o (.v (.load (.t 2) (some 6)))⟩,
    ⟨(some 17), none, .o (.bld [(.int .i64 (0)), (.lit (.slice none 0 0)), (.int .i64 (0)), (.int .i64 (0)), (.int .i64 (0)), (.lit (.slice none 0 0))] [(0, 6, (.t 16))])⟩,
    ⟨(some 8), none, .o (.new 89 [(.int .i64 (0)), (.lit (.slice none 0 0)), (.int .i64 (0)), (.int .i64 (0)), (.int .i64 (0)), (.lit (.slice none 0 0))])⟩,
    ⟨none, none, .o (.store 6 (.t 8) (.t 17))⟩])
  (.seq (.drw [⟨[], 0, 2, [(⟨(some 19), none, .o (.v (.load (.t 8) (some 6)))⟩, .val 0 []),
    (⟨(some 20), none, .o (.v (.load (.t 8) (some 6)))⟩, .val 0 []),
    (⟨(some 21), none, .o (.v (.mov (.t 1)))⟩, .val 0 []),
    (⟨(some 22), none, .o (.call (.c (.fn 72 [])) [(.t 20), (.t 21)])⟩, .eff 0 []),
    (⟨(some 23), none, .o (.call (.c (.fn 71 [])) [(.t 19), (.t 22)])⟩, .eff 1 []),
    (⟨(some 18), none, .o (.v (.mov (.t 23)))⟩, .val 2 []),
    (⟨(some 24), none, .o (.v (.ext (.t 18) 0))⟩, .val 2 []),
    (⟨(some 25), none, .o (.v (.ext (.t 18) 1))⟩, .val 2 []),
    (⟨(some 4), none, .o (.v (.mov (.t 24)))⟩, .val 2 [])],
    [],
    [⟨none, none, .o (.store 2 (.t 5) (.t 25))⟩], none⟩])
  (.seq (.seq (.drw [⟨[], 0, 1, [(⟨(some 26), none, .o (.v (.load (.t 5) (some 2)))⟩, .val 0 []),
    (⟨(some 27), none, .o (.call (.c (.fn 68 [])) [])⟩, .eff 0 [])],
    [],
    [⟨(some 28), none, .o (.v (.eqs [(some .i64), (some .i64)] false (.t 26) (.t 27)))⟩], none⟩])
  (.cond (.t 28)
    (.seq (.reg [⟨(some 29), none, .o (.bld [(.int .i64 (0)), (.int .i64 (0))] [])⟩,
      ⟨(some 4), none, .o (.v (.mov (.c (.lit (.slice none 0 0)))))⟩,
      ⟨none, none, .o (.store 2 (.t 5) (.t 29))⟩,
      ⟨(some 6), none, .o (.v (.mov (.c (.int .i64 (54)))))⟩])
    .ret)
    .skip))
  (.seq (.drw [⟨[], 0, 0, [(⟨(some 30), none, .o (.v (.mov (.t 4)))⟩, .val 0 []),
    (⟨(some 31), none, .o (.v (.load (.t 5) (some 2)))⟩, .val 0 []),
    (⟨(some 4), none, .o (.v (.mov (.t 30)))⟩, .val 0 [])],
    [],
    [⟨none, none, .o (.store 2 (.t 5) (.t 31))⟩,
    ⟨(some 6), none, .o (.v (.mov (.c (.int .i64 (0)))))⟩], none⟩])
  .ret))))))
theorem h24 : FdOk Try.prog 24 ⟨g24, [.t 4, .c 5 (some 2), .t 6], 32, [], false⟩ := .of Try.func24 (by simp [Try.f24]) (by kernel_rfl)
/-- octant/octantref00.SameSpans -/
def g26 : RC :=
  (.seq (.reg [⟨(some 4), none, .o (.v (.mov (.c (.lit (.bool false)))))⟩])
  (.seq (.seq (.reg [⟨(some 6), none, .o (.v (.mov (.t 0)))⟩,
    ⟨(some 7), none, .o (.v (.len (.t 6)))⟩,
    ⟨(some 8), none, .o (.v (.mov (.t 1)))⟩,
    ⟨(some 9), none, .o (.v (.len (.t 8)))⟩,
    ⟨(some 10), none, .o (.v (.bin .neq (.t 7) (.t 9)))⟩])
  (.cond (.t 10)
    (.seq (.reg [⟨(some 4), none, .o (.v (.mov (.c (.lit (.bool false)))))⟩])
    .ret)
    .skip))
  (.seq (.seq (.reg [⟨(some 5), none, .o (.v (.mov (.c (.int .i64 (0)))))⟩])
  (.block 0 (.loop
    (.seq (.seq (.reg [⟨(some 11), none, .o (.v (.mov (.t 5)))⟩,
      ⟨(some 12), none, .o (.v (.mov (.t 0)))⟩,
      ⟨(some 13), none, .o (.v (.len (.t 12)))⟩,
      ⟨(some 14), none, .o (.v (.bin .lss (.t 11) (.t 13)))⟩])
    (.cond (.t 14)
      .skip
      (.exit 0)))
    (.seq (.block 1 (.seq (.drw [⟨[], 0, 0, [(⟨(some 17), none, .o (.v (.mov (.t 0)))⟩, .val 0 []),
      (⟨(some 18), none, .o (.v (.mov (.t 5)))⟩, .val 0 []),
      (⟨(some 19), none, .o (.v (.ixa (.t 17) (.t 18) 2))⟩, .val 0 []),
      (⟨(some 20), none, .o (.v (.load (.t 19) (some 2)))⟩, .val 0 []),
      (⟨(some 21), none, .o (.v (.mov (.t 1)))⟩, .val 0 []),
      (⟨(some 22), none, .o (.v (.mov (.t 5)))⟩, .val 0 []),
      (⟨(some 23), none, .o (.v (.ixa (.t 21) (.t 22) 2))⟩, .val 0 []),
      (⟨(some 24), none, .o (.v (.load (.t 23) (some 2)))⟩, .val 0 [])],
      [],
      [⟨(some 25), none, .o (.v (.eqs [(some .i64), (some .i64)] true (.t 20) (.t 24)))⟩], none⟩])
    (.cond (.t 25)
      (.seq (.reg [⟨(some 4), none, .o (.v (.mov (.c (.lit (.bool false)))))⟩])
      .ret)
      .skip)))
    (.reg [⟨(some 15), none, .o (.v (.mov (.t 5)))⟩,
      ⟨(some 16), none, .o (.v (.bin .add (.t 15) (.c (.int .i64 (1)))))⟩,
      ⟨(some 5), none, .o (.v (.mov (.t 16)))⟩]))))))
  (.seq (.reg [⟨(some 4), none, .o (.v (.mov (.c (.lit (.bool true)))))⟩])
  .ret))))
theorem h26 : FdOk Try.prog 26 ⟨g26, [.t 4], 26, [], false⟩ := .of Try.func26 (by simp [Try.f26]) (by kernel_rfl)
/-- octant/sextant.False -/
def g27 : RC :=
  (.seq (.reg [⟨(some 2), none, .o (.box 26 (.t 0))⟩,
    ⟨(some 4), none, .o (.v (.mov (.c (.lit (.slice none 0 0)))))⟩,
    ⟨(some 5), none, .o (.v (.mov (.c (.int .i64 (0)))))⟩])
  (.seq (.seq (.reg [⟨(some 8), none, .o (.v (.load (.t 2) (some 6)))⟩,
    ⟨(some 9), none, .o (.v (.mov (.t 1)))⟩,
    ⟨(some 10), none, .o (.call (.c (.fn 70 [])) [(.t 8), (.t 9)])⟩,
    ⟨(some 6), none, .o (.v (.mov (.t 10)))⟩])
  (.seq (.reg [⟨(some 11), none, .o (.v (.mov (.t 6)))⟩,
    ⟨(some 12), none, .o (.v (.bin .neq (.t 11) (.c (.int .i64 (0)))))⟩])
  (.cond (.t 12)
    (.seq (.reg [⟨(some 13), none, .o (.v (.mov (.t 6)))⟩,
      ⟨(some 4), none, .o (.v (.mov (.c (.lit (.slice none 0 0)))))⟩,
      ⟨(some 5), none, .o (.v (.mov (.t 13)))⟩])
    .ret)
    .skip)))
  (.seq (.reg [⟨(some 14), none, .o (.v (.load (.t 2) (some 6)))⟩,
    ⟨(some 15), none, .o (.bld [(.int .i64 (0)), (.lit (.slice none 0 0)), (.int .i64 (0)), (.int .i64 (0)), (.int .i64 (0)), (.lit (.slice none 0 0))] [(0, 6, (.t 14))])⟩,
    ⟨(some 7), none, .o (.new 89 [(.int .i64 (0)), (.lit (.slice none 0 0)), (.int .i64 (0)), (.int .i64 (0)), (.int .i64 (0)), (.lit (.slice none 0 0))])⟩,
    ⟨none, none, .o (.store 6 (.t 7) (.t 15))⟩])
  (.seq (.seq (.reg [⟨(some 16), none, .o (.v (.load (.t 7) (some 6)))⟩,
    ⟨(some 17), none, .o (.v (.mov (.t 1)))⟩,
    ⟨(some 18), none, .o (.call (.c (.fn 75 [])) [(.t 16), (.t 17)])⟩])
  (.cond (.t 18)
    (.seq (.reg [⟨(some 4), none, .o (.v (.mov (.c (.lit (.slice none 0 0)))))⟩,
      ⟨(some 5), none, .o (.v (.mov (.c (.int .i64 (4)))))⟩])
    .ret)
    .skip))
  (.seq (.reg [⟨(some 19), none, .o (.v (.load (.t 7) (some 6)))⟩,
    ⟨(some 20), none, .o (.v (.mov (.t 1)))⟩,
    ⟨(some 21), none, .o (.call (.c (.fn 76 [])) [(.t 19), (.t 20)])⟩,
    ⟨(some 4), none, .o (.v (.mov (.t 21)))⟩,
    ⟨(some 5), none, .o (.v (.mov (.c (.int .i64 (0)))))⟩])
  .ret)))))
theorem h27 : FdOk Try.prog 27 ⟨g27, [.t 4, .t 5], 22, [], false⟩ := .of Try.func27 (by simp [Try.f27]) (by kernel_rfl)
/-- octant/octantref00.Same -/
def g29 : RC :=
  (.seq (.reg [⟨(some 4), none, .o (.v (.mov (.c (.lit (.bool false)))))⟩])
  (.seq (.seq (.reg [⟨(some 6), none, .o (.v (.mov (.t 0)))⟩,
    ⟨(some 7), none, .o (.v (.len (.t 6)))⟩,
    ⟨(some 8), none, .o (.v (.mov (.t 1)))⟩,
    ⟨(some 9), none, .o (.v (.len (.t 8)))⟩,
    ⟨(some 10), none, .o (.v (.bin .neq (.t 7) (.t 9)))⟩])
  (.cond (.t 10)
    (.seq (.reg [⟨(some 4), none, .o (.v (.mov (.c (.lit (.bool false)))))⟩])
    .ret)
    .skip))
  (.seq (.seq (.reg [⟨(some 5), none, .o (.v (.mov (.c (.int .i64 (0)))))⟩])
  (.block 0 (.loop
    (.seq (.seq (.reg [⟨(some 11), none, .o (.v (.mov (.t 5)))⟩,
      ⟨(some 12), none, .o (.v (.mov (.t 0)))⟩,
      ⟨(some 13), none, .o (.v (.len (.t 12)))⟩,
      ⟨(some 14), none, .o (.v (.bin .lss (.t 11) (.t 13)))⟩])
    (.cond (.t 14)
      .skip
      (.exit 0)))
    (.seq (.block 1 (.seq (.drw [⟨[], 0, 0, [(⟨(some 17), none, .o (.v (.mov (.t 0)))⟩, .val 0 []),
      (⟨(some 18), none, .o (.v (.mov (.t 5)))⟩, .val 0 []),
      (⟨(some 19), none, .o (.v (.ixa (.t 17) (.t 18) 1))⟩, .val 0 []),
      (⟨(some 20), none, .o (.v (.load (.t 19) none))⟩, .val 0 []),
      (⟨(some 21), none, .o (.v (.mov (.t 1)))⟩, .val 0 []),
      (⟨(some 22), none, .o (.v (.mov (.t 5)))⟩, .val 0 []),
      (⟨(some 23), none, .o (.v (.ixa (.t 21) (.t 22) 1))⟩, .val 0 []),
      (⟨(some 24), none, .o (.v (.load (.t 23) none))⟩, .val 0 [])],
      [],
      [⟨(some 25), none, .o (.v (.bin .neq (.t 20) (.t 24)))⟩], none⟩])
    (.cond (.t 25)
      (.seq (.reg [⟨(some 4), none, .o (.v (.mov (.c (.lit (.bool false)))))⟩])
      .ret)
      .skip)))
    (.reg [⟨(some 15), none, .o (.v (.mov (.t 5)))⟩,
      ⟨(some 16), none, .o (.v (.bin .add (.t 15) (.c (.int .i64 (1)))))⟩,
      ⟨(some 5), none, .o (.v (.mov (.t 16)))⟩]))))))
  (.seq (.reg [⟨(some 4), none, .o (.v (.mov (.c (.lit (.bool true)))))⟩])
  .ret))))
theorem h29 : FdOk Try.prog 29 ⟨g29, [.t 4], 26, [], false⟩ := .of Try.func29 (by simp [Try.f29]) (by kernel_rfl)
/-- octant/sextant.Assemble -/
def g30 : RC :=
  (.seq (.reg [⟨(some 4), none, .o (.v (.mov (.c (.lit (.slice none 0 0)))))⟩,
    ⟨(some 5), none, .o (.v (.mov (.c (.int .i64 (0)))))⟩,
    ⟨(some 6), none, .o (.v (.mov (.c (.int .i64 (0)))))⟩])
  (.seq (.seq (.reg [⟨(some 9), none, .o (.v (.mov (.t 0)))⟩,
    ⟨(some 10), none, .o (.call (.c (.fn 77 [])) [(.t 9)])⟩,
    ⟨(some 11), none, .o (.v (.not (.t 10)))⟩,
    ⟨(some 12), none, .o (.v (.mov (.t 11)))⟩,
    ⟨(some 13), (some (12, false)), .o (.v (.mov (.t 1)))⟩,
    ⟨(some 14), (some (12, false)), .o (.call (.c (.fn 78 [])) [(.t 13), (.c (.int .i64 (0))), (.c (.int .i64 (5000)))])⟩,
    ⟨(some 15), (some (12, false)), .o (.v (.not (.t 14)))⟩,
    ⟨(some 16), none, .o (.v (.pick (.t 12) (.c (.lit (.bool true))) (.t 15)))⟩])
  (.cond (.t 16)
    (.seq (.reg [⟨(some 4), none, .o (.v (.mov (.c (.lit (.slice none 0 0)))))⟩,
      ⟨(some 5), none, .o (.v (.mov (.c (.int .i64 (0)))))⟩,
      ⟨(some 6), none, .o (.v (.mov (.c (.int .i64 (55)))))⟩])
    .ret)
    .skip))
  (.seq (.reg [⟨(some 17), none, .o (.v (.mov (.t 0)))⟩,
    ⟨(some 18), none, .o (.v (.mov (.t 1)))⟩,
    ⟨(some 19), none, .o (.call (.c (.fn 79 [])) [(.t 17), (.t 18)])⟩,
    ⟨(some 7), none, .o (.v (.mov (.t 19)))⟩])
  (.seq (.seq (.reg [⟨(some 20), none, .o (.v (.mov (.t 7)))⟩,
    ⟨(some 21), none, .o (.v (.len (.t 20)))⟩,
    ⟨(some 22), none, .o (.v (.bin .eql (.t 21) (.c (.int .i64 (0)))))⟩])
  (.cond (.t 22)
    (.seq (.reg [⟨(some 4), none, .o (.v (.mov (.c (.lit (.slice none 0 0)))))⟩,
      ⟨(some 5), none, .o (.v (.mov (.c (.int .i64 (0)))))⟩,
      ⟨(some 6), none, .o (.v (.mov (.c (.int .i64 (4)))))⟩])
    .ret)
    .skip))
  (.seq (.drw [⟨[7, 23, 24, 26, 25, 27, 8, 28], 0, 1, [(⟨(some 23), none, .o (.v (.mov (.t 7)))⟩, .val 0 []),
    (⟨(some 24), none, .o (.v (.ixa (.t 23) (.c (.int .i64 (0))) 4))⟩, .val 0 []),
    (⟨(some 25), none, .o (.v (.load (.t 24) (some 4)))⟩, .val 0 []),
    (⟨(some 26), none, .o (.v (.mov (.t 7)))⟩, .val 0 []),
    (⟨(some 27), none, .o (.slc (.t 26) (some (.c (.int .i64 (1)))) none none 4)⟩, .val 0 []),
    (⟨(some 28), none, .o (.call (.c (.fn 80 [])) [(.c (.fn 81 [])), (.t 25), (.t 27)])⟩, .eff 0 [])],
    [],
    [⟨(some 8), none, .o (.new 119 [(.int .i64 (0)), (.int .i64 (0)), (.int .i64 (0)), (.int .i64 (0))])⟩,
    ⟨none, none, .o (.store 4 (.t 8) (.t 28))⟩], (some 8)⟩,
    ⟨[7, 23, 24, 26, 25, 27, 8, 28], 1, 0, [(⟨(some 23), none, .o (.v (.mov (.t 7)))⟩, .val 0 []),
    (⟨(some 24), none, .o (.v (.ixa (.t 23) (.c (.int .i64 (0))) 4))⟩, .val 0 []),
    (⟨(some 25), none, .o (.v (.load (.t 24) (some 4)))⟩, .val 0 []),
    (⟨(some 26), none, .o (.v (.mov (.t 7)))⟩, .val 0 []),
    (⟨(some 27), none, .o (.slc (.t 26) (some (.c (.int .i64 (1)))) none none 4)⟩, .val 0 []),
    (⟨(some 28), none, .o (.call (.c (.fn 80 [])) [(.c (.fn 81 [])), (.t 25), (.t 27)])⟩, .val 0 []),
    (⟨(some 8), none, .o (.new 119 [(.int .i64 (0)), (.int .i64 (0)), (.int .i64 (0)), (.int .i64 (0))])⟩, .cre 0)],
    [0],
    [⟨none, none, .o (.store 4 (.t 8) (.t 28))⟩], none⟩])
  (.seq (.drw [⟨[], 0, 0, [(⟨(some 29), none, .o (.v (.off (.t 8) 0))⟩, .val 0 []),
    (⟨(some 30), none, .e1 (.sla 3 1) (.t 29)⟩, .val 0 []),
    (⟨(some 31), none, .o (.v (.off (.t 8) 3))⟩, .val 0 []),
    (⟨(some 32), none, .o (.v (.load (.t 31) none))⟩, .val 0 []),
    (⟨(some 4), none, .o (.v (.mov (.t 30)))⟩, .val 0 [])],
    [],
    [⟨(some 5), none, .o (.v (.mov (.t 32)))⟩,
    ⟨(some 6), none, .o (.v (.mov (.c (.int .i64 (0)))))⟩], none⟩])
  .ret))))))
theorem h30 : FdOk Try.prog 30 ⟨g30, [.t 4, .t 5, .t 6], 33, [], false⟩ := .of Try.func30 (by simp [Try.f30]) (by kernel_rfl)
/-- octant/octantlaw05.to -/
def g40 : RC :=
  (.seq (.reg [⟨(some 4), none, .o (.new 24 [(.int .i64 (0)), (.int .i64 (0))])⟩])
  (.seq (.reg [⟨(some 5), none, .o (.v (.mov (.t 0)))⟩,
    ⟨(some 6), none, .o (.v (.mov (.t 1)))⟩,
    ⟨(some 7), none, .o (.bld [(.int .i64 (0)), (.int .i64 (0))] [(0, 1, (.t 5)), (1, 1, (.t 6))])⟩,
    ⟨none, none, .o (.store 2 (.t 4) (.t 7))⟩])
  .ret))
theorem h40 : FdOk Try.prog 40 ⟨g40, [.c 4 (some 2)], 8, [], false⟩ := .of Try.func40 (by simp [Try.f40]) (by kernel_rfl)
/-- octant/octantlaw05.own -/
def g50 : RC :=
  (.seq (.reg [⟨(some 0), none, .o (.new 26 [(.int .i64 (0)), (.lit (.slice none 0 0)), (.int .i64 (0)), (.int .i64 (0)), (.int .i64 (0)), (.lit (.slice none 0 0))])⟩])
  (.seq (.reg [⟨(some 1), none, .o (.call (.c (.fn 40 [])) [(.c (.int .i64 (0))), (.c (.int .i64 (0)))])⟩,
    ⟨(some 2), none, .o (.call (.c (.fn 40 [])) [(.c (.int .i64 (-10))), (.c (.int .i64 (10)))])⟩,
    ⟨(some 3), none, .o (.call (.c (.fn 40 [])) [(.c (.int .i64 (20))), (.c (.int .i64 (40)))])⟩,
    ⟨(some 4), none, .o (.bsl 24 3 [(.int .i64 (0)), (.int .i64 (0)), (.int .i64 (0)), (.int .i64 (0)), (.int .i64 (0)), (.int .i64 (0))] [(0, 2, (.t 1)), (2, 2, (.t 2)), (4, 2, (.t 3))])⟩,
    ⟨(some 5), none, .o (.call (.c (.fn 40 [])) [(.c (.int .i64 (-30))), (.c (.int .i64 (-20)))])⟩,
    ⟨(some 6), none, .o (.call (.c (.fn 40 [])) [(.c (.int .i64 (0))), (.c (.int .i64 (6)))])⟩,
    ⟨(some 7), none, .o (.call (.c (.fn 40 [])) [(.c (.int .i64 (-4))), (.c (.int .i64 (4)))])⟩,
    ⟨(some 8), none, .o (.bsl 24 2 [(.int .i64 (0)), (.int .i64 (0)), (.int .i64 (0)), (.int .i64 (0))] [(0, 2, (.t 6)), (2, 2, (.t 7))])⟩,
    ⟨(some 9), none, .o (.bld [(.int .i64 (0)), (.lit (.slice none 0 0)), (.int .i64 (0)), (.int .i64 (0)), (.int .i64 (0)), (.lit (.slice none 0 0))] [(0, 1, (.c (.int .i64 (36000)))), (1, 1, (.t 4)), (2, 2, (.t 5)), (4, 1, (.c (.int .i64 (5)))), (5, 1, (.t 8))])⟩,
    ⟨none, none, .o (.store 6 (.t 0) (.t 9))⟩])
  .ret))
theorem h50 : FdOk Try.prog 50 ⟨g50, [.c 0 (some 6)], 10, [], true⟩ := .of Try.func50 (by simp [Try.f50]) (by kernel_rfl)
/-- octant/octantlaw05.suns -/
def g51 : RC :=
  (.seq (.reg [⟨(some 0), none, .o (.v (.mov (.c (.lit (.slice none 0 0)))))⟩])
  (.seq (.reg [⟨(some 1), none, .o (.bld [(.int .i64 (0)), (.int .i64 (0))] [(0, 1, (.c (.int .i64 (1915)))), (1, 1, (.c (.int .i64 (1865))))])⟩,
    ⟨(some 2), none, .o (.bld [(.int .i64 (0)), (.int .i64 (0))] [(0, 1, (.c (.int .i64 (1912)))), (1, 1, (.c (.int .i64 (1862))))])⟩,
    ⟨(some 3), none, .o (.bsl 67 2 [(.int .i64 (0)), (.int .i64 (0)), (.int .i64 (0)), (.int .i64 (0))] [(0, 2, (.t 1)), (2, 2, (.t 2))])⟩,
    ⟨(some 0), none, .o (.v (.mov (.t 3)))⟩])
  .ret))
theorem h51 : FdOk Try.prog 51 ⟨g51, [.t 0], 4, [], false⟩ := .of Try.func51 (by simp [Try.f51]) (by kernel_rfl)
/-- octant/octantlaw05.trial -/
def g52 : RC :=
  (.seq (.reg [⟨(some 4), none, .o (.new 84 [(.int .i64 (0)), (.int .i64 (0)), (.int .i64 (0))])⟩])
  (.seq (.reg [⟨(some 5), none, .o (.v (.mov (.t 0)))⟩,
    ⟨(some 6), none, .o (.bld [(.int .i64 (0)), (.int .i64 (0))] [(0, 1, (.t 5))])⟩,
    ⟨(some 7), none, .o (.v (.mov (.t 1)))⟩,
    ⟨(some 8), none, .o (.bld [(.int .i64 (0)), (.int .i64 (0)), (.int .i64 (0))] [(0, 2, (.t 6)), (2, 1, (.t 7))])⟩,
    ⟨none, none, .o (.store 3 (.t 4) (.t 8))⟩])
  .ret))
theorem h52 : FdOk Try.prog 52 ⟨g52, [.c 4 (some 3)], 9, [], false⟩ := .of Try.func52 (by simp [Try.f52]) (by kernel_rfl)
/-- octant/octantlaw05.trials -/
def g53 : RC :=
  (.seq (.reg [⟨(some 0), none, .o (.v (.mov (.c (.lit (.slice none 0 0)))))⟩])
  (.seq (.reg [⟨(some 1), none, .o (.call (.c (.fn 52 [])) [(.c (.int .i64 (36000))), (.c (.int .i64 (35985)))])⟩,
    ⟨(some 2), none, .o (.call (.c (.fn 52 [])) [(.c (.int .i64 (72000))), (.c (.int .i64 (72010)))])⟩,
    ⟨(some 3), none, .o (.call (.c (.fn 52 [])) [(.c (.int .i64 (36000))), (.c (.int .i64 (35960)))])⟩,
    ⟨(some 4), none, .o (.bsl 84 3 [(.int .i64 (0)), (.int .i64 (0)), (.int .i64 (0)), (.int .i64 (0)), (.int .i64 (0)), (.int .i64 (0)), (.int .i64 (0)), (.int .i64 (0)), (.int .i64 (0))] [(0, 3, (.t 1)), (3, 3, (.t 2)), (6, 3, (.t 3))])⟩,
    ⟨(some 0), none, .o (.v (.mov (.t 4)))⟩])
  .ret))
theorem h53 : FdOk Try.prog 53 ⟨g53, [.t 0], 5, [], false⟩ := .of Try.func53 (by simp [Try.f53]) (by kernel_rfl)
/-- octant/octantlaw05.stock -/
def g54 : RC :=
  (.seq (.reg [⟨(some 0), none, .o (.v (.mov (.c (.lit (.slice none 0 0)))))⟩])
  (.seq (.reg [⟨(some 1), none, .o (.call (.c (.fn 40 [])) [(.c (.int .i64 (0))), (.c (.int .i64 (4)))])⟩,
    ⟨(some 2), none, .o (.call (.c (.fn 40 [])) [(.c (.int .i64 (0))), (.c (.int .i64 (10)))])⟩,
    ⟨(some 3), none, .o (.bsl 24 2 [(.int .i64 (0)), (.int .i64 (0)), (.int .i64 (0)), (.int .i64 (0))] [(0, 2, (.t 1)), (2, 2, (.t 2))])⟩,
    ⟨(some 4), none, .o (.bld [(.int .i64 (0)), (.int .i64 (0)), (.lit (.slice none 0 0))] [(0, 1, (.c (.int .i64 (0)))), (1, 1, (.c (.int .i64 (50)))), (2, 1, (.t 3))])⟩,
    ⟨(some 5), none, .o (.call (.c (.fn 40 [])) [(.c (.int .i64 (-3))), (.c (.int .i64 (3)))])⟩,
    ⟨(some 6), none, .o (.call (.c (.fn 40 [])) [(.c (.int .i64 (-12))), (.c (.int .i64 (12)))])⟩,
    ⟨(some 7), none, .o (.bsl 24 2 [(.int .i64 (0)), (.int .i64 (0)), (.int .i64 (0)), (.int .i64 (0))] [(0, 2, (.t 5)), (2, 2, (.t 6))])⟩,
    ⟨(some 8), none, .o (.bld [(.int .i64 (0)), (.int .i64 (0)), (.lit (.slice none 0 0))] [(0, 1, (.c (.int .i64 (0)))), (1, 1, (.c (.int .i64 (30)))), (2, 1, (.t 7))])⟩,
    ⟨(some 9), none, .o (.call (.c (.fn 40 [])) [(.c (.int .i64 (0))), (.c (.int .i64 (0)))])⟩,
    ⟨(some 10), none, .o (.call (.c (.fn 40 [])) [(.c (.int .i64 (2))), (.c (.int .i64 (6)))])⟩,
    ⟨(some 11), none, .o (.bsl 24 2 [(.int .i64 (0)), (.int .i64 (0)), (.int .i64 (0)), (.int .i64 (0))] [(0, 2, (.t 9)), (2, 2, (.t 10))])⟩,
    ⟨(some 12), none, .o (.bld [(.int .i64 (0)), (.int .i64 (0)), (.lit (.slice none 0 0))] [(0, 1, (.c (.int .i64 (1)))), (1, 1, (.c (.int .i64 (20)))), (2, 1, (.t 11))])⟩,
    ⟨(some 13), none, .o (.call (.c (.fn 40 [])) [(.c (.int .i64 (-2))), (.c (.int .i64 (2)))])⟩,
    ⟨(some 14), none, .o (.call (.c (.fn 40 [])) [(.c (.int .i64 (-2))), (.c (.int .i64 (2)))])⟩,
    ⟨(some 15), none, .o (.bsl 24 2 [(.int .i64 (0)), (.int .i64 (0)), (.int .i64 (0)), (.int .i64 (0))] [(0, 2, (.t 13)), (2, 2, (.t 14))])⟩,
    ⟨(some 16), none, .o (.bld [(.int .i64 (0)), (.int .i64 (0)), (.lit (.slice none 0 0))] [(0, 1, (.c (.int .i64 (2)))), (1, 1, (.c (.int .i64 (10)))), (2, 1, (.t 15))])⟩,
    ⟨(some 17), none, .o (.call (.c (.fn 40 [])) [(.c (.int .i64 (0))), (.c (.int .i64 (1)))])⟩,
    ⟨(some 18), none, .o (.call (.c (.fn 40 [])) [(.c (.int .i64 (0))), (.c (.int .i64 (1)))])⟩,
    ⟨(some 19), none, .o (.bsl 24 2 [(.int .i64 (0)), (.int .i64 (0)), (.int .i64 (0)), (.int .i64 (0))] [(0, 2, (.t 17)), (2, 2, (.t 18))])⟩,
    ⟨(some 20), none, .o (.bld [(.int .i64 (0)), (.int .i64 (0)), (.lit (.slice none 0 0))] [(0, 1, (.c (.int .i64 (2)))), (1, 1, (.c (.int .i64 (25)))), (2, 1, (.t 19))])⟩,
    ⟨(some 21), none, .o (.bsl 77 5 [(.int .i64 (0)), (.int .i64 (0)), (.lit (.slice none 0 0)), (.int .i64 (0)), (.int .i64 (0)), (.lit (.slice none 0 0)), (.int .i64 (0)), (.int .i64 (0)), (.lit (.slice none 0 0)), (.int .i64 (0)), (.int .i64 (0)), (.lit (.slice none 0 0)), (.int .i64 (0)), (.int .i64 (0)), (.lit (.slice none 0 0))] [(0, 3, (.t 4)), (3, 3, (.t 8)), (6, 3, (.t 12)), (9, 3, (.t 16)), (12, 3, (.t 20))])⟩,
    ⟨(some 0), none, .o (.v (.mov (.t 21)))⟩])
  .ret))
theorem h54 : FdOk Try.prog 54 ⟨g54, [.t 0], 22, [], true⟩ := .of Try.func54 (by simp [Try.f54]) (by kernel_rfl)
/-- (octant/sextant.sextant).haveReading -/
def g55 : RC :=
  (.seq (.reg [⟨(some 2), none, .o (.box 89 (.t 0))⟩,
    ⟨(some 3), none, .o (.box 28 (.t 1))⟩,
    ⟨(some 4), none, .o (.v (.mov (.c (.lit (.bool false)))))⟩])
  (.seq (.drw [⟨[], 0, 3, [(⟨(some 5), none, .o (.v (.off (.t 3) 0))⟩, .val 0 []),
    (⟨(some 6), none, .o (.v (.load (.t 5) none))⟩, .val 0 []),
    (⟨(some 7), none, .o (.v (.load (.t 2) (some 6)))⟩, .val 0 []),
    (⟨(some 8), none, .o (.call (.c (.fn 87 [])) [(.t 7)])⟩, .eff 0 []),
    (⟨(some 9), none, .o (.call (.c (.fn 78 [])) [(.t 6), (.c (.int .i64 (0))), (.t 8)])⟩, .eff 1 []),
    (⟨(some 10), none, .o (.v (.mov (.t 9)))⟩, .val 2 []),
    (⟨(some 11), (some (10, true)), .o (.v (.off (.t 3) 1))⟩, .val 2 []),
    (⟨(some 12), (some (10, true)), .o (.v (.load (.t 11) none))⟩, .val 2 []),
    (⟨(some 13), (some (10, true)), .o (.v (.load (.t 2) (some 6)))⟩, .val 2 []),
    (⟨(some 14), (some (10, true)), .o (.call (.c (.fn 88 [])) [(.t 13)])⟩, .eff 2 [])],
    [],
    [⟨(some 15), (some (10, true)), .o (.call (.c (.fn 78 [])) [(.t 12), (.c (.int .i64 (0))), (.t 14)])⟩,
    ⟨(some 16), none, .o (.v (.pick (.t 10) (.t 15) (.c (.lit (.bool false)))))⟩,
    ⟨(some 4), none, .o (.v (.mov (.t 16)))⟩], none⟩])
  .ret))
theorem h55 : FdOk Try.prog 55 ⟨g55, [.t 4], 17, [], false⟩ := .of Try.func55 (by simp [Try.f55]) (by kernel_rfl)
/-- (octant/sextant.sextant).angle -/
def g56 : RC :=
  (.seq (.reg [⟨(some 2), none, .o (.box 89 (.t 0))⟩,
    ⟨(some 3), none, .o (.box 28 (.t 1))⟩,
    ⟨(some 4), none, .o (.new 24 [(.int .i64 (0)), (.int .i64 (0))])⟩])
  (.seq (.drw [⟨[], 0, 4, [(⟨(some 5), none, .o (.v (.off (.t 3) 0))⟩, .val 0 []),
    (⟨(some 6), none, .o (.v (.load (.t 5) none))⟩, .val 0 []),
    (⟨(some 7), none, .o (.call (.c (.fn 90 [])) [(.t 6)])⟩, .eff 0 []),
    (⟨(some 8), none, .o (.v (.load (.t 2) (some 6)))⟩, .val 0 []),
    (⟨(some 9), none, .o (.call (.c (.fn 92 [])) [(.t 8)])⟩, .eff 1 []),
    (⟨(some 10), none, .o (.v (.load (.t 3) (some 2)))⟩, .val 0 []),
    (⟨(some 11), none, .o (.call (.c (.fn 91 [])) [(.t 9), (.t 10)])⟩, .eff 2 []),
    (⟨(some 12), none, .o (.v (.load (.t 2) (some 6)))⟩, .val 0 []),
    (⟨(some 13), none, .o (.call (.c (.fn 93 [])) [(.t 12)])⟩, .eff 3 []),
    (⟨(some 14), none, .o (.v (.load (.t 3) (some 2)))⟩, .val 0 [])],
    [],
    [⟨(some 15), none, .o (.call (.c (.fn 91 [])) [(.t 13), (.t 14)])⟩,
    ⟨(some 16), none, .o (.bsl 24 3 [(.int .i64 (0)), (.int .i64 (0)), (.int .i64 (0)), (.int .i64 (0)), (.int .i64 (0)), (.int .i64 (0))] [(0, 2, (.t 7)), (2, 2, (.t 11)), (4, 2, (.t 15))])⟩,
    ⟨(some 17), none, .o (.call (.c (.fn 89 [])) [(.t 16)])⟩,
    ⟨none, none, .o (.store 2 (.t 4) (.t 17))⟩], none⟩])
  .ret))
theorem h56 : FdOk Try.prog 56 ⟨g56, [.c 4 (some 2)], 18, [], false⟩ := .of Try.func56 (by simp [Try.f56]) (by kernel_rfl)
/-- (octant/sextant.sextant).valid -/
def g61 : RC :=
  (.seq (.reg [⟨(some 1), none, .o (.box 89 (.t 0))⟩,
    ⟨(some 2), none, .o (.v (.mov (.c (.lit (.bool false)))))⟩])
  (.seq (.reg [⟨(some 3), none, .o (.v (.off (.t 1) 0))⟩,
    ⟨(some 4), none, .o (.v (.off (.t 3) 0))⟩,
    ⟨(some 5), none, .o (.v (.load (.t 4) none))⟩,
    ⟨(some 6), none, .o (.call (.c (.fn 78 [])) [(.t 5), (.c (.int .i64 (1))), (.c (.int .i64 (72000)))])⟩,
    ⟨(some 7), none, .o (.v (.mov (.t 6)))⟩,
    ⟨(some 8), (some (7, true)), .o (.v (.off (.t 1) 0))⟩,
    ⟨(some 9), (some (7, true)), .o (.v (.off (.t 8) 1))⟩,
    ⟨(some 10), (some (7, true)), .o (.v (.load (.t 9) none))⟩,
    ⟨(some 11), (some (7, true)), .o (.v (.len (.t 10)))⟩,
    ⟨(some 12), (some (7, true)), .o (.call (.c (.fn 78 [])) [(.t 11), (.c (.int .i64 (2))), (.c (.int .i64 (12)))])⟩,
    ⟨(some 13), none, .o (.v (.pick (.t 7) (.t 12) (.c (.lit (.bool false)))))⟩,
    ⟨(some 14), none, .o (.v (.mov (.t 13)))⟩,
    ⟨(some 15), (some (14, true)), .o (.v (.off (.t 1) 0))⟩,
    ⟨(some 16), (some (14, true)), .o (.v (.off (.t 15) 1))⟩,
    ⟨(some 17), (some (14, true)), .o (.v (.load (.t 16) none))⟩,
    ⟨(some 18), (some (14, true)), .o (.call (.c (.fn 94 [])) [(.t 17), (.c (.int .i64 (600)))])⟩,
    ⟨(some 19), none, .o (.v (.pick (.t 14) (.t 18) (.c (.lit (.bool false)))))⟩,
    ⟨(some 20), none, .o (.v (.mov (.t 19)))⟩,
    ⟨(some 21), (some (20, true)), .o (.v (.load (.t 1) (some 6)))⟩,
    ⟨(some 22), (some (20, true)), .o (.call (.c (.fn 87 [])) [(.t 21)])⟩,
    ⟨(some 23), (some (20, true)), .o (.v (.bin .leq (.t 22) (.c (.int .i64 (504000)))))⟩,
    ⟨(some 24), none, .o (.v (.pick (.t 20) (.t 23) (.c (.lit (.bool false)))))⟩,
    ⟨(some 25), none, .o (.v (.mov (.t 24)))⟩,
    ⟨(some 26), (some (25, true)), .o (.v (.off (.t 1) 0))⟩,
    ⟨(some 27), (some (25, true)), .o (.v (.off (.t 26) 2))⟩,
    ⟨(some 28), (some (25, true)), .o (.v (.load (.t 27) (some 2)))⟩,
    ⟨(some 29), (some (25, true)), .o (.call (.c (.fn 65 [])) [(.t 28), (.c (.int .i64 (-1800))), (.c (.int .i64 (1800)))])⟩,
    ⟨(some 30), none, .o (.v (.pick (.t 25) (.t 29) (.c (.lit (.bool false)))))⟩,
    ⟨(some 31), none, .o (.v (.mov (.t 30)))⟩,
    ⟨(some 32), (some (31, true)), .o (.v (.off (.t 1) 0))⟩,
    ⟨(some 33), (some (31, true)), .o (.v (.off (.t 32) 4))⟩,
    ⟨(some 34), (some (31, true)), .o (.v (.load (.t 33) none))⟩,
    ⟨(some 35), (some (31, true)), .o (.call (.c (.fn 78 [])) [(.t 34), (.c (.int .i64 (0))), (.c (.int .i64 (60)))])⟩,
    ⟨(some 36), none, .o (.v (.pick (.t 31) (.t 35) (.c (.lit (.bool false)))))⟩,
    ⟨(some 37), none, .o (.v (.mov (.t 36)))⟩,
    ⟨(some 38), (some (37, true)), .o (.v (.off (.t 1) 0))⟩,
    ⟨(some 39), (some (37, true)), .o (.v (.off (.t 38) 5))⟩,
    ⟨(some 40), (some (37, true)), .o (.v (.load (.t 39) none))⟩,
    ⟨(some 41), (some (37, true)), .o (.v (.len (.t 40)))⟩,
    ⟨(some 42), (some (37, true)), .o (.v (.bin .leq (.t 41) (.c (.int .i64 (6)))))⟩,
    ⟨(some 43), none, .o (.v (.pick (.t 37) (.t 42) (.c (.lit (.bool false)))))⟩,
    ⟨(some 44), none, .o (.v (.mov (.t 43)))⟩,
    ⟨(some 45), (some (44, true)), .o (.v (.off (.t 1) 0))⟩,
    ⟨(some 46), (some (44, true)), .o (.v (.off (.t 45) 5))⟩,
    ⟨(some 47), (some (44, true)), .o (.v (.load (.t 46) none))⟩,
    ⟨(some 48), (some (44, true)), .o (.call (.c (.fn 94 [])) [(.t 47), (.c (.int .i64 (120)))])⟩,
    ⟨(some 49), none, .o (.v (.pick (.t 44) (.t 48) (.c (.lit (.bool false)))))⟩,
    ⟨(some 2), none, .o (.v (.mov (.t 49)))⟩])
  .ret))
theorem h61 : FdOk Try.prog 61 ⟨g61, [.t 2], 50, [], false⟩ := .of Try.func61 (by simp [Try.f61]) (by kernel_rfl)
/-- (octant/sextant.sextant).fault -/
def g63 : RC :=
  (.seq (.reg [⟨(some 1), none, .o (.box 89 (.t 0))⟩,
    ⟨(some 2), none, .o (.v (.mov (.c (.int .i64 (0)))))⟩])
  (.seq (.reg [⟨(some 3), none, .o (.v (.mov (.c (.lit (.slice none 0 0)))))⟩])
  (.seq (.seq (.reg [⟨(some 5), none, .o (.v (.off (.t 1) 0))⟩,
    ⟨(some 6), none, .o (.v (.off (.t 5) 1))⟩,
    ⟨(some 7), none, .o (.v (.load (.t 6) none))⟩,
    ⟨(some 8), none, .o (.v (.len (.t 7)))⟩,
    ⟨(some 9), none, .o (.v (.mov (.c (.int .i64 (0)))))⟩])
  (.block 0 (.loop
    (.seq (.reg [⟨(some 10), none, .o (.v (.bin .lss (.t 9) (.t 8)))⟩])
    (.seq (.cond (.t 10)
      .skip
      (.exit 0))
    (.seq (.block 1 (.seq (.reg [⟨(some 11), none, .o (.v (.mov (.t 9)))⟩,
      ⟨(some 4), none, .o (.v (.mov (.t 11)))⟩])
    (.drw [⟨[], 1, 2, [(⟨(some 12), none, .o (.v (.mov (.t 3)))⟩, .val 0 []),
      (⟨(some 13), none, .o (.v (.load (.t 1) (some 6)))⟩, .val 0 []),
      (⟨(some 14), none, .o (.v (.mov (.t 4)))⟩, .val 0 []),
      (⟨(some 15), none, .o (.v (.off (.t 1) 0))⟩, .val 0 []),
      (⟨(some 16), none, .o (.v (.off (.t 15) 0))⟩, .val 0 []),
      (⟨(some 17), none, .o (.v (.load (.t 16) none))⟩, .val 0 []),
      (⟨(some 18), none, .o (.v (.bin .mul (.t 14) (.t 17)))⟩, .val 0 []),
      (⟨(some 19), none, .o (.v (.load (.t 1) (some 6)))⟩, .val 0 []),
      (⟨(some 20), none, .o (.call (.c (.fn 88 [])) [(.t 19)])⟩, .eff 0 []),
      (⟨(some 21), none, .o (.bld [(.int .i64 (0)), (.int .i64 (0))] [(0, 1, (.t 18)), (1, 1, (.t 20))])⟩, .val 1 []),
      (⟨(some 22), none, .o (.call (.c (.fn 56 [])) [(.t 13), (.t 21)])⟩, .eff 1 []),
      (⟨(some 23), none, .o (.bsl 24 1 [(.int .i64 (0)), (.int .i64 (0))] [(0, 2, (.t 22))])⟩, .cre 0)],
      [0],
      [⟨(some 24), none, .o (.app 24 2 16 (.t 12) (.t 23))⟩,
      ⟨(some 3), none, .o (.v (.mov (.t 24)))⟩], none⟩])))
    (.reg [⟨(some 25), none, .o (.v (.bin .add (.t 9) (.c (.int .i64 (1)))))⟩,
      ⟨(some 9), none, .o (.v (.mov (.t 25)))⟩])))))))
  (.seq (.drw [⟨[3, 26, 27, 29, 28, 30, 31, 32], 0, 0, [(⟨(some 26), none, .o (.v (.mov (.t 3)))⟩, .val 0 []),
    (⟨(some 27), none, .o (.v (.ixa (.t 26) (.c (.int .i64 (0))) 2))⟩, .val 0 []),
    (⟨(some 28), none, .o (.v (.load (.t 27) (some 2)))⟩, .val 0 []),
    (⟨(some 29), none, .o (.v (.mov (.t 3)))⟩, .val 0 []),
    (⟨(some 30), none, .o (.slc (.t 29) (some (.c (.int .i64 (1)))) none none 2)⟩, .val 0 [])],
    [],
    [⟨(some 31), none, .o (.call (.c (.fn 96 [])) [(.c (.fn 97 [])), (.t 28), (.t 30)])⟩,
    ⟨(some 32), none, .o (.call (.c (.fn 95 [])) [(.t 31)])⟩,
    ⟨(some 2), none, .o (.v (.mov (.t 32)))⟩], none⟩])
  .ret))))
theorem h63 : FdOk Try.prog 63 ⟨g63, [.t 2], 33, [], false⟩ := .of Try.func63 (by simp [Try.f63]) (by kernel_rfl)
/-- octant/sextant.classOf -/
def g64 : RC :=
  (.seq (.reg [⟨(some 2), none, .o (.v (.mov (.c (.int .i64 (0)))))⟩])
  (.seq (.block 0 (.seq (.reg [⟨(some 4), none, .o (.v (.mov (.t 0)))⟩,
    ⟨(some 5), none, .o (.v (.bin .leq (.t 4) (.c (.int .i64 (40)))))⟩,
    ⟨(some 3), none, .o (.v (.mov (.t 5)))⟩])
  (.cond (.t 3)
    (.seq (.reg [⟨(some 2), none, .o (.v (.mov (.c (.int .i64 (1)))))⟩])
    .ret)
    (.seq (.reg [⟨(some 7), none, .o (.v (.mov (.t 0)))⟩,
      ⟨(some 8), none, .o (.v (.bin .leq (.t 7) (.c (.int .i64 (200)))))⟩,
      ⟨(some 6), none, .o (.v (.mov (.t 8)))⟩])
    (.cond (.t 6)
      (.seq (.reg [⟨(some 2), none, .o (.v (.mov (.c (.int .i64 (2)))))⟩])
      .ret)
      .skip)))))
  (.seq (.reg [⟨(some 2), none, .o (.v (.mov (.c (.int .i64 (3)))))⟩])
  .ret)))
theorem h64 : FdOk Try.prog 64 ⟨g64, [.t 2], 9, [], false⟩ := .of Try.func64 (by simp [Try.f64]) (by kernel_rfl)
/-- octant/sextant.isSpan -/
def g65 : RC :=
  (.seq (.reg [⟨(some 3), none, .o (.box 24 (.t 0))⟩,
    ⟨(some 6), none, .o (.v (.mov (.c (.lit (.bool false)))))⟩])
  (.seq (.reg [⟨(some 7), none, .o (.v (.mov (.t 1)))⟩,
    ⟨(some 8), none, .o (.v (.off (.t 3) 0))⟩,
    ⟨(some 9), none, .o (.v (.load (.t 8) none))⟩,
    ⟨(some 10), none, .o (.v (.bin .leq (.t 7) (.t 9)))⟩,
    ⟨(some 11), none, .o (.v (.mov (.t 10)))⟩,
    ⟨(some 12), (some (11, true)), .o (.v (.off (.t 3) 0))⟩,
    ⟨(some 13), (some (11, true)), .o (.v (.load (.t 12) none))⟩,
    ⟨(some 14), (some (11, true)), .o (.v (.off (.t 3) 1))⟩,
    ⟨(some 15), (some (11, true)), .o (.v (.load (.t 14) none))⟩,
    ⟨(some 16), (some (11, true)), .o (.v (.bin .leq (.t 13) (.t 15)))⟩,
    ⟨(some 17), none, .o (.v (.pick (.t 11) (.t 16) (.c (.lit (.bool false)))))⟩,
    ⟨(some 18), none, .o (.v (.mov (.t 17)))⟩,
    ⟨(some 19), (some (18, true)), .o (.v (.off (.t 3) 1))⟩,
    ⟨(some 20), (some (18, true)), .o (.v (.load (.t 19) none))⟩,
    ⟨(some 21), (some (18, true)), .o (.v (.mov (.t 2)))⟩,
    ⟨(some 22), (some (18, true)), .o (.v (.bin .leq (.t 20) (.t 21)))⟩,
    ⟨(some 23), none, .o (.v (.pick (.t 18) (.t 22) (.c (.lit (.bool false)))))⟩,
    ⟨(some 6), none, .o (.v (.mov (.t 23)))⟩])
  .ret))
theorem h65 : FdOk Try.prog 65 ⟨g65, [.t 6], 24, [], false⟩ := .of Try.func65 (by simp [Try.f65]) (by kernel_rfl)
/-- octant/sextant.arePairs -/
def g66 : RC :=
  (.seq (.reg [⟨(some 2), none, .o (.v (.mov (.c (.lit (.bool false)))))⟩])
  (.seq (.seq (.reg [⟨(some 5), none, .o (.v (.mov (.t 0)))⟩,
    ⟨(some 6), none, .o (.v (.len (.t 5)))⟩,
    ⟨(some 7), none, .o (.call (.c (.fn 78 [])) [(.t 6), (.c (.int .i64 (1))), (.c (.int .i64 (6)))])⟩,
    ⟨(some 8), none, .o (.v (.not (.t 7)))⟩])
  (.cond (.t 8)
    (.seq (.reg [⟨(some 2), none, .o (.v (.mov (.c (.lit (.bool false)))))⟩])
    .ret)
    .skip))
  (.seq (.seq (.reg [⟨(some 9), none, .o (.v (.mov (.t 0)))⟩,
    ⟨(some 10), none, .o (.v (.len (.t 9)))⟩,
    ⟨(some 11), none, .o (.v (.mov (.c (.int .i64 (0)))))⟩])
  (.block 0 (.loop
    (.seq (.reg [⟨(some 12), none, .o (.v (.bin .lss (.t 11) (.t 10)))⟩])
    (.seq (.cond (.t 12)
      .skip
      (.exit 0))
    (.seq (.block 1 (.seq (.reg [⟨(some 13), none, .o (.v (.ixa (.t 9) (.t 11) 2))⟩,
      ⟨(some 14), none, .o (.v (.load (.t 13) (some 2)))⟩,
      ⟨(some 4), none, .o (.new 67 [(.int .i64 (0)), (.int .i64 (0))])⟩,
      ⟨none, none, .o (.store 2 (.t 4) (.t 14))⟩])
    (.seq (.reg [⟨(some 15), none, .o (.v (.off (.t 4) 0))⟩,
      ⟨(some 16), none, .o (.v (.load (.t 15) none))⟩,
      ⟨(some 17), none, .o (.call (.c (.fn 78 [])) [(.t 16), (.c (.int .i64 (0))), (.c (.int .i64 (6000)))])⟩,
      ⟨(some 18), none, .o (.v (.not (.t 17)))⟩,
      ⟨(some 19), none, .o (.v (.mov (.t 18)))⟩,
      ⟨(some 20), (some (19, false)), .o (.v (.off (.t 4) 1))⟩,
      ⟨(some 21), (some (19, false)), .o (.v (.load (.t 20) none))⟩,
      ⟨(some 22), (some (19, false)), .o (.call (.c (.fn 78 [])) [(.t 21), (.c (.int .i64 (0))), (.c (.int .i64 (6000)))])⟩,
      ⟨(some 23), (some (19, false)), .o (.v (.not (.t 22)))⟩,
      ⟨(some 24), none, .o (.v (.pick (.t 19) (.c (.lit (.bool true))) (.t 23)))⟩])
    (.cond (.t 24)
      (.seq (.reg [⟨(some 2), none, .o (.v (.mov (.c (.lit (.bool false)))))⟩])
      .ret)
      .skip))))
    (.reg [⟨(some 25), none, .o (.v (.bin .add (.t 11) (.c (.int .i64 (1)))))⟩,
      ⟨(some 11), none, .o (.v (.mov (.t 25)))⟩])))))))
  (.seq (.reg [⟨(some 2), none, .o (.v (.mov (.c (.lit (.bool true)))))⟩])
  .ret))))
theorem h66 : FdOk Try.prog 66 ⟨g66, [.t 2], 26, [], false⟩ := .of Try.func66 (by simp [Try.f66]) (by kernel_rfl)
/-- (octant/sextant.sextant).bySun -/
def g67 : RC :=
  (.seq (.reg [⟨(some 3), none, .o (.box 89 (.t 0))⟩,
    ⟨(some 4), none, .o (.box 24 (.t 1))⟩,
    ⟨(some 5), none, .o (.box 37 (.t 2))⟩,
    ⟨(some 6), none, .o (.new 24 [(.int .i64 (0)), (.int .i64 (0))])⟩,
    ⟨(some 7), none, .o (.new 24 [(.int .i64 (0)), (.int .i64 (0))])⟩])
  (.scp (.seq (.reg [⟨(some 15), none, .o (.call (.c (.fn 68 [])) [])⟩,
    ⟨(some 16), none, .o (.call (.c (.fn 68 [])) [])⟩,
    ⟨none, none, .o (.store 2 (.t 6) (.t 15))⟩,
    ⟨none, none, .o (.store 2 (.t 7) (.t 16))⟩])
  (.seq (.reg [⟨(some 17), none, .o (.bld [(.lit .nilFunc), (.lit .nilFunc)] [(0, 1, (.c (.fn 98 []))), (1, 1, (.c (.fn 99 [])))])⟩,
    ⟨(some 8), none, .o (.new 138 [(.lit .nilFunc), (.lit .nilFunc)])⟩,
    ⟨none, none, .o (.store 2 (.t 8) (.t 17))⟩])
  (.seq .skip
  (.seq (.seq (.reg [⟨(some 18), none, .o (.v (.load (.t 3) (some 6)))⟩,
    ⟨(some 19), none, .o (.call (.c (.fn 100 [])) [(.t 18)])⟩])
  (.block 0 (.rng (.t 19) [20]
    (.reg [⟨(some 9), none, .o (.v (.mov (.t 20)))⟩])
    (.block 1 (.seq (.reg [⟨(some 21), none, .o (.v (.load (.t 4) (some 2)))⟩,
      ⟨(some 10), none, .o (.new 24 [(.int .i64 (0)), (.int .i64 (0))])⟩,
      ⟨none, none, .o (.store 2 (.t 10) (.t 21))⟩])
    (.seq (.seq (.reg [⟨(some 22), none, .o (.v (.load (.t 5) none))⟩,
      ⟨(some 23), none, .o (.v (.len (.t 22)))⟩,
      ⟨(some 24), none, .o (.v (.mov (.c (.int .i64 (0)))))⟩])
    (.block 2 (.loop
      (.seq (.reg [⟨(some 25), none, .o (.v (.bin .lss (.t 24) (.t 23)))⟩])
      (.seq (.cond (.t 25)
        .skip
        (.exit 2))
      (.seq (.block 3 (.seq (.reg [⟨(some 26), none, .o (.v (.ixa (.t 22) (.t 24) 2))⟩,
        ⟨(some 27), none, .o (.v (.load (.t 26) (some 2)))⟩,
        ⟨(some 12), none, .o (.new 67 [(.int .i64 (0)), (.int .i64 (0))])⟩,
        ⟨none, none, .o (.store 2 (.t 12) (.t 27))⟩])
      (.seq (.seq (.reg [⟨(some 28), none, .o (.v (.load (.t 8) (some 2)))⟩,
        ⟨(some 29), none, .o (.v (.mov (.c (.int .i64 (0)))))⟩])
      (.block 4 (.loop
        (.seq (.reg [⟨(some 30), none, .o (.v (.bin .lss (.t 29) (.c (.int .i64 (2)))))⟩])
        (.seq (.cond (.t 30)
          .skip
          (.exit 4))
        (.seq (.block 5 (.seq (.reg [⟨(some 31), none, .o (.v (.ixv (.t 28) (.t 29) 2 1 none))⟩,
          ⟨(some 14), none, .o (.v (.mov (.t 31)))⟩])
        (.drw [⟨[], 1, 4, [(⟨(some 32), none, .o (.v (.load (.t 10) (some 2)))⟩, .val 0 []),
          (⟨(some 33), none, .o (.v (.mov (.t 14)))⟩, .val 0 []),
          (⟨(some 34), none, .o (.v (.load (.t 12) (some 2)))⟩, .val 0 []),
          (⟨(some 35), none, .o (.bld [(.int .i64 (0)), (.int .i64 (0))] [(0, 2, (.t 34))])⟩, .val 0 []),
          (⟨(some 36), none, .o (.v (.mov (.t 9)))⟩, .val 0 []),
          (⟨(some 37), none, .o (.call (.t 33) [(.t 35), (.t 36)])⟩, .eff 0 []),
          (⟨(some 38), none, .o (.call (.c (.fn 90 [])) [(.t 37)])⟩, .eff 1 []),
          (⟨(some 39), none, .o (.v (.off (.t 3) 0))⟩, .val 0 []),
          (⟨(some 40), none, .o (.v (.off (.t 39) 4))⟩, .val 0 []),
          (⟨(some 41), none, .o (.v (.load (.t 40) none))⟩, .val 0 []),
          (⟨(some 42), none, .o (.call (.c (.fn 102 [])) [(.t 41)])⟩, .eff 2 []),
          (⟨(some 43), none, .o (.bsl 24 2 [(.int .i64 (0)), (.int .i64 (0)), (.int .i64 (0)), (.int .i64 (0))] [(0, 2, (.t 38)), (2, 2, (.t 42))])⟩, .cre 0),
          (⟨(some 44), none, .o (.call (.c (.fn 89 [])) [(.t 43)])⟩, .eff 3 [0])],
          [],
          [⟨(some 45), none, .o (.call (.c (.fn 101 [])) [(.t 32), (.t 44)])⟩,
          ⟨none, none, .o (.store 2 (.t 10) (.t 45))⟩], none⟩])))
        (.reg [⟨(some 46), none, .o (.v (.bin .add (.t 29) (.c (.int .i64 (1)))))⟩,
          ⟨(some 29), none, .o (.v (.mov (.t 46)))⟩])))))))
      (.seq (.drw [⟨[], 0, 1, [(⟨(some 47), none, .o (.v (.load (.t 10) (some 2)))⟩, .val 0 []),
        (⟨(some 48), none, .o (.call (.c (.fn 68 [])) [])⟩, .eff 0 [])],
        [],
        [⟨(some 49), none, .o (.v (.eqs [(some .i64), (some .i64)] false (.t 47) (.t 48)))⟩], none⟩])
      (.cond (.t 49)
        (.exit 1)
        .skip)))))
      (.reg [⟨(some 50), none, .o (.v (.bin .add (.t 24) (.c (.int .i64 (1)))))⟩,
        ⟨(some 24), none, .o (.v (.mov (.t 50)))⟩])))))))
    (.drw [⟨[], 0, 2, [(⟨(some 51), none, .o (.v (.load (.t 6) (some 2)))⟩, .val 0 []),
      (⟨(some 52), none, .o (.v (.mov (.t 9)))⟩, .val 0 []),
      (⟨(some 53), none, .o (.call (.c (.fn 90 [])) [(.t 52)])⟩, .eff 0 []),
      (⟨(some 54), none, .o (.call (.c (.fn 103 [])) [(.t 51), (.t 53)])⟩, .eff 1 []),
      (⟨(some 55), none, .o (.v (.load (.t 7) (some 2)))⟩, .val 0 []),
      (⟨(some 56), none, .o (.v (.load (.t 10) (some 2)))⟩, .val 0 [])],
      [],
      [⟨(some 57), none, .o (.call (.c (.fn 103 [])) [(.t 55), (.t 56)])⟩,
      ⟨none, none, .o (.store 2 (.t 6) (.t 54))⟩,
      ⟨none, none, .o (.store 2 (.t 7) (.t 57))⟩], none⟩])))))))
  (.seq (.drw [⟨[], 0, 1, [(⟨(some 58), none, .o (.v (.load (.t 6) (some 2)))⟩, .val 0 []),
    (⟨(some 59), none, .o (.v (.load (.t 7) (some 2)))⟩, .prd [6]),
    (⟨none, none, .o (.store 2 (.t 6) (.t 58))⟩, .efs 0 [] [])],
    [],
    [⟨none, none, .o (.store 2 (.t 7) (.t 59))⟩], none⟩,
    ⟨[], 0, 1, [(⟨(some 58), none, .o (.v (.load (.t 6) (some 2)))⟩, .val 0 []),
    (⟨(some 59), none, .o (.v (.load (.t 7) (some 2)))⟩, .prd [6]),
    (⟨none, none, .o (.store 2 (.t 6) (.t 58))⟩, .efs 0 [] [])],
    [],
    [⟨none, none, .o (.store 2 (.t 7) (.t 59))⟩], none⟩])
  .ret)))))))
theorem h67 : FdOk Try.prog 67 ⟨g67, [.c 6 (some 2), .c 7 (some 2)], 60, [], false⟩ := .of Try.func67 (by simp [Try.f67]) (by kernel_rfl)
/-- octant/sextant.noSpan -/
def g68 : RC :=
  (.seq (.reg [⟨(some 0), none, .o (.new 24 [(.int .i64 (0)), (.int .i64 (0))])⟩])
  (.seq (.reg [⟨(some 1), none, .o (.bld [(.int .i64 (0)), (.int .i64 (0))] [(0, 1, (.c (.int .i64 (1)))), (1, 1, (.c (.int .i64 (0))))])⟩,
    ⟨none, none, .o (.store 2 (.t 0) (.t 1))⟩])
  .ret))
theorem h68 : FdOk Try.prog 68 ⟨g68, [.c 0 (some 2)], 2, [], false⟩ := .of Try.func68 (by simp [Try.f68]) (by kernel_rfl)
/-- octant/sextant.checkTrials -/
def g70 : RC :=
  (.seq (.reg [⟨(some 2), none, .o (.box 26 (.t 0))⟩,
    ⟨(some 4), none, .o (.v (.mov (.c (.int .i64 (0)))))⟩])
  (.seq (.seq (.reg [⟨(some 6), none, .o (.v (.load (.t 2) (some 6)))⟩,
    ⟨(some 7), none, .o (.call (.c (.fn 17 [])) [(.t 6)])⟩,
    ⟨(some 5), none, .o (.v (.mov (.t 7)))⟩])
  (.seq (.reg [⟨(some 8), none, .o (.v (.mov (.t 5)))⟩,
    ⟨(some 9), none, .o (.v (.bin .neq (.t 8) (.c (.int .i64 (0)))))⟩])
  (.cond (.t 9)
    (.seq (.reg [⟨(some 10), none, .o (.v (.mov (.t 5)))⟩,
      ⟨(some 4), none, .o (.v (.mov (.t 10)))⟩])
    .ret)
    .skip)))
  (.seq (.seq (.reg [⟨(some 11), none, .o (.v (.load (.t 2) (some 6)))⟩,
    ⟨(some 12), none, .o (.bld [(.int .i64 (0)), (.lit (.slice none 0 0)), (.int .i64 (0)), (.int .i64 (0)), (.int .i64 (0)), (.lit (.slice none 0 0))] [(0, 6, (.t 11))])⟩,
    ⟨(some 13), none, .o (.v (.mov (.t 1)))⟩,
    ⟨(some 14), none, .o (.call (.c (.fn 104 [])) [(.t 12), (.t 13)])⟩,
    ⟨(some 15), none, .o (.v (.not (.t 14)))⟩])
  (.cond (.t 15)
    (.seq (.reg [⟨(some 4), none, .o (.v (.mov (.c (.int .i64 (53)))))⟩])
    .ret)
    .skip))
  (.seq (.reg [⟨(some 4), none, .o (.v (.mov (.c (.int .i64 (0)))))⟩])
  .ret))))
theorem h70 : FdOk Try.prog 70 ⟨g70, [.t 4], 16, [], false⟩ := .of Try.func70 (by simp [Try.f70]) (by kernel_rfl)
/-- (octant/sextant.sextant).byTrials -/
def g71 : RC :=
  (.seq (.reg [⟨(some 2), none, .o (.box 89 (.t 0))⟩,
    ⟨(some 3), none, .o (.box 108 (.t 1))⟩,
    ⟨(some 4), none, .o (.new 22 [(.lit (.slice none 0 0))])⟩,
    ⟨(some 5), none, .o (.new 24 [(.int .i64 (0)), (.int .i64 (0))])⟩])
  (.scp (.seq (.seq (.reg [⟨(some 10), none, .o (.v (.off (.t 3) 0))⟩,
    ⟨(some 11), none, .o (.v (.load (.t 10) (some 12)))⟩,
    ⟨(some 12), none, .o (.bld [(.lit (.bool false)), (.lit (.bool false)), (.lit (.bool false)), (.lit (.bool false)), (.lit (.bool false)), (.lit (.bool false)), (.lit (.bool false)), (.lit (.bool false)), (.lit (.bool false)), (.lit (.bool false)), (.lit (.bool false)), (.lit (.bool false))] [])⟩,
    ⟨(some 13), none, .o (.v (.eqs [none, none, none, none, none, none, none, none, none, none, none, none] false (.t 11) (.t 12)))⟩])
  (.cond (.t 13)
    (.seq (.drw [⟨[], 0, 2, [(⟨(some 14), none, .o (.v (.off (.t 2) 0))⟩, .val 0 []),
      (⟨(some 15), none, .o (.v (.off (.t 14) 1))⟩, .val 0 []),
      (⟨(some 16), none, .o (.v (.load (.t 15) none))⟩, .val 0 []),
      (⟨(some 17), none, .o (.call (.c (.fn 105 [])) [(.t 16)])⟩, .efs 0 [] []),
      (⟨(some 18), none, .o (.v (.off (.t 2) 0))⟩, .pur),
      (⟨(some 19), none, .o (.v (.off (.t 18) 2))⟩, .pur),
      (⟨(some 20), none, .o (.v (.load (.t 19) (some 2)))⟩, .pur),
      (⟨none, none, .o (.store 1 (.t 4) (.t 17))⟩, .efs 1 [] [])],
      [],
      [⟨none, none, .o (.store 2 (.t 5) (.t 20))⟩], none⟩,
      ⟨[2, 14, 15, 16, 18, 19, 4, 17, 5, 20], 0, 1, [(⟨(some 14), none, .o (.v (.off (.t 2) 0))⟩, .val 0 []),
      (⟨(some 15), none, .o (.v (.off (.t 14) 1))⟩, .val 0 []),
      (⟨(some 16), none, .o (.v (.load (.t 15) none))⟩, .val 0 []),
      (⟨(some 17), none, .o (.call (.c (.fn 105 [])) [(.t 16)])⟩, .val 0 []),
      (⟨(some 18), none, .o (.v (.off (.t 2) 0))⟩, .prd [4]),
      (⟨(some 19), none, .o (.v (.off (.t 18) 2))⟩, .prd [4]),
      (⟨(some 20), none, .o (.v (.load (.t 19) (some 2)))⟩, .prd [4]),
      (⟨none, none, .o (.store 1 (.t 4) (.t 17))⟩, .efs 0 [] [])],
      [],
      [⟨none, none, .o (.store 2 (.t 5) (.t 20))⟩], none⟩])
    .ret)
    .skip))
  (.seq (.drw [⟨[], 1, 1, [(⟨(some 21), none, .o (.call (.c (.fn 68 [])) [])⟩, .eff 0 []),
    (⟨(some 22), none, .o (.bsl 24 1 [(.int .i64 (0)), (.int .i64 (0))] [(0, 2, (.t 21))])⟩, .cre 0),
    (⟨(some 23), none, .o (.v (.off (.t 2) 0))⟩, .val 0 []),
    (⟨(some 24), none, .o (.v (.off (.t 23) 1))⟩, .val 0 []),
    (⟨(some 25), none, .o (.v (.load (.t 24) none))⟩, .val 0 []),
    (⟨(some 26), none, .o (.v (.len (.t 25)))⟩, .val 0 [])],
    [0],
    [⟨(some 27), none, .o (.call (.c (.fn 106 [])) [(.t 22), (.t 26)])⟩,
    ⟨(some 28), none, .o (.call (.c (.fn 68 [])) [])⟩,
    ⟨none, none, .o (.store 1 (.t 4) (.t 27))⟩,
    ⟨none, none, .o (.store 2 (.t 5) (.t 28))⟩], none⟩])
  (.seq .skip
  (.seq (.seq (.reg [⟨(some 29), none, .o (.v (.load (.t 2) (some 6)))⟩,
    ⟨(some 30), none, .o (.call (.c (.fn 100 [])) [(.t 29)])⟩])
  (.block 0 (.rng (.t 30) [31]
    (.reg [⟨(some 6), none, .o (.v (.mov (.t 31)))⟩])
    (.block 1 (.seq (.reg [⟨(some 7), none, .o (.new 144 (List.replicate 24 (.int .i64 (0))))⟩])
    (.seq (.seq (.reg [⟨(some 32), none, .o (.v (.off (.t 2) 0))⟩,
      ⟨(some 33), none, .o (.v (.off (.t 32) 1))⟩,
      ⟨(some 34), none, .o (.v (.load (.t 33) none))⟩,
      ⟨(some 35), none, .o (.v (.len (.t 34)))⟩,
      ⟨(some 36), none, .o (.v (.mov (.c (.int .i64 (0)))))⟩])
    (.block 2 (.loop
      (.seq (.reg [⟨(some 37), none, .o (.v (.bin .lss (.t 36) (.t 35)))⟩])
      (.seq (.cond (.t 37)
        .skip
        (.exit 2))
      (.seq (.block 3 (.seq (.reg [⟨(some 38), none, .o (.v (.mov (.t 36)))⟩,
        ⟨(some 8), none, .o (.v (.mov (.t 38)))⟩])
      (.seq (.reg [⟨(some 39), none, .o (.v (.mov (.t 8)))⟩,
        ⟨(some 40), none, .o (.v (.off (.t 2) 0))⟩,
        ⟨(some 41), none, .o (.v (.off (.t 40) 1))⟩,
        ⟨(some 42), none, .o (.v (.load (.t 41) none))⟩,
        ⟨(some 43), none, .o (.v (.mov (.t 8)))⟩,
        ⟨(some 44), none, .o (.v (.ixa (.t 42) (.t 43) 2))⟩,
        ⟨(some 45), none, .o (.v (.load (.t 44) (some 2)))⟩,
        ⟨(some 46), none, .o (.v (.ixarr (.t 7) (.t 39) 12 2))⟩,
        ⟨none, none, .o (.store 2 (.t 46) (.t 45))⟩])
      (.seq (.seq (.reg [⟨(some 47), none, .o (.v (.mov (.t 8)))⟩,
        ⟨(some 48), none, .o (.v (.off (.t 3) 0))⟩,
        ⟨(some 49), none, .o (.v (.ixarr (.t 48) (.t 47) 12 1))⟩,
        ⟨(some 50), none, .o (.v (.load (.t 49) none))⟩])
      (.cond (.t 50)
        (.drw [⟨[], 1, 3, [(⟨(some 51), none, .o (.v (.mov (.t 8)))⟩, .val 0 []),
          (⟨(some 52), none, .o (.v (.mov (.t 8)))⟩, .val 0 []),
          (⟨(some 53), none, .o (.v (.ixarr (.t 7) (.t 52) 12 2))⟩, .val 0 []),
          (⟨(some 54), none, .o (.v (.load (.t 53) (some 2)))⟩, .val 0 []),
          (⟨(some 55), none, .o (.v (.off (.t 3) 12))⟩, .val 0 []),
          (⟨(some 56), none, .o (.v (.load (.t 55) none))⟩, .val 0 []),
          (⟨(some 57), none, .o (.v (.mov (.t 8)))⟩, .val 0 []),
          (⟨(some 58), none, .lku (.i .i64) (.agg [(.int .i64 (0)), (.int .i64 (0))]) false (.t 56) (.t 57)⟩, .val 0 []),
          (⟨(some 59), none, .o (.v (.mov (.t 6)))⟩, .val 0 []),
          (⟨(some 60), none, .o (.v (.neg (.t 59)))⟩, .val 0 []),
          (⟨(some 61), none, .o (.call (.c (.fn 90 [])) [(.t 60)])⟩, .eff 0 []),
          (⟨(some 62), none, .o (.bsl 24 2 [(.int .i64 (0)), (.int .i64 (0)), (.int .i64 (0)), (.int .i64 (0))] [(0, 2, (.t 58)), (2, 2, (.t 61))])⟩, .cre 0),
          (⟨(some 63), none, .o (.call (.c (.fn 89 [])) [(.t 62)])⟩, .eff 1 [0]),
          (⟨(some 64), none, .o (.call (.c (.fn 101 [])) [(.t 54), (.t 63)])⟩, .eff 2 [])],
          [],
          [⟨(some 65), none, .o (.v (.ixarr (.t 7) (.t 51) 12 2))⟩,
          ⟨none, none, .o (.store 2 (.t 65) (.t 64))⟩], none⟩])
        .skip))
      (.seq (.drw [⟨[], 0, 1, [(⟨(some 66), none, .o (.v (.mov (.t 8)))⟩, .val 0 []),
        (⟨(some 67), none, .o (.v (.ixarr (.t 7) (.t 66) 12 2))⟩, .val 0 []),
        (⟨(some 68), none, .o (.v (.load (.t 67) (some 2)))⟩, .val 0 []),
        (⟨(some 69), none, .o (.call (.c (.fn 68 [])) [])⟩, .eff 0 [])],
        [],
        [⟨(some 70), none, .o (.v (.eqs [(some .i64), (some .i64)] false (.t 68) (.t 69)))⟩], none⟩])
      (.cond (.t 70)
        (.exit 1)
        .skip))))))
      (.reg [⟨(some 71), none, .o (.v (.bin .add (.t 36) (.c (.int .i64 (1)))))⟩,
        ⟨(some 36), none, .o (.v (.mov (.t 71)))⟩])))))))
    (.seq (.drw [⟨[], 0, 1, [(⟨(some 72), none, .o (.v (.load (.t 5) (some 2)))⟩, .val 0 []),
      (⟨(some 73), none, .o (.v (.mov (.t 6)))⟩, .val 0 []),
      (⟨(some 74), none, .o (.call (.c (.fn 90 [])) [(.t 73)])⟩, .eff 0 [])],
      [],
      [⟨(some 75), none, .o (.call (.c (.fn 103 [])) [(.t 72), (.t 74)])⟩,
      ⟨none, none, .o (.store 2 (.t 5) (.t 75))⟩], none⟩])
    (.seq (.reg [⟨(some 76), none, .o (.v (.off (.t 2) 0))⟩,
      ⟨(some 77), none, .o (.v (.off (.t 76) 1))⟩,
      ⟨(some 78), none, .o (.v (.load (.t 77) none))⟩,
      ⟨(some 79), none, .o (.v (.len (.t 78)))⟩,
      ⟨(some 80), none, .o (.v (.mov (.c (.int .i64 (0)))))⟩])
    (.block 4 (.loop
      (.seq (.reg [⟨(some 81), none, .o (.v (.bin .lss (.t 80) (.t 79)))⟩])
      (.seq (.cond (.t 81)
        .skip
        (.exit 4))
      (.seq (.block 5 (.seq (.reg [⟨(some 82), none, .o (.v (.mov (.t 80)))⟩,
        ⟨(some 9), none, .o (.v (.mov (.t 82)))⟩])
      (.drw [⟨[], 0, 1, [(⟨(some 83), none, .o (.v (.load (.t 4) none))⟩, .val 0 []),
        (⟨(some 84), none, .o (.v (.mov (.t 9)))⟩, .val 0 []),
        (⟨(some 85), none, .o (.v (.load (.t 4) none))⟩, .val 0 []),
        (⟨(some 86), none, .o (.v (.mov (.t 9)))⟩, .val 0 []),
        (⟨(some 87), none, .o (.v (.ixa (.t 85) (.t 86) 2))⟩, .val 0 []),
        (⟨(some 88), none, .o (.v (.load (.t 87) (some 2)))⟩, .val 0 []),
        (⟨(some 89), none, .o (.v (.mov (.t 9)))⟩, .val 0 []),
        (⟨(some 90), none, .o (.v (.ixarr (.t 7) (.t 89) 12 2))⟩, .val 0 []),
        (⟨(some 91), none, .o (.v (.load (.t 90) (some 2)))⟩, .val 0 []),
        (⟨(some 92), none, .o (.call (.c (.fn 103 [])) [(.t 88), (.t 91)])⟩, .eff 0 [])],
        [],
        [⟨(some 93), none, .o (.v (.ixa (.t 83) (.t 84) 2))⟩,
        ⟨none, none, .o (.store 2 (.t 93) (.t 92))⟩], none⟩])))
      (.reg [⟨(some 94), none, .o (.v (.bin .add (.t 80) (.c (.int .i64 (1)))))⟩,
        ⟨(some 80), none, .o (.v (.mov (.t 94)))⟩]))))))))))))))
  (.seq (.drw [⟨[], 0, 1, [(⟨(some 95), none, .o (.v (.load (.t 4) none))⟩, .val 0 []),
    (⟨(some 96), none, .o (.v (.load (.t 5) (some 2)))⟩, .prd [4]),
    (⟨none, none, .o (.store 1 (.t 4) (.t 95))⟩, .efs 0 [] [])],
    [],
    [⟨none, none, .o (.store 2 (.t 5) (.t 96))⟩], none⟩,
    ⟨[], 0, 1, [(⟨(some 95), none, .o (.v (.load (.t 4) none))⟩, .val 0 []),
    (⟨(some 96), none, .o (.v (.load (.t 5) (some 2)))⟩, .prd [4]),
    (⟨none, none, .o (.store 1 (.t 4) (.t 95))⟩, .efs 0 [] [])],
    [],
    [⟨none, none, .o (.store 2 (.t 5) (.t 96))⟩], none⟩])
  .ret)))))))
theorem h71 : FdOk Try.prog 71 ⟨g71, [.c 4 none, .c 5 (some 2)], 97, [], false⟩ := .of Try.func71 (by simp [Try.f71]) (by kernel_rfl)
/-- (octant/sextant.sextant).hear -/
def g72 : RC :=
  (.seq (.reg [⟨(some 2), none, .o (.box 89 (.t 0))⟩,
    ⟨(some 4), none, .o (.new 108 [(.lit (.bool false)), (.lit (.bool false)), (.lit (.bool false)), (.lit (.bool false)), (.lit (.bool false)), (.lit (.bool false)), (.lit (.bool false)), (.lit (.bool false)), (.lit (.bool false)), (.lit (.bool false)), (.lit (.bool false)), (.lit (.bool false)), (.lit (.map none))])⟩])
  (.seq (.reg [⟨(some 11), none, .mkm⟩,
    ⟨(some 12), none, .o (.bld [(.lit (.bool false)), (.lit (.bool false)), (.lit (.bool false)), (.lit (.bool false)), (.lit (.bool false)), (.lit (.bool false)), (.lit (.bool false)), (.lit (.bool false)), (.lit (.bool false)), (.lit (.bool false)), (.lit (.bool false)), (.lit (.bool false)), (.lit (.map none))] [(12, 1, (.t 11))])⟩,
    ⟨(some 5), none, .o (.new 108 [(.lit (.bool false)), (.lit (.bool false)), (.lit (.bool false)), (.lit (.bool false)), (.lit (.bool false)), (.lit (.bool false)), (.lit (.bool false)), (.lit (.bool false)), (.lit (.bool false)), (.lit (.bool false)), (.lit (.bool false)), (.lit (.bool false)), (.lit (.map none))])⟩,
    ⟨none, none, .o (.store 13 (.t 5) (.t 12))⟩])
  (.seq (.seq (.reg [⟨(some 13), none, .o (.v (.mov (.t 1)))⟩,
    ⟨(some 14), none, .o (.v (.len (.t 13)))⟩,
    ⟨(some 15), none, .o (.v (.mov (.c (.int .i64 (0)))))⟩])
  (.block 0 (.loop
    (.seq (.reg [⟨(some 16), none, .o (.v (.bin .lss (.t 15) (.t 14)))⟩])
    (.seq (.cond (.t 16)
      .skip
      (.exit 0))
    (.seq (.block 1 (.seq (.reg [⟨(some 17), none, .o (.v (.ixa (.t 13) (.t 15) 3))⟩,
      ⟨(some 18), none, .o (.v (.load (.t 17) (some 3)))⟩,
      ⟨(some 7), none, .o (.new 84 [(.int .i64 (0)), (.int .i64 (0)), (.int .i64 (0))])⟩,
      ⟨none, none, .o (.store 3 (.t 7) (.t 18))⟩])
    (.seq (.reg [⟨(some 19), none, .o (.v (.off (.t 7) 0))⟩,
      ⟨(some 20), none, .o (.v (.off (.t 19) 0))⟩,
      ⟨(some 21), none, .o (.v (.load (.t 20) none))⟩,
      ⟨(some 22), none, .o (.v (.off (.t 2) 0))⟩,
      ⟨(some 23), none, .o (.v (.off (.t 22) 0))⟩,
      ⟨(some 24), none, .o (.v (.load (.t 23) none))⟩,
      ⟨(some 25), none, .o (.v (.bin .quo (.t 21) (.t 24)))⟩,
      ⟨(some 8), none, .o (.v (.mov (.t 25)))⟩])
    (.seq (.drw [⟨[], 1, 4, [(⟨(some 26), none, .o (.v (.off (.t 7) 0))⟩, .val 0 []),
      (⟨(some 27), none, .o (.v (.off (.t 26) 0))⟩, .val 0 []),
      (⟨(some 28), none, .o (.v (.load (.t 27) none))⟩, .val 0 []),
      (⟨(some 29), none, .o (.call (.c (.fn 90 [])) [(.t 28)])⟩, .eff 0 []),
      (⟨(some 30), none, .o (.v (.load (.t 2) (some 6)))⟩, .val 0 []),
      (⟨(some 31), none, .o (.call (.c (.fn 93 [])) [(.t 30)])⟩, .eff 1 []),
      (⟨(some 32), none, .o (.v (.off (.t 7) 0))⟩, .val 0 []),
      (⟨(some 33), none, .o (.v (.load (.t 32) (some 2)))⟩, .val 0 []),
      (⟨(some 34), none, .o (.call (.c (.fn 91 [])) [(.t 31), (.t 33)])⟩, .eff 2 []),
      (⟨(some 35), none, .o (.bsl 24 2 [(.int .i64 (0)), (.int .i64 (0)), (.int .i64 (0)), (.int .i64 (0))] [(0, 2, (.t 29)), (2, 2, (.t 34))])⟩, .cre 0),
      (⟨(some 36), none, .o (.call (.c (.fn 89 [])) [(.t 35)])⟩, .eff 3 [0])],
      [],
      [⟨(some 9), none, .o (.new 24 [(.int .i64 (0)), (.int .i64 (0))])⟩,
      ⟨none, none, .o (.store 2 (.t 9) (.t 36))⟩], (some 9)⟩,
      ⟨[7, 26, 27, 28, 2, 30, 32, 31, 33, 29, 34, 35, 9, 36], 2, 0, [(⟨(some 26), none, .o (.v (.off (.t 7) 0))⟩, .val 0 []),
      (⟨(some 27), none, .o (.v (.off (.t 26) 0))⟩, .val 0 []),
      (⟨(some 28), none, .o (.v (.load (.t 27) none))⟩, .val 0 []),
      (⟨(some 29), none, .o (.call (.c (.fn 90 [])) [(.t 28)])⟩, .val 0 []),
      (⟨(some 30), none, .o (.v (.load (.t 2) (some 6)))⟩, .val 0 []),
      (⟨(some 31), none, .o (.call (.c (.fn 93 [])) [(.t 30)])⟩, .val 0 []),
      (⟨(some 32), none, .o (.v (.off (.t 7) 0))⟩, .val 0 []),
      (⟨(some 33), none, .o (.v (.load (.t 32) (some 2)))⟩, .val 0 []),
      (⟨(some 34), none, .o (.call (.c (.fn 91 [])) [(.t 31), (.t 33)])⟩, .val 0 []),
      (⟨(some 35), none, .o (.bsl 24 2 [(.int .i64 (0)), (.int .i64 (0)), (.int .i64 (0)), (.int .i64 (0))] [(0, 2, (.t 29)), (2, 2, (.t 34))])⟩, .cre 0),
      (⟨(some 36), none, .o (.call (.c (.fn 89 [])) [(.t 35)])⟩, .val 0 [0]),
      (⟨(some 9), none, .o (.new 24 [(.int .i64 (0)), (.int .i64 (0))])⟩, .cre 1)],
      [0, 1],
      [⟨none, none, .o (.store 2 (.t 9) (.t 36))⟩], none⟩])
    (.seq (.drw [⟨[], 1, 3, [(⟨(some 37), none, .o (.v (.off (.t 7) 2))⟩, .val 0 []),
      (⟨(some 38), none, .o (.v (.load (.t 37) none))⟩, .val 0 []),
      (⟨(some 39), none, .o (.call (.c (.fn 90 [])) [(.t 38)])⟩, .eff 0 []),
      (⟨(some 40), none, .o (.v (.load (.t 9) (some 2)))⟩, .val 0 []),
      (⟨(some 41), none, .o (.call (.c (.fn 107 [])) [(.t 40)])⟩, .eff 1 []),
      (⟨(some 42), none, .o (.bsl 24 2 [(.int .i64 (0)), (.int .i64 (0)), (.int .i64 (0)), (.int .i64 (0))] [(0, 2, (.t 39)), (2, 2, (.t 41))])⟩, .cre 0),
      (⟨(some 43), none, .o (.call (.c (.fn 89 [])) [(.t 42)])⟩, .eff 2 [0])],
      [],
      [⟨(some 10), none, .o (.new 24 [(.int .i64 (0)), (.int .i64 (0))])⟩,
      ⟨none, none, .o (.store 2 (.t 10) (.t 43))⟩], (some 10)⟩,
      ⟨[7, 37, 38, 9, 40, 39, 41, 42, 10, 43], 2, 0, [(⟨(some 37), none, .o (.v (.off (.t 7) 2))⟩, .val 0 []),
      (⟨(some 38), none, .o (.v (.load (.t 37) none))⟩, .val 0 []),
      (⟨(some 39), none, .o (.call (.c (.fn 90 [])) [(.t 38)])⟩, .val 0 []),
      (⟨(some 40), none, .o (.v (.load (.t 9) (some 2)))⟩, .val 0 []),
      (⟨(some 41), none, .o (.call (.c (.fn 107 [])) [(.t 40)])⟩, .val 0 []),
      (⟨(some 42), none, .o (.bsl 24 2 [(.int .i64 (0)), (.int .i64 (0)), (.int .i64 (0)), (.int .i64 (0))] [(0, 2, (.t 39)), (2, 2, (.t 41))])⟩, .cre 0),
      (⟨(some 43), none, .o (.call (.c (.fn 89 [])) [(.t 42)])⟩, .val 0 [0]),
      (⟨(some 10), none, .o (.new 24 [(.int .i64 (0)), (.int .i64 (0))])⟩, .cre 1)],
      [0, 1],
      [⟨none, none, .o (.store 2 (.t 10) (.t 43))⟩], none⟩])
    (.seq (.seq (.reg [⟨(some 44), none, .o (.v (.mov (.t 8)))⟩,
      ⟨(some 45), none, .o (.v (.off (.t 5) 0))⟩,
      ⟨(some 46), none, .o (.v (.ixarr (.t 45) (.t 44) 12 1))⟩,
      ⟨(some 47), none, .o (.v (.load (.t 46) none))⟩])
    (.cond (.t 47)
      (.reg [⟨(some 48), none, .o (.v (.load (.t 10) (some 2)))⟩,
        ⟨(some 49), none, .o (.v (.off (.t 5) 12))⟩,
        ⟨(some 50), none, .o (.v (.load (.t 49) none))⟩,
        ⟨(some 51), none, .o (.v (.mov (.t 8)))⟩,
        ⟨(some 52), none, .lku (.i .i64) (.agg [(.int .i64 (0)), (.int .i64 (0))]) false (.t 50) (.t 51)⟩,
        ⟨(some 53), none, .o (.call (.c (.fn 101 [])) [(.t 48), (.t 52)])⟩,
        ⟨none, none, .o (.store 2 (.t 10) (.t 53))⟩])
      .skip))
    (.drw [⟨[], 0, 1, [(⟨(some 54), none, .o (.v (.mov (.t 8)))⟩, .val 0 []),
      (⟨(some 55), none, .o (.v (.off (.t 5) 12))⟩, .val 0 []),
      (⟨(some 56), none, .o (.v (.load (.t 55) none))⟩, .val 0 []),
      (⟨(some 57), none, .o (.v (.mov (.t 8)))⟩, .prd [5]),
      (⟨(some 58), none, .o (.v (.load (.t 10) (some 2)))⟩, .prd [5]),
      (⟨(some 59), none, .o (.v (.off (.t 5) 0))⟩, .val 0 []),
      (⟨(some 60), none, .o (.v (.ixarr (.t 59) (.t 54) 12 1))⟩, .val 0 []),
      (⟨none, none, .o (.store 1 (.t 60) (.c (.lit (.bool true))))⟩, .efs 0 [] [])],
      [],
      [⟨none, none, .upd (.i .i64) (.t 56) (.t 57) (.t 58)⟩], none⟩,
      ⟨[], 0, 1, [(⟨(some 54), none, .o (.v (.mov (.t 8)))⟩, .val 0 []),
      (⟨(some 55), none, .o (.v (.off (.t 5) 12))⟩, .val 0 []),
      (⟨(some 56), none, .o (.v (.load (.t 55) none))⟩, .val 0 []),
      (⟨(some 57), none, .o (.v (.mov (.t 8)))⟩, .prd [5]),
      (⟨(some 58), none, .o (.v (.load (.t 10) (some 2)))⟩, .prd [5]),
      (⟨(some 59), none, .o (.v (.off (.t 5) 0))⟩, .val 0 []),
      (⟨(some 60), none, .o (.v (.ixarr (.t 59) (.t 54) 12 1))⟩, .val 0 []),
      (⟨none, none, .o (.store 1 (.t 60) (.c (.lit (.bool true))))⟩, .efs 0 [] [])],
      [],
      [⟨none, none, .upd (.i .i64) (.t 56) (.t 57) (.t 58)⟩], none⟩])))))))
    (.reg [⟨(some 61), none, .o (.v (.bin .add (.t 15) (.c (.int .i64 (1)))))⟩,
      ⟨(some 15), none, .o (.v (.mov (.t 61)))⟩])))))))
  (.seq (.reg [⟨(some 62), none, .o (.v (.load (.t 5) (some 13)))⟩,
    ⟨none, none, .o (.store 13 (.t 4) (.t 62))⟩])
  .ret))))
theorem h72 : FdOk Try.prog 72 ⟨g72, [.c 4 (some 13)], 63, [], false⟩ := .of Try.func72 (by simp [Try.f72]) (by kernel_rfl)
/-- (octant/sextant.sextant).canBe -/
def g75 : RC :=
  (.seq (.reg [⟨(some 2), none, .o (.box 89 (.t 0))⟩,
    ⟨(some 4), none, .o (.v (.mov (.c (.lit (.bool false)))))⟩])
  (.seq (.drw [⟨[2, 1, 9, 10, 8, 11, 12, 7, 13, 6, 14], 1, 0, [(⟨(some 8), none, .o (.v (.load (.t 2) (some 6)))⟩, .val 0 []),
    (⟨(some 9), none, .o (.v (.load (.t 2) (some 6)))⟩, .val 0 []),
    (⟨(some 10), none, .o (.v (.mov (.t 1)))⟩, .val 0 []),
    (⟨(some 11), none, .o (.call (.c (.fn 72 [])) [(.t 9), (.t 10)])⟩, .val 0 []),
    (⟨(some 12), none, .o (.call (.c (.fn 71 [])) [(.t 8), (.t 11)])⟩, .val 0 []),
    (⟨(some 7), none, .o (.v (.mov (.t 12)))⟩, .val 0 []),
    (⟨(some 13), none, .o (.v (.ext (.t 7) 0))⟩, .val 0 []),
    (⟨(some 14), none, .o (.v (.ext (.t 7) 1))⟩, .val 0 []),
    (⟨(some 6), none, .o (.new 24 [(.int .i64 (0)), (.int .i64 (0))])⟩, .cre 0),
    (⟨(some 5), none, .o (.v (.mov (.t 13)))⟩, .val 0 [0])],
    [0],
    [⟨none, none, .o (.store 2 (.t 6) (.t 14))⟩], none⟩])
  (.seq (.drw [⟨[], 0, 1, [(⟨(some 15), none, .o (.v (.load (.t 6) (some 2)))⟩, .val 0 []),
    (⟨(some 16), none, .o (.call (.c (.fn 68 [])) [])⟩, .eff 0 [])],
    [],
    [⟨(some 17), none, .o (.v (.eqs [(some .i64), (some .i64)] true (.t 15) (.t 16)))⟩,
    ⟨(some 4), none, .o (.v (.mov (.t 17)))⟩], none⟩])
  .ret)))
theorem h75 : FdOk Try.prog 75 ⟨g75, [.t 4], 18, [], false⟩ := .of Try.func75 (by simp [Try.f75]) (by kernel_rfl)
/-- (octant/sextant.sextant).fewestFalse -/
def g76 : RC :=
  (.seq (.reg [⟨(some 2), none, .o (.box 89 (.t 0))⟩,
    ⟨(some 3), none, .o (.box 41 (.t 1))⟩,
    ⟨(some 4), none, .o (.v (.mov (.c (.lit (.slice none 0 0)))))⟩])
  (.seq (.reg [⟨(some 5), none, .o (.new 147 [(.lit .nilFunc)])⟩])
  (.seq (.reg [⟨(some 8), none, .o (.v (.mkfn 109 [(.t 2), (.t 3), (.t 5)]))⟩,
    ⟨none, none, .o (.store 1 (.t 5) (.t 8))⟩])
  (.seq (.seq (.reg [⟨(some 9), none, .o (.v (.load (.t 3) none))⟩,
    ⟨(some 10), none, .o (.v (.len (.t 9)))⟩,
    ⟨(some 11), none, .o (.v (.bin .add (.t 10) (.c (.int .i64 (1)))))⟩,
    ⟨(some 12), none, .o (.v (.mov (.c (.int .i64 (0)))))⟩])
  (.block 0 (.loop
    (.seq (.reg [⟨(some 13), none, .o (.v (.bin .lss (.t 12) (.t 11)))⟩])
    (.seq (.cond (.t 13)
      .skip
      (.exit 0))
    (.seq (.block 1 (.seq (.reg [⟨(some 14), none, .o (.v (.mov (.t 12)))⟩,
      ⟨(some 6), none, .o (.v (.mov (.t 14)))⟩])
    (.seq (.reg [⟨(some 15), none, .o (.v (.load (.t 5) none))⟩,
      ⟨(some 16), none, .o (.v (.mov (.t 6)))⟩,
      ⟨(some 17), none, .o (.call (.t 15) [(.c (.lit (.slice none 0 0))), (.c (.lit (.slice none 0 0))), (.c (.int .i64 (0))), (.t 16)])⟩,
      ⟨(some 7), none, .o (.v (.mov (.t 17)))⟩])
    (.seq (.reg [⟨(some 18), none, .o (.v (.mov (.t 7)))⟩,
      ⟨(some 19), none, .o (.v (.isnil true (.t 18)))⟩])
    (.cond (.t 19)
      (.seq (.reg [⟨(some 20), none, .o (.v (.mov (.t 7)))⟩,
        ⟨(some 4), none, .o (.v (.mov (.t 20)))⟩])
      .ret)
      .skip)))))
    (.reg [⟨(some 21), none, .o (.v (.bin .add (.t 12) (.c (.int .i64 (1)))))⟩,
      ⟨(some 12), none, .o (.v (.mov (.t 21)))⟩])))))))
  (.seq (.reg [⟨(some 4), none, .o (.v (.mov (.c (.lit (.slice none 0 0)))))⟩])
  .ret)))))
theorem h76 : FdOk Try.prog 76 ⟨g76, [.t 4], 22, [], false⟩ := .of Try.func76 (by simp [Try.f76]) (by kernel_rfl)
/-- octant/sextant.isStock -/
def g77 : RC :=
  (.seq (.reg [⟨(some 2), none, .o (.v (.mov (.c (.lit (.bool false)))))⟩])
  (.seq (.seq (.reg [⟨(some 5), none, .o (.v (.mov (.t 0)))⟩,
    ⟨(some 6), none, .o (.v (.len (.t 5)))⟩,
    ⟨(some 7), none, .o (.call (.c (.fn 78 [])) [(.t 6), (.c (.int .i64 (3))), (.c (.int .i64 (12)))])⟩,
    ⟨(some 8), none, .o (.v (.not (.t 7)))⟩,
    ⟨(some 9), none, .o (.v (.mov (.t 8)))⟩,
    ⟨(some 10), (some (9, false)), .o (.v (.mov (.t 0)))⟩,
    ⟨(some 11), (some (9, false)), .o (.v (.ixa (.t 10) (.c (.int .i64 (0))) 3))⟩,
    ⟨(some 12), (some (9, false)), .o (.v (.off (.t 11) 2))⟩,
    ⟨(some 13), (some (9, false)), .o (.v (.load (.t 12) none))⟩,
    ⟨(some 14), (some (9, false)), .o (.v (.len (.t 13)))⟩,
    ⟨(some 15), (some (9, false)), .o (.call (.c (.fn 78 [])) [(.t 14), (.c (.int .i64 (2))), (.c (.int .i64 (12)))])⟩,
    ⟨(some 16), (some (9, false)), .o (.v (.not (.t 15)))⟩,
    ⟨(some 17), none, .o (.v (.pick (.t 9) (.c (.lit (.bool true))) (.t 16)))⟩])
  (.cond (.t 17)
    (.seq (.reg [⟨(some 2), none, .o (.v (.mov (.c (.lit (.bool false)))))⟩])
    .ret)
    .skip))
  (.seq (.seq (.reg [⟨(some 18), none, .o (.v (.mov (.t 0)))⟩,
    ⟨(some 19), none, .o (.v (.len (.t 18)))⟩,
    ⟨(some 20), none, .o (.v (.mov (.c (.int .i64 (0)))))⟩])
  (.block 0 (.loop
    (.seq (.reg [⟨(some 21), none, .o (.v (.bin .lss (.t 20) (.t 19)))⟩])
    (.seq (.cond (.t 21)
      .skip
      (.exit 0))
    (.seq (.block 1 (.seq (.reg [⟨(some 22), none, .o (.v (.ixa (.t 18) (.t 20) 3))⟩,
      ⟨(some 23), none, .o (.v (.load (.t 22) (some 3)))⟩,
      ⟨(some 4), none, .o (.new 77 [(.int .i64 (0)), (.int .i64 (0)), (.lit (.slice none 0 0))])⟩,
      ⟨none, none, .o (.store 3 (.t 4) (.t 23))⟩])
    (.seq (.seq (.reg [⟨(some 24), none, .o (.v (.off (.t 4) 0))⟩,
      ⟨(some 25), none, .o (.v (.load (.t 24) none))⟩,
      ⟨(some 26), none, .o (.call (.c (.fn 78 [])) [(.t 25), (.c (.int .i64 (0))), (.c (.int .i64 (2)))])⟩,
      ⟨(some 27), none, .o (.v (.not (.t 26)))⟩,
      ⟨(some 28), none, .o (.v (.mov (.t 27)))⟩,
      ⟨(some 29), (some (28, false)), .o (.v (.off (.t 4) 1))⟩,
      ⟨(some 30), (some (28, false)), .o (.v (.load (.t 29) none))⟩,
      ⟨(some 31), (some (28, false)), .o (.call (.c (.fn 78 [])) [(.t 30), (.c (.int .i64 (0))), (.c (.int .i64 (1000)))])⟩,
      ⟨(some 32), (some (28, false)), .o (.v (.not (.t 31)))⟩,
      ⟨(some 33), none, .o (.v (.pick (.t 28) (.c (.lit (.bool true))) (.t 32)))⟩])
    (.cond (.t 33)
      (.seq (.reg [⟨(some 2), none, .o (.v (.mov (.c (.lit (.bool false)))))⟩])
      .ret)
      .skip))
    (.seq (.drw [⟨[], 0, 0, [(⟨(some 34), none, .o (.v (.off (.t 4) 2))⟩, .val 0 []),
      (⟨(some 35), none, .o (.v (.load (.t 34) none))⟩, .val 0 []),
      (⟨(some 36), none, .o (.v (.len (.t 35)))⟩, .val 0 []),
      (⟨(some 37), none, .o (.v (.mov (.t 0)))⟩, .val 0 []),
      (⟨(some 38), none, .o (.v (.ixa (.t 37) (.c (.int .i64 (0))) 3))⟩, .val 0 []),
      (⟨(some 39), none, .o (.v (.off (.t 38) 2))⟩, .val 0 []),
      (⟨(some 40), none, .o (.v (.load (.t 39) none))⟩, .val 0 []),
      (⟨(some 41), none, .o (.v (.len (.t 40)))⟩, .val 0 [])],
      [],
      [⟨(some 42), none, .o (.v (.bin .neq (.t 36) (.t 41)))⟩,
      ⟨(some 43), none, .o (.v (.mov (.t 42)))⟩,
      ⟨(some 44), (some (43, false)), .o (.v (.off (.t 4) 2))⟩,
      ⟨(some 45), (some (43, false)), .o (.v (.load (.t 44) none))⟩,
      ⟨(some 46), (some (43, false)), .o (.call (.c (.fn 94 [])) [(.t 45), (.c (.int .i64 (1000)))])⟩,
      ⟨(some 47), (some (43, false)), .o (.v (.not (.t 46)))⟩,
      ⟨(some 48), none, .o (.v (.pick (.t 43) (.c (.lit (.bool true))) (.t 47)))⟩], none⟩])
    (.cond (.t 48)
      (.seq (.reg [⟨(some 2), none, .o (.v (.mov (.c (.lit (.bool false)))))⟩])
      .ret)
      .skip)))))
    (.reg [⟨(some 49), none, .o (.v (.bin .add (.t 20) (.c (.int .i64 (1)))))⟩,
      ⟨(some 20), none, .o (.v (.mov (.t 49)))⟩])))))))
  (.seq (.reg [⟨(some 2), none, .o (.v (.mov (.c (.lit (.bool true)))))⟩])
  .ret))))
theorem h77 : FdOk Try.prog 77 ⟨g77, [.t 2], 50, [], false⟩ := .of Try.func77 (by simp [Try.f77]) (by kernel_rfl)
/-- octant/sextant.within -/
def g78 : RC :=
  (.seq (.reg [⟨(some 6), none, .o (.v (.mov (.c (.lit (.bool false)))))⟩])
  (.seq (.reg [⟨(some 7), none, .o (.v (.mov (.t 1)))⟩,
    ⟨(some 8), none, .o (.v (.mov (.t 0)))⟩,
    ⟨(some 9), none, .o (.v (.bin .leq (.t 7) (.t 8)))⟩,
    ⟨(some 10), none, .o (.v (.mov (.t 9)))⟩,
    ⟨(some 11), (some (10, true)), .o (.v (.mov (.t 0)))⟩,
    ⟨(some 12), (some (10, true)), .o (.v (.mov (.t 2)))⟩,
    ⟨(some 13), (some (10, true)), .o (.v (.bin .leq (.t 11) (.t 12)))⟩,
    ⟨(some 14), none, .o (.v (.pick (.t 10) (.t 13) (.c (.lit (.bool false)))))⟩,
    ⟨(some 6), none, .o (.v (.mov (.t 14)))⟩])
  .ret))
theorem h78 : FdOk Try.prog 78 ⟨g78, [.t 6], 15, [], false⟩ := .of Try.func78 (by simp [Try.f78]) (by kernel_rfl)
/-- octant/sextant.fitting -/
def g79 : RC :=
  (.seq (.reg [⟨(some 4), none, .o (.v (.mov (.c (.lit (.slice none 0 0)))))⟩])
  (.seq (.reg [⟨(some 15), none, .o (.call (.c (.fn 112 [])) [(.c (.int .i64 (0)))])⟩,
    ⟨(some 16), none, .o (.v (.mov (.t 0)))⟩,
    ⟨(some 17), none, .o (.call (.c (.fn 113 [])) [(.t 15), (.t 16)])⟩,
    ⟨(some 5), none, .o (.v (.mov (.t 17)))⟩])
  (.seq (.reg [⟨(some 18), none, .o (.call (.c (.fn 112 [])) [(.c (.int .i64 (1)))])⟩,
    ⟨(some 19), none, .o (.v (.mov (.t 0)))⟩,
    ⟨(some 20), none, .o (.call (.c (.fn 113 [])) [(.t 18), (.t 19)])⟩,
    ⟨(some 6), none, .o (.v (.mov (.t 20)))⟩])
  (.seq (.reg [⟨(some 21), none, .o (.call (.c (.fn 112 [])) [(.c (.int .i64 (2)))])⟩,
    ⟨(some 22), none, .o (.v (.mov (.t 0)))⟩,
    ⟨(some 23), none, .o (.call (.c (.fn 113 [])) [(.t 21), (.t 22)])⟩,
    ⟨(some 7), none, .o (.v (.mov (.t 23)))⟩])
  (.seq (.reg [⟨(some 8), none, .o (.v (.mov (.c (.lit (.slice none 0 0)))))⟩])
  (.seq (.seq (.reg [⟨(some 24), none, .o (.v (.mov (.t 5)))⟩,
    ⟨(some 25), none, .o (.v (.len (.t 24)))⟩,
    ⟨(some 26), none, .o (.v (.mov (.c (.int .i64 (0)))))⟩])
  (.block 0 (.loop
    (.seq (.reg [⟨(some 27), none, .o (.v (.bin .lss (.t 26) (.t 25)))⟩])
    (.seq (.cond (.t 27)
      .skip
      (.exit 0))
    (.seq (.block 1 (.seq (.reg [⟨(some 28), none, .o (.v (.ixa (.t 24) (.t 26) 1))⟩,
      ⟨(some 29), none, .o (.v (.load (.t 28) none))⟩,
      ⟨(some 10), none, .o (.v (.mov (.t 29)))⟩])
    (.seq (.reg [⟨(some 30), none, .o (.v (.mov (.t 6)))⟩,
      ⟨(some 31), none, .o (.v (.len (.t 30)))⟩,
      ⟨(some 32), none, .o (.v (.mov (.c (.int .i64 (0)))))⟩])
    (.block 2 (.loop
      (.seq (.reg [⟨(some 33), none, .o (.v (.bin .lss (.t 32) (.t 31)))⟩])
      (.seq (.cond (.t 33)
        .skip
        (.exit 2))
      (.seq (.block 3 (.seq (.reg [⟨(some 34), none, .o (.v (.ixa (.t 30) (.t 32) 1))⟩,
        ⟨(some 35), none, .o (.v (.load (.t 34) none))⟩,
        ⟨(some 12), none, .o (.v (.mov (.t 35)))⟩])
      (.seq (.reg [⟨(some 36), none, .o (.v (.mov (.t 7)))⟩,
        ⟨(some 37), none, .o (.v (.len (.t 36)))⟩,
        ⟨(some 38), none, .o (.v (.mov (.c (.int .i64 (0)))))⟩])
      (.block 4 (.loop
        (.seq (.reg [⟨(some 39), none, .o (.v (.bin .lss (.t 38) (.t 37)))⟩])
        (.seq (.cond (.t 39)
          .skip
          (.exit 4))
        (.seq (.block 5 (.seq (.reg [⟨(some 40), none, .o (.v (.ixa (.t 36) (.t 38) 1))⟩,
          ⟨(some 41), none, .o (.v (.load (.t 40) none))⟩,
          ⟨(some 14), none, .o (.v (.mov (.t 41)))⟩])
        (.seq (.drw [⟨[], 0, 0, [(⟨(some 42), none, .o (.v (.mov (.t 0)))⟩, .val 0 []),
          (⟨(some 43), none, .o (.v (.mov (.t 10)))⟩, .val 0 []),
          (⟨(some 44), none, .o (.v (.ixa (.t 42) (.t 43) 3))⟩, .val 0 []),
          (⟨(some 45), none, .o (.v (.load (.t 44) (some 3)))⟩, .val 0 []),
          (⟨(some 46), none, .o (.v (.mov (.t 0)))⟩, .val 0 []),
          (⟨(some 47), none, .o (.v (.mov (.t 12)))⟩, .val 0 []),
          (⟨(some 48), none, .o (.v (.ixa (.t 46) (.t 47) 3))⟩, .val 0 []),
          (⟨(some 49), none, .o (.v (.load (.t 48) (some 3)))⟩, .val 0 []),
          (⟨(some 50), none, .o (.v (.mov (.t 0)))⟩, .val 0 []),
          (⟨(some 51), none, .o (.v (.mov (.t 14)))⟩, .val 0 []),
          (⟨(some 52), none, .o (.v (.ixa (.t 50) (.t 51) 3))⟩, .val 0 []),
          (⟨(some 53), none, .o (.v (.load (.t 52) (some 3)))⟩, .val 0 []),
          (⟨(some 54), none, .o (.v (.mov (.t 1)))⟩, .val 0 [])],
          [],
          [⟨(some 55), none, .o (.call (.c (.fn 114 [])) [(.t 45), (.t 49), (.t 53), (.t 54)])⟩], none⟩])
        (.cond (.t 55)
          (.drw [⟨[], 1, 0, [(⟨(some 56), none, .o (.v (.mov (.t 8)))⟩, .val 0 []),
            (⟨(some 57), none, .o (.v (.mov (.t 10)))⟩, .val 0 []),
            (⟨(some 58), none, .o (.v (.mov (.t 12)))⟩, .val 0 []),
            (⟨(some 59), none, .o (.v (.mov (.t 14)))⟩, .val 0 []),
            (⟨(some 60), none, .o (.bld [(.int .i64 (0)), (.int .i64 (0)), (.int .i64 (0))] [(0, 1, (.t 57)), (1, 1, (.t 58)), (2, 1, (.t 59))])⟩, .val 0 []),
            (⟨(some 61), none, .o (.v (.mov (.t 0)))⟩, .val 0 []),
            (⟨(some 62), none, .o (.v (.mov (.t 10)))⟩, .val 0 []),
            (⟨(some 63), none, .o (.v (.ixa (.t 61) (.t 62) 3))⟩, .val 0 []),
            (⟨(some 64), none, .o (.v (.off (.t 63) 1))⟩, .val 0 []),
            (⟨(some 65), none, .o (.v (.load (.t 64) none))⟩, .val 0 []),
            (⟨(some 66), none, .o (.v (.mov (.t 0)))⟩, .val 0 []),
            (⟨(some 67), none, .o (.v (.mov (.t 12)))⟩, .val 0 []),
            (⟨(some 68), none, .o (.v (.ixa (.t 66) (.t 67) 3))⟩, .val 0 []),
            (⟨(some 69), none, .o (.v (.off (.t 68) 1))⟩, .val 0 []),
            (⟨(some 70), none, .o (.v (.load (.t 69) none))⟩, .val 0 []),
            (⟨(some 71), none, .o (.v (.bin .add (.t 65) (.t 70)))⟩, .val 0 []),
            (⟨(some 72), none, .o (.v (.mov (.t 0)))⟩, .val 0 []),
            (⟨(some 73), none, .o (.v (.mov (.t 14)))⟩, .val 0 []),
            (⟨(some 74), none, .o (.v (.ixa (.t 72) (.t 73) 3))⟩, .val 0 []),
            (⟨(some 75), none, .o (.v (.off (.t 74) 1))⟩, .val 0 []),
            (⟨(some 76), none, .o (.v (.load (.t 75) none))⟩, .val 0 []),
            (⟨(some 77), none, .o (.v (.bin .add (.t 71) (.t 76)))⟩, .val 0 []),
            (⟨(some 78), none, .o (.bld [(.int .i64 (0)), (.int .i64 (0)), (.int .i64 (0)), (.int .i64 (0))] [(0, 3, (.t 60)), (3, 1, (.t 77))])⟩, .val 0 []),
            (⟨(some 79), none, .o (.bsl 119 1 [(.int .i64 (0)), (.int .i64 (0)), (.int .i64 (0)), (.int .i64 (0))] [(0, 4, (.t 78))])⟩, .cre 0)],
            [0],
            [⟨(some 80), none, .o (.app 119 4 32 (.t 56) (.t 79))⟩,
            ⟨(some 8), none, .o (.v (.mov (.t 80)))⟩], none⟩])
          .skip))))
        (.reg [⟨(some 81), none, .o (.v (.bin .add (.t 38) (.c (.int .i64 (1)))))⟩,
          ⟨(some 38), none, .o (.v (.mov (.t 81)))⟩])))))))))
      (.reg [⟨(some 82), none, .o (.v (.bin .add (.t 32) (.c (.int .i64 (1)))))⟩,
        ⟨(some 32), none, .o (.v (.mov (.t 82)))⟩])))))))))
    (.reg [⟨(some 83), none, .o (.v (.bin .add (.t 26) (.c (.int .i64 (1)))))⟩,
      ⟨(some 26), none, .o (.v (.mov (.t 83)))⟩])))))))
  (.seq (.reg [⟨(some 84), none, .o (.v (.mov (.t 8)))⟩,
    ⟨(some 4), none, .o (.v (.mov (.t 84)))⟩])
  .ret)))))))
theorem h79 : FdOk Try.prog 79 ⟨g79, [.t 4], 85, [], false⟩ := .of Try.func79 (by simp [Try.f79]) (by kernel_rfl)
/-- octant/sextant.best[octant/sextant.three] -/
def g80 : RC :=
  (.seq (.reg [⟨(some 4), none, .o (.box 119 (.t 1))⟩,
    ⟨(some 6), none, .o (.new 119 [(.int .i64 (0)), (.int .i64 (0)), (.int .i64 (0)), (.int .i64 (0))])⟩])
  (.seq (.seq (.reg [⟨(some 9), none, .o (.v (.mov (.t 2)))⟩,
    ⟨(some 10), none, .o (.v (.len (.t 9)))⟩,
    ⟨(some 11), none, .o (.v (.mov (.c (.int .i64 (0)))))⟩])
  (.block 0 (.loop
    (.seq (.reg [⟨(some 12), none, .o (.v (.bin .lss (.t 11) (.t 10)))⟩])
    (.seq (.cond (.t 12)
      .skip
      (.exit 0))
    (.seq (.block 1 (.seq (.reg [⟨(some 13), none, .o (.v (.ixa (.t 9) (.t 11) 4))⟩,
      ⟨(some 14), none, .o (.v (.load (.t 13) (some 4)))⟩,
      ⟨(some 8), none, .o (.new 119 [(.int .i64 (0)), (.int .i64 (0)), (.int .i64 (0)), (.int .i64 (0))])⟩,
      ⟨none, none, .o (.store 4 (.t 8) (.t 14))⟩])
    (.seq (.reg [⟨(some 15), none, .o (.v (.mov (.t 0)))⟩,
      ⟨(some 16), none, .o (.v (.load (.t 8) (some 4)))⟩,
      ⟨(some 17), none, .o (.v (.load (.t 4) (some 4)))⟩,
      ⟨(some 18), none, .o (.call (.t 15) [(.t 16), (.t 17)])⟩])
    (.cond (.t 18)
      (.reg [⟨(some 19), none, .o (.v (.load (.t 8) (some 4)))⟩,
        ⟨none, none, .o (.store 4 (.t 4) (.t 19))⟩])
      .skip))))
    (.reg [⟨(some 20), none, .o (.v (.bin .add (.t 11) (.c (.int .i64 (1)))))⟩,
      ⟨(some 11), none, .o (.v (.mov (.t 20)))⟩])))))))
  (.seq (.reg [⟨(some 21), none, .o (.v (.load (.t 4) (some 4)))⟩,
    ⟨none, none, .o (.store 4 (.t 6) (.t 21))⟩])
  .ret)))
theorem h80 : FdOk Try.prog 80 ⟨g80, [.c 6 (some 4)], 22, [], false⟩ := .of Try.func80 (by simp [Try.f80]) (by kernel_rfl)
/-- (octant/sextant.three).cheaper -/
def g81 : RC :=
  (.seq (.reg [⟨(some 2), none, .o (.box 119 (.t 0))⟩,
    ⟨(some 3), none, .o (.box 119 (.t 1))⟩,
    ⟨(some 4), none, .o (.v (.mov (.c (.lit (.bool false)))))⟩])
  (.seq (.reg [⟨(some 5), none, .o (.v (.off (.t 2) 3))⟩,
    ⟨(some 6), none, .o (.v (.load (.t 5) none))⟩,
    ⟨(some 7), none, .o (.v (.off (.t 3) 3))⟩,
    ⟨(some 8), none, .o (.v (.load (.t 7) none))⟩,
    ⟨(some 9), none, .o (.v (.bin .lss (.t 6) (.t 8)))⟩,
    ⟨(some 4), none, .o (.v (.mov (.t 9)))⟩])
  .ret))
theorem h81 : FdOk Try.prog 81 ⟨g81, [.t 4], 10, [], false⟩ := .of Try.func81 (by simp [Try.f81]) (by kernel_rfl)
/-- (octant/sextant.sextant).last -/
def g87 : RC :=
  (.seq (.reg [⟨(some 1), none, .o (.box 89 (.t 0))⟩,
    ⟨(some 2), none, .o (.v (.mov (.c (.int .i64 (0)))))⟩])
  (.seq (.reg [⟨(some 3), none, .o (.v (.off (.t 1) 0))⟩,
    ⟨(some 4), none, .o (.v (.off (.t 3) 0))⟩,
    ⟨(some 5), none, .o (.v (.load (.t 4) none))⟩,
    ⟨(some 6), none, .o (.v (.off (.t 1) 0))⟩,
    ⟨(some 7), none, .o (.v (.off (.t 6) 1))⟩,
    ⟨(some 8), none, .o (.v (.load (.t 7) none))⟩,
    ⟨(some 9), none, .o (.v (.len (.t 8)))⟩,
    ⟨(some 10), none, .o (.v (.bin .sub (.t 9) (.c (.int .i64 (1)))))⟩,
    ⟨(some 11), none, .o (.v (.bin .mul (.t 5) (.t 10)))⟩,
    ⟨(some 2), none, .o (.v (.mov (.t 11)))⟩])
  .ret))
theorem h87 : FdOk Try.prog 87 ⟨g87, [.t 2], 12, [], false⟩ := .of Try.func87 (by simp [Try.f87]) (by kernel_rfl)
/-- (octant/sextant.sextant).allShades -/
def g88 : RC :=
  (.seq (.reg [⟨(some 1), none, .o (.box 89 (.t 0))⟩,
    ⟨(some 2), none, .o (.v (.mov (.c (.int .i64 (0)))))⟩])
  (.seq (.reg [⟨(some 3), none, .o (.v (.off (.t 1) 0))⟩,
    ⟨(some 4), none, .o (.v (.off (.t 3) 5))⟩,
    ⟨(some 5), none, .o (.v (.load (.t 4) none))⟩,
    ⟨(some 6), none, .o (.v (.len (.t 5)))⟩,
    ⟨(some 7), none, .o (.v (.bin .shl (.c (.int .i64 (1))) (.t 6)))⟩,
    ⟨(some 8), none, .o (.v (.bin .sub (.t 7) (.c (.int .i64 (1)))))⟩,
    ⟨(some 2), none, .o (.v (.mov (.t 8)))⟩])
  .ret))
theorem h88 : FdOk Try.prog 88 ⟨g88, [.t 2], 9, [], false⟩ := .of Try.func88 (by simp [Try.f88]) (by kernel_rfl)
/-- octant/sextant.sum -/
def g89 : RC :=
  (.seq (.reg [⟨(some 2), none, .o (.new 24 [(.int .i64 (0)), (.int .i64 (0))])⟩])
  (.seq (.reg [⟨(some 3), none, .o (.new 24 [(.int .i64 (0)), (.int .i64 (0))])⟩])
  (.seq (.seq (.reg [⟨(some 6), none, .o (.v (.mov (.t 0)))⟩,
    ⟨(some 7), none, .o (.v (.len (.t 6)))⟩,
    ⟨(some 8), none, .o (.v (.mov (.c (.int .i64 (0)))))⟩])
  (.block 0 (.loop
    (.seq (.reg [⟨(some 9), none, .o (.v (.bin .lss (.t 8) (.t 7)))⟩])
    (.seq (.cond (.t 9)
      .skip
      (.exit 0))
    (.seq (.block 1 (.seq (.reg [⟨(some 10), none, .o (.v (.ixa (.t 6) (.t 8) 2))⟩,
      ⟨(some 11), none, .o (.v (.load (.t 10) (some 2)))⟩,
      ⟨(some 5), none, .o (.new 24 [(.int .i64 (0)), (.int .i64 (0))])⟩,
      ⟨none, none, .o (.store 2 (.t 5) (.t 11))⟩])
    (.seq (.reg [⟨(some 12), none, .o (.v (.off (.t 3) 0))⟩,
      ⟨(some 13), none, .o (.v (.load (.t 12) none))⟩,
      ⟨(some 14), none, .o (.v (.off (.t 5) 0))⟩,
      ⟨(some 15), none, .o (.v (.load (.t 14) none))⟩,
      ⟨(some 16), none, .o (.v (.bin .add (.t 13) (.t 15)))⟩,
      ⟨(some 17), none, .o (.v (.off (.t 3) 0))⟩,
      ⟨none, none, .o (.store 1 (.t 17) (.t 16))⟩])
    (.reg [⟨(some 18), none, .o (.v (.off (.t 3) 1))⟩,
      ⟨(some 19), none, .o (.v (.load (.t 18) none))⟩,
      ⟨(some 20), none, .o (.v (.off (.t 5) 1))⟩,
      ⟨(some 21), none, .o (.v (.load (.t 20) none))⟩,
      ⟨(some 22), none, .o (.v (.bin .add (.t 19) (.t 21)))⟩,
      ⟨(some 23), none, .o (.v (.off (.t 3) 1))⟩,
      ⟨none, none, .o (.store 1 (.t 23) (.t 22))⟩]))))
    (.reg [⟨(some 24), none, .o (.v (.bin .add (.t 8) (.c (.int .i64 (1)))))⟩,
      ⟨(some 8), none, .o (.v (.mov (.t 24)))⟩])))))))
  (.seq (.reg [⟨(some 25), none, .o (.v (.load (.t 3) (some 2)))⟩,
    ⟨none, none, .o (.store 2 (.t 2) (.t 25))⟩])
  .ret))))
theorem h89 : FdOk Try.prog 89 ⟨g89, [.c 2 (some 2)], 26, [], false⟩ := .of Try.func89 (by simp [Try.f89]) (by kernel_rfl)
/-- octant/sextant.exactly -/
def g90 : RC :=
  (.seq (.reg [⟨(some 2), none, .o (.new 24 [(.int .i64 (0)), (.int .i64 (0))])⟩])
  (.seq (.reg [⟨(some 3), none, .o (.v (.mov (.t 0)))⟩,
    ⟨(some 4), none, .o (.v (.mov (.t 0)))⟩,
    ⟨(some 5), none, .o (.bld [(.int .i64 (0)), (.int .i64 (0))] [(0, 1, (.t 3)), (1, 1, (.t 4))])⟩,
    ⟨none, none, .o (.store 2 (.t 2) (.t 5))⟩])
  .ret))
theorem h90 : FdOk Try.prog 90 ⟨g90, [.c 2 (some 2)], 6, [], false⟩ := .of Try.func90 (by simp [Try.f90]) (by kernel_rfl)
/-- octant/sextant.together -/
def g91 : RC :=
  (.seq (.reg [⟨(some 3), none, .o (.box 28 (.t 1))⟩,
    ⟨(some 4), none, .o (.new 24 [(.int .i64 (0)), (.int .i64 (0))])⟩])
  (.seq (.reg [⟨(some 5), none, .o (.v (.mov (.c (.lit (.slice none 0 0)))))⟩])
  (.seq (.seq (.reg [⟨(some 8), none, .o (.v (.mov (.t 0)))⟩,
    ⟨(some 9), none, .o (.v (.len (.t 8)))⟩,
    ⟨(some 10), none, .o (.v (.mov (.c (.int .i64 (0)))))⟩])
  (.block 0 (.loop
    (.seq (.reg [⟨(some 11), none, .o (.v (.bin .lss (.t 10) (.t 9)))⟩])
    (.seq (.cond (.t 11)
      .skip
      (.exit 0))
    (.seq (.block 1 (.seq (.reg [⟨(some 12), none, .o (.v (.ixa (.t 8) (.t 10) 1))⟩,
      ⟨(some 13), none, .o (.v (.load (.t 12) none))⟩,
      ⟨(some 7), none, .o (.v (.mov (.t 13)))⟩])
    (.reg [⟨(some 14), none, .o (.v (.mov (.t 5)))⟩,
      ⟨(some 15), none, .o (.v (.mov (.t 7)))⟩,
      ⟨(some 16), none, .o (.v (.load (.t 3) (some 2)))⟩,
      ⟨(some 17), none, .o (.inv [(157, 135), (159, 136), (161, 139)] (.t 15) [(.t 16)])⟩,
      ⟨(some 18), none, .o (.bsl 24 1 [(.int .i64 (0)), (.int .i64 (0))] [(0, 2, (.t 17))])⟩,
      ⟨(some 19), none, .o (.app 24 2 16 (.t 14) (.t 18))⟩,
      ⟨(some 5), none, .o (.v (.mov (.t 19)))⟩])))
    (.reg [⟨(some 20), none, .o (.v (.bin .add (.t 10) (.c (.int .i64 (1)))))⟩,
      ⟨(some 10), none, .o (.v (.mov (.t 20)))⟩])))))))
  (.seq (.reg [⟨(some 21), none, .o (.v (.mov (.t 5)))⟩,
    ⟨(some 22), none, .o (.call (.c (.fn 89 [])) [(.t 21)])⟩,
    ⟨none, none, .o (.store 2 (.t 4) (.t 22))⟩])
  .ret))))
theorem h91 : FdOk Try.prog 91 ⟨g91, [.c 4 (some 2)], 23, [], false⟩ := .of Try.func91 (by simp [Try.f91]) (by kernel_rfl)
/-- (octant/sextant.sextant).lasting -/
def g92 : RC :=
  (.seq (.reg [⟨(some 1), none, .o (.box 89 (.t 0))⟩,
    ⟨(some 2), none, .o (.v (.mov (.c (.lit (.slice none 0 0)))))⟩])
  (.seq (.reg [⟨(some 4), none, .o (.v (.off (.t 1) 0))⟩,
    ⟨(some 5), none, .o (.v (.off (.t 4) 1))⟩,
    ⟨(some 6), none, .o (.v (.load (.t 5) none))⟩,
    ⟨(some 7), none, .o (.v (.len (.t 6)))⟩,
    ⟨(some 3), none, .o (.v (.mov (.t 7)))⟩])
  (.seq (.drw [⟨[1, 8, 9, 10, 12, 13, 15, 16, 3, 17, 18, 19, 14, 20, 21, 11, 22, 23], 0, 0, [(⟨(some 8), none, .o (.v (.off (.t 1) 0))⟩, .val 0 []),
    (⟨(some 9), none, .o (.v (.off (.t 8) 2))⟩, .val 0 []),
    (⟨(some 10), none, .o (.v (.load (.t 9) (some 2)))⟩, .val 0 []),
    (⟨(some 11), none, .o (.v (.ifc 157 (.t 10)))⟩, .val 0 []),
    (⟨(some 12), none, .o (.v (.off (.t 1) 0))⟩, .val 0 []),
    (⟨(some 13), none, .o (.v (.off (.t 12) 0))⟩, .val 0 []),
    (⟨(some 14), none, .o (.v (.load (.t 13) none))⟩, .val 0 []),
    (⟨(some 15), none, .o (.v (.off (.t 1) 0))⟩, .val 0 []),
    (⟨(some 16), none, .o (.v (.off (.t 15) 1))⟩, .val 0 []),
    (⟨(some 17), none, .o (.v (.load (.t 16) none))⟩, .val 0 []),
    (⟨(some 18), none, .o (.v (.mov (.t 3)))⟩, .val 0 []),
    (⟨(some 19), none, .o (.v (.mov (.t 3)))⟩, .val 0 []),
    (⟨(some 20), none, .o (.slc (.t 17) none (some (.t 18)) (some (.t 19)) 2)⟩, .val 0 []),
    (⟨(some 21), none, .o (.bld [(.int .i64 (0)), (.lit (.slice none 0 0))] [(0, 1, (.t 14)), (1, 1, (.t 20))])⟩, .val 0 []),
    (⟨(some 22), none, .o (.v (.ifc 159 (.t 21)))⟩, .val 0 [])],
    [],
    [⟨(some 23), none, .o (.bsl 156 2 [(.lit .nilIface), (.lit .nilIface)] [(0, 1, (.t 11)), (1, 1, (.t 22))])⟩,
    ⟨(some 2), none, .o (.v (.mov (.t 23)))⟩], none⟩])
  .ret)))
theorem h92 : FdOk Try.prog 92 ⟨g92, [.t 2], 24, [], false⟩ := .of Try.func92 (by simp [Try.f92]) (by kernel_rfl)
/-- (octant/sextant.sextant).passing -/
def g93 : RC :=
  (.seq (.reg [⟨(some 1), none, .o (.box 89 (.t 0))⟩,
    ⟨(some 2), none, .o (.v (.mov (.c (.lit (.slice none 0 0)))))⟩])
  (.seq (.reg [⟨(some 6), none, .o (.v (.off (.t 1) 0))⟩,
    ⟨(some 7), none, .o (.v (.off (.t 6) 4))⟩,
    ⟨(some 8), none, .o (.v (.load (.t 7) none))⟩,
    ⟨(some 9), none, .o (.call (.c (.fn 102 [])) [(.t 8)])⟩,
    ⟨(some 10), none, .o (.v (.ifc 157 (.t 9)))⟩,
    ⟨(some 11), none, .o (.bsl 156 1 [(.lit .nilIface)] [(0, 1, (.t 10))])⟩,
    ⟨(some 3), none, .o (.v (.mov (.t 11)))⟩])
  (.seq (.seq (.reg [⟨(some 12), none, .o (.v (.off (.t 1) 0))⟩,
    ⟨(some 13), none, .o (.v (.off (.t 12) 5))⟩,
    ⟨(some 14), none, .o (.v (.load (.t 13) none))⟩,
    ⟨(some 15), none, .o (.v (.len (.t 14)))⟩,
    ⟨(some 16), none, .o (.v (.mov (.c (.int .i64 (0)))))⟩])
  (.block 0 (.loop
    (.seq (.reg [⟨(some 17), none, .o (.v (.bin .lss (.t 16) (.t 15)))⟩])
    (.seq (.cond (.t 17)
      .skip
      (.exit 0))
    (.seq (.block 1 (.seq (.reg [⟨(some 18), none, .o (.v (.mov (.t 16)))⟩,
      ⟨(some 19), none, .o (.v (.ixa (.t 14) (.t 16) 2))⟩,
      ⟨(some 20), none, .o (.v (.load (.t 19) (some 2)))⟩,
      ⟨(some 5), none, .o (.new 24 [(.int .i64 (0)), (.int .i64 (0))])⟩,
      ⟨(some 4), none, .o (.v (.mov (.t 18)))⟩,
      ⟨none, none, .o (.store 2 (.t 5) (.t 20))⟩])
    (.reg [⟨(some 21), none, .o (.v (.mov (.t 3)))⟩,
      ⟨(some 22), none, .o (.v (.mov (.t 4)))⟩,
      ⟨(some 23), none, .o (.v (.load (.t 5) (some 2)))⟩,
      ⟨(some 24), none, .o (.bld [(.int .i64 (0)), (.int .i64 (0)), (.int .i64 (0))] [(0, 1, (.t 22)), (1, 2, (.t 23))])⟩,
      ⟨(some 25), none, .o (.v (.ifc 161 (.t 24)))⟩,
      ⟨(some 26), none, .o (.bsl 156 1 [(.lit .nilIface)] [(0, 1, (.t 25))])⟩,
      ⟨(some 27), none, .o (.app 156 1 16 (.t 21) (.t 26))⟩,
      ⟨(some 3), none, .o (.v (.mov (.t 27)))⟩])))
    (.reg [⟨(some 28), none, .o (.v (.bin .add (.t 16) (.c (.int .i64 (1)))))⟩,
      ⟨(some 16), none, .o (.v (.mov (.t 28)))⟩])))))))
  (.seq (.reg [⟨(some 29), none, .o (.v (.mov (.t 3)))⟩,
    ⟨(some 2), none, .o (.v (.mov (.t 29)))⟩])
  .ret))))
theorem h93 : FdOk Try.prog 93 ⟨g93, [.t 2], 30, [], false⟩ := .of Try.func93 (by simp [Try.f93]) (by kernel_rfl)
/-- octant/sextant.areSpans -/
def g94 : RC :=
  (.seq (.reg [⟨(some 4), none, .o (.v (.mov (.c (.lit (.bool false)))))⟩])
  (.seq (.seq (.reg [⟨(some 7), none, .o (.v (.mov (.t 0)))⟩,
    ⟨(some 8), none, .o (.v (.len (.t 7)))⟩,
    ⟨(some 9), none, .o (.v (.mov (.c (.int .i64 (0)))))⟩])
  (.block 0 (.loop
    (.seq (.reg [⟨(some 10), none, .o (.v (.bin .lss (.t 9) (.t 8)))⟩])
    (.seq (.cond (.t 10)
      .skip
      (.exit 0))
    (.seq (.block 1 (.seq (.reg [⟨(some 11), none, .o (.v (.ixa (.t 7) (.t 9) 2))⟩,
      ⟨(some 12), none, .o (.v (.load (.t 11) (some 2)))⟩,
      ⟨(some 6), none, .o (.new 24 [(.int .i64 (0)), (.int .i64 (0))])⟩,
      ⟨none, none, .o (.store 2 (.t 6) (.t 12))⟩])
    (.seq (.reg [⟨(some 13), none, .o (.v (.load (.t 6) (some 2)))⟩,
      ⟨(some 14), none, .o (.v (.mov (.t 1)))⟩,
      ⟨(some 15), none, .o (.v (.neg (.t 14)))⟩,
      ⟨(some 16), none, .o (.v (.mov (.t 1)))⟩,
      ⟨(some 17), none, .o (.call (.c (.fn 65 [])) [(.t 13), (.t 15), (.t 16)])⟩,
      ⟨(some 18), none, .o (.v (.not (.t 17)))⟩])
    (.cond (.t 18)
      (.seq (.reg [⟨(some 4), none, .o (.v (.mov (.c (.lit (.bool false)))))⟩])
      .ret)
      .skip))))
    (.reg [⟨(some 19), none, .o (.v (.bin .add (.t 9) (.c (.int .i64 (1)))))⟩,
      ⟨(some 9), none, .o (.v (.mov (.t 19)))⟩])))))))
  (.seq (.reg [⟨(some 4), none, .o (.v (.mov (.c (.lit (.bool true)))))⟩])
  .ret)))
theorem h94 : FdOk Try.prog 94 ⟨g94, [.t 4], 20, [], false⟩ := .of Try.func94 (by simp [Try.f94]) (by kernel_rfl)
/-- octant/sextant.width -/
def g95 : RC :=
  (.seq (.reg [⟨(some 1), none, .o (.box 24 (.t 0))⟩,
    ⟨(some 2), none, .o (.v (.mov (.c (.int .i64 (0)))))⟩])
  (.seq (.reg [⟨(some 3), none, .o (.v (.off (.t 1) 1))⟩,
    ⟨(some 4), none, .o (.v (.load (.t 3) none))⟩,
    ⟨(some 5), none, .o (.v (.off (.t 1) 0))⟩,
    ⟨(some 6), none, .o (.v (.load (.t 5) none))⟩,
    ⟨(some 7), none, .o (.v (.bin .sub (.t 4) (.t 6)))⟩,
    ⟨(some 2), none, .o (.v (.mov (.t 7)))⟩])
  .ret))
theorem h95 : FdOk Try.prog 95 ⟨g95, [.t 2], 8, [], false⟩ := .of Try.func95 (by simp [Try.f95]) (by kernel_rfl)
/-- octant/sextant.best[octant/api.Span] -/
def g96 : RC :=
  (.seq (.reg [⟨(some 4), none, .o (.box 24 (.t 1))⟩,
    ⟨(some 6), none, .o (.new 24 [(.int .i64 (0)), (.int .i64 (0))])⟩])
  (.seq (.seq (.reg [⟨(some 9), none, .o (.v (.mov (.t 2)))⟩,
    ⟨(some 10), none, .o (.v (.len (.t 9)))⟩,
    ⟨(some 11), none, .o (.v (.mov (.c (.int .i64 (0)))))⟩])
  (.block 0 (.loop
    (.seq (.reg [⟨(some 12), none, .o (.v (.bin .lss (.t 11) (.t 10)))⟩])
    (.seq (.cond (.t 12)
      .skip
      (.exit 0))
    (.seq (.block 1 (.seq (.reg [⟨(some 13), none, .o (.v (.ixa (.t 9) (.t 11) 2))⟩,
      ⟨(some 14), none, .o (.v (.load (.t 13) (some 2)))⟩,
      ⟨(some 8), none, .o (.new 24 [(.int .i64 (0)), (.int .i64 (0))])⟩,
      ⟨none, none, .o (.store 2 (.t 8) (.t 14))⟩])
    (.seq (.reg [⟨(some 15), none, .o (.v (.mov (.t 0)))⟩,
      ⟨(some 16), none, .o (.v (.load (.t 8) (some 2)))⟩,
      ⟨(some 17), none, .o (.v (.load (.t 4) (some 2)))⟩,
      ⟨(some 18), none, .o (.call (.t 15) [(.t 16), (.t 17)])⟩])
    (.cond (.t 18)
      (.reg [⟨(some 19), none, .o (.v (.load (.t 8) (some 2)))⟩,
        ⟨none, none, .o (.store 2 (.t 4) (.t 19))⟩])
      .skip))))
    (.reg [⟨(some 20), none, .o (.v (.bin .add (.t 11) (.c (.int .i64 (1)))))⟩,
      ⟨(some 11), none, .o (.v (.mov (.t 20)))⟩])))))))
  (.seq (.reg [⟨(some 21), none, .o (.v (.load (.t 4) (some 2)))⟩,
    ⟨none, none, .o (.store 2 (.t 6) (.t 21))⟩])
  .ret)))
theorem h96 : FdOk Try.prog 96 ⟨g96, [.c 6 (some 2)], 22, [], false⟩ := .of Try.func96 (by simp [Try.f96]) (by kernel_rfl)
/-- octant/sextant.wider -/
def g97 : RC :=
  (.seq (.reg [⟨(some 2), none, .o (.box 24 (.t 0))⟩,
    ⟨(some 3), none, .o (.box 24 (.t 1))⟩,
    ⟨(some 4), none, .o (.v (.mov (.c (.lit (.bool false)))))⟩])
  (.seq (.drw [⟨[], 0, 1, [(⟨(some 5), none, .o (.v (.load (.t 2) (some 2)))⟩, .val 0 []),
    (⟨(some 6), none, .o (.call (.c (.fn 95 [])) [(.t 5)])⟩, .eff 0 []),
    (⟨(some 7), none, .o (.v (.load (.t 3) (some 2)))⟩, .val 0 [])],
    [],
    [⟨(some 8), none, .o (.call (.c (.fn 95 [])) [(.t 7)])⟩,
    ⟨(some 9), none, .o (.v (.bin .gtr (.t 6) (.t 8)))⟩,
    ⟨(some 4), none, .o (.v (.mov (.t 9)))⟩], none⟩])
  .ret))
theorem h97 : FdOk Try.prog 97 ⟨g97, [.t 4], 10, [], false⟩ := .of Try.func97 (by simp [Try.f97]) (by kernel_rfl)
/-- (octant/sextant.pair).byOn -/
def g98 : RC :=
  (.seq (.reg [⟨(some 2), none, .o (.box 137 (.t 0))⟩,
    ⟨(some 4), none, .o (.v (.mov (.c (.int .i64 (0)))))⟩])
  (.seq (.reg [⟨(some 5), none, .o (.v (.off (.t 2) 0))⟩,
    ⟨(some 6), none, .o (.v (.off (.t 5) 0))⟩,
    ⟨(some 7), none, .o (.v (.load (.t 6) none))⟩,
    ⟨(some 8), none, .o (.v (.mov (.t 1)))⟩,
    ⟨(some 9), none, .o (.v (.bin .add (.t 7) (.t 8)))⟩,
    ⟨(some 4), none, .o (.v (.mov (.t 9)))⟩])
  .ret))
theorem h98 : FdOk Try.prog 98 ⟨g98, [.t 4], 10, [], false⟩ := .of Try.func98 (by simp [Try.f98]) (by kernel_rfl)
/-- (octant/sextant.pair).byOff -/
def g99 : RC :=
  (.seq (.reg [⟨(some 2), none, .o (.box 137 (.t 0))⟩,
    ⟨(some 4), none, .o (.v (.mov (.c (.int .i64 (0)))))⟩])
  (.seq (.reg [⟨(some 5), none, .o (.v (.off (.t 2) 0))⟩,
    ⟨(some 6), none, .o (.v (.off (.t 5) 1))⟩,
    ⟨(some 7), none, .o (.v (.load (.t 6) none))⟩,
    ⟨(some 8), none, .o (.v (.mov (.t 1)))⟩,
    ⟨(some 9), none, .o (.v (.bin .sub (.t 7) (.t 8)))⟩,
    ⟨(some 4), none, .o (.v (.mov (.t 9)))⟩])
  .ret))
theorem h99 : FdOk Try.prog 99 ⟨g99, [.t 4], 10, [], false⟩ := .of Try.func99 (by simp [Try.f99]) (by kernel_rfl)
/-- (octant/sextant.sextant).indexErrors -/
def g100 : RC :=
  (.seq (.reg [⟨(some 1), none, .o (.box 89 (.t 0))⟩,
    ⟨(some 2), none, .o (.v (.mov (.c (.lit .nilFunc))))⟩])
  (.seq (.reg [⟨(some 3), none, .o (.v (.mkfn 115 [(.t 1)]))⟩,
    ⟨(some 2), none, .o (.v (.mov (.t 3)))⟩])
  .ret))
theorem h100 : FdOk Try.prog 100 ⟨g100, [.t 2], 4, [], false⟩ := .of Try.func100 (by simp [Try.f100]) (by kernel_rfl)
/-- octant/sextant.common -/
def g101 : RC :=
  (.seq (.reg [⟨(some 2), none, .o (.box 24 (.t 0))⟩,
    ⟨(some 3), none, .o (.box 24 (.t 1))⟩,
    ⟨(some 4), none, .o (.new 24 [(.int .i64 (0)), (.int .i64 (0))])⟩])
  (.seq (.reg [⟨(some 6), none, .o (.v (.off (.t 2) 0))⟩,
    ⟨(some 7), none, .o (.v (.load (.t 6) none))⟩,
    ⟨(some 8), none, .o (.v (.off (.t 3) 0))⟩,
    ⟨(some 9), none, .o (.v (.load (.t 8) none))⟩,
    ⟨(some 10), none, .o (.v (.max2 (.t 7) (.t 9)))⟩,
    ⟨(some 11), none, .o (.v (.off (.t 2) 1))⟩,
    ⟨(some 12), none, .o (.v (.load (.t 11) none))⟩,
    ⟨(some 13), none, .o (.v (.off (.t 3) 1))⟩,
    ⟨(some 14), none, .o (.v (.load (.t 13) none))⟩,
    ⟨(some 15), none, .o (.v (.min2 (.t 12) (.t 14)))⟩,
    ⟨(some 16), none, .o (.bld [(.int .i64 (0)), (.int .i64 (0))] [(0, 1, (.t 10)), (1, 1, (.t 15))])⟩,
    ⟨(some 5), none, .o (.new 24 [(.int .i64 (0)), (.int .i64 (0))])⟩,
    ⟨none, none, .o (.store 2 (.t 5) (.t 16))⟩])
  (.seq (.seq (.reg [⟨(some 17), none, .o (.v (.off (.t 5) 0))⟩,
    ⟨(some 18), none, .o (.v (.load (.t 17) none))⟩,
    ⟨(some 19), none, .o (.v (.off (.t 5) 1))⟩,
    ⟨(some 20), none, .o (.v (.load (.t 19) none))⟩,
    ⟨(some 21), none, .o (.v (.bin .gtr (.t 18) (.t 20)))⟩])
  (.cond (.t 21)
    (.seq (.reg [⟨(some 22), none, .o (.call (.c (.fn 68 [])) [])⟩,
      ⟨none, none, .o (.store 2 (.t 4) (.t 22))⟩])
    .ret)
    .skip))
  (.seq (.reg [⟨(some 23), none, .o (.v (.load (.t 5) (some 2)))⟩,
    ⟨none, none, .o (.store 2 (.t 4) (.t 23))⟩])
  .ret))))
theorem h101 : FdOk Try.prog 101 ⟨g101, [.c 4 (some 2)], 24, [], false⟩ := .of Try.func101 (by simp [Try.f101]) (by kernel_rfl)
/-- octant/sextant.upTo -/
def g102 : RC :=
  (.seq (.reg [⟨(some 2), none, .o (.new 24 [(.int .i64 (0)), (.int .i64 (0))])⟩])
  (.seq (.reg [⟨(some 3), none, .o (.v (.mov (.t 0)))⟩,
    ⟨(some 4), none, .o (.v (.neg (.t 3)))⟩,
    ⟨(some 5), none, .o (.v (.mov (.t 0)))⟩,
    ⟨(some 6), none, .o (.bld [(.int .i64 (0)), (.int .i64 (0))] [(0, 1, (.t 4)), (1, 1, (.t 5))])⟩,
    ⟨none, none, .o (.store 2 (.t 2) (.t 6))⟩])
  .ret))
theorem h102 : FdOk Try.prog 102 ⟨g102, [.c 2 (some 2)], 7, [], false⟩ := .of Try.func102 (by simp [Try.f102]) (by kernel_rfl)
/-- octant/sextant.around -/
def g103 : RC :=
  (.seq (.reg [⟨(some 2), none, .o (.box 24 (.t 0))⟩,
    ⟨(some 3), none, .o (.box 24 (.t 1))⟩,
    ⟨(some 4), none, .o (.new 24 [(.int .i64 (0)), (.int .i64 (0))])⟩])
  (.seq (.seq (.drw [⟨[], 0, 1, [(⟨(some 5), none, .o (.v (.load (.t 2) (some 2)))⟩, .val 0 []),
    (⟨(some 6), none, .o (.call (.c (.fn 68 [])) [])⟩, .eff 0 [])],
    [],
    [⟨(some 7), none, .o (.v (.eqs [(some .i64), (some .i64)] false (.t 5) (.t 6)))⟩], none⟩])
  (.cond (.t 7)
    (.seq (.reg [⟨(some 8), none, .o (.v (.load (.t 3) (some 2)))⟩,
      ⟨none, none, .o (.store 2 (.t 4) (.t 8))⟩])
    .ret)
    .skip))
  (.seq (.reg [⟨(some 9), none, .o (.v (.off (.t 2) 0))⟩,
    ⟨(some 10), none, .o (.v (.load (.t 9) none))⟩,
    ⟨(some 11), none, .o (.v (.off (.t 3) 0))⟩,
    ⟨(some 12), none, .o (.v (.load (.t 11) none))⟩,
    ⟨(some 13), none, .o (.v (.min2 (.t 10) (.t 12)))⟩,
    ⟨(some 14), none, .o (.v (.off (.t 2) 1))⟩,
    ⟨(some 15), none, .o (.v (.load (.t 14) none))⟩,
    ⟨(some 16), none, .o (.v (.off (.t 3) 1))⟩,
    ⟨(some 17), none, .o (.v (.load (.t 16) none))⟩,
    ⟨(some 18), none, .o (.v (.max2 (.t 15) (.t 17)))⟩,
    ⟨(some 19), none, .o (.bld [(.int .i64 (0)), (.int .i64 (0))] [(0, 1, (.t 13)), (1, 1, (.t 18))])⟩,
    ⟨none, none, .o (.store 2 (.t 4) (.t 19))⟩])
  .ret)))
theorem h103 : FdOk Try.prog 103 ⟨g103, [.c 4 (some 2)], 20, [], false⟩ := .of Try.func103 (by simp [Try.f103]) (by kernel_rfl)
/-- (octant/sextant.sextant).haveTrials -/
def g104 : RC :=
  (.seq (.reg [⟨(some 2), none, .o (.box 89 (.t 0))⟩,
    ⟨(some 4), none, .o (.v (.mov (.c (.lit (.bool false)))))⟩])
  (.seq (.seq (.reg [⟨(some 7), none, .o (.v (.mov (.t 1)))⟩,
    ⟨(some 8), none, .o (.v (.len (.t 7)))⟩,
    ⟨(some 9), none, .o (.call (.c (.fn 78 [])) [(.t 8), (.c (.int .i64 (1))), (.c (.int .i64 (8)))])⟩,
    ⟨(some 10), none, .o (.v (.not (.t 9)))⟩])
  (.cond (.t 10)
    (.seq (.reg [⟨(some 4), none, .o (.v (.mov (.c (.lit (.bool false)))))⟩])
    .ret)
    .skip))
  (.seq (.seq (.reg [⟨(some 11), none, .o (.v (.mov (.t 1)))⟩,
    ⟨(some 12), none, .o (.v (.len (.t 11)))⟩,
    ⟨(some 13), none, .o (.v (.mov (.c (.int .i64 (0)))))⟩])
  (.block 0 (.loop
    (.seq (.reg [⟨(some 14), none, .o (.v (.bin .lss (.t 13) (.t 12)))⟩])
    (.seq (.cond (.t 14)
      .skip
      (.exit 0))
    (.seq (.block 1 (.seq (.reg [⟨(some 15), none, .o (.v (.ixa (.t 11) (.t 13) 3))⟩,
      ⟨(some 16), none, .o (.v (.load (.t 15) (some 3)))⟩,
      ⟨(some 6), none, .o (.new 84 [(.int .i64 (0)), (.int .i64 (0)), (.int .i64 (0))])⟩,
      ⟨none, none, .o (.store 3 (.t 6) (.t 16))⟩])
    (.seq (.reg [⟨(some 17), none, .o (.v (.load (.t 2) (some 6)))⟩,
      ⟨(some 18), none, .o (.v (.off (.t 6) 0))⟩,
      ⟨(some 19), none, .o (.v (.load (.t 18) (some 2)))⟩,
      ⟨(some 20), none, .o (.call (.c (.fn 55 [])) [(.t 17), (.t 19)])⟩,
      ⟨(some 21), none, .o (.v (.not (.t 20)))⟩,
      ⟨(some 22), none, .o (.v (.mov (.t 21)))⟩,
      ⟨(some 23), (some (22, false)), .o (.v (.off (.t 6) 0))⟩,
      ⟨(some 24), (some (22, false)), .o (.v (.off (.t 23) 0))⟩,
      ⟨(some 25), (some (22, false)), .o (.v (.load (.t 24) none))⟩,
      ⟨(some 26), (some (22, false)), .o (.v (.off (.t 2) 0))⟩,
      ⟨(some 27), (some (22, false)), .o (.v (.off (.t 26) 0))⟩,
      ⟨(some 28), (some (22, false)), .o (.v (.load (.t 27) none))⟩,
      ⟨(some 29), (some (22, false)), .o (.v (.bin .rem (.t 25) (.t 28)))⟩,
      ⟨(some 30), (some (22, false)), .o (.v (.bin .neq (.t 29) (.c (.int .i64 (0)))))⟩,
      ⟨(some 31), none, .o (.v (.pick (.t 22) (.c (.lit (.bool true))) (.t 30)))⟩,
      ⟨(some 32), none, .o (.v (.mov (.t 31)))⟩,
      ⟨(some 33), (some (32, false)), .o (.v (.off (.t 6) 2))⟩,
      ⟨(some 34), (some (32, false)), .o (.v (.load (.t 33) none))⟩,
      ⟨(some 35), (some (32, false)), .o (.call (.c (.fn 78 [])) [(.t 34), (.c (.int .i64 (-10000))), (.c (.int .i64 (510000)))])⟩,
      ⟨(some 36), (some (32, false)), .o (.v (.not (.t 35)))⟩,
      ⟨(some 37), none, .o (.v (.pick (.t 32) (.c (.lit (.bool true))) (.t 36)))⟩])
    (.cond (.t 37)
      (.seq (.reg [⟨(some 4), none, .o (.v (.mov (.c (.lit (.bool false)))))⟩])
      .ret)
      .skip))))
    (.reg [⟨(some 38), none, .o (.v (.bin .add (.t 13) (.c (.int .i64 (1)))))⟩,
      ⟨(some 13), none, .o (.v (.mov (.t 38)))⟩])))))))
  (.seq (.reg [⟨(some 4), none, .o (.v (.mov (.c (.lit (.bool true)))))⟩])
  .ret))))
theorem h104 : FdOk Try.prog 104 ⟨g104, [.t 4], 39, [], false⟩ := .of Try.func104 (by simp [Try.f104]) (by kernel_rfl)
/-- slices.Clone[[]octant/api.Span,octant/api.Span] -/
def g105 : RC :=
  (.seq (.reg [⟨(some 2), none, .o (.v (.mov (.c (.lit (.slice none 0 0)))))⟩])
  (.seq (.seq (.reg [⟨(some 3), none, .o (.v (.mov (.t 0)))⟩,
    ⟨(some 4), none, .o (.v (.isnil false (.t 3)))⟩])
  (.cond (.t 4)
    (.seq (.reg [⟨(some 2), none, .o (.v (.mov (.c (.lit (.slice none 0 0)))))⟩])
    .ret)
    .skip))
  (.seq (.reg [⟨(some 5), none, (.bs0 2)⟩,
    ⟨(some 6), none, .o (.v (.mov (.t 0)))⟩,
    ⟨(some 7), none, .o (.app 24 2 16 (.t 5) (.t 6))⟩,
    ⟨(some 2), none, .o (.v (.mov (.t 7)))⟩])
  .ret)))
theorem h105 : FdOk Try.prog 105 ⟨g105, [.t 2], 8, [], false⟩ := .of Try.func105 (by simp [Try.f105]) (by kernel_rfl)
/-- slices.Repeat[[]octant/api.Span,octant/api.Span] -/
def g106 : RC :=
  (.seq (.reg [⟨(some 4), none, .o (.v (.mov (.c (.lit (.slice none 0 0)))))⟩])
  (.seq (.seq (.reg [⟨(some 9), none, .o (.v (.mov (.t 1)))⟩,
    ⟨(some 10), none, .o (.v (.bin .lss (.t 9) (.c (.int .i64 (0)))))⟩])
  (.cond (.t 10)
    (.reg [⟨(some 11), none, .o (.v (.ifc 9 (.c (.lit (.string ⟨#[99, 97, 110, 110, 111, 116, 32, 98, 101, 32, 110, 101, 103, 97, 116, 105, 118, 101]⟩)))))⟩,
      ⟨none, none, .e1 .bad (.c .any)⟩])
    .skip))
  (.seq (.reg [⟨(some 13), none, .o (.v (.mov (.t 0)))⟩,
    ⟨(some 14), none, .o (.v (.len (.t 13)))⟩,
    ⟨(some 15), none, .o (.v (.conv .u64 (.t 14)))⟩,
    ⟨(some 16), none, .o (.v (.mov (.t 1)))⟩,
    ⟨(some 17), none, .o (.v (.conv .u64 (.t 16)))⟩,
    ⟨(some 18), none, .o (.call (.c (.fn 116 [])) [(.t 15), (.t 17)])⟩,
    ⟨(some 12), none, .o (.v (.mov (.t 18)))⟩,
    ⟨(some 19), none, .o (.v (.ext (.t 12) 0))⟩,
    ⟨(some 20), none, .o (.v (.ext (.t 12) 1))⟩,
    ⟨(some 5), none, .o (.v (.mov (.t 19)))⟩,
    ⟨(some 6), none, .o (.v (.mov (.t 20)))⟩])
  (.seq (.seq (.reg [⟨(some 21), none, .o (.v (.mov (.t 5)))⟩,
    ⟨(some 22), none, .o (.v (.bin .gtr (.t 21) (.c (.int .u64 (0)))))⟩,
    ⟨(some 23), none, .o (.v (.mov (.t 22)))⟩,
    ⟨(some 24), (some (23, false)), .o (.v (.mov (.t 6)))⟩,
    ⟨(some 25), (some (23, false)), .o (.v (.bin .gtr (.t 24) (.c (.int .u64 (9223372036854775807)))))⟩,
    ⟨(some 26), none, .o (.v (.pick (.t 23) (.c (.lit (.bool true))) (.t 25)))⟩])
  (.cond (.t 26)
    (.reg [⟨(some 27), none, .o (.v (.ifc 9 (.c (.lit (.string ⟨#[116, 104, 101, 32, 114, 101, 115, 117, 108, 116, 32, 111, 102, 32, 40, 108, 101, 110, 40, 120, 41, 32, 42, 32, 99, 111, 117, 110, 116, 41, 32, 111, 118, 101, 114, 102, 108, 111, 119, 115]⟩)))))⟩,
      ⟨none, none, .e1 .bad (.c .any)⟩])
    .skip))
  (.seq (.reg [⟨(some 28), none, .o (.v (.mov (.t 6)))⟩,
    ⟨(some 29), none, .o (.v (.conv .i64 (.t 28)))⟩,
    ⟨(some 30), none, .msl 24 2 [(.int .i64 (0)), (.int .i64 (0))] (.t 29) (.t 29)⟩,
    ⟨(some 7), none, .o (.v (.mov (.t 30)))⟩])
  (.seq (.reg [⟨(some 31), none, .o (.v (.mov (.t 7)))⟩,
    ⟨(some 32), none, .o (.v (.mov (.t 0)))⟩,
    ⟨(some 33), none, .cpy 2 (.t 31) (.t 32)⟩,
    ⟨(some 8), none, .o (.v (.mov (.t 33)))⟩])
  (.seq (.block 0 (.loop
    (.seq (.seq (.reg [⟨(some 34), none, .o (.v (.mov (.t 8)))⟩,
      ⟨(some 35), none, .o (.v (.mov (.t 7)))⟩,
      ⟨(some 36), none, .o (.v (.len (.t 35)))⟩,
      ⟨(some 37), none, .o (.v (.bin .lss (.t 34) (.t 36)))⟩])
    (.cond (.t 37)
      .skip
      (.exit 0)))
    (.block 1 (.drw [⟨[], 0, 1, [(⟨(some 38), none, .o (.v (.mov (.t 8)))⟩, .pur),
      (⟨(some 39), none, .o (.v (.mov (.t 7)))⟩, .val 0 []),
      (⟨(some 40), none, .o (.v (.mov (.t 8)))⟩, .val 0 []),
      (⟨(some 41), none, .slb (.t 39) (some (.t 40)) none 2⟩, .val 0 []),
      (⟨(some 42), none, .o (.v (.mov (.t 7)))⟩, .val 0 []),
      (⟨(some 43), none, .o (.v (.mov (.t 8)))⟩, .val 0 []),
      (⟨(some 44), none, .slb (.t 42) none (some (.t 43)) 2⟩, .val 0 []),
      (⟨(some 45), none, .cpy 2 (.t 41) (.t 44)⟩, .efs 0 [] [])],
      [],
      [⟨(some 46), none, .o (.v (.bin .add (.t 38) (.t 45)))⟩,
      ⟨(some 8), none, .o (.v (.mov (.t 46)))⟩], none⟩,
      ⟨[], 0, 1, [(⟨(some 38), none, .o (.v (.mov (.t 8)))⟩, .pur),
      (⟨(some 39), none, .o (.v (.mov (.t 7)))⟩, .val 0 []),
      (⟨(some 40), none, .o (.v (.mov (.t 8)))⟩, .val 0 []),
      (⟨(some 41), none, .slb (.t 39) (some (.t 40)) none 2⟩, .val 0 []),
      (⟨(some 42), none, .o (.v (.mov (.t 7)))⟩, .val 0 []),
      (⟨(some 43), none, .o (.v (.mov (.t 8)))⟩, .val 0 []),
      (⟨(some 44), none, .slb (.t 42) none (some (.t 43)) 2⟩, .val 0 []),
      (⟨(some 45), none, .cpy 2 (.t 41) (.t 44)⟩, .efs 0 [] [])],
      [],
      [⟨(some 46), none, .o (.v (.bin .add (.t 38) (.t 45)))⟩,
      ⟨(some 8), none, .o (.v (.mov (.t 46)))⟩], none⟩])))))
  (.seq (.reg [⟨(some 47), none, .o (.v (.mov (.t 7)))⟩,
    ⟨(some 4), none, .o (.v (.mov (.t 47)))⟩])
  .ret))))))))
theorem h106 : FdOk Try.prog 106 ⟨g106, [.t 4], 48, [], false⟩ := .of Try.func106 (by simp [Try.f106]) (by kernel_rfl)
/-- octant/sextant.minus -/
def g107 : RC :=
  (.seq (.reg [⟨(some 1), none, .o (.box 24 (.t 0))⟩,
    ⟨(some 2), none, .o (.new 24 [(.int .i64 (0)), (.int .i64 (0))])⟩])
  (.seq (.reg [⟨(some 3), none, .o (.v (.off (.t 1) 1))⟩,
    ⟨(some 4), none, .o (.v (.load (.t 3) none))⟩,
    ⟨(some 5), none, .o (.v (.neg (.t 4)))⟩,
    ⟨(some 6), none, .o (.v (.off (.t 1) 0))⟩,
    ⟨(some 7), none, .o (.v (.load (.t 6) none))⟩,
    ⟨(some 8), none, .o (.v (.neg (.t 7)))⟩,
    ⟨(some 9), none, .o (.bld [(.int .i64 (0)), (.int .i64 (0))] [(0, 1, (.t 5)), (1, 1, (.t 8))])⟩,
    ⟨none, none, .o (.store 2 (.t 2) (.t 9))⟩])
  .ret))
theorem h107 : FdOk Try.prog 107 ⟨g107, [.c 2 (some 2)], 10, [], false⟩ := .of Try.func107 (by simp [Try.f107]) (by kernel_rfl)
/-- (octant/sextant.sextant).fewestFalse$1 -/
def g109 : RC :=
  (.seq (.reg [⟨(some 11), none, .o (.v (.mov (.c (.lit (.slice none 0 0)))))⟩])
  (.seq (.seq (.reg [⟨(some 14), none, .o (.v (.mov (.t 3)))⟩,
    ⟨(some 15), none, .o (.v (.bin .eql (.t 14) (.c (.int .i64 (0)))))⟩])
  (.cond (.t 15)
    (.seq (.seq (.reg [⟨(some 16), none, .o (.v (.load (.t 4) (some 6)))⟩,
      ⟨(some 17), none, .o (.v (.mov (.t 1)))⟩,
      ⟨(some 18), none, .o (.call (.c (.fn 75 [])) [(.t 16), (.t 17)])⟩])
    (.cond (.t 18)
      (.seq (.reg [⟨(some 11), none, .o (.v (.mov (.c (.lit (.slice none 0 0)))))⟩])
      .ret)
      .skip))
    (.seq (.reg [⟨(some 19), none, .o (.v (.mov (.t 0)))⟩,
      ⟨(some 11), none, .o (.v (.mov (.t 19)))⟩])
    .ret))
    .skip))
  (.seq (.seq (.reg [⟨(some 20), none, .o (.v (.mov (.t 2)))⟩,
    ⟨(some 12), none, .o (.v (.mov (.t 20)))⟩])
  (.block 0 (.loop
    (.seq (.seq (.reg [⟨(some 21), none, .o (.v (.mov (.t 12)))⟩,
      ⟨(some 22), none, .o (.v (.load (.t 5) none))⟩,
      ⟨(some 23), none, .o (.v (.len (.t 22)))⟩,
      ⟨(some 24), none, .o (.v (.bin .lss (.t 21) (.t 23)))⟩])
    (.cond (.t 24)
      .skip
      (.exit 0)))
    (.seq (.block 1 (.seq (.drw [⟨[6, 0, 28, 12, 30, 29, 31, 1, 33, 5, 35, 36, 37, 38, 34, 39, 41, 3, 43, 27, 32, 40, 42, 44, 45], 2, 0, [(⟨(some 27), none, .o (.v (.load (.t 6) none))⟩, .val 0 []),
      (⟨(some 28), none, .o (.v (.mov (.t 0)))⟩, .val 0 []),
      (⟨(some 29), none, .o (.call (.c (.fn 110 [])) [(.t 28)])⟩, .val 0 []),
      (⟨(some 30), none, .o (.v (.mov (.t 12)))⟩, .val 0 []),
      (⟨(some 31), none, .o (.bsl 3 1 [(.int .i64 (0))] [(0, 1, (.t 30))])⟩, .cre 0),
      (⟨(some 32), none, .o (.app 3 1 8 (.t 29) (.t 31))⟩, .val 0 [0]),
      (⟨(some 33), none, .o (.v (.mov (.t 1)))⟩, .val 0 []),
      (⟨(some 34), none, .o (.call (.c (.fn 111 [])) [(.t 33)])⟩, .val 0 [0]),
      (⟨(some 35), none, .o (.v (.load (.t 5) none))⟩, .val 0 []),
      (⟨(some 36), none, .o (.v (.mov (.t 12)))⟩, .val 0 []),
      (⟨(some 37), none, .o (.v (.ixa (.t 35) (.t 36) 3))⟩, .val 0 []),
      (⟨(some 38), none, .o (.v (.load (.t 37) (some 3)))⟩, .val 0 []),
      (⟨(some 39), none, .o (.bsl 84 1 [(.int .i64 (0)), (.int .i64 (0)), (.int .i64 (0))] [(0, 3, (.t 38))])⟩, .cre 1),
      (⟨(some 40), none, .o (.app 84 3 24 (.t 34) (.t 39))⟩, .val 0 [0, 1]),
      (⟨(some 41), none, .o (.v (.mov (.t 12)))⟩, .val 0 []),
      (⟨(some 42), none, .o (.v (.bin .add (.t 41) (.c (.int .i64 (1)))))⟩, .val 0 []),
      (⟨(some 43), none, .o (.v (.mov (.t 3)))⟩, .val 0 []),
      (⟨(some 44), none, .o (.v (.bin .sub (.t 43) (.c (.int .i64 (1)))))⟩, .val 0 [])],
      [0, 1],
      [⟨(some 45), none, .o (.call (.t 27) [(.t 32), (.t 40), (.t 42), (.t 44)])⟩,
      ⟨(some 13), none, .o (.v (.mov (.t 45)))⟩], none⟩,
      ⟨[6, 0, 28, 12, 30, 29, 31, 1, 33, 5, 35, 36, 37, 38, 34, 39, 41, 3, 43, 27, 32, 40, 42, 44, 45], 0, 0, [(⟨(some 27), none, .o (.v (.load (.t 6) none))⟩, .val 0 []),
      (⟨(some 28), none, .o (.v (.mov (.t 0)))⟩, .val 0 []),
      (⟨(some 29), none, .o (.call (.c (.fn 110 [])) [(.t 28)])⟩, .val 0 []),
      (⟨(some 30), none, .o (.v (.mov (.t 12)))⟩, .val 0 []),
      (⟨(some 31), none, .o (.bsl 3 1 [(.int .i64 (0))] [(0, 1, (.t 30))])⟩, .val 0 []),
      (⟨(some 32), none, .o (.app 3 1 8 (.t 29) (.t 31))⟩, .val 0 []),
      (⟨(some 33), none, .o (.v (.mov (.t 1)))⟩, .val 0 []),
      (⟨(some 34), none, .o (.call (.c (.fn 111 [])) [(.t 33)])⟩, .val 0 []),
      (⟨(some 35), none, .o (.v (.load (.t 5) none))⟩, .val 0 []),
      (⟨(some 36), none, .o (.v (.mov (.t 12)))⟩, .val 0 []),
      (⟨(some 37), none, .o (.v (.ixa (.t 35) (.t 36) 3))⟩, .val 0 []),
      (⟨(some 38), none, .o (.v (.load (.t 37) (some 3)))⟩, .val 0 []),
      (⟨(some 39), none, .o (.bsl 84 1 [(.int .i64 (0)), (.int .i64 (0)), (.int .i64 (0))] [(0, 3, (.t 38))])⟩, .val 0 []),
      (⟨(some 40), none, .o (.app 84 3 24 (.t 34) (.t 39))⟩, .val 0 []),
      (⟨(some 41), none, .o (.v (.mov (.t 12)))⟩, .val 0 []),
      (⟨(some 42), none, .o (.v (.bin .add (.t 41) (.c (.int .i64 (1)))))⟩, .val 0 []),
      (⟨(some 43), none, .o (.v (.mov (.t 3)))⟩, .val 0 []),
      (⟨(some 44), none, .o (.v (.bin .sub (.t 43) (.c (.int .i64 (1)))))⟩, .val 0 [])],
      [],
      [⟨(some 45), none, .o (.call (.t 27) [(.t 32), (.t 40), (.t 42), (.t 44)])⟩,
      ⟨(some 13), none, .o (.v (.mov (.t 45)))⟩], none⟩])
    (.seq (.reg [⟨(some 46), none, .o (.v (.mov (.t 13)))⟩,
      ⟨(some 47), none, .o (.v (.isnil true (.t 46)))⟩])
    (.cond (.t 47)
      (.seq (.reg [⟨(some 48), none, .o (.v (.mov (.t 13)))⟩,
        ⟨(some 11), none, .o (.v (.mov (.t 48)))⟩])
      .ret)
      .skip))))
    (.reg [⟨(some 25), none, .o (.v (.mov (.t 12)))⟩,
      ⟨(some 26), none, .o (.v (.bin .add (.t 25) (.c (.int .i64 (1)))))⟩,
      ⟨(some 12), none, .o (.v (.mov (.t 26)))⟩]))))))
  (.seq (.reg [⟨(some 11), none, .o (.v (.mov (.c (.lit (.slice none 0 0)))))⟩])
  .ret))))
theorem h109 : FdOk Try.prog 109 ⟨g109, [.t 11], 49, [], false⟩ := .of Try.func109 (by simp [Try.f109]) (by kernel_rfl)
/-- slices.Clip[[]int,int] -/
def g110 : RC :=
  (.seq (.reg [⟨(some 2), none, .o (.v (.mov (.c (.lit (.slice none 0 0)))))⟩])
  (.seq (.reg [⟨(some 3), none, .o (.v (.mov (.t 0)))⟩,
    ⟨(some 4), none, .o (.v (.mov (.t 0)))⟩,
    ⟨(some 5), none, .o (.v (.len (.t 4)))⟩,
    ⟨(some 6), none, .o (.v (.mov (.t 0)))⟩,
    ⟨(some 7), none, .o (.v (.len (.t 6)))⟩,
    ⟨(some 8), none, .o (.slc (.t 3) none (some (.t 5)) (some (.t 7)) 1)⟩,
    ⟨(some 2), none, .o (.v (.mov (.t 8)))⟩])
  .ret))
theorem h110 : FdOk Try.prog 110 ⟨g110, [.t 2], 9, [], false⟩ := .of Try.func110 (by simp [Try.f110]) (by kernel_rfl)
/-- slices.Clip[[]octant/api.SextantTrial,octant/api.SextantTrial] -/
def g111 : RC :=
  (.seq (.reg [⟨(some 2), none, .o (.v (.mov (.c (.lit (.slice none 0 0)))))⟩])
  (.seq (.reg [⟨(some 3), none, .o (.v (.mov (.t 0)))⟩,
    ⟨(some 4), none, .o (.v (.mov (.t 0)))⟩,
    ⟨(some 5), none, .o (.v (.len (.t 4)))⟩,
    ⟨(some 6), none, .o (.v (.mov (.t 0)))⟩,
    ⟨(some 7), none, .o (.v (.len (.t 6)))⟩,
    ⟨(some 8), none, .o (.slc (.t 3) none (some (.t 5)) (some (.t 7)) 3)⟩,
    ⟨(some 2), none, .o (.v (.mov (.t 8)))⟩])
  .ret))
theorem h111 : FdOk Try.prog 111 ⟨g111, [.t 2], 9, [], false⟩ := .of Try.func111 (by simp [Try.f111]) (by kernel_rfl)
/-- octant/sextant.placeFor -/
def g112 : RC :=
  (.seq (.reg [⟨(some 1), none, .o (.box 3 (.t 0))⟩,
    ⟨(some 2), none, .o (.new 152 [(.lit .nilFunc)])⟩])
  (.seq (.reg [⟨(some 3), none, .o (.v (.mkfn 117 [(.t 1)]))⟩,
    ⟨(some 4), none, .o (.bld [(.lit .nilFunc)] [(0, 1, (.t 3))])⟩,
    ⟨none, none, .o (.store 1 (.t 2) (.t 4))⟩])
  .ret))
theorem h112 : FdOk Try.prog 112 ⟨g112, [.c 2 (some 1)], 5, [], false⟩ := .of Try.func112 (by simp [Try.f112]) (by kernel_rfl)
/-- (octant/sextant.place).among -/
def g113 : RC :=
  (.seq (.reg [⟨(some 2), none, .o (.box 152 (.t 0))⟩,
    ⟨(some 4), none, .o (.v (.mov (.c (.lit (.slice none 0 0)))))⟩])
  (.seq (.reg [⟨(some 5), none, .o (.v (.mov (.c (.lit (.slice none 0 0)))))⟩])
  (.seq (.seq (.reg [⟨(some 8), none, .o (.v (.mov (.t 1)))⟩,
    ⟨(some 9), none, .o (.v (.len (.t 8)))⟩,
    ⟨(some 10), none, .o (.v (.mov (.c (.int .i64 (0)))))⟩])
  (.block 0 (.loop
    (.seq (.reg [⟨(some 11), none, .o (.v (.bin .lss (.t 10) (.t 9)))⟩])
    (.seq (.cond (.t 11)
      .skip
      (.exit 0))
    (.seq (.block 1 (.seq (.reg [⟨(some 12), none, .o (.v (.mov (.t 10)))⟩,
      ⟨(some 13), none, .o (.v (.ixa (.t 8) (.t 10) 3))⟩,
      ⟨(some 14), none, .o (.v (.load (.t 13) (some 3)))⟩,
      ⟨(some 7), none, .o (.new 77 [(.int .i64 (0)), (.int .i64 (0)), (.lit (.slice none 0 0))])⟩,
      ⟨(some 6), none, .o (.v (.mov (.t 12)))⟩,
      ⟨none, none, .o (.store 3 (.t 7) (.t 14))⟩])
    (.seq (.reg [⟨(some 15), none, .o (.v (.off (.t 2) 0))⟩,
      ⟨(some 16), none, .o (.v (.load (.t 15) none))⟩,
      ⟨(some 17), none, .o (.v (.load (.t 7) (some 3)))⟩,
      ⟨(some 18), none, .o (.call (.t 16) [(.t 17)])⟩])
    (.cond (.t 18)
      (.reg [⟨(some 19), none, .o (.v (.mov (.t 5)))⟩,
        ⟨(some 20), none, .o (.v (.mov (.t 6)))⟩,
        ⟨(some 21), none, .o (.bsl 3 1 [(.int .i64 (0))] [(0, 1, (.t 20))])⟩,
        ⟨(some 22), none, .o (.app 3 1 8 (.t 19) (.t 21))⟩,
        ⟨(some 5), none, .o (.v (.mov (.t 22)))⟩])
      .skip))))
    (.reg [⟨(some 23), none, .o (.v (.bin .add (.t 10) (.c (.int .i64 (1)))))⟩,
      ⟨(some 10), none, .o (.v (.mov (.t 23)))⟩])))))))
  (.seq (.reg [⟨(some 24), none, .o (.v (.mov (.t 5)))⟩,
    ⟨(some 4), none, .o (.v (.mov (.t 24)))⟩])
  .ret))))
theorem h113 : FdOk Try.prog 113 ⟨g113, [.t 4], 25, [], false⟩ := .of Try.func113 (by simp [Try.f113]) (by kernel_rfl)
/-- octant/sextant.fit -/
def g114 : RC :=
  (.seq (.reg [⟨(some 4), none, .o (.box 77 (.t 0))⟩,
    ⟨(some 5), none, .o (.box 77 (.t 1))⟩,
    ⟨(some 6), none, .o (.box 77 (.t 2))⟩,
    ⟨(some 8), none, .o (.v (.mov (.c (.lit (.bool false)))))⟩])
  (.seq (.seq (.reg [⟨(some 10), none, .o (.v (.off (.t 4) 2))⟩,
    ⟨(some 11), none, .o (.v (.load (.t 10) none))⟩,
    ⟨(some 12), none, .o (.v (.len (.t 11)))⟩,
    ⟨(some 13), none, .o (.v (.mov (.c (.int .i64 (0)))))⟩])
  (.block 0 (.loop
    (.seq (.reg [⟨(some 14), none, .o (.v (.bin .lss (.t 13) (.t 12)))⟩])
    (.seq (.cond (.t 14)
      .skip
      (.exit 0))
    (.seq (.block 1 (.seq (.reg [⟨(some 15), none, .o (.v (.mov (.t 13)))⟩,
      ⟨(some 9), none, .o (.v (.mov (.t 15)))⟩])
    (.seq (.drw [⟨[], 1, 1, [(⟨(some 16), none, .o (.v (.off (.t 4) 2))⟩, .val 0 []),
      (⟨(some 17), none, .o (.v (.load (.t 16) none))⟩, .val 0 []),
      (⟨(some 18), none, .o (.v (.mov (.t 9)))⟩, .val 0 []),
      (⟨(some 19), none, .o (.v (.ixa (.t 17) (.t 18) 2))⟩, .val 0 []),
      (⟨(some 20), none, .o (.v (.load (.t 19) (some 2)))⟩, .val 0 []),
      (⟨(some 21), none, .o (.v (.off (.t 5) 2))⟩, .val 0 []),
      (⟨(some 22), none, .o (.v (.load (.t 21) none))⟩, .val 0 []),
      (⟨(some 23), none, .o (.v (.mov (.t 9)))⟩, .val 0 []),
      (⟨(some 24), none, .o (.v (.ixa (.t 22) (.t 23) 2))⟩, .val 0 []),
      (⟨(some 25), none, .o (.v (.load (.t 24) (some 2)))⟩, .val 0 []),
      (⟨(some 26), none, .o (.v (.off (.t 6) 2))⟩, .val 0 []),
      (⟨(some 27), none, .o (.v (.load (.t 26) none))⟩, .val 0 []),
      (⟨(some 28), none, .o (.v (.mov (.t 9)))⟩, .val 0 []),
      (⟨(some 29), none, .o (.v (.ixa (.t 27) (.t 28) 2))⟩, .val 0 []),
      (⟨(some 30), none, .o (.v (.load (.t 29) (some 2)))⟩, .val 0 []),
      (⟨(some 31), none, .o (.bsl 24 3 [(.int .i64 (0)), (.int .i64 (0)), (.int .i64 (0)), (.int .i64 (0)), (.int .i64 (0)), (.int .i64 (0))] [(0, 2, (.t 20)), (2, 2, (.t 25)), (4, 2, (.t 30))])⟩, .cre 0),
      (⟨(some 32), none, .o (.call (.c (.fn 89 [])) [(.t 31)])⟩, .eff 0 [0]),
      (⟨(some 33), none, .o (.v (.mov (.t 3)))⟩, .val 0 []),
      (⟨(some 34), none, .o (.v (.neg (.t 33)))⟩, .val 0 []),
      (⟨(some 35), none, .o (.v (.mov (.t 3)))⟩, .val 0 [])],
      [],
      [⟨(some 36), none, .o (.call (.c (.fn 65 [])) [(.t 32), (.t 34), (.t 35)])⟩,
      ⟨(some 37), none, .o (.v (.not (.t 36)))⟩], none⟩])
    (.cond (.t 37)
      (.seq (.reg [⟨(some 8), none, .o (.v (.mov (.c (.lit (.bool false)))))⟩])
      .ret)
      .skip))))
    (.reg [⟨(some 38), none, .o (.v (.bin .add (.t 13) (.c (.int .i64 (1)))))⟩,
      ⟨(some 13), none, .o (.v (.mov (.t 38)))⟩])))))))
  (.seq (.reg [⟨(some 8), none, .o (.v (.mov (.c (.lit (.bool true)))))⟩])
  .ret)))
theorem h114 : FdOk Try.prog 114 ⟨g114, [.t 8], 39, [], false⟩ := .of Try.func114 (by simp [Try.f114]) (by kernel_rfl)
/-- (octant/sextant.sextant).indexErrors$1 -/
def g115 : RC :=
  (.seq (.reg [⟨(some 4), none, .o (.v (.off (.t 1) 0))⟩,
    ⟨(some 5), none, .o (.v (.off (.t 4) 2))⟩,
    ⟨(some 6), none, .o (.v (.off (.t 5) 0))⟩,
    ⟨(some 7), none, .o (.v (.load (.t 6) none))⟩,
    ⟨(some 3), none, .o (.v (.mov (.t 7)))⟩])
  (.block 0 (.loop
    (.seq (.seq (.reg [⟨(some 8), none, .o (.v (.mov (.t 3)))⟩,
      ⟨(some 9), none, .o (.v (.off (.t 1) 0))⟩,
      ⟨(some 10), none, .o (.v (.off (.t 9) 2))⟩,
      ⟨(some 11), none, .o (.v (.off (.t 10) 1))⟩,
      ⟨(some 12), none, .o (.v (.load (.t 11) none))⟩,
      ⟨(some 13), none, .o (.v (.bin .leq (.t 8) (.t 12)))⟩])
    (.cond (.t 13)
      .skip
      (.exit 0)))
    (.seq (.block 1 (.seq (.reg [⟨(some 16), none, .o (.v (.mov (.t 0)))⟩,
      ⟨(some 17), none, .o (.v (.mov (.t 3)))⟩,
      ⟨(some 18), none, .o (.call (.t 16) [(.t 17)])⟩,
      ⟨(some 19), none, .o (.v (.not (.t 18)))⟩])
    (.cond (.t 19)
      .ret
      .skip)))
    (.reg [⟨(some 14), none, .o (.v (.mov (.t 3)))⟩,
      ⟨(some 15), none, .o (.v (.bin .add (.t 14) (.c (.int .i64 (1)))))⟩,
      ⟨(some 3), none, .o (.v (.mov (.t 15)))⟩]))))))
theorem h115 : FdOk Try.prog 115 ⟨g115, [], 20, [], false⟩ := .of Try.func115 (by simp [Try.f115]) (by kernel_rfl)
/-- math/bits.Mul -/
def g116 : RC :=
  (.seq (.reg [⟨(some 4), none, .o (.v (.mov (.c (.int .u64 (0)))))⟩,
    ⟨(some 5), none, .o (.v (.mov (.c (.int .u64 (0)))))⟩])
  (.seq (.cond (.c (.lit (.bool false)))
    (.seq (.reg [⟨(some 11), none, .o (.v (.mov (.t 0)))⟩,
      ⟨(some 12), none, .o (.v (.conv .u32 (.t 11)))⟩,
      ⟨(some 13), none, .o (.v (.mov (.t 1)))⟩,
      ⟨(some 14), none, .o (.v (.conv .u32 (.t 13)))⟩,
      ⟨(some 15), none, .o (.call (.c (.fn 118 [])) [(.t 12), (.t 14)])⟩,
      ⟨(some 10), none, .o (.v (.mov (.t 15)))⟩,
      ⟨(some 16), none, .o (.v (.ext (.t 10) 0))⟩,
      ⟨(some 17), none, .o (.v (.ext (.t 10) 1))⟩,
      ⟨(some 6), none, .o (.v (.mov (.t 16)))⟩,
      ⟨(some 7), none, .o (.v (.mov (.t 17)))⟩])
    (.seq (.reg [⟨(some 18), none, .o (.v (.mov (.t 6)))⟩,
      ⟨(some 19), none, .o (.v (.conv .u64 (.t 18)))⟩,
      ⟨(some 20), none, .o (.v (.mov (.t 7)))⟩,
      ⟨(some 21), none, .o (.v (.conv .u64 (.t 20)))⟩,
      ⟨(some 4), none, .o (.v (.mov (.t 19)))⟩,
      ⟨(some 5), none, .o (.v (.mov (.t 21)))⟩])
    .ret))
    .skip)
  (.seq (.reg [⟨(some 23), none, .o (.v (.mov (.t 0)))⟩,
    ⟨(some 24), none, .o (.v (.mov (.t 1)))⟩,
    ⟨(some 25), none, .o (.call (.c (.fn 119 [])) [(.t 23), (.t 24)])⟩,
    ⟨(some 22), none, .o (.v (.mov (.t 25)))⟩,
    ⟨(some 26), none, .o (.v (.ext (.t 22) 0))⟩,
    ⟨(some 27), none, .o (.v (.ext (.t 22) 1))⟩,
    ⟨(some 8), none, .o (.v (.mov (.t 26)))⟩,
    ⟨(some 9), none, .o (.v (.mov (.t 27)))⟩])
  (.seq (.reg [⟨(some 28), none, .o (.v (.mov (.t 8)))⟩,
    ⟨(some 29), none, .o (.v (.mov (.t 9)))⟩,
    ⟨(some 4), none, .o (.v (.mov (.t 28)))⟩,
    ⟨(some 5), none, .o (.v (.mov (.t 29)))⟩])
  .ret))))
theorem h116 : FdOk Try.prog 116 ⟨g116, [.t 4, .t 5], 30, [], false⟩ := .of Try.func116 (by simp [Try.f116]) (by kernel_rfl)
/-- octant/sextant.placeFor$1 -/
def g117 : RC :=
  (.seq (.reg [⟨(some 2), none, .o (.box 77 (.t 0))⟩,
    ⟨(some 3), none, .o (.v (.mov (.c (.lit (.bool false)))))⟩])
  (.seq (.reg [⟨(some 4), none, .o (.v (.off (.t 2) 0))⟩,
    ⟨(some 5), none, .o (.v (.load (.t 4) none))⟩,
    ⟨(some 6), none, .o (.v (.load (.t 1) none))⟩,
    ⟨(some 7), none, .o (.v (.bin .eql (.t 5) (.t 6)))⟩,
    ⟨(some 3), none, .o (.v (.mov (.t 7)))⟩])
  .ret))
theorem h117 : FdOk Try.prog 117 ⟨g117, [.t 3], 8, [], false⟩ := .of Try.func117 (by simp [Try.f117]) (by kernel_rfl)
/-- math/bits.Mul32 -/
def g118 : RC :=
  (.seq (.reg [⟨(some 4), none, .o (.v (.mov (.c (.int .u32 (0)))))⟩,
    ⟨(some 5), none, .o (.v (.mov (.c (.int .u32 (0)))))⟩])
  (.seq (.reg [⟨(some 7), none, .o (.v (.mov (.t 0)))⟩,
    ⟨(some 8), none, .o (.v (.conv .u64 (.t 7)))⟩,
    ⟨(some 9), none, .o (.v (.mov (.t 1)))⟩,
    ⟨(some 10), none, .o (.v (.conv .u64 (.t 9)))⟩,
    ⟨(some 11), none, .o (.v (.bin .mul (.t 8) (.t 10)))⟩,
    ⟨(some 6), none, .o (.v (.mov (.t 11)))⟩])
  (.seq (.reg [⟨(some 12), none, .o (.v (.mov (.t 6)))⟩,
    ⟨(some 13), none, .o (.v (.bin .shr (.t 12) (.c (.int .u64 (32)))))⟩,
    ⟨(some 14), none, .o (.v (.conv .u32 (.t 13)))⟩,
    ⟨(some 15), none, .o (.v (.mov (.t 6)))⟩,
    ⟨(some 16), none, .o (.v (.conv .u32 (.t 15)))⟩,
    ⟨(some 4), none, .o (.v (.mov (.t 14)))⟩,
    ⟨(some 5), none, .o (.v (.mov (.t 16)))⟩])
  .ret)))
theorem h118 : FdOk Try.prog 118 ⟨g118, [.t 4, .t 5], 17, [], false⟩ := .of Try.func118 (by simp [Try.f118]) (by kernel_rfl)
/-- math/bits.Mul64 -/
def g119 : RC :=
  (.seq (.reg [⟨(some 4), none, .o (.v (.mov (.c (.int .u64 (0)))))⟩,
    ⟨(some 5), none, .o (.v (.mov (.c (.int .u64 (0)))))⟩])
  (.seq (.reg [⟨(some 14), none, .o (.v (.mov (.t 0)))⟩,
    ⟨(some 15), none, .o (.v (.bin .and (.t 14) (.c (.int .u64 (4294967295)))))⟩,
    ⟨(some 6), none, .o (.v (.mov (.t 15)))⟩])
  (.seq (.reg [⟨(some 16), none, .o (.v (.mov (.t 0)))⟩,
    ⟨(some 17), none, .o (.v (.bin .shr (.t 16) (.c (.int .u64 (32)))))⟩,
    ⟨(some 7), none, .o (.v (.mov (.t 17)))⟩])
  (.seq (.reg [⟨(some 18), none, .o (.v (.mov (.t 1)))⟩,
    ⟨(some 19), none, .o (.v (.bin .and (.t 18) (.c (.int .u64 (4294967295)))))⟩,
    ⟨(some 8), none, .o (.v (.mov (.t 19)))⟩])
  (.seq (.reg [⟨(some 20), none, .o (.v (.mov (.t 1)))⟩,
    ⟨(some 21), none, .o (.v (.bin .shr (.t 20) (.c (.int .u64 (32)))))⟩,
    ⟨(some 9), none, .o (.v (.mov (.t 21)))⟩])
  (.seq (.reg [⟨(some 22), none, .o (.v (.mov (.t 6)))⟩,
    ⟨(some 23), none, .o (.v (.mov (.t 8)))⟩,
    ⟨(some 24), none, .o (.v (.bin .mul (.t 22) (.t 23)))⟩,
    ⟨(some 10), none, .o (.v (.mov (.t 24)))⟩])
  (.seq (.reg [⟨(some 25), none, .o (.v (.mov (.t 7)))⟩,
    ⟨(some 26), none, .o (.v (.mov (.t 8)))⟩,
    ⟨(some 27), none, .o (.v (.bin .mul (.t 25) (.t 26)))⟩,
    ⟨(some 28), none, .o (.v (.mov (.t 10)))⟩,
    ⟨(some 29), none, .o (.v (.bin .shr (.t 28) (.c (.int .u64 (32)))))⟩,
    ⟨(some 30), none, .o (.v (.bin .add (.t 27) (.t 29)))⟩,
    ⟨(some 11), none, .o (.v (.mov (.t 30)))⟩])
  (.seq (.reg [⟨(some 31), none, .o (.v (.mov (.t 11)))⟩,
    ⟨(some 32), none, .o (.v (.bin .and (.t 31) (.c (.int .u64 (4294967295)))))⟩,
    ⟨(some 12), none, .o (.v (.mov (.t 32)))⟩])
  (.seq (.reg [⟨(some 33), none, .o (.v (.mov (.t 11)))⟩,
    ⟨(some 34), none, .o (.v (.bin .shr (.t 33) (.c (.int .u64 (32)))))⟩,
    ⟨(some 13), none, .o (.v (.mov (.t 34)))⟩])
  (.seq (.reg [⟨(some 35), none, .o (.v (.mov (.t 12)))⟩,
    ⟨(some 36), none, .o (.v (.mov (.t 6)))⟩,
    ⟨(some 37), none, .o (.v (.mov (.t 9)))⟩,
    ⟨(some 38), none, .o (.v (.bin .mul (.t 36) (.t 37)))⟩,
    ⟨(some 39), none, .o (.v (.bin .add (.t 35) (.t 38)))⟩,
    ⟨(some 12), none, .o (.v (.mov (.t 39)))⟩])
  (.seq (.reg [⟨(some 40), none, .o (.v (.mov (.t 7)))⟩,
    ⟨(some 41), none, .o (.v (.mov (.t 9)))⟩,
    ⟨(some 42), none, .o (.v (.bin .mul (.t 40) (.t 41)))⟩,
    ⟨(some 43), none, .o (.v (.mov (.t 13)))⟩,
    ⟨(some 44), none, .o (.v (.bin .add (.t 42) (.t 43)))⟩,
    ⟨(some 45), none, .o (.v (.mov (.t 12)))⟩,
    ⟨(some 46), none, .o (.v (.bin .shr (.t 45) (.c (.int .u64 (32)))))⟩,
    ⟨(some 47), none, .o (.v (.bin .add (.t 44) (.t 46)))⟩,
    ⟨(some 4), none, .o (.v (.mov (.t 47)))⟩])
  (.seq (.reg [⟨(some 48), none, .o (.v (.mov (.t 0)))⟩,
    ⟨(some 49), none, .o (.v (.mov (.t 1)))⟩,
    ⟨(some 50), none, .o (.v (.bin .mul (.t 48) (.t 49)))⟩,
    ⟨(some 5), none, .o (.v (.mov (.t 50)))⟩])
  .ret))))))))))))
theorem h119 : FdOk Try.prog 119 ⟨g119, [.t 4, .t 5], 51, [], false⟩ := .of Try.func119 (by simp [Try.f119]) (by kernel_rfl)
/-- (octant/sextant.always).adds -/
def g135 : RC :=
  (.seq (.reg [⟨(some 2), none, .o (.box 157 (.t 0))⟩,
    ⟨(some 3), none, .o (.box 28 (.t 1))⟩,
    ⟨(some 4), none, .o (.new 24 [(.int .i64 (0)), (.int .i64 (0))])⟩])
  (.seq (.reg [⟨(some 5), none, .o (.v (.load (.t 2) (some 2)))⟩,
    ⟨none, none, .o (.store 2 (.t 4) (.t 5))⟩])
  .ret))
theorem h135 : FdOk Try.prog 135 ⟨g135, [.c 4 (some 2)], 6, [], false⟩ := .of Try.func135 (by simp [Try.f135]) (by kernel_rfl)
/-- (octant/sextant.corrections).adds -/
def g136 : RC :=
  (.seq (.reg [⟨(some 2), none, .o (.box 159 (.t 0))⟩,
    ⟨(some 3), none, .o (.box 28 (.t 1))⟩,
    ⟨(some 4), none, .o (.new 24 [(.int .i64 (0)), (.int .i64 (0))])⟩])
  (.seq (.drw [⟨[], 0, 0, [(⟨(some 9), none, .o (.v (.off (.t 3) 0))⟩, .val 0 []),
    (⟨(some 10), none, .o (.v (.load (.t 9) none))⟩, .val 0 []),
    (⟨(some 11), none, .o (.v (.off (.t 2) 0))⟩, .val 0 []),
    (⟨(some 12), none, .o (.v (.load (.t 11) none))⟩, .val 0 []),
    (⟨(some 13), none, .o (.v (.bin .quo (.t 10) (.t 12)))⟩, .val 0 []),
    (⟨(some 14), none, .o (.v (.off (.t 3) 0))⟩, .val 0 []),
    (⟨(some 15), none, .o (.v (.load (.t 14) none))⟩, .val 0 []),
    (⟨(some 16), none, .o (.v (.off (.t 2) 0))⟩, .val 0 []),
    (⟨(some 17), none, .o (.v (.load (.t 16) none))⟩, .val 0 []),
    (⟨(some 18), none, .o (.v (.bin .rem (.t 15) (.t 17)))⟩, .val 0 []),
    (⟨(some 5), none, .o (.v (.mov (.t 13)))⟩, .val 0 [])],
    [],
    [⟨(some 6), none, .o (.v (.mov (.t 18)))⟩], none⟩])
  (.seq (.seq (.reg [⟨(some 19), none, .o (.v (.mov (.t 6)))⟩,
    ⟨(some 20), none, .o (.v (.bin .eql (.t 19) (.c (.int .i64 (0)))))⟩])
  (.cond (.t 20)
    (.seq (.reg [⟨(some 21), none, .o (.v (.off (.t 2) 1))⟩,
      ⟨(some 22), none, .o (.v (.load (.t 21) none))⟩,
      ⟨(some 23), none, .o (.v (.mov (.t 5)))⟩,
      ⟨(some 24), none, .o (.v (.ixa (.t 22) (.t 23) 2))⟩,
      ⟨(some 25), none, .o (.v (.load (.t 24) (some 2)))⟩,
      ⟨none, none, .o (.store 2 (.t 4) (.t 25))⟩])
    .ret)
    .skip))
  (.seq (.drw [⟨[], 2, 1, [(⟨(some 26), none, .o (.v (.off (.t 2) 1))⟩, .val 0 []),
    (⟨(some 27), none, .o (.v (.load (.t 26) none))⟩, .val 0 []),
    (⟨(some 28), none, .o (.v (.mov (.t 5)))⟩, .val 0 []),
    (⟨(some 29), none, .o (.v (.ixa (.t 27) (.t 28) 2))⟩, .val 0 []),
    (⟨(some 30), none, .o (.v (.load (.t 29) (some 2)))⟩, .val 0 []),
    (⟨(some 31), none, .o (.v (.off (.t 2) 1))⟩, .prd []),
    (⟨(some 32), none, .o (.v (.load (.t 31) none))⟩, .prd []),
    (⟨(some 33), none, .o (.v (.mov (.t 5)))⟩, .prd []),
    (⟨(some 34), none, .o (.v (.bin .add (.t 33) (.c (.int .i64 (1)))))⟩, .prd []),
    (⟨(some 35), none, .o (.v (.ixa (.t 32) (.t 34) 2))⟩, .prd []),
    (⟨(some 36), none, .o (.v (.load (.t 35) (some 2)))⟩, .prd []),
    (⟨(some 7), none, .o (.new 24 [(.int .i64 (0)), (.int .i64 (0))])⟩, .cre 0),
    (⟨(some 8), none, .o (.new 24 [(.int .i64 (0)), (.int .i64 (0))])⟩, .cre 1),
    (⟨none, none, .o (.store 2 (.t 7) (.t 30))⟩, .efs 0 [0, 1] [])],
    [],
    [⟨none, none, .o (.store 2 (.t 8) (.t 36))⟩], none⟩,
    ⟨[], 2, 1, [(⟨(some 26), none, .o (.v (.off (.t 2) 1))⟩, .val 0 []),
    (⟨(some 27), none, .o (.v (.load (.t 26) none))⟩, .val 0 []),
    (⟨(some 28), none, .o (.v (.mov (.t 5)))⟩, .val 0 []),
    (⟨(some 29), none, .o (.v (.ixa (.t 27) (.t 28) 2))⟩, .val 0 []),
    (⟨(some 30), none, .o (.v (.load (.t 29) (some 2)))⟩, .val 0 []),
    (⟨(some 31), none, .o (.v (.off (.t 2) 1))⟩, .prd []),
    (⟨(some 32), none, .o (.v (.load (.t 31) none))⟩, .prd []),
    (⟨(some 33), none, .o (.v (.mov (.t 5)))⟩, .prd []),
    (⟨(some 34), none, .o (.v (.bin .add (.t 33) (.c (.int .i64 (1)))))⟩, .prd []),
    (⟨(some 35), none, .o (.v (.ixa (.t 32) (.t 34) 2))⟩, .prd []),
    (⟨(some 36), none, .o (.v (.load (.t 35) (some 2)))⟩, .prd []),
    (⟨(some 7), none, .o (.new 24 [(.int .i64 (0)), (.int .i64 (0))])⟩, .cre 0),
    (⟨(some 8), none, .o (.new 24 [(.int .i64 (0)), (.int .i64 (0))])⟩, .cre 1),
    (⟨none, none, .o (.store 2 (.t 7) (.t 30))⟩, .efs 0 [0, 1] [])],
    [],
    [⟨none, none, .o (.store 2 (.t 8) (.t 36))⟩], none⟩])
  (.seq (.drw [⟨[], 0, 1, [(⟨(some 37), none, .o (.v (.load (.t 2) (some 2)))⟩, .val 0 []),
    (⟨(some 38), none, .o (.v (.off (.t 7) 0))⟩, .val 0 []),
    (⟨(some 39), none, .o (.v (.load (.t 38) none))⟩, .val 0 []),
    (⟨(some 40), none, .o (.v (.off (.t 8) 0))⟩, .val 0 []),
    (⟨(some 41), none, .o (.v (.load (.t 40) none))⟩, .val 0 []),
    (⟨(some 42), none, .o (.v (.mov (.t 6)))⟩, .val 0 []),
    (⟨(some 43), none, .o (.call (.c (.fn 137 [])) [(.t 37), (.t 39), (.t 41), (.t 42)])⟩, .eff 0 []),
    (⟨(some 44), none, .o (.v (.load (.t 2) (some 2)))⟩, .val 0 []),
    (⟨(some 45), none, .o (.v (.off (.t 7) 1))⟩, .val 0 []),
    (⟨(some 46), none, .o (.v (.load (.t 45) none))⟩, .val 0 []),
    (⟨(some 47), none, .o (.v (.off (.t 8) 1))⟩, .val 0 []),
    (⟨(some 48), none, .o (.v (.load (.t 47) none))⟩, .val 0 []),
    (⟨(some 49), none, .o (.v (.mov (.t 6)))⟩, .val 0 [])],
    [],
    [⟨(some 50), none, .o (.call (.c (.fn 137 [])) [(.t 44), (.t 46), (.t 48), (.t 49)])⟩,
    ⟨(some 51), none, .o (.bld [(.int .i64 (0)), (.int .i64 (0))] [(0, 1, (.t 43)), (1, 1, (.t 50))])⟩,
    ⟨none, none, .o (.store 2 (.t 4) (.t 51))⟩], none⟩])
  .ret)))))
theorem h136 : FdOk Try.prog 136 ⟨g136, [.c 4 (some 2)], 52, [], false⟩ := .of Try.func136 (by simp [Try.f136]) (by kernel_rfl)
/-- (octant/sextant.corrections).between -/
def g137 : RC :=
  (.seq (.reg [⟨(some 4), none, .o (.box 159 (.t 0))⟩,
    ⟨(some 8), none, .o (.v (.mov (.c (.int .i64 (0)))))⟩])
  (.seq (.reg [⟨(some 9), none, .o (.v (.mov (.t 1)))⟩,
    ⟨(some 10), none, .o (.v (.off (.t 4) 0))⟩,
    ⟨(some 11), none, .o (.v (.load (.t 10) none))⟩,
    ⟨(some 12), none, .o (.v (.mov (.t 3)))⟩,
    ⟨(some 13), none, .o (.v (.bin .sub (.t 11) (.t 12)))⟩,
    ⟨(some 14), none, .o (.v (.bin .mul (.t 9) (.t 13)))⟩,
    ⟨(some 15), none, .o (.v (.mov (.t 2)))⟩,
    ⟨(some 16), none, .o (.v (.mov (.t 3)))⟩,
    ⟨(some 17), none, .o (.v (.bin .mul (.t 15) (.t 16)))⟩,
    ⟨(some 18), none, .o (.v (.bin .add (.t 14) (.t 17)))⟩,
    ⟨(some 19), none, .o (.v (.off (.t 4) 0))⟩,
    ⟨(some 20), none, .o (.v (.load (.t 19) none))⟩,
    ⟨(some 21), none, .o (.call (.c (.fn 138 [])) [(.t 18), (.t 20)])⟩,
    ⟨(some 8), none, .o (.v (.mov (.t 21)))⟩])
  .ret))
theorem h137 : FdOk Try.prog 137 ⟨g137, [.t 8], 22, [], false⟩ := .of Try.func137 (by simp [Try.f137]) (by kernel_rfl)
/-- octant/sextant.roundDown -/
def g138 : RC :=
  (.seq (.reg [⟨(some 4), none, .o (.v (.mov (.c (.int .i64 (0)))))⟩])
  (.seq (.reg [⟨(some 6), none, .o (.v (.mov (.t 0)))⟩,
    ⟨(some 7), none, .o (.v (.mov (.t 1)))⟩,
    ⟨(some 8), none, .o (.v (.bin .quo (.t 6) (.t 7)))⟩,
    ⟨(some 5), none, .o (.v (.mov (.t 8)))⟩])
  (.seq (.seq (.reg [⟨(some 9), none, .o (.v (.mov (.t 0)))⟩,
    ⟨(some 10), none, .o (.v (.mov (.t 1)))⟩,
    ⟨(some 11), none, .o (.v (.bin .rem (.t 9) (.t 10)))⟩,
    ⟨(some 12), none, .o (.v (.bin .lss (.t 11) (.c (.int .i64 (0)))))⟩])
  (.cond (.t 12)
    (.reg [⟨(some 13), none, .o (.v (.mov (.t 5)))⟩,
      ⟨(some 14), none, .o (.v (.bin .sub (.t 13) (.c (.int .i64 (1)))))⟩,
      ⟨(some 5), none, .o (.v (.mov (.t 14)))⟩])
    .skip))
  (.seq (.reg [⟨(some 15), none, .o (.v (.mov (.t 5)))⟩,
    ⟨(some 4), none, .o (.v (.mov (.t 15)))⟩])
  .ret))))
theorem h138 : FdOk Try.prog 138 ⟨g138, [.t 4], 16, [], false⟩ := .of Try.func138 (by simp [Try.f138]) (by kernel_rfl)
/-- (octant/sextant.shade).adds -/
def g139 : RC :=
  (.seq (.reg [⟨(some 2), none, .o (.box 161 (.t 0))⟩,
    ⟨(some 3), none, .o (.box 28 (.t 1))⟩,
    ⟨(some 4), none, .o (.new 24 [(.int .i64 (0)), (.int .i64 (0))])⟩])
  (.seq (.seq (.reg [⟨(some 5), none, .o (.v (.off (.t 3) 1))⟩,
    ⟨(some 6), none, .o (.v (.load (.t 5) none))⟩,
    ⟨(some 7), none, .o (.v (.off (.t 2) 0))⟩,
    ⟨(some 8), none, .o (.v (.load (.t 7) none))⟩,
    ⟨(some 9), none, .o (.v (.bin .shr (.t 6) (.t 8)))⟩,
    ⟨(some 10), none, .o (.v (.bin .and (.t 9) (.c (.int .i64 (1)))))⟩,
    ⟨(some 11), none, .o (.v (.bin .eql (.t 10) (.c (.int .i64 (0)))))⟩])
  (.cond (.t 11)
    (.seq (.reg [⟨(some 12), none, .o (.call (.c (.fn 90 [])) [(.c (.int .i64 (0)))])⟩,
      ⟨none, none, .o (.store 2 (.t 4) (.t 12))⟩])
    .ret)
    .skip))
  (.seq (.reg [⟨(some 13), none, .o (.v (.off (.t 2) 1))⟩,
    ⟨(some 14), none, .o (.v (.load (.t 13) (some 2)))⟩,
    ⟨none, none, .o (.store 2 (.t 4) (.t 14))⟩])
  .ret)))
theorem h139 : FdOk Try.prog 139 ⟨g139, [.c 4 (some 2)], 15, [], false⟩ := .of Try.func139 (by simp [Try.f139]) (by kernel_rfl)

end Go.Proofs.Ytjagiieconpgbaa
