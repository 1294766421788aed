/- The code of the program's functions, as code that is run, and that it is theirs. -/
import Derived.Test.YtgfoakilompbdaaVgR18
import Derived.Test.YtgfoakilompbdaaChecked
import Derived.KernelRfl
namespace Go.Proofs.Ytgfoakilompbdaa
open Go Go.Vg
set_option maxRecDepth 100000
set_option maxHeartbeats 4000000
/-- octant/octantlaw06.RoundsKnown -/
def g13 : RC :=
  (.seq (.reg [⟨(some 0), none, .o (.v (.mov (.c (.lit (.bool false)))))⟩])
  (.seq (.reg [⟨(some 50), none, .o (.bld [(.int .i64 (0)), (.int .i64 (0)), (.int .i64 (0)), (.int .i64 (0)), (.int .i64 (0)), (.int .i64 (0))] [])⟩,
    ⟨(some 51), none, .o (.bld [(.int .i64 (0)), (.int .i64 (0)), (.int .i64 (0)), (.int .i64 (0)), (.int .i64 (0)), (.int .i64 (0))] [(0, 1, (.c (.int .i64 (1296000)))), (2, 1, (.c (.int .i64 (1))))])⟩,
    ⟨(some 52), none, .o (.bld [(.int .i64 (0)), (.int .i64 (0)), (.int .i64 (0)), (.int .i64 (0)), (.int .i64 (0)), (.int .i64 (0))] [(1, 1, (.c (.int .i64 (-1)))), (2, 1, (.c (.int .i64 (1))))])⟩,
    ⟨(some 53), none, .o (.bld [(.int .i64 (0)), (.int .i64 (0)), (.int .i64 (0)), (.int .i64 (0)), (.int .i64 (0)), (.int .i64 (0))] [(2, 1, (.c (.int .i64 (101))))])⟩,
    ⟨(some 54), none, .o (.call (.c (.fn 34 [])) [(.c (.int .i64 (2))), (.c (.int .i64 (1)))])⟩,
    ⟨(some 55), none, .o (.bld [(.int .i64 (0)), (.int .i64 (0)), (.int .i64 (0)), (.int .i64 (0)), (.int .i64 (0)), (.int .i64 (0))] [(2, 1, (.c (.int .i64 (1)))), (3, 2, (.t 54))])⟩,
    ⟨(some 56), none, .o (.call (.c (.fn 34 [])) [(.c (.int .i64 (0))), (.c (.int .i64 (1296000)))])⟩,
    ⟨(some 57), none, .o (.bld [(.int .i64 (0)), (.int .i64 (0)), (.int .i64 (0)), (.int .i64 (0)), (.int .i64 (0)), (.int .i64 (0))] [(2, 1, (.c (.int .i64 (1)))), (3, 2, (.t 56))])⟩,
    ⟨(some 58), none, .o (.bld [(.int .i64 (0)), (.int .i64 (0)), (.int .i64 (0)), (.int .i64 (0)), (.int .i64 (0)), (.int .i64 (0))] [(2, 1, (.c (.int .i64 (1)))), (5, 1, (.c (.int .i64 (10001))))])⟩,
    ⟨(some 59), none, .o (.bsl 25 7 (List.replicate 42 (.int .i64 (0))) [(0, 6, (.t 50)), (6, 6, (.t 51)), (12, 6, (.t 52)), (18, 6, (.t 53)), (24, 6, (.t 55)), (30, 6, (.t 57)), (36, 6, (.t 58))])⟩,
    ⟨(some 1), none, .o (.v (.mov (.t 59)))⟩])
  (.seq (.seq (.reg [⟨(some 2), none, .o (.v (.mov (.c (.int .i64 (0)))))⟩])
  (.block 0 (.loop
    (.seq (.seq (.reg [⟨(some 60), none, .o (.v (.mov (.t 2)))⟩,
      ⟨(some 61), none, .o (.v (.mov (.t 1)))⟩,
      ⟨(some 62), none, .o (.v (.len (.t 61)))⟩,
      ⟨(some 63), none, .o (.v (.bin .lss (.t 60) (.t 62)))⟩])
    (.cond (.t 63)
      .skip
      (.exit 0)))
    (.seq (.block 1 (.seq (.reg [⟨(some 67), none, .o (.v (.mov (.t 1)))⟩,
      ⟨(some 68), none, .o (.v (.mov (.t 2)))⟩,
      ⟨(some 69), none, .o (.v (.ixa (.t 67) (.t 68) 6))⟩,
      ⟨(some 70), none, .o (.v (.load (.t 69) (some 6)))⟩,
      ⟨(some 71), none, .o (.call (.c (.fn 14 [])) [(.t 70)])⟩,
      ⟨(some 66), none, .o (.v (.mov (.t 71)))⟩,
      ⟨(some 72), none, .o (.v (.ext (.t 66) 0))⟩,
      ⟨(some 73), none, .o (.v (.ext (.t 66) 1))⟩,
      ⟨(some 3), none, .o (.v (.mov (.t 72)))⟩,
      ⟨(some 4), none, .o (.v (.mov (.t 73)))⟩])
    (.seq (.reg [⟨(some 74), none, .o (.v (.mov (.t 4)))⟩,
      ⟨(some 75), none, .o (.v (.bin .neq (.t 74) (.c (.int .i64 (62)))))⟩,
      ⟨(some 76), none, .o (.v (.mov (.t 75)))⟩,
      ⟨(some 77), (some (76, false)), .o (.v (.mov (.t 3)))⟩,
      ⟨(some 78), (some (76, false)), .o (.v (.len (.t 77)))⟩,
      ⟨(some 79), (some (76, false)), .o (.v (.bin .neq (.t 78) (.c (.int .i64 (0)))))⟩,
      ⟨(some 80), none, .o (.v (.pick (.t 76) (.c (.lit (.bool true))) (.t 79)))⟩])
    (.cond (.t 80)
      (.seq (.reg [⟨(some 0), none, .o (.v (.mov (.c (.lit (.bool false)))))⟩])
      .ret)
      .skip))))
    (.reg [⟨(some 64), none, .o (.v (.mov (.t 2)))⟩,
      ⟨(some 65), none, .o (.v (.bin .add (.t 64) (.c (.int .i64 (1)))))⟩,
      ⟨(some 2), none, .o (.v (.mov (.t 65)))⟩]))))))
  (.seq (.reg [⟨(some 81), none, .o (.bld [(.int .i64 (0)), (.int .i64 (0)), (.int .i64 (0)), (.int .i64 (0))] [(0, 1, (.c (.int .i64 (-1))))])⟩,
    ⟨(some 82), none, .o (.bld [(.int .i64 (0)), (.int .i64 (0)), (.int .i64 (0)), (.int .i64 (0))] [(1, 1, (.c (.int .i64 (1296000))))])⟩,
    ⟨(some 83), none, .o (.bld [(.int .i64 (0)), (.int .i64 (0)), (.int .i64 (0)), (.int .i64 (0))] [(2, 1, (.c (.int .i64 (-1))))])⟩,
    ⟨(some 84), none, .o (.bld [(.int .i64 (0)), (.int .i64 (0)), (.int .i64 (0)), (.int .i64 (0))] [(3, 1, (.c (.int .i64 (100001))))])⟩,
    ⟨(some 85), none, .o (.bsl 27 4 (List.replicate 16 (.int .i64 (0))) [(0, 4, (.t 81)), (4, 4, (.t 82)), (8, 4, (.t 83)), (12, 4, (.t 84))])⟩,
    ⟨(some 5), none, .o (.v (.mov (.t 85)))⟩])
  (.seq (.seq (.reg [⟨(some 6), none, .o (.v (.mov (.c (.int .i64 (0)))))⟩])
  (.block 2 (.loop
    (.seq (.seq (.reg [⟨(some 86), none, .o (.v (.mov (.t 6)))⟩,
      ⟨(some 87), none, .o (.v (.mov (.t 5)))⟩,
      ⟨(some 88), none, .o (.v (.len (.t 87)))⟩,
      ⟨(some 89), none, .o (.v (.bin .lss (.t 86) (.t 88)))⟩])
    (.cond (.t 89)
      .skip
      (.exit 2)))
    (.seq (.block 3 (.seq (.reg [⟨(some 93), none, .o (.v (.mov (.t 5)))⟩,
      ⟨(some 94), none, .o (.v (.mov (.t 6)))⟩,
      ⟨(some 95), none, .o (.v (.ixa (.t 93) (.t 94) 4))⟩,
      ⟨(some 96), none, .o (.v (.load (.t 95) (some 4)))⟩,
      ⟨(some 97), none, .o (.call (.c (.fn 17 [])) [(.t 96)])⟩,
      ⟨(some 92), none, .o (.v (.mov (.t 97)))⟩,
      ⟨(some 98), none, .o (.v (.ext (.t 92) 0))⟩,
      ⟨(some 99), none, .o (.v (.ext (.t 92) 1))⟩,
      ⟨(some 100), none, .o (.v (.ext (.t 92) 2))⟩,
      ⟨(some 7), none, .o (.new 23 [(.int .i64 (0)), (.int .i64 (0))])⟩,
      ⟨(some 8), none, .o (.new 23 [(.int .i64 (0)), (.int .i64 (0))])⟩,
      ⟨none, none, .o (.store 2 (.t 7) (.t 98))⟩,
      ⟨none, none, .o (.store 2 (.t 8) (.t 99))⟩,
      ⟨(some 9), none, .o (.v (.mov (.t 100)))⟩])
    (.seq (.reg [⟨(some 101), none, .o (.v (.mov (.t 9)))⟩,
      ⟨(some 102), none, .o (.v (.bin .neq (.t 101) (.c (.int .i64 (62)))))⟩])
    (.cond (.t 102)
      (.seq (.reg [⟨(some 0), none, .o (.v (.mov (.c (.lit (.bool false)))))⟩])
      .ret)
      .skip))))
    (.reg [⟨(some 90), none, .o (.v (.mov (.t 6)))⟩,
      ⟨(some 91), none, .o (.v (.bin .add (.t 90) (.c (.int .i64 (1)))))⟩,
      ⟨(some 6), none, .o (.v (.mov (.t 91)))⟩]))))))
  (.seq (.reg [⟨(some 103), none, .o (.bld [(.int .i64 (0)), (.lit (.slice none 0 0)), (.lit (.slice none 0 0))] [])⟩,
    ⟨(some 104), none, .o (.call (.c (.fn 44 [])) [])⟩,
    ⟨(some 105), none, .o (.call (.c (.fn 44 [])) [])⟩,
    ⟨(some 106), none, .o (.call (.c (.fn 44 [])) [])⟩,
    ⟨(some 107), none, .o (.call (.c (.fn 44 [])) [])⟩,
    ⟨(some 108), none, .o (.call (.c (.fn 44 [])) [])⟩,
    ⟨(some 109), none, .o (.bsl 40 6 [(.int .i64 (0)), (.lit (.slice none 0 0)), (.lit (.slice none 0 0)), (.int .i64 (0)), (.lit (.slice none 0 0)), (.lit (.slice none 0 0)), (.int .i64 (0)), (.lit (.slice none 0 0)), (.lit (.slice none 0 0)), (.int .i64 (0)), (.lit (.slice none 0 0)), (.lit (.slice none 0 0)), (.int .i64 (0)), (.lit (.slice none 0 0)), (.lit (.slice none 0 0)), (.int .i64 (0)), (.lit (.slice none 0 0)), (.lit (.slice none 0 0))] [(0, 3, (.t 103)), (3, 3, (.t 104)), (6, 3, (.t 105)), (9, 3, (.t 106)), (12, 3, (.t 107)), (15, 3, (.t 108))])⟩,
    ⟨(some 10), none, .o (.v (.mov (.t 109)))⟩])
  (.seq (.reg [⟨(some 110), none, .o (.v (.mov (.t 10)))⟩,
    ⟨(some 111), none, .o (.v (.ixa (.t 110) (.c (.int .i64 (1))) 3))⟩,
    ⟨(some 112), none, .o (.v (.off (.t 111) 0))⟩,
    ⟨none, none, .o (.store 1 (.t 112) (.c (.int .i64 (1))))⟩])
  (.seq (.reg [⟨(some 113), none, .o (.v (.mov (.t 10)))⟩,
    ⟨(some 114), none, .o (.v (.mov (.t 10)))⟩,
    ⟨(some 115), none, .o (.v (.ixa (.t 114) (.c (.int .i64 (2))) 3))⟩,
    ⟨(some 116), none, .o (.v (.off (.t 115) 2))⟩,
    ⟨(some 117), none, .o (.v (.load (.t 116) none))⟩,
    ⟨(some 118), none, .o (.slc (.t 117) none (some (.c (.int .i64 (5)))) none 4)⟩,
    ⟨(some 119), none, .o (.v (.ixa (.t 113) (.c (.int .i64 (2))) 3))⟩,
    ⟨(some 120), none, .o (.v (.off (.t 119) 2))⟩,
    ⟨none, none, .o (.store 1 (.t 120) (.t 118))⟩])
  (.seq (.reg [⟨(some 121), none, .o (.v (.mov (.t 10)))⟩,
    ⟨(some 122), none, .o (.call (.c (.fn 44 [])) [])⟩,
    ⟨(some 123), none, .o (.call (.c (.fn 34 [])) [(.c (.int .i64 (0))), (.c (.int .i64 (648001)))])⟩,
    ⟨(some 124), none, .o (.call (.c (.fn 40 [])) [(.t 122), (.c (.int .i64 (0))), (.t 123)])⟩,
    ⟨(some 125), none, .o (.v (.ixa (.t 121) (.c (.int .i64 (3))) 3))⟩,
    ⟨none, none, .o (.store 3 (.t 125) (.t 124))⟩])
  (.seq (.reg [⟨(some 126), none, .o (.v (.mov (.t 10)))⟩,
    ⟨(some 127), none, .o (.v (.ixa (.t 126) (.c (.int .i64 (4))) 3))⟩,
    ⟨(some 128), none, .o (.v (.off (.t 127) 2))⟩,
    ⟨(some 129), none, .o (.v (.load (.t 128) none))⟩,
    ⟨(some 130), none, .o (.v (.ixa (.t 129) (.c (.int .i64 (1))) 4))⟩,
    ⟨(some 131), none, .o (.v (.off (.t 130) 1))⟩,
    ⟨none, none, .o (.store 1 (.t 131) (.c (.int .i64 (2))))⟩])
  (.seq (.reg [⟨(some 132), none, .o (.v (.mov (.t 10)))⟩,
    ⟨(some 133), none, .o (.v (.ixa (.t 132) (.c (.int .i64 (5))) 3))⟩,
    ⟨(some 134), none, .o (.v (.off (.t 133) 2))⟩,
    ⟨(some 135), none, .o (.v (.load (.t 134) none))⟩,
    ⟨(some 136), none, .o (.v (.ixa (.t 135) (.c (.int .i64 (5))) 4))⟩,
    ⟨(some 137), none, .o (.v (.off (.t 136) 0))⟩,
    ⟨none, none, .o (.store 1 (.t 137) (.c (.int .i64 (0))))⟩])
  (.seq (.seq (.reg [⟨(some 11), none, .o (.v (.mov (.c (.int .i64 (0)))))⟩])
  (.block 4 (.loop
    (.seq (.seq (.reg [⟨(some 138), none, .o (.v (.mov (.t 11)))⟩,
      ⟨(some 139), none, .o (.v (.mov (.t 10)))⟩,
      ⟨(some 140), none, .o (.v (.len (.t 139)))⟩,
      ⟨(some 141), none, .o (.v (.bin .lss (.t 138) (.t 140)))⟩])
    (.cond (.t 141)
      .skip
      (.exit 4)))
    (.seq (.block 5 (.seq (.reg [⟨(some 145), none, .o (.v (.mov (.t 10)))⟩,
      ⟨(some 146), none, .o (.v (.mov (.t 11)))⟩,
      ⟨(some 147), none, .o (.v (.ixa (.t 145) (.t 146) 3))⟩,
      ⟨(some 148), none, .o (.v (.load (.t 147) (some 3)))⟩,
      ⟨(some 149), none, .o (.call (.c (.fn 20 [])) [(.t 148), (.c (.lit (.slice none 0 0)))])⟩,
      ⟨(some 144), none, .o (.v (.mov (.t 149)))⟩,
      ⟨(some 150), none, .o (.v (.ext (.t 144) 0))⟩,
      ⟨(some 151), none, .o (.v (.ext (.t 144) 1))⟩,
      ⟨(some 12), none, .o (.v (.mov (.t 150)))⟩,
      ⟨(some 13), none, .o (.v (.mov (.t 151)))⟩])
    (.seq (.reg [⟨(some 153), none, .o (.v (.mov (.t 10)))⟩,
      ⟨(some 154), none, .o (.v (.mov (.t 11)))⟩,
      ⟨(some 155), none, .o (.v (.ixa (.t 153) (.t 154) 3))⟩,
      ⟨(some 156), none, .o (.v (.load (.t 155) (some 3)))⟩,
      ⟨(some 157), none, .o (.call (.c (.fn 26 [])) [(.t 156)])⟩,
      ⟨(some 152), none, .o (.v (.mov (.t 157)))⟩,
      ⟨(some 158), none, .o (.v (.ext (.t 152) 0))⟩,
      ⟨(some 159), none, .o (.v (.ext (.t 152) 1))⟩,
      ⟨(some 14), none, .o (.v (.mov (.t 158)))⟩,
      ⟨(some 15), none, .o (.v (.mov (.t 159)))⟩])
    (.seq (.reg [⟨(some 161), none, .o (.v (.mov (.t 10)))⟩,
      ⟨(some 162), none, .o (.v (.mov (.t 11)))⟩,
      ⟨(some 163), none, .o (.v (.ixa (.t 161) (.t 162) 3))⟩,
      ⟨(some 164), none, .o (.v (.load (.t 163) (some 3)))⟩,
      ⟨(some 165), none, .o (.call (.c (.fn 24 [])) [(.t 164)])⟩,
      ⟨(some 160), none, .o (.v (.mov (.t 165)))⟩,
      ⟨(some 166), none, .o (.v (.ext (.t 160) 0))⟩,
      ⟨(some 167), none, .o (.v (.ext (.t 160) 1))⟩,
      ⟨(some 16), none, .o (.v (.mov (.t 166)))⟩,
      ⟨(some 17), none, .o (.v (.mov (.t 167)))⟩])
    (.seq (.reg [⟨(some 169), none, .o (.v (.mov (.t 10)))⟩,
      ⟨(some 170), none, .o (.v (.mov (.t 11)))⟩,
      ⟨(some 171), none, .o (.v (.ixa (.t 169) (.t 170) 3))⟩,
      ⟨(some 172), none, .o (.v (.load (.t 171) (some 3)))⟩,
      ⟨(some 173), none, .o (.bsl 3 1 [(.int .i64 (0))] [(0, 1, (.c (.int .i64 (9))))])⟩,
      ⟨(some 174), none, .o (.bld [(.lit (.slice none 0 0)), (.lit (.slice none 0 0)), (.lit (.bool false))] [(0, 1, (.t 173))])⟩,
      ⟨(some 175), none, .o (.call (.c (.fn 27 [])) [(.t 172), (.t 174)])⟩,
      ⟨(some 168), none, .o (.v (.mov (.t 175)))⟩,
      ⟨(some 176), none, .o (.v (.ext (.t 168) 0))⟩,
      ⟨(some 177), none, .o (.v (.ext (.t 168) 1))⟩,
      ⟨(some 18), none, .o (.v (.mov (.t 176)))⟩,
      ⟨(some 19), none, .o (.v (.mov (.t 177)))⟩])
    (.seq (.reg [⟨(some 179), none, .o (.v (.mov (.t 10)))⟩,
      ⟨(some 180), none, .o (.v (.mov (.t 11)))⟩,
      ⟨(some 181), none, .o (.v (.ixa (.t 179) (.t 180) 3))⟩,
      ⟨(some 182), none, .o (.v (.load (.t 181) (some 3)))⟩,
      ⟨(some 183), none, .o (.call (.c (.fn 31 [])) [(.t 182)])⟩,
      ⟨(some 178), none, .o (.v (.mov (.t 183)))⟩,
      ⟨(some 184), none, .o (.v (.ext (.t 178) 0))⟩,
      ⟨(some 185), none, .o (.v (.ext (.t 178) 1))⟩,
      ⟨(some 20), none, .o (.new 50 [(.lit (.slice none 0 0)), (.lit (.slice none 0 0)), (.lit (.bool false))])⟩,
      ⟨none, none, .o (.store 3 (.t 20) (.t 184))⟩,
      ⟨(some 21), none, .o (.v (.mov (.t 185)))⟩])
    (.seq (.reg [⟨(some 187), none, .o (.v (.mov (.t 10)))⟩,
      ⟨(some 188), none, .o (.v (.mov (.t 11)))⟩,
      ⟨(some 189), none, .o (.v (.ixa (.t 187) (.t 188) 3))⟩,
      ⟨(some 190), none, .o (.v (.load (.t 189) (some 3)))⟩,
      ⟨(some 191), none, .o (.call (.c (.fn 29 [])) [(.t 190)])⟩,
      ⟨(some 186), none, .o (.v (.mov (.t 191)))⟩,
      ⟨(some 192), none, .o (.v (.ext (.t 186) 0))⟩,
      ⟨(some 193), none, .o (.v (.ext (.t 186) 1))⟩,
      ⟨(some 22), none, .o (.v (.mov (.t 192)))⟩,
      ⟨(some 23), none, .o (.v (.mov (.t 193)))⟩])
    (.seq (.reg [⟨(some 194), none, .o (.v (.mov (.t 10)))⟩,
      ⟨(some 195), none, .o (.v (.mov (.t 11)))⟩,
      ⟨(some 196), none, .o (.v (.ixa (.t 194) (.t 195) 3))⟩,
      ⟨(some 197), none, .o (.v (.load (.t 196) (some 3)))⟩,
      ⟨(some 198), none, .o (.call (.c (.fn 22 [])) [(.t 197)])⟩,
      ⟨(some 199), none, .o (.v (.bin .neq (.t 198) (.c (.int .i64 (60)))))⟩,
      ⟨(some 200), none, .o (.v (.mov (.t 199)))⟩,
      ⟨(some 201), (some (200, false)), .o (.v (.mov (.t 13)))⟩,
      ⟨(some 202), (some (200, false)), .o (.v (.bin .neq (.t 201) (.c (.int .i64 (60)))))⟩,
      ⟨(some 203), none, .o (.v (.pick (.t 200) (.c (.lit (.bool true))) (.t 202)))⟩,
      ⟨(some 204), none, .o (.v (.mov (.t 203)))⟩,
      ⟨(some 205), (some (204, false)), .o (.v (.mov (.t 15)))⟩,
      ⟨(some 206), (some (204, false)), .o (.v (.bin .neq (.t 205) (.c (.int .i64 (60)))))⟩,
      ⟨(some 207), none, .o (.v (.pick (.t 204) (.c (.lit (.bool true))) (.t 206)))⟩,
      ⟨(some 208), none, .o (.v (.mov (.t 207)))⟩,
      ⟨(some 209), (some (208, false)), .o (.v (.mov (.t 17)))⟩,
      ⟨(some 210), (some (208, false)), .o (.v (.bin .neq (.t 209) (.c (.int .i64 (60)))))⟩,
      ⟨(some 211), none, .o (.v (.pick (.t 208) (.c (.lit (.bool true))) (.t 210)))⟩,
      ⟨(some 212), none, .o (.v (.mov (.t 211)))⟩,
      ⟨(some 213), (some (212, false)), .o (.v (.mov (.t 19)))⟩,
      ⟨(some 214), (some (212, false)), .o (.v (.bin .neq (.t 213) (.c (.int .i64 (60)))))⟩,
      ⟨(some 215), none, .o (.v (.pick (.t 212) (.c (.lit (.bool true))) (.t 214)))⟩,
      ⟨(some 216), none, .o (.v (.mov (.t 215)))⟩,
      ⟨(some 217), (some (216, false)), .o (.v (.mov (.t 21)))⟩,
      ⟨(some 218), (some (216, false)), .o (.v (.bin .neq (.t 217) (.c (.int .i64 (60)))))⟩,
      ⟨(some 219), none, .o (.v (.pick (.t 216) (.c (.lit (.bool true))) (.t 218)))⟩,
      ⟨(some 220), none, .o (.v (.mov (.t 219)))⟩,
      ⟨(some 221), (some (220, false)), .o (.v (.mov (.t 23)))⟩,
      ⟨(some 222), (some (220, false)), .o (.v (.bin .neq (.t 221) (.c (.int .i64 (60)))))⟩,
      ⟨(some 223), none, .o (.v (.pick (.t 220) (.c (.lit (.bool true))) (.t 222)))⟩])
    (.cond (.t 223)
      (.seq (.reg [⟨(some 0), none, .o (.v (.mov (.c (.lit (.bool false)))))⟩])
      .ret)
      .skip)))))))))
    (.reg [⟨(some 142), none, .o (.v (.mov (.t 11)))⟩,
      ⟨(some 143), none, .o (.v (.bin .add (.t 142) (.c (.int .i64 (1)))))⟩,
      ⟨(some 11), none, .o (.v (.mov (.t 143)))⟩]))))))
  (.seq (.reg [⟨(some 225), none, .o (.call (.c (.fn 34 [])) [(.c (.int .i64 (102))), (.c (.int .i64 (120)))])⟩,
    ⟨(some 226), none, .o (.bld [(.int .i64 (0)), (.int .i64 (0)), (.int .i64 (0)), (.int .i64 (0)), (.int .i64 (0)), (.int .i64 (0))] [(0, 1, (.c (.int .i64 (100)))), (1, 1, (.c (.int .i64 (500)))), (2, 1, (.c (.int .i64 (4)))), (3, 2, (.t 225)), (5, 1, (.c (.int .i64 (2))))])⟩,
    ⟨(some 227), none, .o (.call (.c (.fn 14 [])) [(.t 226)])⟩,
    ⟨(some 224), none, .o (.v (.mov (.t 227)))⟩,
    ⟨(some 228), none, .o (.v (.ext (.t 224) 0))⟩,
    ⟨(some 229), none, .o (.v (.ext (.t 224) 1))⟩,
    ⟨(some 24), none, .o (.v (.mov (.t 228)))⟩,
    ⟨(some 25), none, .o (.v (.mov (.t 229)))⟩])
  (.seq (.reg [⟨(some 231), none, .o (.bld [(.int .i64 (0)), (.int .i64 (0)), (.int .i64 (0)), (.int .i64 (0))] [(0, 1, (.c (.int .i64 (1000)))), (1, 1, (.c (.int .i64 (648000)))), (2, 1, (.c (.int .i64 (3)))), (3, 1, (.c (.int .i64 (50))))])⟩,
    ⟨(some 232), none, .o (.call (.c (.fn 17 [])) [(.t 231)])⟩,
    ⟨(some 230), none, .o (.v (.mov (.t 232)))⟩,
    ⟨(some 233), none, .o (.v (.ext (.t 230) 0))⟩,
    ⟨(some 234), none, .o (.v (.ext (.t 230) 1))⟩,
    ⟨(some 235), none, .o (.v (.ext (.t 230) 2))⟩,
    ⟨(some 26), none, .o (.new 23 [(.int .i64 (0)), (.int .i64 (0))])⟩,
    ⟨(some 27), none, .o (.new 23 [(.int .i64 (0)), (.int .i64 (0))])⟩,
    ⟨none, none, .o (.store 2 (.t 26) (.t 233))⟩,
    ⟨none, none, .o (.store 2 (.t 27) (.t 234))⟩,
    ⟨(some 28), none, .o (.v (.mov (.t 235)))⟩])
  (.seq (.drw [⟨[], 0, 1, [(⟨(some 237), none, .o (.call (.c (.fn 44 [])) [])⟩, .val 0 []),
    (⟨(some 238), none, .msl 3 1 [(.int .i64 (0))] (.c (.int .i64 (5))) (.c (.int .i64 (5)))⟩, .eff 0 []),
    (⟨(some 239), none, .o (.call (.c (.fn 20 [])) [(.t 237), (.t 238)])⟩, .val 1 []),
    (⟨(some 236), none, .o (.v (.mov (.t 239)))⟩, .val 1 []),
    (⟨(some 240), none, .o (.v (.ext (.t 236) 0))⟩, .val 1 []),
    (⟨(some 241), none, .o (.v (.ext (.t 236) 1))⟩, .val 1 []),
    (⟨(some 29), none, .o (.v (.mov (.t 240)))⟩, .val 1 [])],
    [],
    [⟨(some 30), none, .o (.v (.mov (.t 241)))⟩], none⟩,
    ⟨[], 0, 0, [(⟨(some 237), none, .o (.call (.c (.fn 44 [])) [])⟩, .val 0 []),
    (⟨(some 238), none, .msl 3 1 [(.int .i64 (0))] (.c (.int .i64 (5))) (.c (.int .i64 (5)))⟩, .val 0 []),
    (⟨(some 239), none, .o (.call (.c (.fn 20 [])) [(.t 237), (.t 238)])⟩, .val 0 []),
    (⟨(some 236), none, .o (.v (.mov (.t 239)))⟩, .val 0 []),
    (⟨(some 240), none, .o (.v (.ext (.t 236) 0))⟩, .val 0 []),
    (⟨(some 241), none, .o (.v (.ext (.t 236) 1))⟩, .val 0 []),
    (⟨(some 29), none, .o (.v (.mov (.t 240)))⟩, .val 0 [])],
    [],
    [⟨(some 30), none, .o (.v (.mov (.t 241)))⟩], none⟩])
  (.seq (.reg [⟨(some 243), none, .o (.call (.c (.fn 44 [])) [])⟩,
    ⟨(some 244), none, .o (.bsl 3 2 [(.int .i64 (0)), (.int .i64 (0))] [(0, 1, (.c (.int .i64 (1)))), (1, 1, (.c (.int .i64 (0))))])⟩,
    ⟨(some 245), none, .o (.bld [(.lit (.slice none 0 0)), (.lit (.slice none 0 0)), (.lit (.bool false))] [(0, 1, (.t 244))])⟩,
    ⟨(some 246), none, .o (.call (.c (.fn 27 [])) [(.t 243), (.t 245)])⟩,
    ⟨(some 242), none, .o (.v (.mov (.t 246)))⟩,
    ⟨(some 247), none, .o (.v (.ext (.t 242) 0))⟩,
    ⟨(some 248), none, .o (.v (.ext (.t 242) 1))⟩,
    ⟨(some 31), none, .o (.v (.mov (.t 247)))⟩,
    ⟨(some 32), none, .o (.v (.mov (.t 248)))⟩])
  (.seq (.reg [⟨(some 250), none, .o (.call (.c (.fn 44 [])) [])⟩,
    ⟨(some 251), none, .o (.bsl 3 1 [(.int .i64 (0))] [(0, 1, (.c (.int .i64 (0))))])⟩,
    ⟨(some 252), none, .o (.bld [(.lit (.slice none 0 0)), (.lit (.slice none 0 0)), (.lit (.bool false))] [(1, 1, (.t 251))])⟩,
    ⟨(some 253), none, .o (.call (.c (.fn 27 [])) [(.t 250), (.t 252)])⟩,
    ⟨(some 249), none, .o (.v (.mov (.t 253)))⟩,
    ⟨(some 254), none, .o (.v (.ext (.t 249) 0))⟩,
    ⟨(some 255), none, .o (.v (.ext (.t 249) 1))⟩,
    ⟨(some 33), none, .o (.v (.mov (.t 254)))⟩,
    ⟨(some 34), none, .o (.v (.mov (.t 255)))⟩])
  (.seq (.reg [⟨(some 257), none, .o (.call (.c (.fn 44 [])) [])⟩,
    ⟨(some 258), none, .o (.call (.c (.fn 31 [])) [(.t 257)])⟩,
    ⟨(some 256), none, .o (.v (.mov (.t 258)))⟩,
    ⟨(some 259), none, .o (.v (.ext (.t 256) 0))⟩,
    ⟨(some 260), none, .o (.v (.ext (.t 256) 1))⟩,
    ⟨(some 35), none, .o (.new 50 [(.lit (.slice none 0 0)), (.lit (.slice none 0 0)), (.lit (.bool false))])⟩,
    ⟨none, none, .o (.store 3 (.t 35) (.t 259))⟩,
    ⟨(some 36), none, .o (.v (.mov (.t 260)))⟩])
  (.seq (.reg [⟨(some 262), none, .o (.call (.c (.fn 44 [])) [])⟩,
    ⟨(some 263), none, .o (.call (.c (.fn 29 [])) [(.t 262)])⟩,
    ⟨(some 261), none, .o (.v (.mov (.t 263)))⟩,
    ⟨(some 264), none, .o (.v (.ext (.t 261) 0))⟩,
    ⟨(some 265), none, .o (.v (.ext (.t 261) 1))⟩,
    ⟨(some 37), none, .o (.v (.mov (.t 264)))⟩,
    ⟨(some 38), none, .o (.v (.mov (.t 265)))⟩])
  (.seq (.reg [⟨(some 267), none, .o (.call (.c (.fn 44 [])) [])⟩,
    ⟨(some 268), none, .o (.call (.c (.fn 34 [])) [(.c (.int .i64 (219000))), (.c (.int .i64 (219000)))])⟩,
    ⟨(some 269), none, .o (.call (.c (.fn 40 [])) [(.t 267), (.c (.int .i64 (1))), (.t 268)])⟩,
    ⟨(some 270), none, .o (.call (.c (.fn 26 [])) [(.t 269)])⟩,
    ⟨(some 266), none, .o (.v (.mov (.t 270)))⟩,
    ⟨(some 271), none, .o (.v (.ext (.t 266) 0))⟩,
    ⟨(some 272), none, .o (.v (.ext (.t 266) 1))⟩,
    ⟨(some 39), none, .o (.v (.mov (.t 271)))⟩,
    ⟨(some 40), none, .o (.v (.mov (.t 272)))⟩])
  (.seq (.seq (.reg [⟨(some 273), none, .o (.v (.mov (.t 25)))⟩,
    ⟨(some 274), none, .o (.v (.bin .neq (.t 273) (.c (.int .i64 (4)))))⟩,
    ⟨(some 275), none, .o (.v (.mov (.t 274)))⟩,
    ⟨(some 276), (some (275, false)), .o (.v (.mov (.t 28)))⟩,
    ⟨(some 277), (some (275, false)), .o (.v (.bin .neq (.t 276) (.c (.int .i64 (4)))))⟩,
    ⟨(some 278), none, .o (.v (.pick (.t 275) (.c (.lit (.bool true))) (.t 277)))⟩,
    ⟨(some 279), none, .o (.v (.mov (.t 278)))⟩,
    ⟨(some 280), (some (279, false)), .o (.v (.mov (.t 30)))⟩,
    ⟨(some 281), (some (279, false)), .o (.v (.bin .neq (.t 280) (.c (.int .i64 (61)))))⟩,
    ⟨(some 282), none, .o (.v (.pick (.t 279) (.c (.lit (.bool true))) (.t 281)))⟩,
    ⟨(some 283), none, .o (.v (.mov (.t 282)))⟩,
    ⟨(some 284), (some (283, false)), .o (.v (.mov (.t 32)))⟩,
    ⟨(some 285), (some (283, false)), .o (.v (.bin .neq (.t 284) (.c (.int .i64 (61)))))⟩,
    ⟨(some 286), none, .o (.v (.pick (.t 283) (.c (.lit (.bool true))) (.t 285)))⟩,
    ⟨(some 287), none, .o (.v (.mov (.t 286)))⟩,
    ⟨(some 288), (some (287, false)), .o (.v (.mov (.t 34)))⟩,
    ⟨(some 289), (some (287, false)), .o (.v (.bin .neq (.t 288) (.c (.int .i64 (61)))))⟩,
    ⟨(some 290), none, .o (.v (.pick (.t 287) (.c (.lit (.bool true))) (.t 289)))⟩,
    ⟨(some 291), none, .o (.v (.mov (.t 290)))⟩,
    ⟨(some 292), (some (291, false)), .o (.v (.mov (.t 36)))⟩,
    ⟨(some 293), (some (291, false)), .o (.v (.bin .neq (.t 292) (.c (.int .i64 (4)))))⟩,
    ⟨(some 294), none, .o (.v (.pick (.t 291) (.c (.lit (.bool true))) (.t 293)))⟩,
    ⟨(some 295), none, .o (.v (.mov (.t 294)))⟩,
    ⟨(some 296), (some (295, false)), .o (.v (.mov (.t 38)))⟩,
    ⟨(some 297), (some (295, false)), .o (.v (.bin .neq (.t 296) (.c (.int .i64 (4)))))⟩,
    ⟨(some 298), none, .o (.v (.pick (.t 295) (.c (.lit (.bool true))) (.t 297)))⟩,
    ⟨(some 299), none, .o (.v (.mov (.t 298)))⟩,
    ⟨(some 300), (some (299, false)), .o (.v (.mov (.t 40)))⟩,
    ⟨(some 301), (some (299, false)), .o (.v (.bin .neq (.t 300) (.c (.int .i64 (4)))))⟩,
    ⟨(some 302), none, .o (.v (.pick (.t 299) (.c (.lit (.bool true))) (.t 301)))⟩])
  (.cond (.t 302)
    (.seq (.reg [⟨(some 0), none, .o (.v (.mov (.c (.lit (.bool false)))))⟩])
    .ret)
    .skip))
  (.seq (.reg [⟨(some 304), none, .o (.call (.c (.fn 34 [])) [(.c (.int .i64 (0))), (.c (.int .i64 (700000)))])⟩,
    ⟨(some 305), none, .o (.bld [(.int .i64 (0)), (.int .i64 (0)), (.int .i64 (0)), (.int .i64 (0)), (.int .i64 (0)), (.int .i64 (0))] [(2, 1, (.c (.int .i64 (2)))), (3, 2, (.t 304))])⟩,
    ⟨(some 306), none, .o (.call (.c (.fn 14 [])) [(.t 305)])⟩,
    ⟨(some 303), none, .o (.v (.mov (.t 306)))⟩,
    ⟨(some 307), none, .o (.v (.ext (.t 303) 0))⟩,
    ⟨(some 308), none, .o (.v (.ext (.t 303) 1))⟩,
    ⟨(some 41), none, .o (.v (.mov (.t 307)))⟩,
    ⟨(some 25), none, .o (.v (.mov (.t 308)))⟩])
  (.seq (.reg [⟨(some 310), none, .o (.call (.c (.fn 44 [])) [])⟩,
    ⟨(some 311), none, .o (.bld [(.lit (.slice none 0 0)), (.lit (.slice none 0 0)), (.lit (.bool false))] [])⟩,
    ⟨(some 312), none, .o (.call (.c (.fn 27 [])) [(.t 310), (.t 311)])⟩,
    ⟨(some 309), none, .o (.v (.mov (.t 312)))⟩,
    ⟨(some 313), none, .o (.v (.ext (.t 309) 0))⟩,
    ⟨(some 314), none, .o (.v (.ext (.t 309) 1))⟩,
    ⟨(some 42), none, .o (.v (.mov (.t 313)))⟩,
    ⟨(some 28), none, .o (.v (.mov (.t 314)))⟩])
  (.seq (.reg [⟨(some 316), none, .o (.call (.c (.fn 44 [])) [])⟩,
    ⟨(some 317), none, .o (.bsl 3 6 [(.int .i64 (0)), (.int .i64 (0)), (.int .i64 (0)), (.int .i64 (0)), (.int .i64 (0)), (.int .i64 (0))] [(0, 1, (.c (.int .i64 (200000)))), (1, 1, (.c (.int .i64 (220000)))), (2, 1, (.c (.int .i64 (228001)))), (3, 1, (.c (.int .i64 (210000)))), (4, 1, (.c (.int .i64 (218000)))), (5, 1, (.c (.int .i64 (220000))))])⟩,
    ⟨(some 318), none, .o (.call (.c (.fn 20 [])) [(.t 316), (.t 317)])⟩,
    ⟨(some 315), none, .o (.v (.mov (.t 318)))⟩,
    ⟨(some 319), none, .o (.v (.ext (.t 315) 0))⟩,
    ⟨(some 320), none, .o (.v (.ext (.t 315) 1))⟩,
    ⟨(some 43), none, .o (.v (.mov (.t 319)))⟩,
    ⟨(some 30), none, .o (.v (.mov (.t 320)))⟩])
  (.seq (.reg [⟨(some 322), none, .o (.call (.c (.fn 44 [])) [])⟩,
    ⟨(some 323), none, .o (.bsl 3 6 [(.int .i64 (0)), (.int .i64 (0)), (.int .i64 (0)), (.int .i64 (0)), (.int .i64 (0)), (.int .i64 (0))] [(0, 1, (.c (.int .i64 (200005)))), (1, 1, (.c (.int .i64 (220000)))), (2, 1, (.c (.int .i64 (227995)))), (3, 1, (.c (.int .i64 (210000)))), (4, 1, (.c (.int .i64 (218000)))), (5, 1, (.c (.int .i64 (220000))))])⟩,
    ⟨(some 324), none, .o (.call (.c (.fn 20 [])) [(.t 322), (.t 323)])⟩,
    ⟨(some 321), none, .o (.v (.mov (.t 324)))⟩,
    ⟨(some 325), none, .o (.v (.ext (.t 321) 0))⟩,
    ⟨(some 326), none, .o (.v (.ext (.t 321) 1))⟩,
    ⟨(some 44), none, .o (.v (.mov (.t 325)))⟩,
    ⟨(some 32), none, .o (.v (.mov (.t 326)))⟩])
  (.seq (.reg [⟨(some 328), none, .o (.call (.c (.fn 45 [])) [(.c (.lit (.bool false)))])⟩,
    ⟨(some 329), none, .o (.call (.c (.fn 24 [])) [(.t 328)])⟩,
    ⟨(some 327), none, .o (.v (.mov (.t 329)))⟩,
    ⟨(some 330), none, .o (.v (.ext (.t 327) 0))⟩,
    ⟨(some 331), none, .o (.v (.ext (.t 327) 1))⟩,
    ⟨(some 45), none, .o (.v (.mov (.t 330)))⟩,
    ⟨(some 34), none, .o (.v (.mov (.t 331)))⟩])
  (.seq (.reg [⟨(some 332), none, .o (.call (.c (.fn 44 [])) [])⟩,
    ⟨(some 46), none, .o (.new 40 [(.int .i64 (0)), (.lit (.slice none 0 0)), (.lit (.slice none 0 0))])⟩,
    ⟨none, none, .o (.store 3 (.t 46) (.t 332))⟩])
  (.seq (.reg [⟨(some 333), none, .o (.bsl 4 5 [(.lit (.bool false)), (.lit (.bool false)), (.lit (.bool false)), (.lit (.bool false)), (.lit (.bool false))] [(0, 1, (.c (.lit (.bool false)))), (1, 1, (.c (.lit (.bool false)))), (2, 1, (.c (.lit (.bool false)))), (3, 1, (.c (.lit (.bool false)))), (4, 1, (.c (.lit (.bool true))))])⟩,
    ⟨(some 334), none, .o (.v (.off (.t 46) 1))⟩,
    ⟨none, none, .o (.store 1 (.t 334) (.t 333))⟩])
  (.seq (.reg [⟨(some 336), none, .o (.v (.load (.t 46) (some 3)))⟩,
    ⟨(some 337), none, .o (.call (.c (.fn 24 [])) [(.t 336)])⟩,
    ⟨(some 335), none, .o (.v (.mov (.t 337)))⟩,
    ⟨(some 338), none, .o (.v (.ext (.t 335) 0))⟩,
    ⟨(some 339), none, .o (.v (.ext (.t 335) 1))⟩,
    ⟨(some 36), none, .o (.v (.mov (.t 339)))⟩])
  (.seq (.reg [⟨(some 341), none, .o (.v (.load (.t 46) (some 3)))⟩,
    ⟨(some 342), none, .o (.bsl 3 1 [(.int .i64 (0))] [(0, 1, (.c (.int .i64 (4))))])⟩,
    ⟨(some 343), none, .o (.bld [(.lit (.slice none 0 0)), (.lit (.slice none 0 0)), (.lit (.bool false))] [(1, 1, (.t 342))])⟩,
    ⟨(some 344), none, .o (.call (.c (.fn 27 [])) [(.t 341), (.t 343)])⟩,
    ⟨(some 340), none, .o (.v (.mov (.t 344)))⟩,
    ⟨(some 345), none, .o (.v (.ext (.t 340) 0))⟩,
    ⟨(some 346), none, .o (.v (.ext (.t 340) 1))⟩,
    ⟨(some 47), none, .o (.v (.mov (.t 345)))⟩,
    ⟨(some 38), none, .o (.v (.mov (.t 346)))⟩])
  (.seq (.reg [⟨(some 348), none, .o (.bld [(.int .i64 (0)), (.int .i64 (0)), (.int .i64 (0)), (.int .i64 (0))] [(0, 1, (.c (.int .i64 (5)))), (1, 1, (.c (.int .i64 (647985))))])⟩,
    ⟨(some 349), none, .o (.call (.c (.fn 17 [])) [(.t 348)])⟩,
    ⟨(some 347), none, .o (.v (.mov (.t 349)))⟩,
    ⟨(some 350), none, .o (.v (.ext (.t 347) 0))⟩,
    ⟨(some 351), none, .o (.v (.ext (.t 347) 1))⟩,
    ⟨(some 352), none, .o (.v (.ext (.t 347) 2))⟩,
    ⟨(some 48), none, .o (.new 23 [(.int .i64 (0)), (.int .i64 (0))])⟩,
    ⟨(some 49), none, .o (.new 23 [(.int .i64 (0)), (.int .i64 (0))])⟩,
    ⟨none, none, .o (.store 2 (.t 48) (.t 350))⟩,
    ⟨none, none, .o (.store 2 (.t 49) (.t 351))⟩,
    ⟨(some 40), none, .o (.v (.mov (.t 352)))⟩])
  (.seq (.drw [⟨[25, 41, 28, 42, 30, 43, 32, 44, 34, 45, 36, 38, 47, 40, 48], 0, 0, [(⟨(some 353), none, .o (.v (.mov (.t 25)))⟩, .val 0 []),
    (⟨(some 354), none, .o (.v (.bin .eql (.t 353) (.c (.int .i64 (0)))))⟩, .val 0 []),
    (⟨(some 355), none, .o (.v (.mov (.t 354)))⟩, .val 0 []),
    (⟨(some 356), (some (355, true)), .o (.v (.mov (.t 41)))⟩, .val 0 []),
    (⟨(some 357), (some (355, true)), .o (.call (.c (.fn 34 [])) [(.c (.int .i64 (0))), (.c (.int .i64 (0)))])⟩, .val 0 []),
    (⟨(some 358), (some (355, true)), .o (.call (.c (.fn 34 [])) [(.c (.int .i64 (648000))), (.c (.int .i64 (648000)))])⟩, .val 0 []),
    (⟨(some 359), (some (355, true)), .o (.bsl 23 2 [(.int .i64 (0)), (.int .i64 (0)), (.int .i64 (0)), (.int .i64 (0))] [(0, 2, (.t 357)), (2, 2, (.t 358))])⟩, .val 0 []),
    (⟨(some 360), (some (355, true)), .o (.call (.c (.fn 16 [])) [(.t 356), (.t 359)])⟩, .val 0 []),
    (⟨(some 361), none, .o (.v (.pick (.t 355) (.t 360) (.c (.lit (.bool false)))))⟩, .val 0 []),
    (⟨(some 362), none, .o (.v (.mov (.t 361)))⟩, .val 0 []),
    (⟨(some 363), (some (362, true)), .o (.v (.mov (.t 28)))⟩, .val 0 []),
    (⟨(some 364), (some (362, true)), .o (.v (.bin .eql (.t 363) (.c (.int .i64 (0)))))⟩, .val 0 []),
    (⟨(some 365), none, .o (.v (.pick (.t 362) (.t 364) (.c (.lit (.bool false)))))⟩, .val 0 []),
    (⟨(some 366), none, .o (.v (.mov (.t 365)))⟩, .val 0 []),
    (⟨(some 367), (some (366, true)), .o (.v (.mov (.t 42)))⟩, .val 0 []),
    (⟨(some 368), (some (366, true)), .o (.v (.not (.t 367)))⟩, .val 0 []),
    (⟨(some 369), none, .o (.v (.pick (.t 366) (.t 368) (.c (.lit (.bool false)))))⟩, .val 0 []),
    (⟨(some 370), none, .o (.v (.mov (.t 369)))⟩, .val 0 []),
    (⟨(some 371), (some (370, true)), .o (.v (.mov (.t 30)))⟩, .val 0 []),
    (⟨(some 372), (some (370, true)), .o (.v (.bin .eql (.t 371) (.c (.int .i64 (0)))))⟩, .val 0 []),
    (⟨(some 373), none, .o (.v (.pick (.t 370) (.t 372) (.c (.lit (.bool false)))))⟩, .val 0 []),
    (⟨(some 374), none, .o (.v (.mov (.t 373)))⟩, .val 0 []),
    (⟨(some 375), (some (374, true)), .o (.v (.mov (.t 43)))⟩, .val 0 []),
    (⟨(some 376), (some (374, true)), .o (.v (.not (.t 375)))⟩, .val 0 []),
    (⟨(some 377), none, .o (.v (.pick (.t 374) (.t 376) (.c (.lit (.bool false)))))⟩, .val 0 []),
    (⟨(some 378), none, .o (.v (.mov (.t 377)))⟩, .val 0 []),
    (⟨(some 379), (some (378, true)), .o (.v (.mov (.t 32)))⟩, .val 0 []),
    (⟨(some 380), (some (378, true)), .o (.v (.bin .eql (.t 379) (.c (.int .i64 (0)))))⟩, .val 0 []),
    (⟨(some 381), none, .o (.v (.pick (.t 378) (.t 380) (.c (.lit (.bool false)))))⟩, .val 0 []),
    (⟨(some 382), none, .o (.v (.mov (.t 381)))⟩, .val 0 []),
    (⟨(some 383), (some (382, true)), .o (.v (.mov (.t 44)))⟩, .val 0 []),
    (⟨(some 384), none, .o (.v (.pick (.t 382) (.t 383) (.c (.lit (.bool false)))))⟩, .val 0 []),
    (⟨(some 385), none, .o (.v (.mov (.t 384)))⟩, .val 0 []),
    (⟨(some 386), (some (385, true)), .o (.v (.mov (.t 34)))⟩, .val 0 []),
    (⟨(some 387), (some (385, true)), .o (.v (.bin .eql (.t 386) (.c (.int .i64 (0)))))⟩, .val 0 []),
    (⟨(some 388), none, .o (.v (.pick (.t 385) (.t 387) (.c (.lit (.bool false)))))⟩, .val 0 []),
    (⟨(some 389), none, .o (.v (.mov (.t 388)))⟩, .val 0 []),
    (⟨(some 390), (some (389, true)), .o (.v (.mov (.t 45)))⟩, .val 0 []),
    (⟨(some 391), (some (389, true)), .o (.v (.len (.t 390)))⟩, .val 0 []),
    (⟨(some 392), (some (389, true)), .o (.v (.bin .eql (.t 391) (.c (.int .i64 (9)))))⟩, .val 0 []),
    (⟨(some 393), none, .o (.v (.pick (.t 389) (.t 392) (.c (.lit (.bool false)))))⟩, .val 0 []),
    (⟨(some 394), none, .o (.v (.mov (.t 393)))⟩, .val 0 []),
    (⟨(some 395), (some (394, true)), .o (.v (.mov (.t 45)))⟩, .val 0 []),
    (⟨(some 396), (some (394, true)), .o (.v (.ixa (.t 395) (.c (.int .i64 (0))) 2))⟩, .val 0 []),
    (⟨(some 397), (some (394, true)), .o (.v (.load (.t 396) (some 2)))⟩, .val 0 []),
    (⟨(some 398), (some (394, true)), .o (.call (.c (.fn 34 [])) [(.c (.int .i64 (432000))), (.c (.int .i64 (432010)))])⟩, .val 0 []),
    (⟨(some 399), (some (394, true)), .o (.v (.eqs [(some .i64), (some .i64)] false (.t 397) (.t 398)))⟩, .val 0 []),
    (⟨(some 400), none, .o (.v (.pick (.t 394) (.t 399) (.c (.lit (.bool false)))))⟩, .val 0 []),
    (⟨(some 401), none, .o (.v (.mov (.t 400)))⟩, .val 0 []),
    (⟨(some 402), (some (401, true)), .o (.v (.mov (.t 36)))⟩, .val 0 []),
    (⟨(some 403), (some (401, true)), .o (.v (.bin .eql (.t 402) (.c (.int .i64 (4)))))⟩, .val 0 []),
    (⟨(some 404), none, .o (.v (.pick (.t 401) (.t 403) (.c (.lit (.bool false)))))⟩, .val 0 []),
    (⟨(some 405), none, .o (.v (.mov (.t 404)))⟩, .val 0 []),
    (⟨(some 406), (some (405, true)), .o (.v (.mov (.t 38)))⟩, .val 0 []),
    (⟨(some 407), (some (405, true)), .o (.v (.bin .eql (.t 406) (.c (.int .i64 (0)))))⟩, .val 0 []),
    (⟨(some 408), none, .o (.v (.pick (.t 405) (.t 407) (.c (.lit (.bool false)))))⟩, .val 0 []),
    (⟨(some 409), none, .o (.v (.mov (.t 408)))⟩, .val 0 []),
    (⟨(some 410), (some (409, true)), .o (.v (.mov (.t 47)))⟩, .val 0 []),
    (⟨(some 411), none, .o (.v (.pick (.t 409) (.t 410) (.c (.lit (.bool false)))))⟩, .val 0 []),
    (⟨(some 412), none, .o (.v (.mov (.t 411)))⟩, .val 0 []),
    (⟨(some 413), (some (412, true)), .o (.v (.mov (.t 40)))⟩, .val 0 []),
    (⟨(some 414), (some (412, true)), .o (.v (.bin .eql (.t 413) (.c (.int .i64 (4)))))⟩, .val 0 []),
    (⟨(some 415), none, .o (.v (.pick (.t 412) (.t 414) (.c (.lit (.bool false)))))⟩, .val 0 []),
    (⟨(some 416), none, .o (.v (.mov (.t 415)))⟩, .val 0 []),
    (⟨(some 417), (some (416, true)), .o (.v (.load (.t 48) (some 2)))⟩, .val 0 []),
    (⟨(some 418), (some (416, true)), .o (.bld [(.int .i64 (0)), (.int .i64 (0))] [])⟩, .val 0 [])],
    [],
    [⟨(some 419), (some (416, true)), .o (.v (.eqs [(some .i64), (some .i64)] false (.t 417) (.t 418)))⟩,
    ⟨(some 420), none, .o (.v (.pick (.t 416) (.t 419) (.c (.lit (.bool false)))))⟩,
    ⟨(some 421), none, .o (.v (.mov (.t 420)))⟩,
    ⟨(some 422), none, .o (.v (.pick (.t 421) (.c (.lit (.bool true))) (.c (.lit (.bool false)))))⟩,
    ⟨(some 423), none, .o (.v (.mov (.t 422)))⟩,
    ⟨(some 424), (some (423, true)), .o (.call (.c (.fn 19 [])) [])⟩,
    ⟨(some 425), none, .o (.v (.pick (.t 423) (.t 424) (.c (.lit (.bool false)))))⟩,
    ⟨(some 0), none, .o (.v (.mov (.t 425)))⟩], none⟩])
  .ret))))))))))))))))))))))))))))))))
theorem h13 : FdOk Try.prog 13 ⟨g13, [.t 0], 426, [], false⟩ := .of Try.func13 (by simp [Try.f13]) (by kernel_rfl)
/-- octant/rounds.Repeat -/
def g14 : RC :=
  (.seq (.reg [⟨(some 1), none, .o (.box 25 (.t 0))⟩,
    ⟨(some 2), none, .o (.v (.mov (.c (.lit (.slice none 0 0)))))⟩,
    ⟨(some 3), none, .o (.v (.mov (.c (.int .i64 (0)))))⟩])
  (.seq (.reg [⟨(some 6), none, .o (.v (.load (.t 1) (some 6)))⟩,
    ⟨(some 7), none, .o (.bld [(.int .i64 (0)), (.int .i64 (0)), (.int .i64 (0)), (.int .i64 (0)), (.int .i64 (0)), (.int .i64 (0))] [(0, 6, (.t 6))])⟩,
    ⟨(some 4), none, .o (.new 82 [(.int .i64 (0)), (.int .i64 (0)), (.int .i64 (0)), (.int .i64 (0)), (.int .i64 (0)), (.int .i64 (0))])⟩,
    ⟨none, none, .o (.store 6 (.t 4) (.t 7))⟩])
  (.seq (.seq (.reg [⟨(some 8), none, .o (.v (.load (.t 4) (some 6)))⟩,
    ⟨(some 9), none, .o (.call (.c (.fn 46 [])) [(.t 8)])⟩,
    ⟨(some 10), none, .o (.v (.not (.t 9)))⟩])
  (.cond (.t 10)
    (.seq (.reg [⟨(some 2), none, .o (.v (.mov (.c (.lit (.slice none 0 0)))))⟩,
      ⟨(some 3), none, .o (.v (.mov (.c (.int .i64 (62)))))⟩])
    .ret)
    .skip))
  (.seq (.reg [⟨(some 11), none, .o (.v (.load (.t 4) (some 6)))⟩,
    ⟨(some 12), none, .o (.call (.c (.fn 47 [])) [(.t 11)])⟩,
    ⟨(some 5), none, .o (.v (.mov (.t 12)))⟩])
  (.seq (.seq (.reg [⟨(some 13), none, .o (.v (.mov (.t 5)))⟩,
    ⟨(some 14), none, .o (.v (.len (.t 13)))⟩,
    ⟨(some 15), none, .o (.v (.bin .eql (.t 14) (.c (.int .i64 (0)))))⟩])
  (.cond (.t 15)
    (.seq (.reg [⟨(some 2), none, .o (.v (.mov (.c (.lit (.slice none 0 0)))))⟩,
      ⟨(some 3), none, .o (.v (.mov (.c (.int .i64 (4)))))⟩])
    .ret)
    .skip))
  (.seq (.reg [⟨(some 16), none, .o (.v (.mov (.t 5)))⟩,
    ⟨(some 2), none, .o (.v (.mov (.t 16)))⟩,
    ⟨(some 3), none, .o (.v (.mov (.c (.int .i64 (0)))))⟩])
  .ret))))))
theorem h14 : FdOk Try.prog 14 ⟨g14, [.t 2, .t 3], 17, [], false⟩ := .of Try.func14 (by simp [Try.f14]) (by kernel_rfl)
/-- octant/octantref00.SameSpans -/
def g16 : RC :=
  (.seq (.reg [⟨(some 4), none, .o (.v (.mov (.c (.lit (.bool false)))))⟩])
  (.seq (.seq (.reg [⟨(some 6), none, .o (.v (.mov (.t 0)))⟩,
    ⟨(some 7), none, .o (.v (.len (.t 6)))⟩,
    ⟨(some 8), none, .o (.v (.mov (.t 1)))⟩,
    ⟨(some 9), none, .o (.v (.len (.t 8)))⟩,
    ⟨(some 10), none, .o (.v (.bin .neq (.t 7) (.t 9)))⟩])
  (.cond (.t 10)
    (.seq (.reg [⟨(some 4), none, .o (.v (.mov (.c (.lit (.bool false)))))⟩])
    .ret)
    .skip))
  (.seq (.seq (.reg [⟨(some 5), none, .o (.v (.mov (.c (.int .i64 (0)))))⟩])
  (.block 0 (.loop
    (.seq (.seq (.reg [⟨(some 11), none, .o (.v (.mov (.t 5)))⟩,
      ⟨(some 12), none, .o (.v (.mov (.t 0)))⟩,
      ⟨(some 13), none, .o (.v (.len (.t 12)))⟩,
      ⟨(some 14), none, .o (.v (.bin .lss (.t 11) (.t 13)))⟩])
    (.cond (.t 14)
      .skip
      (.exit 0)))
    (.seq (.block 1 (.seq (.drw [⟨[], 0, 0, [(⟨(some 17), none, .o (.v (.mov (.t 0)))⟩, .val 0 []),
      (⟨(some 18), none, .o (.v (.mov (.t 5)))⟩, .val 0 []),
      (⟨(some 19), none, .o (.v (.ixa (.t 17) (.t 18) 2))⟩, .val 0 []),
      (⟨(some 20), none, .o (.v (.load (.t 19) (some 2)))⟩, .val 0 []),
      (⟨(some 21), none, .o (.v (.mov (.t 1)))⟩, .val 0 []),
      (⟨(some 22), none, .o (.v (.mov (.t 5)))⟩, .val 0 []),
      (⟨(some 23), none, .o (.v (.ixa (.t 21) (.t 22) 2))⟩, .val 0 []),
      (⟨(some 24), none, .o (.v (.load (.t 23) (some 2)))⟩, .val 0 [])],
      [],
      [⟨(some 25), none, .o (.v (.eqs [(some .i64), (some .i64)] true (.t 20) (.t 24)))⟩], none⟩])
    (.cond (.t 25)
      (.seq (.reg [⟨(some 4), none, .o (.v (.mov (.c (.lit (.bool false)))))⟩])
      .ret)
      .skip)))
    (.reg [⟨(some 15), none, .o (.v (.mov (.t 5)))⟩,
      ⟨(some 16), none, .o (.v (.bin .add (.t 15) (.c (.int .i64 (1)))))⟩,
      ⟨(some 5), none, .o (.v (.mov (.t 16)))⟩]))))))
  (.seq (.reg [⟨(some 4), none, .o (.v (.mov (.c (.lit (.bool true)))))⟩])
  .ret))))
theorem h16 : FdOk Try.prog 16 ⟨g16, [.t 4], 26, [], false⟩ := .of Try.func16 (by simp [Try.f16]) (by kernel_rfl)
/-- octant/rounds.Faces -/
def g17 : RC :=
  (.seq (.reg [⟨(some 1), none, .o (.box 27 (.t 0))⟩,
    ⟨(some 2), none, .o (.new 23 [(.int .i64 (0)), (.int .i64 (0))])⟩,
    ⟨(some 3), none, .o (.new 23 [(.int .i64 (0)), (.int .i64 (0))])⟩,
    ⟨(some 4), none, .o (.v (.mov (.c (.int .i64 (0)))))⟩])
  (.seq (.reg [⟨(some 6), none, .o (.v (.load (.t 1) (some 4)))⟩,
    ⟨(some 7), none, .o (.bld [(.int .i64 (0)), (.int .i64 (0)), (.int .i64 (0)), (.int .i64 (0))] [(0, 4, (.t 6))])⟩,
    ⟨(some 5), none, .o (.new 87 [(.int .i64 (0)), (.int .i64 (0)), (.int .i64 (0)), (.int .i64 (0))])⟩,
    ⟨none, none, .o (.store 4 (.t 5) (.t 7))⟩])
  (.seq (.seq (.reg [⟨(some 8), none, .o (.v (.load (.t 5) (some 4)))⟩,
    ⟨(some 9), none, .o (.call (.c (.fn 52 [])) [(.t 8)])⟩,
    ⟨(some 10), none, .o (.v (.not (.t 9)))⟩])
  (.cond (.t 10)
    (.seq (.reg [⟨(some 11), none, .o (.bld [(.int .i64 (0)), (.int .i64 (0))] [])⟩,
      ⟨(some 12), none, .o (.bld [(.int .i64 (0)), (.int .i64 (0))] [])⟩,
      ⟨none, none, .o (.store 2 (.t 2) (.t 11))⟩,
      ⟨none, none, .o (.store 2 (.t 3) (.t 12))⟩,
      ⟨(some 4), none, .o (.v (.mov (.c (.int .i64 (62)))))⟩])
    .ret)
    .skip))
  (.seq (.reg [⟨(some 13), none, .o (.v (.load (.t 5) (some 4)))⟩,
    ⟨(some 14), none, .o (.call (.c (.fn 53 [])) [(.t 13)])⟩,
    ⟨none, none, .o (.store 2 (.t 3) (.t 14))⟩])
  (.seq (.seq (.drw [⟨[], 0, 1, [(⟨(some 15), none, .o (.v (.load (.t 3) (some 2)))⟩, .val 0 []),
    (⟨(some 16), none, .o (.call (.c (.fn 54 [])) [])⟩, .eff 0 [])],
    [],
    [⟨(some 17), none, .o (.v (.eqs [(some .i64), (some .i64)] false (.t 15) (.t 16)))⟩], none⟩])
  (.cond (.t 17)
    (.seq (.reg [⟨(some 18), none, .o (.bld [(.int .i64 (0)), (.int .i64 (0))] [])⟩,
      ⟨(some 19), none, .o (.bld [(.int .i64 (0)), (.int .i64 (0))] [])⟩,
      ⟨none, none, .o (.store 2 (.t 2) (.t 18))⟩,
      ⟨none, none, .o (.store 2 (.t 3) (.t 19))⟩,
      ⟨(some 4), none, .o (.v (.mov (.c (.int .i64 (4)))))⟩])
    .ret)
    .skip))
  (.seq (.drw [⟨[], 0, 2, [(⟨(some 20), none, .o (.v (.load (.t 5) (some 4)))⟩, .val 0 []),
    (⟨(some 21), none, .o (.v (.load (.t 3) (some 2)))⟩, .val 0 []),
    (⟨(some 22), none, .o (.call (.c (.fn 55 [])) [(.t 20), (.t 21)])⟩, .efs 0 [] []),
    (⟨(some 23), none, .o (.v (.load (.t 3) (some 2)))⟩, .pur),
    (⟨none, none, .o (.store 2 (.t 2) (.t 22))⟩, .efs 1 [] [])],
    [],
    [⟨none, none, .o (.store 2 (.t 3) (.t 23))⟩,
    ⟨(some 4), none, .o (.v (.mov (.c (.int .i64 (0)))))⟩], none⟩,
    ⟨[5, 3, 2], 0, 1, [(⟨(some 20), none, .o (.v (.load (.t 5) (some 4)))⟩, .val 0 []),
    (⟨(some 21), none, .o (.v (.load (.t 3) (some 2)))⟩, .val 0 []),
    (⟨(some 22), none, .o (.call (.c (.fn 55 [])) [(.t 20), (.t 21)])⟩, .val 0 []),
    (⟨(some 23), none, .o (.v (.load (.t 3) (some 2)))⟩, .prd [2]),
    (⟨none, none, .o (.store 2 (.t 2) (.t 22))⟩, .efs 0 [] [])],
    [],
    [⟨none, none, .o (.store 2 (.t 3) (.t 23))⟩,
    ⟨(some 4), none, .o (.v (.mov (.c (.int .i64 (0)))))⟩], none⟩])
  .ret))))))
theorem h17 : FdOk Try.prog 17 ⟨g17, [.c 2 (some 2), .c 3 (some 2), .t 4], 24, [], false⟩ := .of Try.func17 (by simp [Try.f17]) (by kernel_rfl)
/-- octant/octantlaw06.works -/
def g19 : RC :=
  (.seq (.reg [⟨(some 0), none, .o (.v (.mov (.c (.lit (.bool false)))))⟩])
  (.seq (.reg [⟨(some 16), none, .o (.call (.c (.fn 34 [])) [(.c (.int .i64 (80))), (.c (.int .i64 (120)))])⟩,
    ⟨(some 17), none, .o (.bld [(.int .i64 (0)), (.int .i64 (0)), (.int .i64 (0)), (.int .i64 (0)), (.int .i64 (0)), (.int .i64 (0))] [(0, 1, (.c (.int .i64 (100)))), (1, 1, (.c (.int .i64 (500)))), (2, 1, (.c (.int .i64 (4)))), (3, 2, (.t 16)), (5, 1, (.c (.int .i64 (2))))])⟩,
    ⟨(some 18), none, .o (.call (.c (.fn 14 [])) [(.t 17)])⟩,
    ⟨(some 15), none, .o (.v (.mov (.t 18)))⟩,
    ⟨(some 19), none, .o (.v (.ext (.t 15) 0))⟩,
    ⟨(some 20), none, .o (.v (.ext (.t 15) 1))⟩,
    ⟨(some 1), none, .o (.v (.mov (.t 19)))⟩,
    ⟨(some 2), none, .o (.v (.mov (.t 20)))⟩])
  (.seq (.reg [⟨(some 22), none, .o (.bld [(.int .i64 (0)), (.int .i64 (0)), (.int .i64 (0)), (.int .i64 (0))] [(0, 1, (.c (.int .i64 (1000)))), (1, 1, (.c (.int .i64 (648980)))), (2, 1, (.c (.int .i64 (3)))), (3, 1, (.c (.int .i64 (50))))])⟩,
    ⟨(some 23), none, .o (.call (.c (.fn 17 [])) [(.t 22)])⟩,
    ⟨(some 21), none, .o (.v (.mov (.t 23)))⟩,
    ⟨(some 24), none, .o (.v (.ext (.t 21) 0))⟩,
    ⟨(some 25), none, .o (.v (.ext (.t 21) 1))⟩,
    ⟨(some 26), none, .o (.v (.ext (.t 21) 2))⟩,
    ⟨(some 3), none, .o (.new 23 [(.int .i64 (0)), (.int .i64 (0))])⟩,
    ⟨(some 4), none, .o (.new 23 [(.int .i64 (0)), (.int .i64 (0))])⟩,
    ⟨none, none, .o (.store 2 (.t 3) (.t 24))⟩,
    ⟨none, none, .o (.store 2 (.t 4) (.t 25))⟩,
    ⟨(some 5), none, .o (.v (.mov (.t 26)))⟩])
  (.seq (.reg [⟨(some 28), none, .o (.call (.c (.fn 44 [])) [])⟩,
    ⟨(some 29), none, .o (.call (.c (.fn 24 [])) [(.t 28)])⟩,
    ⟨(some 27), none, .o (.v (.mov (.t 29)))⟩,
    ⟨(some 30), none, .o (.v (.ext (.t 27) 0))⟩,
    ⟨(some 31), none, .o (.v (.ext (.t 27) 1))⟩,
    ⟨(some 6), none, .o (.v (.mov (.t 30)))⟩,
    ⟨(some 7), none, .o (.v (.mov (.t 31)))⟩])
  (.seq (.seq (.drw [⟨[2, 5, 7, 1, 3, 4, 6], 0, 0, [(⟨(some 32), none, .o (.v (.mov (.t 2)))⟩, .val 0 []),
    (⟨(some 33), none, .o (.v (.bin .neq (.t 32) (.c (.int .i64 (0)))))⟩, .val 0 []),
    (⟨(some 34), none, .o (.v (.mov (.t 33)))⟩, .val 0 []),
    (⟨(some 35), (some (34, false)), .o (.v (.mov (.t 5)))⟩, .val 0 []),
    (⟨(some 36), (some (34, false)), .o (.v (.bin .neq (.t 35) (.c (.int .i64 (0)))))⟩, .val 0 []),
    (⟨(some 37), none, .o (.v (.pick (.t 34) (.c (.lit (.bool true))) (.t 36)))⟩, .val 0 []),
    (⟨(some 38), none, .o (.v (.mov (.t 37)))⟩, .val 0 []),
    (⟨(some 39), (some (38, false)), .o (.v (.mov (.t 7)))⟩, .val 0 []),
    (⟨(some 40), (some (38, false)), .o (.v (.bin .neq (.t 39) (.c (.int .i64 (0)))))⟩, .val 0 []),
    (⟨(some 41), none, .o (.v (.pick (.t 38) (.c (.lit (.bool true))) (.t 40)))⟩, .val 0 []),
    (⟨(some 42), none, .o (.v (.mov (.t 41)))⟩, .val 0 []),
    (⟨(some 43), (some (42, false)), .o (.v (.mov (.t 1)))⟩, .val 0 []),
    (⟨(some 44), (some (42, false)), .o (.call (.c (.fn 34 [])) [(.c (.int .i64 (99))), (.c (.int .i64 (101)))])⟩, .val 0 []),
    (⟨(some 45), (some (42, false)), .o (.bsl 23 1 [(.int .i64 (0)), (.int .i64 (0))] [(0, 2, (.t 44))])⟩, .val 0 []),
    (⟨(some 46), (some (42, false)), .o (.call (.c (.fn 16 [])) [(.t 43), (.t 45)])⟩, .val 0 []),
    (⟨(some 47), (some (42, false)), .o (.v (.not (.t 46)))⟩, .val 0 []),
    (⟨(some 48), none, .o (.v (.pick (.t 42) (.c (.lit (.bool true))) (.t 47)))⟩, .val 0 []),
    (⟨(some 49), none, .o (.v (.mov (.t 48)))⟩, .val 0 []),
    (⟨(some 50), (some (49, false)), .o (.v (.load (.t 3) (some 2)))⟩, .val 0 []),
    (⟨(some 51), (some (49, false)), .o (.call (.c (.fn 34 [])) [(.c (.int .i64 (987))), (.c (.int .i64 (993)))])⟩, .val 0 []),
    (⟨(some 52), (some (49, false)), .o (.v (.eqs [(some .i64), (some .i64)] true (.t 50) (.t 51)))⟩, .val 0 []),
    (⟨(some 53), none, .o (.v (.pick (.t 49) (.c (.lit (.bool true))) (.t 52)))⟩, .val 0 []),
    (⟨(some 54), none, .o (.v (.mov (.t 53)))⟩, .val 0 []),
    (⟨(some 55), (some (54, false)), .o (.v (.load (.t 4) (some 2)))⟩, .val 0 []),
    (⟨(some 56), (some (54, false)), .o (.call (.c (.fn 34 [])) [(.c (.int .i64 (7))), (.c (.int .i64 (13)))])⟩, .val 0 []),
    (⟨(some 57), (some (54, false)), .o (.v (.eqs [(some .i64), (some .i64)] true (.t 55) (.t 56)))⟩, .val 0 []),
    (⟨(some 58), none, .o (.v (.pick (.t 54) (.c (.lit (.bool true))) (.t 57)))⟩, .val 0 []),
    (⟨(some 59), none, .o (.v (.mov (.t 58)))⟩, .val 0 []),
    (⟨(some 60), (some (59, false)), .o (.v (.mov (.t 6)))⟩, .val 0 []),
    (⟨(some 61), (some (59, false)), .o (.call (.c (.fn 34 [])) [(.c (.int .i64 (200000))), (.c (.int .i64 (200010)))])⟩, .val 0 []),
    (⟨(some 62), (some (59, false)), .o (.call (.c (.fn 34 [])) [(.c (.int .i64 (220000))), (.c (.int .i64 (220000)))])⟩, .val 0 []),
    (⟨(some 63), (some (59, false)), .o (.call (.c (.fn 34 [])) [(.c (.int .i64 (227990))), (.c (.int .i64 (228000)))])⟩, .val 0 []),
    (⟨(some 64), (some (59, false)), .o (.call (.c (.fn 34 [])) [(.c (.int .i64 (210000))), (.c (.int .i64 (210000)))])⟩, .val 0 []),
    (⟨(some 65), (some (59, false)), .o (.call (.c (.fn 34 [])) [(.c (.int .i64 (218000))), (.c (.int .i64 (218000)))])⟩, .val 0 []),
    (⟨(some 66), (some (59, false)), .o (.call (.c (.fn 34 [])) [(.c (.int .i64 (220000))), (.c (.int .i64 (220000)))])⟩, .val 0 []),
    (⟨(some 67), (some (59, false)), .o (.bsl 23 6 [(.int .i64 (0)), (.int .i64 (0)), (.int .i64 (0)), (.int .i64 (0)), (.int .i64 (0)), (.int .i64 (0)), (.int .i64 (0)), (.int .i64 (0)), (.int .i64 (0)), (.int .i64 (0)), (.int .i64 (0)), (.int .i64 (0))] [(0, 2, (.t 61)), (2, 2, (.t 62)), (4, 2, (.t 63)), (6, 2, (.t 64)), (8, 2, (.t 65)), (10, 2, (.t 66))])⟩, .val 0 [])],
    [],
    [⟨(some 68), (some (59, false)), .o (.call (.c (.fn 16 [])) [(.t 60), (.t 67)])⟩,
    ⟨(some 69), (some (59, false)), .o (.v (.not (.t 68)))⟩,
    ⟨(some 70), none, .o (.v (.pick (.t 59) (.c (.lit (.bool true))) (.t 69)))⟩], none⟩])
  (.cond (.t 70)
    (.seq (.reg [⟨(some 0), none, .o (.v (.mov (.c (.lit (.bool false)))))⟩])
    .ret)
    .skip))
  (.seq (.reg [⟨(some 71), none, .o (.call (.c (.fn 44 [])) [])⟩,
    ⟨(some 72), none, .o (.call (.c (.fn 34 [])) [(.c (.int .i64 (219000))), (.c (.int .i64 (219000)))])⟩,
    ⟨(some 73), none, .o (.call (.c (.fn 40 [])) [(.t 71), (.c (.int .i64 (1))), (.t 72)])⟩,
    ⟨(some 8), none, .o (.new 40 [(.int .i64 (0)), (.lit (.slice none 0 0)), (.lit (.slice none 0 0))])⟩,
    ⟨none, none, .o (.store 3 (.t 8) (.t 73))⟩])
  (.seq (.reg [⟨(some 75), none, .o (.v (.load (.t 8) (some 3)))⟩,
    ⟨(some 76), none, .o (.bsl 3 1 [(.int .i64 (0))] [(0, 1, (.c (.int .i64 (0))))])⟩,
    ⟨(some 77), none, .o (.bld [(.lit (.slice none 0 0)), (.lit (.slice none 0 0)), (.lit (.bool false))] [(0, 1, (.t 76)), (2, 1, (.c (.lit (.bool true))))])⟩,
    ⟨(some 78), none, .o (.call (.c (.fn 27 [])) [(.t 75), (.t 77)])⟩,
    ⟨(some 74), none, .o (.v (.mov (.t 78)))⟩,
    ⟨(some 79), none, .o (.v (.ext (.t 74) 0))⟩,
    ⟨(some 80), none, .o (.v (.ext (.t 74) 1))⟩,
    ⟨(some 9), none, .o (.v (.mov (.t 79)))⟩,
    ⟨(some 2), none, .o (.v (.mov (.t 80)))⟩])
  (.seq (.reg [⟨(some 82), none, .o (.v (.load (.t 8) (some 3)))⟩,
    ⟨(some 83), none, .o (.call (.c (.fn 31 [])) [(.t 82)])⟩,
    ⟨(some 81), none, .o (.v (.mov (.t 83)))⟩,
    ⟨(some 84), none, .o (.v (.ext (.t 81) 0))⟩,
    ⟨(some 85), none, .o (.v (.ext (.t 81) 1))⟩,
    ⟨(some 5), none, .o (.v (.mov (.t 85)))⟩])
  (.seq (.reg [⟨(some 87), none, .o (.v (.load (.t 8) (some 3)))⟩,
    ⟨(some 88), none, .o (.call (.c (.fn 29 [])) [(.t 87)])⟩,
    ⟨(some 86), none, .o (.v (.mov (.t 88)))⟩,
    ⟨(some 89), none, .o (.v (.ext (.t 86) 0))⟩,
    ⟨(some 90), none, .o (.v (.ext (.t 86) 1))⟩,
    ⟨(some 10), none, .o (.v (.mov (.t 89)))⟩,
    ⟨(some 7), none, .o (.v (.mov (.t 90)))⟩])
  (.seq (.reg [⟨(some 92), none, .o (.call (.c (.fn 45 [])) [(.c (.lit (.bool true)))])⟩,
    ⟨(some 93), none, .o (.call (.c (.fn 24 [])) [(.t 92)])⟩,
    ⟨(some 91), none, .o (.v (.mov (.t 93)))⟩,
    ⟨(some 94), none, .o (.v (.ext (.t 91) 0))⟩,
    ⟨(some 95), none, .o (.v (.ext (.t 91) 1))⟩,
    ⟨(some 11), none, .o (.v (.mov (.t 94)))⟩,
    ⟨(some 12), none, .o (.v (.mov (.t 95)))⟩])
  (.seq (.reg [⟨(some 97), none, .o (.call (.c (.fn 44 [])) [])⟩,
    ⟨(some 98), none, .o (.call (.c (.fn 26 [])) [(.t 97)])⟩,
    ⟨(some 96), none, .o (.v (.mov (.t 98)))⟩,
    ⟨(some 99), none, .o (.v (.ext (.t 96) 0))⟩,
    ⟨(some 100), none, .o (.v (.ext (.t 96) 1))⟩,
    ⟨(some 13), none, .o (.v (.mov (.t 99)))⟩,
    ⟨(some 14), none, .o (.v (.mov (.t 100)))⟩])
  (.seq (.drw [⟨[2, 5, 7, 12, 14, 9, 10, 11, 13], 0, 0, [(⟨(some 101), none, .o (.v (.mov (.t 2)))⟩, .val 0 []),
    (⟨(some 102), none, .o (.v (.bin .eql (.t 101) (.c (.int .i64 (0)))))⟩, .val 0 []),
    (⟨(some 103), none, .o (.v (.mov (.t 102)))⟩, .val 0 []),
    (⟨(some 104), (some (103, true)), .o (.v (.mov (.t 5)))⟩, .val 0 []),
    (⟨(some 105), (some (103, true)), .o (.v (.bin .eql (.t 104) (.c (.int .i64 (0)))))⟩, .val 0 []),
    (⟨(some 106), none, .o (.v (.pick (.t 103) (.t 105) (.c (.lit (.bool false)))))⟩, .val 0 []),
    (⟨(some 107), none, .o (.v (.mov (.t 106)))⟩, .val 0 []),
    (⟨(some 108), (some (107, true)), .o (.v (.mov (.t 7)))⟩, .val 0 []),
    (⟨(some 109), (some (107, true)), .o (.v (.bin .eql (.t 108) (.c (.int .i64 (0)))))⟩, .val 0 []),
    (⟨(some 110), none, .o (.v (.pick (.t 107) (.t 109) (.c (.lit (.bool false)))))⟩, .val 0 []),
    (⟨(some 111), none, .o (.v (.mov (.t 110)))⟩, .val 0 []),
    (⟨(some 112), (some (111, true)), .o (.v (.mov (.t 12)))⟩, .val 0 []),
    (⟨(some 113), (some (111, true)), .o (.v (.bin .eql (.t 112) (.c (.int .i64 (0)))))⟩, .val 0 []),
    (⟨(some 114), none, .o (.v (.pick (.t 111) (.t 113) (.c (.lit (.bool false)))))⟩, .val 0 []),
    (⟨(some 115), none, .o (.v (.mov (.t 114)))⟩, .val 0 []),
    (⟨(some 116), (some (115, true)), .o (.v (.mov (.t 14)))⟩, .val 0 []),
    (⟨(some 117), (some (115, true)), .o (.v (.bin .eql (.t 116) (.c (.int .i64 (0)))))⟩, .val 0 []),
    (⟨(some 118), none, .o (.v (.pick (.t 115) (.t 117) (.c (.lit (.bool false)))))⟩, .val 0 []),
    (⟨(some 119), none, .o (.v (.mov (.t 118)))⟩, .val 0 []),
    (⟨(some 120), (some (119, true)), .o (.v (.mov (.t 9)))⟩, .val 0 []),
    (⟨(some 121), none, .o (.v (.pick (.t 119) (.t 120) (.c (.lit (.bool false)))))⟩, .val 0 []),
    (⟨(some 122), none, .o (.v (.mov (.t 121)))⟩, .val 0 []),
    (⟨(some 123), (some (122, true)), .o (.v (.mov (.t 10)))⟩, .val 0 []),
    (⟨(some 124), (some (122, true)), .o (.bsl 3 3 [(.int .i64 (0)), (.int .i64 (0)), (.int .i64 (0))] [(0, 1, (.c (.int .i64 (0)))), (1, 1, (.c (.int .i64 (1)))), (2, 1, (.c (.int .i64 (2))))])⟩, .val 0 []),
    (⟨(some 125), (some (122, true)), .o (.call (.c (.fn 32 [])) [(.t 123), (.t 124)])⟩, .val 0 []),
    (⟨(some 126), none, .o (.v (.pick (.t 122) (.t 125) (.c (.lit (.bool false)))))⟩, .val 0 []),
    (⟨(some 127), none, .o (.v (.mov (.t 126)))⟩, .val 0 []),
    (⟨(some 128), (some (127, true)), .o (.v (.mov (.t 11)))⟩, .val 0 []),
    (⟨(some 129), (some (127, true)), .o (.v (.len (.t 128)))⟩, .val 0 []),
    (⟨(some 130), (some (127, true)), .o (.v (.bin .eql (.t 129) (.c (.int .i64 (9)))))⟩, .val 0 []),
    (⟨(some 131), none, .o (.v (.pick (.t 127) (.t 130) (.c (.lit (.bool false)))))⟩, .val 0 []),
    (⟨(some 132), none, .o (.v (.mov (.t 131)))⟩, .val 0 []),
    (⟨(some 133), (some (132, true)), .o (.v (.mov (.t 11)))⟩, .val 0 []),
    (⟨(some 134), (some (132, true)), .o (.v (.ixa (.t 133) (.c (.int .i64 (0))) 2))⟩, .val 0 []),
    (⟨(some 135), (some (132, true)), .o (.v (.load (.t 134) (some 2)))⟩, .val 0 []),
    (⟨(some 136), (some (132, true)), .o (.call (.c (.fn 34 [])) [(.c (.int .i64 (432000))), (.c (.int .i64 (432000)))])⟩, .val 0 []),
    (⟨(some 137), (some (132, true)), .o (.v (.eqs [(some .i64), (some .i64)] false (.t 135) (.t 136)))⟩, .val 0 []),
    (⟨(some 138), none, .o (.v (.pick (.t 132) (.t 137) (.c (.lit (.bool false)))))⟩, .val 0 []),
    (⟨(some 139), none, .o (.v (.mov (.t 138)))⟩, .val 0 []),
    (⟨(some 140), (some (139, true)), .o (.v (.mov (.t 11)))⟩, .val 0 []),
    (⟨(some 141), (some (139, true)), .o (.v (.ixa (.t 140) (.c (.int .i64 (1))) 2))⟩, .val 0 []),
    (⟨(some 142), (some (139, true)), .o (.v (.load (.t 141) (some 2)))⟩, .val 0 []),
    (⟨(some 143), (some (139, true)), .o (.call (.c (.fn 34 [])) [(.c (.int .i64 (107995))), (.c (.int .i64 (108005)))])⟩, .val 0 []),
    (⟨(some 144), (some (139, true)), .o (.v (.eqs [(some .i64), (some .i64)] false (.t 142) (.t 143)))⟩, .val 0 []),
    (⟨(some 145), none, .o (.v (.pick (.t 139) (.t 144) (.c (.lit (.bool false)))))⟩, .val 0 []),
    (⟨(some 146), none, .o (.v (.mov (.t 145)))⟩, .val 0 []),
    (⟨(some 147), (some (146, true)), .o (.v (.mov (.t 13)))⟩, .val 0 []),
    (⟨(some 148), (some (146, true)), .o (.v (.len (.t 147)))⟩, .val 0 []),
    (⟨(some 149), (some (146, true)), .o (.v (.bin .eql (.t 148) (.c (.int .i64 (6)))))⟩, .val 0 []),
    (⟨(some 150), none, .o (.v (.pick (.t 146) (.t 149) (.c (.lit (.bool false)))))⟩, .val 0 []),
    (⟨(some 151), none, .o (.v (.mov (.t 150)))⟩, .val 0 []),
    (⟨(some 152), (some (151, true)), .o (.v (.mov (.t 13)))⟩, .val 0 []),
    (⟨(some 153), (some (151, true)), .o (.v (.ixa (.t 152) (.c (.int .i64 (0))) 1))⟩, .val 0 []),
    (⟨(some 154), (some (151, true)), .o (.v (.load (.t 153) none))⟩, .val 0 []),
    (⟨(some 155), (some (151, true)), .o (.v (.mov (.t 13)))⟩, .val 0 []),
    (⟨(some 156), (some (151, true)), .o (.v (.ixa (.t 155) (.c (.int .i64 (1))) 1))⟩, .val 0 []),
    (⟨(some 157), (some (151, true)), .o (.v (.load (.t 156) none))⟩, .val 0 []),
    (⟨(some 158), (some (151, true)), .o (.v (.bin .add (.t 154) (.t 157)))⟩, .val 0 []),
    (⟨(some 159), (some (151, true)), .o (.v (.mov (.t 13)))⟩, .val 0 []),
    (⟨(some 160), (some (151, true)), .o (.v (.ixa (.t 159) (.c (.int .i64 (2))) 1))⟩, .val 0 []),
    (⟨(some 161), (some (151, true)), .o (.v (.load (.t 160) none))⟩, .val 0 [])],
    [],
    [⟨(some 162), (some (151, true)), .o (.v (.bin .add (.t 158) (.t 161)))⟩,
    ⟨(some 163), (some (151, true)), .o (.v (.bin .eql (.t 162) (.c (.int .i64 (648000)))))⟩,
    ⟨(some 164), none, .o (.v (.pick (.t 151) (.t 163) (.c (.lit (.bool false)))))⟩,
    ⟨(some 0), none, .o (.v (.mov (.t 164)))⟩], none⟩])
  .ret))))))))))))
theorem h19 : FdOk Try.prog 19 ⟨g19, [.t 0], 165, [], false⟩ := .of Try.func19 (by simp [Try.f19]) (by kernel_rfl)
/-- octant/rounds.Closes -/
def g20 : RC :=
  (.seq (.reg [⟨(some 2), none, .o (.box 40 (.t 0))⟩,
    ⟨(some 4), none, .o (.v (.mov (.c (.lit (.bool false)))))⟩,
    ⟨(some 5), none, .o (.v (.mov (.c (.int .i64 (0)))))⟩])
  (.seq (.seq (.reg [⟨(some 7), none, .o (.v (.load (.t 2) (some 3)))⟩,
    ⟨(some 8), none, .o (.call (.c (.fn 22 [])) [(.t 7)])⟩,
    ⟨(some 6), none, .o (.v (.mov (.t 8)))⟩])
  (.seq (.reg [⟨(some 9), none, .o (.v (.mov (.t 6)))⟩,
    ⟨(some 10), none, .o (.v (.bin .neq (.t 9) (.c (.int .i64 (0)))))⟩])
  (.cond (.t 10)
    (.seq (.reg [⟨(some 11), none, .o (.v (.mov (.t 6)))⟩,
      ⟨(some 4), none, .o (.v (.mov (.c (.lit (.bool false)))))⟩,
      ⟨(some 5), none, .o (.v (.mov (.t 11)))⟩])
    .ret)
    .skip)))
  (.seq (.seq (.reg [⟨(some 12), none, .o (.v (.mov (.t 1)))⟩,
    ⟨(some 13), none, .o (.v (.len (.t 12)))⟩,
    ⟨(some 14), none, .o (.v (.off (.t 2) 2))⟩,
    ⟨(some 15), none, .o (.v (.load (.t 14) none))⟩,
    ⟨(some 16), none, .o (.v (.len (.t 15)))⟩,
    ⟨(some 17), none, .o (.v (.bin .neq (.t 13) (.t 16)))⟩])
  (.cond (.t 17)
    (.seq (.reg [⟨(some 4), none, .o (.v (.mov (.c (.lit (.bool false)))))⟩,
      ⟨(some 5), none, .o (.v (.mov (.c (.int .i64 (61)))))⟩])
    .ret)
    .skip))
  (.seq (.reg [⟨(some 18), none, .o (.v (.load (.t 2) (some 3)))⟩,
    ⟨(some 19), none, .o (.bld [(.int .i64 (0)), (.lit (.slice none 0 0)), (.lit (.slice none 0 0))] [(0, 3, (.t 18))])⟩,
    ⟨(some 20), none, .o (.v (.mov (.t 1)))⟩,
    ⟨(some 21), none, .o (.call (.c (.fn 57 [])) [(.t 19), (.t 20)])⟩,
    ⟨(some 4), none, .o (.v (.mov (.t 21)))⟩,
    ⟨(some 5), none, .o (.v (.mov (.c (.int .i64 (0)))))⟩])
  .ret))))
theorem h20 : FdOk Try.prog 20 ⟨g20, [.t 4, .t 5], 22, [], false⟩ := .of Try.func20 (by simp [Try.f20]) (by kernel_rfl)
/-- octant/rounds.Check -/
def g22 : RC :=
  (.seq (.reg [⟨(some 1), none, .o (.box 40 (.t 0))⟩,
    ⟨(some 2), none, .o (.v (.mov (.c (.int .i64 (0)))))⟩])
  (.seq (.seq (.reg [⟨(some 3), none, .o (.v (.load (.t 1) (some 3)))⟩,
    ⟨(some 4), none, .o (.bld [(.int .i64 (0)), (.lit (.slice none 0 0)), (.lit (.slice none 0 0))] [(0, 3, (.t 3))])⟩,
    ⟨(some 5), none, .o (.call (.c (.fn 58 [])) [(.t 4)])⟩,
    ⟨(some 6), none, .o (.v (.not (.t 5)))⟩])
  (.cond (.t 6)
    (.seq (.reg [⟨(some 2), none, .o (.v (.mov (.c (.int .i64 (60)))))⟩])
    .ret)
    .skip))
  (.seq (.reg [⟨(some 2), none, .o (.v (.mov (.c (.int .i64 (0)))))⟩])
  .ret)))
theorem h22 : FdOk Try.prog 22 ⟨g22, [.t 2], 7, [], false⟩ := .of Try.func22 (by simp [Try.f22]) (by kernel_rfl)
/-- octant/rounds.Spans -/
def g24 : RC :=
  (.seq (.reg [⟨(some 1), none, .o (.box 40 (.t 0))⟩,
    ⟨(some 2), none, .o (.v (.mov (.c (.lit (.slice none 0 0)))))⟩,
    ⟨(some 3), none, .o (.v (.mov (.c (.int .i64 (0)))))⟩])
  (.seq (.seq (.reg [⟨(some 6), none, .o (.v (.load (.t 1) (some 3)))⟩,
    ⟨(some 7), none, .o (.call (.c (.fn 22 [])) [(.t 6)])⟩,
    ⟨(some 4), none, .o (.v (.mov (.t 7)))⟩])
  (.seq (.reg [⟨(some 8), none, .o (.v (.mov (.t 4)))⟩,
    ⟨(some 9), none, .o (.v (.bin .neq (.t 8) (.c (.int .i64 (0)))))⟩])
  (.cond (.t 9)
    (.seq (.reg [⟨(some 10), none, .o (.v (.mov (.t 4)))⟩,
      ⟨(some 2), none, .o (.v (.mov (.c (.lit (.slice none 0 0)))))⟩,
      ⟨(some 3), none, .o (.v (.mov (.t 10)))⟩])
    .ret)
    .skip)))
  (.seq (.reg [⟨(some 11), none, .o (.v (.load (.t 1) (some 3)))⟩,
    ⟨(some 12), none, .o (.bld [(.int .i64 (0)), (.lit (.slice none 0 0)), (.lit (.slice none 0 0))] [(0, 3, (.t 11))])⟩,
    ⟨(some 13), none, .o (.call (.c (.fn 60 [])) [(.t 12)])⟩,
    ⟨(some 5), none, .o (.new 101 [(.int .i64 (0)), (.lit (.slice none 0 0)), (.lit (.slice none 0 0)), (.lit (.slice none 0 0)), (.int .i64 (0)), (.int .i64 (0)), (.int .i64 (0)), (.int .i64 (0)), (.int .i64 (0)), (.int .i64 (0)), (.int .i64 (0)), (.int .i64 (0)), (.int .i64 (0)), (.int .i64 (0)), (.int .i64 (0)), (.int .i64 (0)), (.int .i64 (0)), (.int .i64 (0)), (.int .i64 (0)), (.int .i64 (0)), (.int .i64 (0)), (.lit (.map none)), (.lit (.bool false)), (.lit (.bool false)), (.lit (.bool false)), (.lit (.bool false)), (.lit (.bool false)), (.lit (.bool false)), (.lit (.bool false)), (.lit (.bool false)), (.lit (.bool false)), (.lit (.bool false)), (.lit (.bool false)), (.lit (.bool false)), (.lit (.bool false)), (.lit (.bool false)), (.lit (.bool false)), (.lit (.bool false)), (.lit (.bool false))])⟩,
    ⟨none, none, .o (.store 39 (.t 5) (.t 13))⟩])
  (.seq (.seq (.reg [⟨(some 14), none, .o (.v (.load (.t 5) (some 39)))⟩,
    ⟨(some 15), none, .o (.call (.c (.fn 61 [])) [(.t 14)])⟩,
    ⟨(some 16), none, .o (.v (.bin .gtr (.t 15) (.c (.int .i64 (0)))))⟩])
  (.cond (.t 16)
    (.seq (.reg [⟨(some 2), none, .o (.v (.mov (.c (.lit (.slice none 0 0)))))⟩,
      ⟨(some 3), none, .o (.v (.mov (.c (.int .i64 (4)))))⟩])
    .ret)
    .skip))
  (.seq (.reg [⟨(some 17), none, .o (.v (.load (.t 5) (some 39)))⟩,
    ⟨(some 18), none, .o (.call (.c (.fn 62 [])) [(.t 17)])⟩,
    ⟨(some 2), none, .o (.v (.mov (.t 18)))⟩,
    ⟨(some 3), none, .o (.v (.mov (.c (.int .i64 (0)))))⟩])
  .ret)))))
theorem h24 : FdOk Try.prog 24 ⟨g24, [.t 2, .t 3], 19, [], false⟩ := .of Try.func24 (by simp [Try.f24]) (by kernel_rfl)
/-- octant/rounds.Some -/
def g26 : RC :=
  (.seq (.reg [⟨(some 1), none, .o (.box 40 (.t 0))⟩,
    ⟨(some 2), none, .o (.v (.mov (.c (.lit (.slice none 0 0)))))⟩,
    ⟨(some 3), none, .o (.v (.mov (.c (.int .i64 (0)))))⟩])
  (.seq (.seq (.reg [⟨(some 6), none, .o (.v (.load (.t 1) (some 3)))⟩,
    ⟨(some 7), none, .o (.call (.c (.fn 22 [])) [(.t 6)])⟩,
    ⟨(some 4), none, .o (.v (.mov (.t 7)))⟩])
  (.seq (.reg [⟨(some 8), none, .o (.v (.mov (.t 4)))⟩,
    ⟨(some 9), none, .o (.v (.bin .neq (.t 8) (.c (.int .i64 (0)))))⟩])
  (.cond (.t 9)
    (.seq (.reg [⟨(some 10), none, .o (.v (.mov (.t 4)))⟩,
      ⟨(some 2), none, .o (.v (.mov (.c (.lit (.slice none 0 0)))))⟩,
      ⟨(some 3), none, .o (.v (.mov (.t 10)))⟩])
    .ret)
    .skip)))
  (.seq (.reg [⟨(some 11), none, .o (.v (.load (.t 1) (some 3)))⟩,
    ⟨(some 12), none, .o (.bld [(.int .i64 (0)), (.lit (.slice none 0 0)), (.lit (.slice none 0 0))] [(0, 3, (.t 11))])⟩,
    ⟨(some 13), none, .o (.call (.c (.fn 60 [])) [(.t 12)])⟩,
    ⟨(some 5), none, .o (.new 101 [(.int .i64 (0)), (.lit (.slice none 0 0)), (.lit (.slice none 0 0)), (.lit (.slice none 0 0)), (.int .i64 (0)), (.int .i64 (0)), (.int .i64 (0)), (.int .i64 (0)), (.int .i64 (0)), (.int .i64 (0)), (.int .i64 (0)), (.int .i64 (0)), (.int .i64 (0)), (.int .i64 (0)), (.int .i64 (0)), (.int .i64 (0)), (.int .i64 (0)), (.int .i64 (0)), (.int .i64 (0)), (.int .i64 (0)), (.int .i64 (0)), (.lit (.map none)), (.lit (.bool false)), (.lit (.bool false)), (.lit (.bool false)), (.lit (.bool false)), (.lit (.bool false)), (.lit (.bool false)), (.lit (.bool false)), (.lit (.bool false)), (.lit (.bool false)), (.lit (.bool false)), (.lit (.bool false)), (.lit (.bool false)), (.lit (.bool false)), (.lit (.bool false)), (.lit (.bool false)), (.lit (.bool false)), (.lit (.bool false))])⟩,
    ⟨none, none, .o (.store 39 (.t 5) (.t 13))⟩])
  (.seq (.seq (.reg [⟨(some 14), none, .o (.v (.load (.t 5) (some 39)))⟩,
    ⟨(some 15), none, .o (.call (.c (.fn 61 [])) [(.t 14)])⟩,
    ⟨(some 16), none, .o (.v (.bin .gtr (.t 15) (.c (.int .i64 (0)))))⟩])
  (.cond (.t 16)
    (.seq (.reg [⟨(some 2), none, .o (.v (.mov (.c (.lit (.slice none 0 0)))))⟩,
      ⟨(some 3), none, .o (.v (.mov (.c (.int .i64 (4)))))⟩])
    .ret)
    .skip))
  (.seq (.reg [⟨(some 17), none, .o (.v (.off (.t 5) 3))⟩,
    ⟨(some 18), none, .o (.v (.load (.t 17) none))⟩,
    ⟨(some 2), none, .o (.v (.mov (.t 18)))⟩,
    ⟨(some 3), none, .o (.v (.mov (.c (.int .i64 (0)))))⟩])
  .ret)))))
theorem h26 : FdOk Try.prog 26 ⟨g26, [.t 2, .t 3], 19, [], false⟩ := .of Try.func26 (by simp [Try.f26]) (by kernel_rfl)
/-- octant/rounds.Holds -/
def g27 : RC :=
  (.seq (.reg [⟨(some 2), none, .o (.box 40 (.t 0))⟩,
    ⟨(some 3), none, .o (.box 50 (.t 1))⟩,
    ⟨(some 4), none, .o (.v (.mov (.c (.lit (.bool false)))))⟩,
    ⟨(some 5), none, .o (.v (.mov (.c (.int .i64 (0)))))⟩])
  (.seq (.seq (.reg [⟨(some 8), none, .o (.v (.load (.t 2) (some 3)))⟩,
    ⟨(some 9), none, .o (.call (.c (.fn 22 [])) [(.t 8)])⟩,
    ⟨(some 6), none, .o (.v (.mov (.t 9)))⟩])
  (.seq (.reg [⟨(some 10), none, .o (.v (.mov (.t 6)))⟩,
    ⟨(some 11), none, .o (.v (.bin .neq (.t 10) (.c (.int .i64 (0)))))⟩])
  (.cond (.t 11)
    (.seq (.reg [⟨(some 12), none, .o (.v (.mov (.t 6)))⟩,
      ⟨(some 4), none, .o (.v (.mov (.c (.lit (.bool false)))))⟩,
      ⟨(some 5), none, .o (.v (.mov (.t 12)))⟩])
    .ret)
    .skip)))
  (.seq (.reg [⟨(some 13), none, .o (.v (.load (.t 2) (some 3)))⟩,
    ⟨(some 14), none, .o (.bld [(.int .i64 (0)), (.lit (.slice none 0 0)), (.lit (.slice none 0 0))] [(0, 3, (.t 13))])⟩,
    ⟨(some 7), none, .o (.new 92 [(.int .i64 (0)), (.lit (.slice none 0 0)), (.lit (.slice none 0 0))])⟩,
    ⟨none, none, .o (.store 3 (.t 7) (.t 14))⟩])
  (.seq (.seq (.reg [⟨(some 15), none, .o (.v (.load (.t 7) (some 3)))⟩,
    ⟨(some 16), none, .o (.v (.load (.t 3) (some 3)))⟩,
    ⟨(some 17), none, .o (.call (.c (.fn 64 [])) [(.t 15), (.t 16)])⟩,
    ⟨(some 18), none, .o (.v (.not (.t 17)))⟩])
  (.cond (.t 18)
    (.seq (.reg [⟨(some 4), none, .o (.v (.mov (.c (.lit (.bool false)))))⟩,
      ⟨(some 5), none, .o (.v (.mov (.c (.int .i64 (61)))))⟩])
    .ret)
    .skip))
  (.seq (.reg [⟨(some 19), none, .o (.v (.load (.t 7) (some 3)))⟩,
    ⟨(some 20), none, .o (.v (.load (.t 3) (some 3)))⟩,
    ⟨(some 21), none, .o (.call (.c (.fn 65 [])) [(.t 19), (.t 20)])⟩,
    ⟨(some 4), none, .o (.v (.mov (.t 21)))⟩,
    ⟨(some 5), none, .o (.v (.mov (.c (.int .i64 (0)))))⟩])
  .ret)))))
theorem h27 : FdOk Try.prog 27 ⟨g27, [.t 4, .t 5], 22, [], false⟩ := .of Try.func27 (by simp [Try.f27]) (by kernel_rfl)
/-- octant/rounds.Suspects -/
def g29 : RC :=
  (.seq (.reg [⟨(some 1), none, .o (.box 40 (.t 0))⟩,
    ⟨(some 2), none, .o (.v (.mov (.c (.lit (.slice none 0 0)))))⟩,
    ⟨(some 3), none, .o (.v (.mov (.c (.int .i64 (0)))))⟩])
  (.seq (.seq (.reg [⟨(some 6), none, .o (.v (.load (.t 1) (some 3)))⟩,
    ⟨(some 7), none, .o (.call (.c (.fn 22 [])) [(.t 6)])⟩,
    ⟨(some 4), none, .o (.v (.mov (.t 7)))⟩])
  (.seq (.reg [⟨(some 8), none, .o (.v (.mov (.t 4)))⟩,
    ⟨(some 9), none, .o (.v (.bin .neq (.t 8) (.c (.int .i64 (0)))))⟩])
  (.cond (.t 9)
    (.seq (.reg [⟨(some 10), none, .o (.v (.mov (.t 4)))⟩,
      ⟨(some 2), none, .o (.v (.mov (.c (.lit (.slice none 0 0)))))⟩,
      ⟨(some 3), none, .o (.v (.mov (.t 10)))⟩])
    .ret)
    .skip)))
  (.seq (.reg [⟨(some 11), none, .o (.v (.load (.t 1) (some 3)))⟩,
    ⟨(some 12), none, .o (.bld [(.int .i64 (0)), (.lit (.slice none 0 0)), (.lit (.slice none 0 0))] [(0, 3, (.t 11))])⟩,
    ⟨(some 5), none, .o (.new 92 [(.int .i64 (0)), (.lit (.slice none 0 0)), (.lit (.slice none 0 0))])⟩,
    ⟨none, none, .o (.store 3 (.t 5) (.t 12))⟩])
  (.seq (.seq (.reg [⟨(some 13), none, .o (.v (.load (.t 5) (some 3)))⟩,
    ⟨(some 14), none, .o (.call (.c (.fn 60 [])) [(.t 13)])⟩,
    ⟨(some 15), none, .o (.call (.c (.fn 61 [])) [(.t 14)])⟩,
    ⟨(some 16), none, .o (.v (.bin .eql (.t 15) (.c (.int .i64 (0)))))⟩])
  (.cond (.t 16)
    (.seq (.reg [⟨(some 2), none, .o (.v (.mov (.c (.lit (.slice none 0 0)))))⟩,
      ⟨(some 3), none, .o (.v (.mov (.c (.int .i64 (4)))))⟩])
    .ret)
    .skip))
  (.seq (.reg [⟨(some 17), none, .o (.v (.load (.t 5) (some 3)))⟩,
    ⟨(some 18), none, .o (.call (.c (.fn 68 [])) [(.t 17)])⟩,
    ⟨(some 2), none, .o (.v (.mov (.t 18)))⟩,
    ⟨(some 3), none, .o (.v (.mov (.c (.int .i64 (0)))))⟩])
  .ret)))))
theorem h29 : FdOk Try.prog 29 ⟨g29, [.t 2, .t 3], 19, [], false⟩ := .of Try.func29 (by simp [Try.f29]) (by kernel_rfl)
/-- octant/rounds.Proof -/
def g31 : RC :=
  (.seq (.reg [⟨(some 1), none, .o (.box 40 (.t 0))⟩,
    ⟨(some 2), none, .o (.new 50 [(.lit (.slice none 0 0)), (.lit (.slice none 0 0)), (.lit (.bool false))])⟩,
    ⟨(some 3), none, .o (.v (.mov (.c (.int .i64 (0)))))⟩])
  (.seq (.seq (.reg [⟨(some 6), none, .o (.v (.load (.t 1) (some 3)))⟩,
    ⟨(some 7), none, .o (.call (.c (.fn 22 [])) [(.t 6)])⟩,
    ⟨(some 4), none, .o (.v (.mov (.t 7)))⟩])
  (.seq (.reg [⟨(some 8), none, .o (.v (.mov (.t 4)))⟩,
    ⟨(some 9), none, .o (.v (.bin .neq (.t 8) (.c (.int .i64 (0)))))⟩])
  (.cond (.t 9)
    (.seq (.reg [⟨(some 10), none, .o (.bld [(.lit (.slice none 0 0)), (.lit (.slice none 0 0)), (.lit (.bool false))] [])⟩,
      ⟨(some 11), none, .o (.v (.mov (.t 4)))⟩,
      ⟨none, none, .o (.store 3 (.t 2) (.t 10))⟩,
      ⟨(some 3), none, .o (.v (.mov (.t 11)))⟩])
    .ret)
    .skip)))
  (.seq (.reg [⟨(some 12), none, .o (.v (.load (.t 1) (some 3)))⟩,
    ⟨(some 13), none, .o (.bld [(.int .i64 (0)), (.lit (.slice none 0 0)), (.lit (.slice none 0 0))] [(0, 3, (.t 12))])⟩,
    ⟨(some 14), none, .o (.call (.c (.fn 60 [])) [(.t 13)])⟩,
    ⟨(some 5), none, .o (.new 101 [(.int .i64 (0)), (.lit (.slice none 0 0)), (.lit (.slice none 0 0)), (.lit (.slice none 0 0)), (.int .i64 (0)), (.int .i64 (0)), (.int .i64 (0)), (.int .i64 (0)), (.int .i64 (0)), (.int .i64 (0)), (.int .i64 (0)), (.int .i64 (0)), (.int .i64 (0)), (.int .i64 (0)), (.int .i64 (0)), (.int .i64 (0)), (.int .i64 (0)), (.int .i64 (0)), (.int .i64 (0)), (.int .i64 (0)), (.int .i64 (0)), (.lit (.map none)), (.lit (.bool false)), (.lit (.bool false)), (.lit (.bool false)), (.lit (.bool false)), (.lit (.bool false)), (.lit (.bool false)), (.lit (.bool false)), (.lit (.bool false)), (.lit (.bool false)), (.lit (.bool false)), (.lit (.bool false)), (.lit (.bool false)), (.lit (.bool false)), (.lit (.bool false)), (.lit (.bool false)), (.lit (.bool false)), (.lit (.bool false))])⟩,
    ⟨none, none, .o (.store 39 (.t 5) (.t 14))⟩])
  (.seq (.seq (.reg [⟨(some 15), none, .o (.v (.load (.t 5) (some 39)))⟩,
    ⟨(some 16), none, .o (.call (.c (.fn 61 [])) [(.t 15)])⟩,
    ⟨(some 17), none, .o (.v (.bin .eql (.t 16) (.c (.int .i64 (0)))))⟩])
  (.cond (.t 17)
    (.seq (.reg [⟨(some 18), none, .o (.bld [(.lit (.slice none 0 0)), (.lit (.slice none 0 0)), (.lit (.bool false))] [])⟩,
      ⟨none, none, .o (.store 3 (.t 2) (.t 18))⟩,
      ⟨(some 3), none, .o (.v (.mov (.c (.int .i64 (4)))))⟩])
    .ret)
    .skip))
  (.seq (.reg [⟨(some 19), none, .o (.v (.load (.t 5) (some 39)))⟩,
    ⟨(some 20), none, .o (.call (.c (.fn 69 [])) [(.t 19)])⟩,
    ⟨none, none, .o (.store 3 (.t 2) (.t 20))⟩,
    ⟨(some 3), none, .o (.v (.mov (.c (.int .i64 (0)))))⟩])
  .ret)))))
theorem h31 : FdOk Try.prog 31 ⟨g31, [.c 2 (some 3), .t 3], 21, [], false⟩ := .of Try.func31 (by simp [Try.f31]) (by kernel_rfl)
/-- octant/octantref00.Same -/
def g32 : RC :=
  (.seq (.reg [⟨(some 4), none, .o (.v (.mov (.c (.lit (.bool false)))))⟩])
  (.seq (.seq (.reg [⟨(some 6), none, .o (.v (.mov (.t 0)))⟩,
    ⟨(some 7), none, .o (.v (.len (.t 6)))⟩,
    ⟨(some 8), none, .o (.v (.mov (.t 1)))⟩,
    ⟨(some 9), none, .o (.v (.len (.t 8)))⟩,
    ⟨(some 10), none, .o (.v (.bin .neq (.t 7) (.t 9)))⟩])
  (.cond (.t 10)
    (.seq (.reg [⟨(some 4), none, .o (.v (.mov (.c (.lit (.bool false)))))⟩])
    .ret)
    .skip))
  (.seq (.seq (.reg [⟨(some 5), none, .o (.v (.mov (.c (.int .i64 (0)))))⟩])
  (.block 0 (.loop
    (.seq (.seq (.reg [⟨(some 11), none, .o (.v (.mov (.t 5)))⟩,
      ⟨(some 12), none, .o (.v (.mov (.t 0)))⟩,
      ⟨(some 13), none, .o (.v (.len (.t 12)))⟩,
      ⟨(some 14), none, .o (.v (.bin .lss (.t 11) (.t 13)))⟩])
    (.cond (.t 14)
      .skip
      (.exit 0)))
    (.seq (.block 1 (.seq (.drw [⟨[], 0, 0, [(⟨(some 17), none, .o (.v (.mov (.t 0)))⟩, .val 0 []),
      (⟨(some 18), none, .o (.v (.mov (.t 5)))⟩, .val 0 []),
      (⟨(some 19), none, .o (.v (.ixa (.t 17) (.t 18) 1))⟩, .val 0 []),
      (⟨(some 20), none, .o (.v (.load (.t 19) none))⟩, .val 0 []),
      (⟨(some 21), none, .o (.v (.mov (.t 1)))⟩, .val 0 []),
      (⟨(some 22), none, .o (.v (.mov (.t 5)))⟩, .val 0 []),
      (⟨(some 23), none, .o (.v (.ixa (.t 21) (.t 22) 1))⟩, .val 0 []),
      (⟨(some 24), none, .o (.v (.load (.t 23) none))⟩, .val 0 [])],
      [],
      [⟨(some 25), none, .o (.v (.bin .neq (.t 20) (.t 24)))⟩], none⟩])
    (.cond (.t 25)
      (.seq (.reg [⟨(some 4), none, .o (.v (.mov (.c (.lit (.bool false)))))⟩])
      .ret)
      .skip)))
    (.reg [⟨(some 15), none, .o (.v (.mov (.t 5)))⟩,
      ⟨(some 16), none, .o (.v (.bin .add (.t 15) (.c (.int .i64 (1)))))⟩,
      ⟨(some 5), none, .o (.v (.mov (.t 16)))⟩]))))))
  (.seq (.reg [⟨(some 4), none, .o (.v (.mov (.c (.lit (.bool true)))))⟩])
  .ret))))
theorem h32 : FdOk Try.prog 32 ⟨g32, [.t 4], 26, [], false⟩ := .of Try.func32 (by simp [Try.f32]) (by kernel_rfl)
/-- octant/octantlaw06.to -/
def g34 : RC :=
  (.seq (.reg [⟨(some 4), none, .o (.new 23 [(.int .i64 (0)), (.int .i64 (0))])⟩])
  (.seq (.reg [⟨(some 5), none, .o (.v (.mov (.t 0)))⟩,
    ⟨(some 6), none, .o (.v (.mov (.t 1)))⟩,
    ⟨(some 7), none, .o (.bld [(.int .i64 (0)), (.int .i64 (0))] [(0, 1, (.t 5)), (1, 1, (.t 6))])⟩,
    ⟨none, none, .o (.store 2 (.t 4) (.t 7))⟩])
  .ret))
theorem h34 : FdOk Try.prog 34 ⟨g34, [.c 4 (some 2)], 8, [], false⟩ := .of Try.func34 (by simp [Try.f34]) (by kernel_rfl)
/-- octant/octantlaw06.with -/
def g40 : RC :=
  (.seq (.reg [⟨(some 3), none, .o (.box 40 (.t 0))⟩,
    ⟨(some 5), none, .o (.box 23 (.t 2))⟩,
    ⟨(some 6), none, .o (.new 40 [(.int .i64 (0)), (.lit (.slice none 0 0)), (.lit (.slice none 0 0))])⟩])
  (.seq (.reg [⟨(some 9), none, (.bs0 4)⟩,
    ⟨(some 10), none, .o (.v (.off (.t 3) 2))⟩,
    ⟨(some 11), none, .o (.v (.load (.t 10) none))⟩,
    ⟨(some 12), none, .o (.app 66 4 32 (.t 9) (.t 11))⟩,
    ⟨(some 7), none, .o (.v (.mov (.t 12)))⟩])
  (.seq (.reg [⟨(some 13), none, .o (.v (.mov (.t 7)))⟩,
    ⟨(some 14), none, .o (.v (.mov (.t 1)))⟩,
    ⟨(some 15), none, .o (.v (.ixa (.t 13) (.t 14) 4))⟩,
    ⟨(some 16), none, .o (.v (.load (.t 15) (some 4)))⟩,
    ⟨(some 8), none, .o (.new 66 [(.int .i64 (0)), (.int .i64 (0)), (.int .i64 (0)), (.int .i64 (0))])⟩,
    ⟨none, none, .o (.store 4 (.t 8) (.t 16))⟩])
  (.seq (.reg [⟨(some 17), none, .o (.v (.load (.t 5) (some 2)))⟩,
    ⟨(some 18), none, .o (.v (.off (.t 8) 2))⟩,
    ⟨none, none, .o (.store 2 (.t 18) (.t 17))⟩])
  (.seq (.reg [⟨(some 19), none, .o (.v (.mov (.t 7)))⟩,
    ⟨(some 20), none, .o (.v (.mov (.t 1)))⟩,
    ⟨(some 21), none, .o (.v (.load (.t 8) (some 4)))⟩,
    ⟨(some 22), none, .o (.v (.ixa (.t 19) (.t 20) 4))⟩,
    ⟨none, none, .o (.store 4 (.t 22) (.t 21))⟩])
  (.seq (.reg [⟨(some 23), none, .o (.v (.mov (.t 7)))⟩,
    ⟨(some 24), none, .o (.v (.off (.t 3) 2))⟩,
    ⟨none, none, .o (.store 1 (.t 24) (.t 23))⟩])
  (.seq (.reg [⟨(some 25), none, .o (.v (.load (.t 3) (some 3)))⟩,
    ⟨none, none, .o (.store 3 (.t 6) (.t 25))⟩])
  .ret)))))))
theorem h40 : FdOk Try.prog 40 ⟨g40, [.c 6 (some 3)], 26, [], false⟩ := .of Try.func40 (by simp [Try.f40]) (by kernel_rfl)
/-- octant/octantlaw06.net -/
def g44 : RC :=
  (.seq (.reg [⟨(some 0), none, .o (.new 40 [(.int .i64 (0)), (.lit (.slice none 0 0)), (.lit (.slice none 0 0))])⟩])
  (.seq (.drw [⟨[0], 1, 0, [(⟨(some 1), none, .msl 4 1 [(.lit (.bool false))] (.c (.int .i64 (4))) (.c (.int .i64 (4)))⟩, .val 0 []),
    (⟨(some 2), none, .o (.call (.c (.fn 34 [])) [(.c (.int .i64 (200000))), (.c (.int .i64 (200010)))])⟩, .val 0 []),
    (⟨(some 3), none, .o (.bld [(.int .i64 (0)), (.int .i64 (0)), (.int .i64 (0)), (.int .i64 (0))] [(0, 1, (.c (.int .i64 (0)))), (1, 1, (.c (.int .i64 (0)))), (2, 2, (.t 2))])⟩, .val 0 []),
    (⟨(some 4), none, .o (.call (.c (.fn 34 [])) [(.c (.int .i64 (220000))), (.c (.int .i64 (220000)))])⟩, .val 0 []),
    (⟨(some 5), none, .o (.bld [(.int .i64 (0)), (.int .i64 (0)), (.int .i64 (0)), (.int .i64 (0))] [(0, 1, (.c (.int .i64 (0)))), (1, 1, (.c (.int .i64 (1)))), (2, 2, (.t 4))])⟩, .val 0 []),
    (⟨(some 6), none, .o (.call (.c (.fn 34 [])) [(.c (.int .i64 (227990))), (.c (.int .i64 (228005)))])⟩, .val 0 []),
    (⟨(some 7), none, .o (.bld [(.int .i64 (0)), (.int .i64 (0)), (.int .i64 (0)), (.int .i64 (0))] [(0, 1, (.c (.int .i64 (0)))), (1, 1, (.c (.int .i64 (2)))), (2, 2, (.t 6))])⟩, .val 0 []),
    (⟨(some 8), none, .o (.call (.c (.fn 34 [])) [(.c (.int .i64 (210000))), (.c (.int .i64 (210010)))])⟩, .val 0 []),
    (⟨(some 9), none, .o (.bld [(.int .i64 (0)), (.int .i64 (0)), (.int .i64 (0)), (.int .i64 (0))] [(0, 1, (.c (.int .i64 (1)))), (1, 1, (.c (.int .i64 (0)))), (2, 2, (.t 8))])⟩, .val 0 []),
    (⟨(some 10), none, .o (.call (.c (.fn 34 [])) [(.c (.int .i64 (218000))), (.c (.int .i64 (218000)))])⟩, .val 0 []),
    (⟨(some 11), none, .o (.bld [(.int .i64 (0)), (.int .i64 (0)), (.int .i64 (0)), (.int .i64 (0))] [(0, 1, (.c (.int .i64 (1)))), (1, 1, (.c (.int .i64 (2)))), (2, 2, (.t 10))])⟩, .val 0 []),
    (⟨(some 12), none, .o (.call (.c (.fn 34 [])) [(.c (.int .i64 (220000))), (.c (.int .i64 (220005)))])⟩, .val 0 []),
    (⟨(some 13), none, .o (.bld [(.int .i64 (0)), (.int .i64 (0)), (.int .i64 (0)), (.int .i64 (0))] [(0, 1, (.c (.int .i64 (1)))), (1, 1, (.c (.int .i64 (3)))), (2, 2, (.t 12))])⟩, .val 0 []),
    (⟨(some 14), none, .o (.bsl 66 6 (List.replicate 24 (.int .i64 (0))) [(0, 4, (.t 3)), (4, 4, (.t 5)), (8, 4, (.t 7)), (12, 4, (.t 9)), (16, 4, (.t 11)), (20, 4, (.t 13))])⟩, .cre 0)],
    [0],
    [⟨(some 15), none, .o (.bld [(.int .i64 (0)), (.lit (.slice none 0 0)), (.lit (.slice none 0 0))] [(0, 1, (.c (.int .i64 (2)))), (1, 1, (.t 1)), (2, 1, (.t 14))])⟩,
    ⟨none, none, .o (.store 3 (.t 0) (.t 15))⟩], none⟩,
    ⟨[0], 0, 0, [(⟨(some 1), none, .msl 4 1 [(.lit (.bool false))] (.c (.int .i64 (4))) (.c (.int .i64 (4)))⟩, .val 0 []),
    (⟨(some 2), none, .o (.call (.c (.fn 34 [])) [(.c (.int .i64 (200000))), (.c (.int .i64 (200010)))])⟩, .val 0 []),
    (⟨(some 3), none, .o (.bld [(.int .i64 (0)), (.int .i64 (0)), (.int .i64 (0)), (.int .i64 (0))] [(0, 1, (.c (.int .i64 (0)))), (1, 1, (.c (.int .i64 (0)))), (2, 2, (.t 2))])⟩, .val 0 []),
    (⟨(some 4), none, .o (.call (.c (.fn 34 [])) [(.c (.int .i64 (220000))), (.c (.int .i64 (220000)))])⟩, .val 0 []),
    (⟨(some 5), none, .o (.bld [(.int .i64 (0)), (.int .i64 (0)), (.int .i64 (0)), (.int .i64 (0))] [(0, 1, (.c (.int .i64 (0)))), (1, 1, (.c (.int .i64 (1)))), (2, 2, (.t 4))])⟩, .val 0 []),
    (⟨(some 6), none, .o (.call (.c (.fn 34 [])) [(.c (.int .i64 (227990))), (.c (.int .i64 (228005)))])⟩, .val 0 []),
    (⟨(some 7), none, .o (.bld [(.int .i64 (0)), (.int .i64 (0)), (.int .i64 (0)), (.int .i64 (0))] [(0, 1, (.c (.int .i64 (0)))), (1, 1, (.c (.int .i64 (2)))), (2, 2, (.t 6))])⟩, .val 0 []),
    (⟨(some 8), none, .o (.call (.c (.fn 34 [])) [(.c (.int .i64 (210000))), (.c (.int .i64 (210010)))])⟩, .val 0 []),
    (⟨(some 9), none, .o (.bld [(.int .i64 (0)), (.int .i64 (0)), (.int .i64 (0)), (.int .i64 (0))] [(0, 1, (.c (.int .i64 (1)))), (1, 1, (.c (.int .i64 (0)))), (2, 2, (.t 8))])⟩, .val 0 []),
    (⟨(some 10), none, .o (.call (.c (.fn 34 [])) [(.c (.int .i64 (218000))), (.c (.int .i64 (218000)))])⟩, .val 0 []),
    (⟨(some 11), none, .o (.bld [(.int .i64 (0)), (.int .i64 (0)), (.int .i64 (0)), (.int .i64 (0))] [(0, 1, (.c (.int .i64 (1)))), (1, 1, (.c (.int .i64 (2)))), (2, 2, (.t 10))])⟩, .val 0 []),
    (⟨(some 12), none, .o (.call (.c (.fn 34 [])) [(.c (.int .i64 (220000))), (.c (.int .i64 (220005)))])⟩, .val 0 []),
    (⟨(some 13), none, .o (.bld [(.int .i64 (0)), (.int .i64 (0)), (.int .i64 (0)), (.int .i64 (0))] [(0, 1, (.c (.int .i64 (1)))), (1, 1, (.c (.int .i64 (3)))), (2, 2, (.t 12))])⟩, .val 0 []),
    (⟨(some 14), none, .o (.bsl 66 6 (List.replicate 24 (.int .i64 (0))) [(0, 4, (.t 3)), (4, 4, (.t 5)), (8, 4, (.t 7)), (12, 4, (.t 9)), (16, 4, (.t 11)), (20, 4, (.t 13))])⟩, .val 0 [])],
    [],
    [⟨(some 15), none, .o (.bld [(.int .i64 (0)), (.lit (.slice none 0 0)), (.lit (.slice none 0 0))] [(0, 1, (.c (.int .i64 (2)))), (1, 1, (.t 1)), (2, 1, (.t 14))])⟩,
    ⟨none, none, .o (.store 3 (.t 0) (.t 15))⟩], none⟩])
  .ret))
theorem h44 : FdOk Try.prog 44 ⟨g44, [.c 0 (some 3)], 16, [], true⟩ := .of Try.func44 (by simp [Try.f44]) (by kernel_rfl)
/-- octant/octantlaw06.around -/
def g45 : RC :=
  (.seq (.reg [⟨(some 2), none, .o (.new 40 [(.int .i64 (0)), (.lit (.slice none 0 0)), (.lit (.slice none 0 0))])⟩])
  (.seq (.reg [⟨(some 5), none, .o (.v (.mov (.t 0)))⟩,
    ⟨(some 6), none, .o (.bsl 4 4 [(.lit (.bool false)), (.lit (.bool false)), (.lit (.bool false)), (.lit (.bool false))] [(0, 1, (.t 5)), (1, 1, (.c (.lit (.bool false)))), (2, 1, (.c (.lit (.bool false)))), (3, 1, (.c (.lit (.bool false))))])⟩,
    ⟨(some 7), none, .o (.bld [(.int .i64 (0)), (.lit (.slice none 0 0)), (.lit (.slice none 0 0))] [(0, 1, (.c (.int .i64 (3)))), (1, 1, (.t 6))])⟩,
    ⟨(some 3), none, .o (.new 40 [(.int .i64 (0)), (.lit (.slice none 0 0)), (.lit (.slice none 0 0))])⟩,
    ⟨none, none, .o (.store 3 (.t 3) (.t 7))⟩])
  (.seq (.seq (.reg [⟨(some 4), none, .o (.v (.mov (.c (.int .i64 (0)))))⟩])
  (.block 0 (.loop
    (.seq (.seq (.reg [⟨(some 8), none, .o (.v (.mov (.t 4)))⟩,
      ⟨(some 9), none, .o (.v (.bin .lss (.t 8) (.c (.int .i64 (3)))))⟩])
    (.cond (.t 9)
      .skip
      (.exit 0)))
    (.seq (.block 1 (.drw [⟨[], 1, 3, [(⟨(some 12), none, .o (.v (.off (.t 3) 2))⟩, .val 0 []),
      (⟨(some 13), none, .o (.v (.load (.t 12) none))⟩, .val 0 []),
      (⟨(some 14), none, .o (.v (.mov (.t 4)))⟩, .val 0 []),
      (⟨(some 15), none, .o (.call (.c (.fn 34 [])) [(.c (.int .i64 (432000))), (.c (.int .i64 (432010)))])⟩, .eff 0 []),
      (⟨(some 16), none, .o (.bld [(.int .i64 (0)), (.int .i64 (0)), (.int .i64 (0)), (.int .i64 (0))] [(0, 1, (.t 14)), (1, 1, (.c (.int .i64 (0)))), (2, 2, (.t 15))])⟩, .val 1 []),
      (⟨(some 17), none, .o (.v (.mov (.t 4)))⟩, .val 0 []),
      (⟨(some 18), none, .o (.v (.mov (.t 4)))⟩, .val 0 []),
      (⟨(some 19), none, .o (.v (.bin .add (.c (.int .i64 (1))) (.t 18)))⟩, .val 0 []),
      (⟨(some 20), none, .o (.call (.c (.fn 34 [])) [(.c (.int .i64 (107995))), (.c (.int .i64 (108005)))])⟩, .eff 1 []),
      (⟨(some 21), none, .o (.bld [(.int .i64 (0)), (.int .i64 (0)), (.int .i64 (0)), (.int .i64 (0))] [(0, 1, (.t 17)), (1, 1, (.t 19)), (2, 2, (.t 20))])⟩, .val 2 []),
      (⟨(some 22), none, .o (.v (.mov (.t 4)))⟩, .val 0 []),
      (⟨(some 23), none, .o (.v (.mov (.t 4)))⟩, .val 0 []),
      (⟨(some 24), none, .o (.v (.bin .add (.t 23) (.c (.int .i64 (1)))))⟩, .val 0 []),
      (⟨(some 25), none, .o (.v (.bin .rem (.t 24) (.c (.int .i64 (3)))))⟩, .val 0 []),
      (⟨(some 26), none, .o (.v (.bin .add (.c (.int .i64 (1))) (.t 25)))⟩, .val 0 []),
      (⟨(some 27), none, .o (.call (.c (.fn 34 [])) [(.c (.int .i64 (107995))), (.c (.int .i64 (108005)))])⟩, .eff 2 []),
      (⟨(some 28), none, .o (.bld [(.int .i64 (0)), (.int .i64 (0)), (.int .i64 (0)), (.int .i64 (0))] [(0, 1, (.t 22)), (1, 1, (.t 26)), (2, 2, (.t 27))])⟩, .val 3 []),
      (⟨(some 29), none, .o (.bsl 66 3 [(.int .i64 (0)), (.int .i64 (0)), (.int .i64 (0)), (.int .i64 (0)), (.int .i64 (0)), (.int .i64 (0)), (.int .i64 (0)), (.int .i64 (0)), (.int .i64 (0)), (.int .i64 (0)), (.int .i64 (0)), (.int .i64 (0))] [(0, 4, (.t 16)), (4, 4, (.t 21)), (8, 4, (.t 28))])⟩, .cre 0)],
      [0],
      [⟨(some 30), none, .o (.app 66 4 32 (.t 13) (.t 29))⟩,
      ⟨(some 31), none, .o (.v (.off (.t 3) 2))⟩,
      ⟨none, none, .o (.store 1 (.t 31) (.t 30))⟩], none⟩]))
    (.reg [⟨(some 10), none, .o (.v (.mov (.t 4)))⟩,
      ⟨(some 11), none, .o (.v (.bin .add (.t 10) (.c (.int .i64 (1)))))⟩,
      ⟨(some 4), none, .o (.v (.mov (.t 11)))⟩]))))))
  (.seq (.reg [⟨(some 32), none, .o (.v (.load (.t 3) (some 3)))⟩,
    ⟨none, none, .o (.store 3 (.t 2) (.t 32))⟩])
  .ret))))
theorem h45 : FdOk Try.prog 45 ⟨g45, [.c 2 (some 3)], 33, [], false⟩ := .of Try.func45 (by simp [Try.f45]) (by kernel_rfl)
/-- (octant/rounds.repetition).valid -/
def g46 : RC :=
  (.seq (.reg [⟨(some 1), none, .o (.box 82 (.t 0))⟩,
    ⟨(some 2), none, .o (.v (.mov (.c (.lit (.bool false)))))⟩])
  (.seq (.reg [⟨(some 3), none, .o (.v (.off (.t 1) 0))⟩,
    ⟨(some 4), none, .o (.v (.off (.t 3) 0))⟩,
    ⟨(some 5), none, .o (.v (.load (.t 4) none))⟩,
    ⟨(some 6), none, .o (.call (.c (.fn 70 [])) [(.t 5)])⟩,
    ⟨(some 7), none, .o (.v (.mov (.t 6)))⟩,
    ⟨(some 8), (some (7, true)), .o (.v (.off (.t 1) 0))⟩,
    ⟨(some 9), (some (7, true)), .o (.v (.off (.t 8) 1))⟩,
    ⟨(some 10), (some (7, true)), .o (.v (.load (.t 9) none))⟩,
    ⟨(some 11), (some (7, true)), .o (.call (.c (.fn 70 [])) [(.t 10)])⟩,
    ⟨(some 12), none, .o (.v (.pick (.t 7) (.t 11) (.c (.lit (.bool false)))))⟩,
    ⟨(some 13), none, .o (.v (.mov (.t 12)))⟩,
    ⟨(some 14), (some (13, true)), .o (.v (.off (.t 1) 0))⟩,
    ⟨(some 15), (some (13, true)), .o (.v (.off (.t 14) 2))⟩,
    ⟨(some 16), (some (13, true)), .o (.v (.load (.t 15) none))⟩,
    ⟨(some 17), (some (13, true)), .o (.call (.c (.fn 71 [])) [(.t 16), (.c (.int .i64 (1))), (.c (.int .i64 (100)))])⟩,
    ⟨(some 18), none, .o (.v (.pick (.t 13) (.t 17) (.c (.lit (.bool false)))))⟩,
    ⟨(some 19), none, .o (.v (.mov (.t 18)))⟩,
    ⟨(some 20), (some (19, true)), .o (.v (.off (.t 1) 0))⟩,
    ⟨(some 21), (some (19, true)), .o (.v (.off (.t 20) 3))⟩,
    ⟨(some 22), (some (19, true)), .o (.v (.load (.t 21) (some 2)))⟩,
    ⟨(some 23), (some (19, true)), .o (.call (.c (.fn 72 [])) [(.t 22), (.c (.int .i64 (0))), (.c (.int .i64 (1295999)))])⟩,
    ⟨(some 24), none, .o (.v (.pick (.t 19) (.t 23) (.c (.lit (.bool false)))))⟩,
    ⟨(some 25), none, .o (.v (.mov (.t 24)))⟩,
    ⟨(some 26), (some (25, true)), .o (.v (.off (.t 1) 0))⟩,
    ⟨(some 27), (some (25, true)), .o (.v (.off (.t 26) 5))⟩,
    ⟨(some 28), (some (25, true)), .o (.v (.load (.t 27) none))⟩,
    ⟨(some 29), (some (25, true)), .o (.call (.c (.fn 71 [])) [(.t 28), (.c (.int .i64 (0))), (.c (.int .i64 (10000)))])⟩,
    ⟨(some 30), none, .o (.v (.pick (.t 25) (.t 29) (.c (.lit (.bool false)))))⟩,
    ⟨(some 2), none, .o (.v (.mov (.t 30)))⟩])
  .ret))
theorem h46 : FdOk Try.prog 46 ⟨g46, [.t 2], 31, [], false⟩ := .of Try.func46 (by simp [Try.f46]) (by kernel_rfl)
/-- (octant/rounds.repetition).angles -/
def g47 : RC :=
  (.seq (.reg [⟨(some 1), none, .o (.box 82 (.t 0))⟩,
    ⟨(some 2), none, .o (.v (.mov (.c (.lit (.slice none 0 0)))))⟩])
  (.seq (.reg [⟨(some 3), none, .o (.v (.mov (.c (.lit (.slice none 0 0)))))⟩])
  (.seq (.reg [⟨(some 8), none, .o (.v (.off (.t 1) 0))⟩,
    ⟨(some 9), none, .o (.v (.off (.t 8) 1))⟩,
    ⟨(some 10), none, .o (.v (.load (.t 9) none))⟩,
    ⟨(some 11), none, .o (.v (.off (.t 1) 0))⟩,
    ⟨(some 12), none, .o (.v (.off (.t 11) 0))⟩,
    ⟨(some 13), none, .o (.v (.load (.t 12) none))⟩,
    ⟨(some 14), none, .o (.v (.bin .sub (.t 10) (.t 13)))⟩,
    ⟨(some 15), none, .o (.call (.c (.fn 73 [])) [(.t 14)])⟩,
    ⟨(some 4), none, .o (.v (.mov (.t 15)))⟩])
  (.seq (.seq (.reg [⟨(some 16), none, .o (.v (.off (.t 1) 0))⟩,
    ⟨(some 17), none, .o (.v (.off (.t 16) 2))⟩,
    ⟨(some 18), none, .o (.v (.load (.t 17) none))⟩,
    ⟨(some 19), none, .o (.v (.bin .add (.t 18) (.c (.int .i64 (2)))))⟩,
    ⟨(some 20), none, .o (.v (.mov (.c (.int .i64 (0)))))⟩])
  (.block 0 (.loop
    (.seq (.reg [⟨(some 21), none, .o (.v (.bin .lss (.t 20) (.t 19)))⟩])
    (.seq (.cond (.t 21)
      .skip
      (.exit 0))
    (.seq (.block 1 (.seq (.reg [⟨(some 22), none, .o (.v (.mov (.t 20)))⟩,
      ⟨(some 5), none, .o (.v (.mov (.t 22)))⟩])
    (.seq (.reg [⟨(some 23), none, .o (.v (.mov (.t 4)))⟩,
      ⟨(some 24), none, .o (.v (.mov (.t 5)))⟩,
      ⟨(some 25), none, .o (.v (.bin .sub (.t 24) (.c (.int .i64 (1)))))⟩,
      ⟨(some 26), none, .o (.v (.bin .mul (.t 25) (.c (.int .i64 (1296000)))))⟩,
      ⟨(some 27), none, .o (.v (.bin .add (.t 23) (.t 26)))⟩,
      ⟨(some 6), none, .o (.v (.mov (.t 27)))⟩])
    (.seq (.drw [⟨[], 0, 3, [(⟨(some 28), none, .o (.v (.off (.t 1) 0))⟩, .val 0 []),
      (⟨(some 29), none, .o (.v (.off (.t 28) 3))⟩, .val 0 []),
      (⟨(some 30), none, .o (.v (.load (.t 29) (some 2)))⟩, .val 0 []),
      (⟨(some 31), none, .o (.v (.mov (.t 6)))⟩, .val 0 []),
      (⟨(some 32), none, .o (.v (.off (.t 1) 0))⟩, .val 0 []),
      (⟨(some 33), none, .o (.v (.off (.t 32) 5))⟩, .val 0 []),
      (⟨(some 34), none, .o (.v (.load (.t 33) none))⟩, .val 0 []),
      (⟨(some 35), none, .o (.v (.bin .mul (.c (.int .i64 (2))) (.t 34)))⟩, .val 0 []),
      (⟨(some 36), none, .o (.v (.bin .sub (.t 31) (.t 35)))⟩, .val 0 []),
      (⟨(some 37), none, .o (.v (.off (.t 1) 0))⟩, .val 0 []),
      (⟨(some 38), none, .o (.v (.off (.t 37) 2))⟩, .val 0 []),
      (⟨(some 39), none, .o (.v (.load (.t 38) none))⟩, .val 0 []),
      (⟨(some 40), none, .o (.call (.c (.fn 75 [])) [(.t 36), (.t 39)])⟩, .eff 0 []),
      (⟨(some 41), none, .o (.v (.mov (.t 6)))⟩, .val 0 []),
      (⟨(some 42), none, .o (.v (.off (.t 1) 0))⟩, .val 0 []),
      (⟨(some 43), none, .o (.v (.off (.t 42) 5))⟩, .val 0 []),
      (⟨(some 44), none, .o (.v (.load (.t 43) none))⟩, .val 0 []),
      (⟨(some 45), none, .o (.v (.bin .mul (.c (.int .i64 (2))) (.t 44)))⟩, .val 0 []),
      (⟨(some 46), none, .o (.v (.bin .add (.t 41) (.t 45)))⟩, .val 0 []),
      (⟨(some 47), none, .o (.v (.off (.t 1) 0))⟩, .val 0 []),
      (⟨(some 48), none, .o (.v (.off (.t 47) 2))⟩, .val 0 []),
      (⟨(some 49), none, .o (.v (.load (.t 48) none))⟩, .val 0 []),
      (⟨(some 50), none, .o (.call (.c (.fn 76 [])) [(.t 46), (.t 49)])⟩, .eff 1 []),
      (⟨(some 51), none, .o (.bld [(.int .i64 (0)), (.int .i64 (0))] [(0, 1, (.t 40)), (1, 1, (.t 50))])⟩, .val 2 []),
      (⟨(some 52), none, .o (.call (.c (.fn 74 [])) [(.t 30), (.t 51)])⟩, .eff 2 [])],
      [],
      [⟨(some 7), none, .o (.new 23 [(.int .i64 (0)), (.int .i64 (0))])⟩,
      ⟨none, none, .o (.store 2 (.t 7) (.t 52))⟩], (some 7)⟩,
      ⟨[1, 6], 1, 0, [(⟨(some 28), none, .o (.v (.off (.t 1) 0))⟩, .val 0 []),
      (⟨(some 29), none, .o (.v (.off (.t 28) 3))⟩, .val 0 []),
      (⟨(some 30), none, .o (.v (.load (.t 29) (some 2)))⟩, .val 0 []),
      (⟨(some 31), none, .o (.v (.mov (.t 6)))⟩, .val 0 []),
      (⟨(some 32), none, .o (.v (.off (.t 1) 0))⟩, .val 0 []),
      (⟨(some 33), none, .o (.v (.off (.t 32) 5))⟩, .val 0 []),
      (⟨(some 34), none, .o (.v (.load (.t 33) none))⟩, .val 0 []),
      (⟨(some 35), none, .o (.v (.bin .mul (.c (.int .i64 (2))) (.t 34)))⟩, .val 0 []),
      (⟨(some 36), none, .o (.v (.bin .sub (.t 31) (.t 35)))⟩, .val 0 []),
      (⟨(some 37), none, .o (.v (.off (.t 1) 0))⟩, .val 0 []),
      (⟨(some 38), none, .o (.v (.off (.t 37) 2))⟩, .val 0 []),
      (⟨(some 39), none, .o (.v (.load (.t 38) none))⟩, .val 0 []),
      (⟨(some 40), none, .o (.call (.c (.fn 75 [])) [(.t 36), (.t 39)])⟩, .val 0 []),
      (⟨(some 41), none, .o (.v (.mov (.t 6)))⟩, .val 0 []),
      (⟨(some 42), none, .o (.v (.off (.t 1) 0))⟩, .val 0 []),
      (⟨(some 43), none, .o (.v (.off (.t 42) 5))⟩, .val 0 []),
      (⟨(some 44), none, .o (.v (.load (.t 43) none))⟩, .val 0 []),
      (⟨(some 45), none, .o (.v (.bin .mul (.c (.int .i64 (2))) (.t 44)))⟩, .val 0 []),
      (⟨(some 46), none, .o (.v (.bin .add (.t 41) (.t 45)))⟩, .val 0 []),
      (⟨(some 47), none, .o (.v (.off (.t 1) 0))⟩, .val 0 []),
      (⟨(some 48), none, .o (.v (.off (.t 47) 2))⟩, .val 0 []),
      (⟨(some 49), none, .o (.v (.load (.t 48) none))⟩, .val 0 []),
      (⟨(some 50), none, .o (.call (.c (.fn 76 [])) [(.t 46), (.t 49)])⟩, .val 0 []),
      (⟨(some 51), none, .o (.bld [(.int .i64 (0)), (.int .i64 (0))] [(0, 1, (.t 40)), (1, 1, (.t 50))])⟩, .val 0 []),
      (⟨(some 52), none, .o (.call (.c (.fn 74 [])) [(.t 30), (.t 51)])⟩, .val 0 []),
      (⟨(some 7), none, .o (.new 23 [(.int .i64 (0)), (.int .i64 (0))])⟩, .cre 0)],
      [0],
      [⟨none, none, .o (.store 2 (.t 7) (.t 52))⟩], none⟩])
    (.seq (.drw [⟨[], 0, 1, [(⟨(some 53), none, .o (.v (.load (.t 7) (some 2)))⟩, .val 0 []),
      (⟨(some 54), none, .o (.call (.c (.fn 54 [])) [])⟩, .eff 0 [])],
      [],
      [⟨(some 55), none, .o (.v (.eqs [(some .i64), (some .i64)] true (.t 53) (.t 54)))⟩], none⟩])
    (.cond (.t 55)
      (.reg [⟨(some 56), none, .o (.v (.mov (.t 3)))⟩,
        ⟨(some 57), none, .o (.v (.load (.t 7) (some 2)))⟩,
        ⟨(some 58), none, .o (.bsl 23 1 [(.int .i64 (0)), (.int .i64 (0))] [(0, 2, (.t 57))])⟩,
        ⟨(some 59), none, .o (.app 23 2 16 (.t 56) (.t 58))⟩,
        ⟨(some 3), none, .o (.v (.mov (.t 59)))⟩])
      .skip))))))
    (.reg [⟨(some 60), none, .o (.v (.bin .add (.t 20) (.c (.int .i64 (1)))))⟩,
      ⟨(some 20), none, .o (.v (.mov (.t 60)))⟩])))))))
  (.seq (.reg [⟨(some 61), none, .o (.v (.mov (.t 3)))⟩,
    ⟨(some 2), none, .o (.v (.mov (.t 61)))⟩])
  .ret)))))
theorem h47 : FdOk Try.prog 47 ⟨g47, [.t 2], 62, [], false⟩ := .of Try.func47 (by simp [Try.f47]) (by kernel_rfl)
/-- (octant/rounds.faces).valid -/
def g52 : RC :=
  (.seq (.reg [⟨(some 1), none, .o (.box 87 (.t 0))⟩,
    ⟨(some 2), none, .o (.v (.mov (.c (.lit (.bool false)))))⟩])
  (.seq (.reg [⟨(some 3), none, .o (.v (.off (.t 1) 0))⟩,
    ⟨(some 4), none, .o (.v (.off (.t 3) 0))⟩,
    ⟨(some 5), none, .o (.v (.load (.t 4) none))⟩,
    ⟨(some 6), none, .o (.call (.c (.fn 70 [])) [(.t 5)])⟩,
    ⟨(some 7), none, .o (.v (.mov (.t 6)))⟩,
    ⟨(some 8), (some (7, true)), .o (.v (.off (.t 1) 0))⟩,
    ⟨(some 9), (some (7, true)), .o (.v (.off (.t 8) 1))⟩,
    ⟨(some 10), (some (7, true)), .o (.v (.load (.t 9) none))⟩,
    ⟨(some 11), (some (7, true)), .o (.call (.c (.fn 70 [])) [(.t 10)])⟩,
    ⟨(some 12), none, .o (.v (.pick (.t 7) (.t 11) (.c (.lit (.bool false)))))⟩,
    ⟨(some 13), none, .o (.v (.mov (.t 12)))⟩,
    ⟨(some 14), (some (13, true)), .o (.v (.off (.t 1) 0))⟩,
    ⟨(some 15), (some (13, true)), .o (.v (.off (.t 14) 2))⟩,
    ⟨(some 16), (some (13, true)), .o (.v (.load (.t 15) none))⟩,
    ⟨(some 17), (some (13, true)), .o (.call (.c (.fn 71 [])) [(.t 16), (.c (.int .i64 (0))), (.c (.int .i64 (10000)))])⟩,
    ⟨(some 18), none, .o (.v (.pick (.t 13) (.t 17) (.c (.lit (.bool false)))))⟩,
    ⟨(some 19), none, .o (.v (.mov (.t 18)))⟩,
    ⟨(some 20), (some (19, true)), .o (.v (.off (.t 1) 0))⟩,
    ⟨(some 21), (some (19, true)), .o (.v (.off (.t 20) 3))⟩,
    ⟨(some 22), (some (19, true)), .o (.v (.load (.t 21) none))⟩,
    ⟨(some 23), (some (19, true)), .o (.call (.c (.fn 71 [])) [(.t 22), (.c (.int .i64 (0))), (.c (.int .i64 (100000)))])⟩,
    ⟨(some 24), none, .o (.v (.pick (.t 19) (.t 23) (.c (.lit (.bool false)))))⟩,
    ⟨(some 2), none, .o (.v (.mov (.t 24)))⟩])
  .ret))
theorem h52 : FdOk Try.prog 52 ⟨g52, [.t 2], 25, [], false⟩ := .of Try.func52 (by simp [Try.f52]) (by kernel_rfl)
/-- (octant/rounds.faces).leans -/
def g53 : RC :=
  (.seq (.reg [⟨(some 1), none, .o (.box 87 (.t 0))⟩,
    ⟨(some 2), none, .o (.new 23 [(.int .i64 (0)), (.int .i64 (0))])⟩])
  (.seq (.drw [⟨[], 0, 2, [(⟨(some 4), none, .o (.v (.load (.t 1) (some 4)))⟩, .val 0 []),
    (⟨(some 5), none, .o (.call (.c (.fn 77 [])) [(.t 4)])⟩, .eff 0 []),
    (⟨(some 6), none, .o (.v (.neg (.t 5)))⟩, .val 1 []),
    (⟨(some 7), none, .o (.v (.off (.t 1) 0))⟩, .val 0 []),
    (⟨(some 8), none, .o (.v (.off (.t 7) 2))⟩, .val 0 []),
    (⟨(some 9), none, .o (.v (.load (.t 8) none))⟩, .val 0 []),
    (⟨(some 10), none, .o (.v (.bin .mul (.c (.int .i64 (2))) (.t 9)))⟩, .val 0 []),
    (⟨(some 11), none, .o (.v (.bin .sub (.t 6) (.t 10)))⟩, .val 1 []),
    (⟨(some 12), none, .o (.v (.load (.t 1) (some 4)))⟩, .val 0 []),
    (⟨(some 13), none, .o (.call (.c (.fn 77 [])) [(.t 12)])⟩, .eff 1 []),
    (⟨(some 14), none, .o (.v (.neg (.t 13)))⟩, .val 2 []),
    (⟨(some 15), none, .o (.v (.off (.t 1) 0))⟩, .val 0 []),
    (⟨(some 16), none, .o (.v (.off (.t 15) 2))⟩, .val 0 []),
    (⟨(some 17), none, .o (.v (.load (.t 16) none))⟩, .val 0 []),
    (⟨(some 18), none, .o (.v (.bin .mul (.c (.int .i64 (2))) (.t 17)))⟩, .val 0 []),
    (⟨(some 19), none, .o (.v (.bin .add (.t 14) (.t 18)))⟩, .val 2 []),
    (⟨(some 20), none, .o (.bld [(.int .i64 (0)), (.int .i64 (0))] [(0, 1, (.t 11)), (1, 1, (.t 19))])⟩, .val 2 [])],
    [],
    [⟨(some 3), none, .o (.new 23 [(.int .i64 (0)), (.int .i64 (0))])⟩,
    ⟨none, none, .o (.store 2 (.t 3) (.t 20))⟩], (some 3)⟩,
    ⟨[1], 1, 0, [(⟨(some 4), none, .o (.v (.load (.t 1) (some 4)))⟩, .val 0 []),
    (⟨(some 5), none, .o (.call (.c (.fn 77 [])) [(.t 4)])⟩, .val 0 []),
    (⟨(some 6), none, .o (.v (.neg (.t 5)))⟩, .val 0 []),
    (⟨(some 7), none, .o (.v (.off (.t 1) 0))⟩, .val 0 []),
    (⟨(some 8), none, .o (.v (.off (.t 7) 2))⟩, .val 0 []),
    (⟨(some 9), none, .o (.v (.load (.t 8) none))⟩, .val 0 []),
    (⟨(some 10), none, .o (.v (.bin .mul (.c (.int .i64 (2))) (.t 9)))⟩, .val 0 []),
    (⟨(some 11), none, .o (.v (.bin .sub (.t 6) (.t 10)))⟩, .val 0 []),
    (⟨(some 12), none, .o (.v (.load (.t 1) (some 4)))⟩, .val 0 []),
    (⟨(some 13), none, .o (.call (.c (.fn 77 [])) [(.t 12)])⟩, .val 0 []),
    (⟨(some 14), none, .o (.v (.neg (.t 13)))⟩, .val 0 []),
    (⟨(some 15), none, .o (.v (.off (.t 1) 0))⟩, .val 0 []),
    (⟨(some 16), none, .o (.v (.off (.t 15) 2))⟩, .val 0 []),
    (⟨(some 17), none, .o (.v (.load (.t 16) none))⟩, .val 0 []),
    (⟨(some 18), none, .o (.v (.bin .mul (.c (.int .i64 (2))) (.t 17)))⟩, .val 0 []),
    (⟨(some 19), none, .o (.v (.bin .add (.t 14) (.t 18)))⟩, .val 0 []),
    (⟨(some 20), none, .o (.bld [(.int .i64 (0)), (.int .i64 (0))] [(0, 1, (.t 11)), (1, 1, (.t 19))])⟩, .val 0 []),
    (⟨(some 3), none, .o (.new 23 [(.int .i64 (0)), (.int .i64 (0))])⟩, .cre 0)],
    [0],
    [⟨none, none, .o (.store 2 (.t 3) (.t 20))⟩], none⟩])
  (.seq (.drw [⟨[], 0, 2, [(⟨(some 21), none, .o (.v (.off (.t 1) 0))⟩, .val 0 []),
    (⟨(some 22), none, .o (.v (.off (.t 21) 3))⟩, .val 0 []),
    (⟨(some 23), none, .o (.v (.load (.t 22) none))⟩, .val 0 []),
    (⟨(some 24), none, .o (.v (.neg (.t 23)))⟩, .val 0 []),
    (⟨(some 25), none, .o (.v (.off (.t 1) 0))⟩, .val 0 []),
    (⟨(some 26), none, .o (.v (.off (.t 25) 3))⟩, .val 0 []),
    (⟨(some 27), none, .o (.v (.load (.t 26) none))⟩, .val 0 []),
    (⟨(some 28), none, .o (.bld [(.int .i64 (0)), (.int .i64 (0))] [(0, 1, (.t 24)), (1, 1, (.t 27))])⟩, .val 0 []),
    (⟨(some 29), none, .o (.v (.off (.t 3) 0))⟩, .val 0 []),
    (⟨(some 30), none, .o (.v (.load (.t 29) none))⟩, .val 0 []),
    (⟨(some 31), none, .o (.call (.c (.fn 75 [])) [(.t 30), (.c (.int .i64 (2)))])⟩, .eff 0 []),
    (⟨(some 32), none, .o (.v (.off (.t 3) 1))⟩, .val 0 []),
    (⟨(some 33), none, .o (.v (.load (.t 32) none))⟩, .val 0 []),
    (⟨(some 34), none, .o (.call (.c (.fn 76 [])) [(.t 33), (.c (.int .i64 (2)))])⟩, .eff 1 []),
    (⟨(some 35), none, .o (.bld [(.int .i64 (0)), (.int .i64 (0))] [(0, 1, (.t 31)), (1, 1, (.t 34))])⟩, .val 2 [])],
    [],
    [⟨(some 36), none, .o (.call (.c (.fn 74 [])) [(.t 28), (.t 35)])⟩,
    ⟨none, none, .o (.store 2 (.t 2) (.t 36))⟩], none⟩])
  .ret)))
theorem h53 : FdOk Try.prog 53 ⟨g53, [.c 2 (some 2)], 37, [], false⟩ := .of Try.func53 (by simp [Try.f53]) (by kernel_rfl)
/-- octant/rounds.noSpan -/
def g54 : RC :=
  (.seq (.reg [⟨(some 0), none, .o (.new 23 [(.int .i64 (0)), (.int .i64 (0))])⟩])
  (.seq (.reg [⟨(some 1), none, .o (.bld [(.int .i64 (0)), (.int .i64 (0))] [(0, 1, (.c (.int .i64 (1)))), (1, 1, (.c (.int .i64 (0))))])⟩,
    ⟨none, none, .o (.store 2 (.t 0) (.t 1))⟩])
  .ret))
theorem h54 : FdOk Try.prog 54 ⟨g54, [.c 0 (some 2)], 2, [], false⟩ := .of Try.func54 (by simp [Try.f54]) (by kernel_rfl)
/-- (octant/rounds.faces).directions -/
def g55 : RC :=
  (.seq (.reg [⟨(some 2), none, .o (.box 87 (.t 0))⟩,
    ⟨(some 3), none, .o (.box 23 (.t 1))⟩,
    ⟨(some 4), none, .o (.new 23 [(.int .i64 (0)), (.int .i64 (0))])⟩])
  (.seq (.drw [⟨[], 0, 2, [(⟨(some 8), none, .o (.v (.load (.t 2) (some 4)))⟩, .val 0 []),
    (⟨(some 9), none, .o (.call (.c (.fn 77 [])) [(.t 8)])⟩, .eff 0 []),
    (⟨(some 10), none, .o (.v (.neg (.t 9)))⟩, .val 1 []),
    (⟨(some 11), none, .o (.call (.c (.fn 76 [])) [(.t 10), (.c (.int .i64 (2)))])⟩, .eff 1 []),
    (⟨(some 12), none, .o (.v (.off (.t 3) 0))⟩, .val 0 []),
    (⟨(some 13), none, .o (.v (.load (.t 12) none))⟩, .val 0 []),
    (⟨(some 14), none, .o (.v (.max2 (.t 11) (.t 13)))⟩, .val 2 []),
    (⟨(some 15), none, .o (.v (.off (.t 3) 1))⟩, .val 0 []),
    (⟨(some 16), none, .o (.v (.load (.t 15) none))⟩, .val 0 [])],
    [],
    [⟨(some 17), none, .o (.v (.min2 (.t 14) (.t 16)))⟩,
    ⟨(some 5), none, .o (.v (.mov (.t 17)))⟩], none⟩])
  (.seq (.reg [⟨(some 18), none, .o (.v (.off (.t 2) 0))⟩,
    ⟨(some 19), none, .o (.v (.off (.t 18) 0))⟩,
    ⟨(some 20), none, .o (.v (.load (.t 19) none))⟩,
    ⟨(some 21), none, .o (.v (.mov (.t 5)))⟩,
    ⟨(some 22), none, .o (.v (.bin .sub (.t 20) (.t 21)))⟩,
    ⟨(some 23), none, .o (.v (.off (.t 2) 0))⟩,
    ⟨(some 24), none, .o (.v (.off (.t 23) 2))⟩,
    ⟨(some 25), none, .o (.v (.load (.t 24) none))⟩,
    ⟨(some 26), none, .o (.v (.bin .sub (.t 22) (.t 25)))⟩,
    ⟨(some 27), none, .o (.v (.off (.t 2) 0))⟩,
    ⟨(some 28), none, .o (.v (.off (.t 27) 0))⟩,
    ⟨(some 29), none, .o (.v (.load (.t 28) none))⟩,
    ⟨(some 30), none, .o (.v (.mov (.t 5)))⟩,
    ⟨(some 31), none, .o (.v (.bin .sub (.t 29) (.t 30)))⟩,
    ⟨(some 32), none, .o (.v (.off (.t 2) 0))⟩,
    ⟨(some 33), none, .o (.v (.off (.t 32) 2))⟩,
    ⟨(some 34), none, .o (.v (.load (.t 33) none))⟩,
    ⟨(some 35), none, .o (.v (.bin .add (.t 31) (.t 34)))⟩,
    ⟨(some 36), none, .o (.bld [(.int .i64 (0)), (.int .i64 (0))] [(0, 1, (.t 26)), (1, 1, (.t 35))])⟩,
    ⟨(some 6), none, .o (.new 23 [(.int .i64 (0)), (.int .i64 (0))])⟩,
    ⟨none, none, .o (.store 2 (.t 6) (.t 36))⟩])
  (.seq (.drw [⟨[], 0, 2, [(⟨(some 37), none, .o (.v (.off (.t 2) 0))⟩, .val 0 []),
    (⟨(some 38), none, .o (.v (.off (.t 37) 0))⟩, .val 0 []),
    (⟨(some 39), none, .o (.v (.load (.t 38) none))⟩, .val 0 []),
    (⟨(some 40), none, .o (.v (.load (.t 2) (some 4)))⟩, .val 0 []),
    (⟨(some 41), none, .o (.call (.c (.fn 77 [])) [(.t 40)])⟩, .eff 0 []),
    (⟨(some 42), none, .o (.v (.bin .add (.t 39) (.t 41)))⟩, .val 1 []),
    (⟨(some 43), none, .o (.v (.mov (.t 5)))⟩, .val 0 []),
    (⟨(some 44), none, .o (.v (.bin .add (.t 42) (.t 43)))⟩, .val 1 []),
    (⟨(some 45), none, .o (.v (.off (.t 2) 0))⟩, .val 0 []),
    (⟨(some 46), none, .o (.v (.off (.t 45) 2))⟩, .val 0 []),
    (⟨(some 47), none, .o (.v (.load (.t 46) none))⟩, .val 0 []),
    (⟨(some 48), none, .o (.v (.bin .sub (.t 44) (.t 47)))⟩, .val 1 []),
    (⟨(some 49), none, .o (.v (.off (.t 2) 0))⟩, .val 0 []),
    (⟨(some 50), none, .o (.v (.off (.t 49) 0))⟩, .val 0 []),
    (⟨(some 51), none, .o (.v (.load (.t 50) none))⟩, .val 0 []),
    (⟨(some 52), none, .o (.v (.load (.t 2) (some 4)))⟩, .val 0 []),
    (⟨(some 53), none, .o (.call (.c (.fn 77 [])) [(.t 52)])⟩, .eff 1 []),
    (⟨(some 54), none, .o (.v (.bin .add (.t 51) (.t 53)))⟩, .val 2 []),
    (⟨(some 55), none, .o (.v (.mov (.t 5)))⟩, .val 0 []),
    (⟨(some 56), none, .o (.v (.bin .add (.t 54) (.t 55)))⟩, .val 2 []),
    (⟨(some 57), none, .o (.v (.off (.t 2) 0))⟩, .val 0 []),
    (⟨(some 58), none, .o (.v (.off (.t 57) 2))⟩, .val 0 []),
    (⟨(some 59), none, .o (.v (.load (.t 58) none))⟩, .val 0 []),
    (⟨(some 60), none, .o (.v (.bin .add (.t 56) (.t 59)))⟩, .val 2 []),
    (⟨(some 61), none, .o (.bld [(.int .i64 (0)), (.int .i64 (0))] [(0, 1, (.t 48)), (1, 1, (.t 60))])⟩, .val 2 [])],
    [],
    [⟨(some 7), none, .o (.new 23 [(.int .i64 (0)), (.int .i64 (0))])⟩,
    ⟨none, none, .o (.store 2 (.t 7) (.t 61))⟩], (some 7)⟩,
    ⟨[2, 5], 1, 0, [(⟨(some 37), none, .o (.v (.off (.t 2) 0))⟩, .val 0 []),
    (⟨(some 38), none, .o (.v (.off (.t 37) 0))⟩, .val 0 []),
    (⟨(some 39), none, .o (.v (.load (.t 38) none))⟩, .val 0 []),
    (⟨(some 40), none, .o (.v (.load (.t 2) (some 4)))⟩, .val 0 []),
    (⟨(some 41), none, .o (.call (.c (.fn 77 [])) [(.t 40)])⟩, .val 0 []),
    (⟨(some 42), none, .o (.v (.bin .add (.t 39) (.t 41)))⟩, .val 0 []),
    (⟨(some 43), none, .o (.v (.mov (.t 5)))⟩, .val 0 []),
    (⟨(some 44), none, .o (.v (.bin .add (.t 42) (.t 43)))⟩, .val 0 []),
    (⟨(some 45), none, .o (.v (.off (.t 2) 0))⟩, .val 0 []),
    (⟨(some 46), none, .o (.v (.off (.t 45) 2))⟩, .val 0 []),
    (⟨(some 47), none, .o (.v (.load (.t 46) none))⟩, .val 0 []),
    (⟨(some 48), none, .o (.v (.bin .sub (.t 44) (.t 47)))⟩, .val 0 []),
    (⟨(some 49), none, .o (.v (.off (.t 2) 0))⟩, .val 0 []),
    (⟨(some 50), none, .o (.v (.off (.t 49) 0))⟩, .val 0 []),
    (⟨(some 51), none, .o (.v (.load (.t 50) none))⟩, .val 0 []),
    (⟨(some 52), none, .o (.v (.load (.t 2) (some 4)))⟩, .val 0 []),
    (⟨(some 53), none, .o (.call (.c (.fn 77 [])) [(.t 52)])⟩, .val 0 []),
    (⟨(some 54), none, .o (.v (.bin .add (.t 51) (.t 53)))⟩, .val 0 []),
    (⟨(some 55), none, .o (.v (.mov (.t 5)))⟩, .val 0 []),
    (⟨(some 56), none, .o (.v (.bin .add (.t 54) (.t 55)))⟩, .val 0 []),
    (⟨(some 57), none, .o (.v (.off (.t 2) 0))⟩, .val 0 []),
    (⟨(some 58), none, .o (.v (.off (.t 57) 2))⟩, .val 0 []),
    (⟨(some 59), none, .o (.v (.load (.t 58) none))⟩, .val 0 []),
    (⟨(some 60), none, .o (.v (.bin .add (.t 56) (.t 59)))⟩, .val 0 []),
    (⟨(some 61), none, .o (.bld [(.int .i64 (0)), (.int .i64 (0))] [(0, 1, (.t 48)), (1, 1, (.t 60))])⟩, .val 0 []),
    (⟨(some 7), none, .o (.new 23 [(.int .i64 (0)), (.int .i64 (0))])⟩, .cre 0)],
    [0],
    [⟨none, none, .o (.store 2 (.t 7) (.t 61))⟩], none⟩])
  (.seq (.reg [⟨(some 62), none, .o (.v (.load (.t 6) (some 2)))⟩,
    ⟨(some 63), none, .o (.v (.load (.t 7) (some 2)))⟩,
    ⟨(some 64), none, .o (.call (.c (.fn 74 [])) [(.t 62), (.t 63)])⟩,
    ⟨none, none, .o (.store 2 (.t 4) (.t 64))⟩])
  .ret)))))
theorem h55 : FdOk Try.prog 55 ⟨g55, [.c 4 (some 2)], 65, [], false⟩ := .of Try.func55 (by simp [Try.f55]) (by kernel_rfl)
/-- (octant/rounds.net).closes -/
def g57 : RC :=
  (.seq (.reg [⟨(some 2), none, .o (.box 92 (.t 0))⟩,
    ⟨(some 4), none, .o (.v (.mov (.c (.lit (.bool false)))))⟩])
  (.seq (.seq (.reg [⟨(some 7), none, .o (.v (.off (.t 2) 0))⟩,
    ⟨(some 8), none, .o (.v (.off (.t 7) 2))⟩,
    ⟨(some 9), none, .o (.v (.load (.t 8) none))⟩,
    ⟨(some 10), none, .o (.v (.len (.t 9)))⟩,
    ⟨(some 11), none, .o (.v (.mov (.c (.int .i64 (0)))))⟩])
  (.block 0 (.loop
    (.seq (.reg [⟨(some 12), none, .o (.v (.bin .lss (.t 11) (.t 10)))⟩])
    (.seq (.cond (.t 12)
      .skip
      (.exit 0))
    (.seq (.block 1 (.seq (.reg [⟨(some 13), none, .o (.v (.mov (.t 11)))⟩,
      ⟨(some 14), none, .o (.v (.ixa (.t 9) (.t 11) 4))⟩,
      ⟨(some 15), none, .o (.v (.load (.t 14) (some 4)))⟩,
      ⟨(some 6), none, .o (.new 66 [(.int .i64 (0)), (.int .i64 (0)), (.int .i64 (0)), (.int .i64 (0))])⟩,
      ⟨(some 5), none, .o (.v (.mov (.t 13)))⟩,
      ⟨none, none, .o (.store 4 (.t 6) (.t 15))⟩])
    (.seq (.drw [⟨[], 0, 0, [(⟨(some 16), none, .o (.v (.mov (.t 1)))⟩, .val 0 []),
      (⟨(some 17), none, .o (.v (.mov (.t 5)))⟩, .val 0 []),
      (⟨(some 18), none, .o (.v (.ixa (.t 16) (.t 17) 1))⟩, .val 0 []),
      (⟨(some 19), none, .o (.v (.load (.t 18) none))⟩, .val 0 []),
      (⟨(some 20), none, .o (.v (.off (.t 6) 2))⟩, .val 0 []),
      (⟨(some 21), none, .o (.v (.off (.t 20) 0))⟩, .val 0 []),
      (⟨(some 22), none, .o (.v (.load (.t 21) none))⟩, .val 0 []),
      (⟨(some 23), none, .o (.v (.off (.t 6) 2))⟩, .val 0 []),
      (⟨(some 24), none, .o (.v (.off (.t 23) 1))⟩, .val 0 []),
      (⟨(some 25), none, .o (.v (.load (.t 24) none))⟩, .val 0 [])],
      [],
      [⟨(some 26), none, .o (.call (.c (.fn 71 [])) [(.t 19), (.t 22), (.t 25)])⟩,
      ⟨(some 27), none, .o (.v (.not (.t 26)))⟩], none⟩])
    (.cond (.t 27)
      (.seq (.reg [⟨(some 4), none, .o (.v (.mov (.c (.lit (.bool false)))))⟩])
      .ret)
      .skip))))
    (.reg [⟨(some 28), none, .o (.v (.bin .add (.t 11) (.c (.int .i64 (1)))))⟩,
      ⟨(some 11), none, .o (.v (.mov (.t 28)))⟩])))))))
  (.seq (.reg [⟨(some 29), none, .o (.v (.load (.t 2) (some 3)))⟩,
    ⟨(some 30), none, .o (.v (.mov (.t 1)))⟩,
    ⟨(some 31), none, .o (.call (.c (.fn 78 [])) [(.t 29), (.t 30)])⟩,
    ⟨(some 32), none, .o (.bld (List.replicate 17 (.int .i64 (0))) [])⟩,
    ⟨(some 33), none, .o (.v (.eqs (List.replicate 17 (some .i64)) false (.t 31) (.t 32)))⟩,
    ⟨(some 4), none, .o (.v (.mov (.t 33)))⟩])
  .ret)))
theorem h57 : FdOk Try.prog 57 ⟨g57, [.t 4], 34, [], false⟩ := .of Try.func57 (by simp [Try.f57]) (by kernel_rfl)
/-- (octant/rounds.net).valid -/
def g58 : RC :=
  (.seq (.reg [⟨(some 1), none, .o (.box 92 (.t 0))⟩,
    ⟨(some 2), none, .o (.v (.mov (.c (.lit (.bool false)))))⟩])
  (.seq (.reg [⟨(some 3), none, .o (.v (.off (.t 1) 0))⟩,
    ⟨(some 4), none, .o (.v (.off (.t 3) 0))⟩,
    ⟨(some 5), none, .o (.v (.load (.t 4) none))⟩,
    ⟨(some 6), none, .o (.call (.c (.fn 71 [])) [(.t 5), (.c (.int .i64 (1))), (.c (.int .i64 (8)))])⟩,
    ⟨(some 7), none, .o (.v (.mov (.t 6)))⟩,
    ⟨(some 8), (some (7, true)), .o (.v (.off (.t 1) 0))⟩,
    ⟨(some 9), (some (7, true)), .o (.v (.off (.t 8) 1))⟩,
    ⟨(some 10), (some (7, true)), .o (.v (.load (.t 9) none))⟩,
    ⟨(some 11), (some (7, true)), .o (.v (.len (.t 10)))⟩,
    ⟨(some 12), (some (7, true)), .o (.call (.c (.fn 71 [])) [(.t 11), (.c (.int .i64 (1))), (.c (.int .i64 (8)))])⟩,
    ⟨(some 13), none, .o (.v (.pick (.t 7) (.t 12) (.c (.lit (.bool false)))))⟩,
    ⟨(some 14), none, .o (.v (.mov (.t 13)))⟩,
    ⟨(some 15), (some (14, true)), .o (.v (.off (.t 1) 0))⟩,
    ⟨(some 16), (some (14, true)), .o (.v (.off (.t 15) 2))⟩,
    ⟨(some 17), (some (14, true)), .o (.v (.load (.t 16) none))⟩,
    ⟨(some 18), (some (14, true)), .o (.v (.len (.t 17)))⟩,
    ⟨(some 19), (some (14, true)), .o (.v (.off (.t 1) 0))⟩,
    ⟨(some 20), (some (14, true)), .o (.v (.off (.t 19) 0))⟩,
    ⟨(some 21), (some (14, true)), .o (.v (.load (.t 20) none))⟩,
    ⟨(some 22), (some (14, true)), .o (.v (.bin .mul (.c (.int .i64 (3))) (.t 21)))⟩,
    ⟨(some 23), (some (14, true)), .o (.v (.bin .eql (.t 18) (.t 22)))⟩,
    ⟨(some 24), none, .o (.v (.pick (.t 14) (.t 23) (.c (.lit (.bool false)))))⟩,
    ⟨(some 25), none, .o (.v (.mov (.t 24)))⟩,
    ⟨(some 26), (some (25, true)), .o (.v (.load (.t 1) (some 3)))⟩,
    ⟨(some 27), (some (25, true)), .o (.call (.c (.fn 79 [])) [(.t 26)])⟩,
    ⟨(some 28), none, .o (.v (.pick (.t 25) (.t 27) (.c (.lit (.bool false)))))⟩,
    ⟨(some 29), none, .o (.v (.mov (.t 28)))⟩,
    ⟨(some 30), (some (29, true)), .o (.v (.load (.t 1) (some 3)))⟩,
    ⟨(some 31), (some (29, true)), .o (.call (.c (.fn 80 [])) [(.t 30)])⟩,
    ⟨(some 32), none, .o (.v (.pick (.t 29) (.t 31) (.c (.lit (.bool false)))))⟩,
    ⟨(some 2), none, .o (.v (.mov (.t 32)))⟩])
  .ret))
theorem h58 : FdOk Try.prog 58 ⟨g58, [.t 2], 33, [], false⟩ := .of Try.func58 (by simp [Try.f58]) (by kernel_rfl)
/-- (octant/rounds.net).settled -/
def g60 : RC :=
  (.seq (.reg [⟨(some 1), none, .o (.box 92 (.t 0))⟩,
    ⟨(some 2), none, .o (.new 101 [(.int .i64 (0)), (.lit (.slice none 0 0)), (.lit (.slice none 0 0)), (.lit (.slice none 0 0)), (.int .i64 (0)), (.int .i64 (0)), (.int .i64 (0)), (.int .i64 (0)), (.int .i64 (0)), (.int .i64 (0)), (.int .i64 (0)), (.int .i64 (0)), (.int .i64 (0)), (.int .i64 (0)), (.int .i64 (0)), (.int .i64 (0)), (.int .i64 (0)), (.int .i64 (0)), (.int .i64 (0)), (.int .i64 (0)), (.int .i64 (0)), (.lit (.map none)), (.lit (.bool false)), (.lit (.bool false)), (.lit (.bool false)), (.lit (.bool false)), (.lit (.bool false)), (.lit (.bool false)), (.lit (.bool false)), (.lit (.bool false)), (.lit (.bool false)), (.lit (.bool false)), (.lit (.bool false)), (.lit (.bool false)), (.lit (.bool false)), (.lit (.bool false)), (.lit (.bool false)), (.lit (.bool false)), (.lit (.bool false))])⟩])
  (.seq (.reg [⟨(some 3), none, .o (.v (.mov (.c (.lit (.slice none 0 0)))))⟩])
  (.seq (.seq (.reg [⟨(some 6), none, .o (.v (.off (.t 1) 0))⟩,
    ⟨(some 7), none, .o (.v (.off (.t 6) 2))⟩,
    ⟨(some 8), none, .o (.v (.load (.t 7) none))⟩,
    ⟨(some 9), none, .o (.v (.len (.t 8)))⟩,
    ⟨(some 10), none, .o (.v (.mov (.c (.int .i64 (0)))))⟩])
  (.block 0 (.loop
    (.seq (.reg [⟨(some 11), none, .o (.v (.bin .lss (.t 10) (.t 9)))⟩])
    (.seq (.cond (.t 11)
      .skip
      (.exit 0))
    (.seq (.block 1 (.seq (.reg [⟨(some 12), none, .o (.v (.ixa (.t 8) (.t 10) 4))⟩,
      ⟨(some 13), none, .o (.v (.load (.t 12) (some 4)))⟩,
      ⟨(some 5), none, .o (.new 66 [(.int .i64 (0)), (.int .i64 (0)), (.int .i64 (0)), (.int .i64 (0))])⟩,
      ⟨none, none, .o (.store 4 (.t 5) (.t 13))⟩])
    (.reg [⟨(some 14), none, .o (.v (.mov (.t 3)))⟩,
      ⟨(some 15), none, .o (.v (.off (.t 5) 2))⟩,
      ⟨(some 16), none, .o (.v (.off (.t 15) 0))⟩,
      ⟨(some 17), none, .o (.v (.load (.t 16) none))⟩,
      ⟨(some 18), none, .o (.bsl 3 1 [(.int .i64 (0))] [(0, 1, (.t 17))])⟩,
      ⟨(some 19), none, .o (.app 3 1 8 (.t 14) (.t 18))⟩,
      ⟨(some 3), none, .o (.v (.mov (.t 19)))⟩])))
    (.reg [⟨(some 20), none, .o (.v (.bin .add (.t 10) (.c (.int .i64 (1)))))⟩,
      ⟨(some 10), none, .o (.v (.mov (.t 20)))⟩])))))))
  (.seq (.reg [⟨(some 21), none, .o (.v (.load (.t 1) (some 3)))⟩,
    ⟨(some 22), none, .o (.v (.mov (.t 3)))⟩,
    ⟨(some 23), none, .o (.call (.c (.fn 81 [])) [(.t 21), (.t 22)])⟩,
    ⟨none, none, .o (.store 39 (.t 2) (.t 23))⟩])
  .ret))))
theorem h60 : FdOk Try.prog 60 ⟨g60, [.c 2 (some 39)], 24, [], false⟩ := .of Try.func60 (by simp [Try.f60]) (by kernel_rfl)
/-- (octant/rounds.giving).left -/
def g61 : RC :=
  (.seq (.reg [⟨(some 1), none, .o (.box 101 (.t 0))⟩,
    ⟨(some 2), none, .o (.v (.mov (.c (.int .i64 (0)))))⟩])
  (.seq (.reg [⟨(some 3), none, .o (.v (.off (.t 1) 4))⟩,
    ⟨(some 4), none, .e1 (.sla 17 1) (.t 3)⟩,
    ⟨(some 5), none, .o (.call (.c (.fn 82 [])) [(.c (.fn 83 [])), (.t 4)])⟩,
    ⟨(some 2), none, .o (.v (.mov (.t 5)))⟩])
  .ret))
theorem h61 : FdOk Try.prog 61 ⟨g61, [.t 2], 6, [], false⟩ := .of Try.func61 (by simp [Try.f61]) (by kernel_rfl)
/-- (octant/rounds.giving).spans -/
def g62 : RC :=
  (.seq (.reg [⟨(some 1), none, .o (.box 101 (.t 0))⟩,
    ⟨(some 2), none, .o (.v (.mov (.c (.lit (.slice none 0 0)))))⟩])
  (.seq (.reg [⟨(some 3), none, .o (.v (.mov (.c (.lit (.slice none 0 0)))))⟩])
  (.seq (.seq (.reg [⟨(some 5), none, .o (.v (.off (.t 1) 0))⟩,
    ⟨(some 6), none, .o (.v (.off (.t 5) 0))⟩,
    ⟨(some 7), none, .o (.v (.off (.t 6) 2))⟩,
    ⟨(some 8), none, .o (.v (.load (.t 7) none))⟩,
    ⟨(some 9), none, .o (.v (.len (.t 8)))⟩,
    ⟨(some 10), none, .o (.v (.mov (.c (.int .i64 (0)))))⟩])
  (.block 0 (.loop
    (.seq (.reg [⟨(some 11), none, .o (.v (.bin .lss (.t 10) (.t 9)))⟩])
    (.seq (.cond (.t 11)
      .skip
      (.exit 0))
    (.seq (.block 1 (.seq (.reg [⟨(some 12), none, .o (.v (.mov (.t 10)))⟩,
      ⟨(some 4), none, .o (.v (.mov (.t 12)))⟩])
    (.drw [⟨[], 1, 4, [(⟨(some 13), none, .o (.v (.mov (.t 3)))⟩, .val 0 []),
      (⟨(some 14), none, .o (.v (.load (.t 1) (some 39)))⟩, .val 0 []),
      (⟨(some 15), none, .o (.v (.mov (.t 4)))⟩, .val 0 []),
      (⟨(some 16), none, .o (.call (.c (.fn 85 [])) [])⟩, .eff 0 []),
      (⟨(some 17), none, .o (.call (.c (.fn 84 [])) [(.t 14), (.t 15), (.t 16)])⟩, .eff 1 []),
      (⟨(some 18), none, .o (.v (.load (.t 1) (some 39)))⟩, .val 0 []),
      (⟨(some 19), none, .o (.v (.mov (.t 4)))⟩, .val 0 []),
      (⟨(some 20), none, .o (.call (.c (.fn 86 [])) [])⟩, .eff 2 []),
      (⟨(some 21), none, .o (.call (.c (.fn 84 [])) [(.t 18), (.t 19), (.t 20)])⟩, .eff 3 []),
      (⟨(some 22), none, .o (.bld [(.int .i64 (0)), (.int .i64 (0))] [(0, 1, (.t 17)), (1, 1, (.t 21))])⟩, .val 4 []),
      (⟨(some 23), none, .o (.bsl 23 1 [(.int .i64 (0)), (.int .i64 (0))] [(0, 2, (.t 22))])⟩, .cre 0)],
      [0],
      [⟨(some 24), none, .o (.app 23 2 16 (.t 13) (.t 23))⟩,
      ⟨(some 3), none, .o (.v (.mov (.t 24)))⟩], none⟩])))
    (.reg [⟨(some 25), none, .o (.v (.bin .add (.t 10) (.c (.int .i64 (1)))))⟩,
      ⟨(some 10), none, .o (.v (.mov (.t 25)))⟩])))))))
  (.seq (.reg [⟨(some 26), none, .o (.v (.mov (.t 3)))⟩,
    ⟨(some 2), none, .o (.v (.mov (.t 26)))⟩])
  .ret))))
theorem h62 : FdOk Try.prog 62 ⟨g62, [.t 2], 27, [], false⟩ := .of Try.func62 (by simp [Try.f62]) (by kernel_rfl)
/-- (octant/rounds.net).haveProof -/
def g64 : RC :=
  (.seq (.reg [⟨(some 2), none, .o (.box 92 (.t 0))⟩,
    ⟨(some 3), none, .o (.box 50 (.t 1))⟩,
    ⟨(some 4), none, .o (.v (.mov (.c (.lit (.bool false)))))⟩])
  (.seq (.seq (.reg [⟨(some 7), none, .o (.v (.off (.t 3) 0))⟩,
    ⟨(some 8), none, .o (.v (.load (.t 7) none))⟩,
    ⟨(some 9), none, .o (.v (.off (.t 2) 0))⟩,
    ⟨(some 10), none, .o (.v (.off (.t 9) 0))⟩,
    ⟨(some 11), none, .o (.v (.load (.t 10) none))⟩,
    ⟨(some 12), none, .o (.call (.c (.fn 89 [])) [(.t 8), (.t 11)])⟩,
    ⟨(some 13), none, .o (.v (.not (.t 12)))⟩,
    ⟨(some 14), none, .o (.v (.mov (.t 13)))⟩,
    ⟨(some 15), (some (14, false)), .o (.v (.off (.t 3) 1))⟩,
    ⟨(some 16), (some (14, false)), .o (.v (.load (.t 15) none))⟩,
    ⟨(some 17), (some (14, false)), .o (.v (.off (.t 2) 0))⟩,
    ⟨(some 18), (some (14, false)), .o (.v (.off (.t 17) 1))⟩,
    ⟨(some 19), (some (14, false)), .o (.v (.load (.t 18) none))⟩,
    ⟨(some 20), (some (14, false)), .o (.v (.len (.t 19)))⟩,
    ⟨(some 21), (some (14, false)), .o (.call (.c (.fn 89 [])) [(.t 16), (.t 20)])⟩,
    ⟨(some 22), (some (14, false)), .o (.v (.not (.t 21)))⟩,
    ⟨(some 23), none, .o (.v (.pick (.t 14) (.c (.lit (.bool true))) (.t 22)))⟩])
  (.cond (.t 23)
    (.seq (.reg [⟨(some 4), none, .o (.v (.mov (.c (.lit (.bool false)))))⟩])
    .ret)
    .skip))
  (.seq (.seq (.reg [⟨(some 24), none, .o (.v (.off (.t 3) 1))⟩,
    ⟨(some 25), none, .o (.v (.load (.t 24) none))⟩,
    ⟨(some 26), none, .o (.v (.len (.t 25)))⟩,
    ⟨(some 27), none, .o (.v (.mov (.c (.int .i64 (0)))))⟩])
  (.block 0 (.loop
    (.seq (.reg [⟨(some 28), none, .o (.v (.bin .lss (.t 27) (.t 26)))⟩])
    (.seq (.cond (.t 28)
      .skip
      (.exit 0))
    (.seq (.block 1 (.seq (.reg [⟨(some 29), none, .o (.v (.ixa (.t 25) (.t 27) 1))⟩,
      ⟨(some 30), none, .o (.v (.load (.t 29) none))⟩,
      ⟨(some 6), none, .o (.v (.mov (.t 30)))⟩])
    (.seq (.reg [⟨(some 31), none, .o (.v (.off (.t 2) 0))⟩,
      ⟨(some 32), none, .o (.v (.off (.t 31) 1))⟩,
      ⟨(some 33), none, .o (.v (.load (.t 32) none))⟩,
      ⟨(some 34), none, .o (.v (.mov (.t 6)))⟩,
      ⟨(some 35), none, .o (.v (.ixa (.t 33) (.t 34) 1))⟩,
      ⟨(some 36), none, .o (.v (.load (.t 35) none))⟩,
      ⟨(some 37), none, .o (.v (.not (.t 36)))⟩])
    (.cond (.t 37)
      (.seq (.reg [⟨(some 4), none, .o (.v (.mov (.c (.lit (.bool false)))))⟩])
      .ret)
      .skip))))
    (.reg [⟨(some 38), none, .o (.v (.bin .add (.t 27) (.c (.int .i64 (1)))))⟩,
      ⟨(some 27), none, .o (.v (.mov (.t 38)))⟩])))))))
  (.seq (.reg [⟨(some 4), none, .o (.v (.mov (.c (.lit (.bool true)))))⟩])
  .ret))))
theorem h64 : FdOk Try.prog 64 ⟨g64, [.t 4], 39, [], false⟩ := .of Try.func64 (by simp [Try.f64]) (by kernel_rfl)
/-- (octant/rounds.net).holds -/
def g65 : RC :=
  (.seq (.reg [⟨(some 2), none, .o (.box 92 (.t 0))⟩,
    ⟨(some 3), none, .o (.box 50 (.t 1))⟩,
    ⟨(some 4), none, .o (.v (.mov (.c (.lit (.bool false)))))⟩])
  (.seq (.reg [⟨(some 5), none, .o (.v (.mov (.c (.lit (.slice none 0 0)))))⟩,
    ⟨(some 6), none, .o (.v (.mov (.c (.lit (.slice none 0 0)))))⟩])
  (.seq (.seq (.reg [⟨(some 12), none, .o (.v (.off (.t 2) 0))⟩,
    ⟨(some 13), none, .o (.v (.off (.t 12) 2))⟩,
    ⟨(some 14), none, .o (.v (.load (.t 13) none))⟩,
    ⟨(some 15), none, .o (.v (.len (.t 14)))⟩,
    ⟨(some 16), none, .o (.v (.mov (.c (.int .i64 (0)))))⟩])
  (.block 0 (.loop
    (.seq (.reg [⟨(some 17), none, .o (.v (.bin .lss (.t 16) (.t 15)))⟩])
    (.seq (.cond (.t 17)
      .skip
      (.exit 0))
    (.seq (.block 1 (.seq (.reg [⟨(some 18), none, .o (.v (.ixa (.t 14) (.t 16) 4))⟩,
      ⟨(some 19), none, .o (.v (.load (.t 18) (some 4)))⟩,
      ⟨(some 8), none, .o (.new 66 [(.int .i64 (0)), (.int .i64 (0)), (.int .i64 (0)), (.int .i64 (0))])⟩,
      ⟨none, none, .o (.store 4 (.t 8) (.t 19))⟩])
    (.seq (.drw [⟨[], 0, 1, [(⟨(some 20), none, .o (.v (.off (.t 3) 0))⟩, .val 0 []),
      (⟨(some 21), none, .o (.v (.load (.t 20) none))⟩, .val 0 []),
      (⟨(some 22), none, .o (.v (.off (.t 8) 0))⟩, .val 0 []),
      (⟨(some 23), none, .o (.v (.load (.t 22) none))⟩, .val 0 []),
      (⟨(some 24), none, .o (.call (.c (.fn 90 [])) [(.t 21), (.t 23)])⟩, .eff 0 []),
      (⟨(some 25), none, .o (.v (.off (.t 3) 1))⟩, .val 0 []),
      (⟨(some 26), none, .o (.v (.load (.t 25) none))⟩, .val 0 []),
      (⟨(some 27), none, .o (.v (.off (.t 8) 1))⟩, .val 0 []),
      (⟨(some 28), none, .o (.v (.load (.t 27) none))⟩, .val 0 [])],
      [],
      [⟨(some 29), none, .o (.call (.c (.fn 90 [])) [(.t 26), (.t 28)])⟩,
      ⟨(some 9), none, .o (.v (.mov (.t 24)))⟩,
      ⟨(some 10), none, .o (.v (.mov (.t 29)))⟩], none⟩])
    (.seq (.seq (.reg [⟨(some 30), none, .o (.v (.mov (.t 9)))⟩,
      ⟨(some 31), none, .o (.v (.mov (.t 30)))⟩,
      ⟨(some 32), (some (31, true)), .o (.v (.mov (.t 10)))⟩,
      ⟨(some 33), (some (31, true)), .o (.v (.not (.t 32)))⟩,
      ⟨(some 34), none, .o (.v (.pick (.t 31) (.t 33) (.c (.lit (.bool false)))))⟩])
    (.cond (.t 34)
      (.reg [⟨(some 35), none, .o (.v (.mov (.t 5)))⟩,
        ⟨(some 36), none, .o (.v (.off (.t 8) 2))⟩,
        ⟨(some 37), none, .o (.v (.load (.t 36) (some 2)))⟩,
        ⟨(some 38), none, .o (.bsl 23 1 [(.int .i64 (0)), (.int .i64 (0))] [(0, 2, (.t 37))])⟩,
        ⟨(some 39), none, .o (.app 23 2 16 (.t 35) (.t 38))⟩,
        ⟨(some 5), none, .o (.v (.mov (.t 39)))⟩])
      .skip))
    (.seq (.reg [⟨(some 40), none, .o (.v (.mov (.t 10)))⟩,
      ⟨(some 41), none, .o (.v (.mov (.t 40)))⟩,
      ⟨(some 42), (some (41, true)), .o (.v (.mov (.t 9)))⟩,
      ⟨(some 43), (some (41, true)), .o (.v (.not (.t 42)))⟩,
      ⟨(some 44), none, .o (.v (.pick (.t 41) (.t 43) (.c (.lit (.bool false)))))⟩])
    (.cond (.t 44)
      (.reg [⟨(some 45), none, .o (.v (.mov (.t 6)))⟩,
        ⟨(some 46), none, .o (.v (.off (.t 8) 2))⟩,
        ⟨(some 47), none, .o (.v (.load (.t 46) (some 2)))⟩,
        ⟨(some 48), none, .o (.bsl 23 1 [(.int .i64 (0)), (.int .i64 (0))] [(0, 2, (.t 47))])⟩,
        ⟨(some 49), none, .o (.app 23 2 16 (.t 45) (.t 48))⟩,
        ⟨(some 6), none, .o (.v (.mov (.t 49)))⟩])
      .skip))))))
    (.reg [⟨(some 50), none, .o (.v (.bin .add (.t 16) (.c (.int .i64 (1)))))⟩,
      ⟨(some 16), none, .o (.v (.mov (.t 50)))⟩])))))))
  (.seq (.reg [⟨(some 51), none, .o (.v (.off (.t 3) 0))⟩,
    ⟨(some 52), none, .o (.v (.load (.t 51) none))⟩,
    ⟨(some 53), none, .o (.v (.len (.t 52)))⟩,
    ⟨(some 54), none, .o (.v (.bin .mul (.c (.int .i64 (648000))) (.t 53)))⟩,
    ⟨(some 55), none, .o (.v (.off (.t 3) 1))⟩,
    ⟨(some 56), none, .o (.v (.load (.t 55) none))⟩,
    ⟨(some 57), none, .o (.v (.len (.t 56)))⟩,
    ⟨(some 58), none, .o (.v (.bin .mul (.c (.int .i64 (1296000))) (.t 57)))⟩,
    ⟨(some 59), none, .o (.v (.bin .sub (.t 54) (.t 58)))⟩,
    ⟨(some 11), none, .o (.v (.mov (.t 59)))⟩])
  (.seq (.seq (.reg [⟨(some 60), none, .o (.v (.off (.t 3) 2))⟩,
    ⟨(some 61), none, .o (.v (.load (.t 60) none))⟩])
  (.cond (.t 61)
    (.seq (.reg [⟨(some 62), none, .o (.call (.c (.fn 86 [])) [])⟩,
      ⟨(some 63), none, .o (.v (.fld (.t 62) 0 none))⟩,
      ⟨(some 64), none, .o (.v (.mov (.t 5)))⟩,
      ⟨(some 65), none, .o (.call (.c (.fn 91 [])) [(.t 63), (.t 64)])⟩,
      ⟨(some 66), none, .o (.call (.c (.fn 85 [])) [])⟩,
      ⟨(some 67), none, .o (.v (.fld (.t 66) 0 none))⟩,
      ⟨(some 68), none, .o (.v (.mov (.t 6)))⟩,
      ⟨(some 69), none, .o (.call (.c (.fn 91 [])) [(.t 67), (.t 68)])⟩,
      ⟨(some 70), none, .o (.v (.bin .sub (.t 65) (.t 69)))⟩,
      ⟨(some 71), none, .o (.v (.mov (.t 11)))⟩,
      ⟨(some 72), none, .o (.v (.bin .lss (.t 70) (.t 71)))⟩,
      ⟨(some 4), none, .o (.v (.mov (.t 72)))⟩])
    .ret)
    .skip))
  (.seq (.reg [⟨(some 73), none, .o (.call (.c (.fn 85 [])) [])⟩,
    ⟨(some 74), none, .o (.v (.fld (.t 73) 0 none))⟩,
    ⟨(some 75), none, .o (.v (.mov (.t 5)))⟩,
    ⟨(some 76), none, .o (.call (.c (.fn 91 [])) [(.t 74), (.t 75)])⟩,
    ⟨(some 77), none, .o (.call (.c (.fn 86 [])) [])⟩,
    ⟨(some 78), none, .o (.v (.fld (.t 77) 0 none))⟩,
    ⟨(some 79), none, .o (.v (.mov (.t 6)))⟩,
    ⟨(some 80), none, .o (.call (.c (.fn 91 [])) [(.t 78), (.t 79)])⟩,
    ⟨(some 81), none, .o (.v (.bin .sub (.t 76) (.t 80)))⟩,
    ⟨(some 82), none, .o (.v (.mov (.t 11)))⟩,
    ⟨(some 83), none, .o (.v (.bin .gtr (.t 81) (.t 82)))⟩,
    ⟨(some 4), none, .o (.v (.mov (.t 83)))⟩])
  .ret))))))
theorem h65 : FdOk Try.prog 65 ⟨g65, [.t 4], 84, [], false⟩ := .of Try.func65 (by simp [Try.f65]) (by kernel_rfl)
/-- (octant/rounds.net).suspects -/
def g68 : RC :=
  (.seq (.reg [⟨(some 1), none, .o (.box 92 (.t 0))⟩,
    ⟨(some 2), none, .o (.v (.mov (.c (.lit (.slice none 0 0)))))⟩])
  (.seq (.reg [⟨(some 3), none, .o (.v (.mov (.c (.lit (.slice none 0 0)))))⟩])
  (.seq (.seq (.reg [⟨(some 5), none, .o (.v (.off (.t 1) 0))⟩,
    ⟨(some 6), none, .o (.v (.off (.t 5) 2))⟩,
    ⟨(some 7), none, .o (.v (.load (.t 6) none))⟩,
    ⟨(some 8), none, .o (.v (.len (.t 7)))⟩,
    ⟨(some 9), none, .o (.v (.mov (.c (.int .i64 (0)))))⟩])
  (.block 0 (.loop
    (.seq (.reg [⟨(some 10), none, .o (.v (.bin .lss (.t 9) (.t 8)))⟩])
    (.seq (.cond (.t 10)
      .skip
      (.exit 0))
    (.seq (.block 1 (.seq (.reg [⟨(some 11), none, .o (.v (.mov (.t 9)))⟩,
      ⟨(some 4), none, .o (.v (.mov (.t 11)))⟩])
    (.seq (.reg [⟨(some 12), none, .o (.v (.load (.t 1) (some 3)))⟩,
      ⟨(some 13), none, .o (.v (.mov (.t 4)))⟩,
      ⟨(some 14), none, .o (.bld [(.int .i64 (0)), (.int .i64 (0))] [(0, 1, (.c (.int .i64 (0)))), (1, 1, (.c (.int .i64 (648000))))])⟩,
      ⟨(some 15), none, .o (.call (.c (.fn 93 [])) [(.t 12), (.t 13), (.t 14)])⟩,
      ⟨(some 16), none, .o (.call (.c (.fn 60 [])) [(.t 15)])⟩,
      ⟨(some 17), none, .o (.call (.c (.fn 61 [])) [(.t 16)])⟩,
      ⟨(some 18), none, .o (.v (.bin .eql (.t 17) (.c (.int .i64 (0)))))⟩])
    (.cond (.t 18)
      (.reg [⟨(some 19), none, .o (.v (.mov (.t 3)))⟩,
        ⟨(some 20), none, .o (.v (.mov (.t 4)))⟩,
        ⟨(some 21), none, .o (.bsl 3 1 [(.int .i64 (0))] [(0, 1, (.t 20))])⟩,
        ⟨(some 22), none, .o (.app 3 1 8 (.t 19) (.t 21))⟩,
        ⟨(some 3), none, .o (.v (.mov (.t 22)))⟩])
      .skip))))
    (.reg [⟨(some 23), none, .o (.v (.bin .add (.t 9) (.c (.int .i64 (1)))))⟩,
      ⟨(some 9), none, .o (.v (.mov (.t 23)))⟩])))))))
  (.seq (.reg [⟨(some 24), none, .o (.v (.mov (.t 3)))⟩,
    ⟨(some 2), none, .o (.v (.mov (.t 24)))⟩])
  .ret))))
theorem h68 : FdOk Try.prog 68 ⟨g68, [.t 2], 25, [], false⟩ := .of Try.func68 (by simp [Try.f68]) (by kernel_rfl)
/-- (octant/rounds.giving).proof -/
def g69 : RC :=
  (.seq (.reg [⟨(some 1), none, .o (.box 101 (.t 0))⟩,
    ⟨(some 2), none, .o (.new 50 [(.lit (.slice none 0 0)), (.lit (.slice none 0 0)), (.lit (.bool false))])⟩])
  (.seq (.reg [⟨(some 7), none, .o (.v (.off (.t 1) 22))⟩,
    ⟨(some 8), none, .o (.v (.ixarr (.t 7) (.c (.int .i64 (16))) 17 1))⟩,
    ⟨(some 9), none, .o (.v (.load (.t 8) none))⟩,
    ⟨(some 10), none, .o (.v (.not (.t 9)))⟩,
    ⟨(some 11), none, .o (.bld [(.lit (.slice none 0 0)), (.lit (.slice none 0 0)), (.lit (.bool false))] [(2, 1, (.t 10))])⟩,
    ⟨(some 3), none, .o (.new 50 [(.lit (.slice none 0 0)), (.lit (.slice none 0 0)), (.lit (.bool false))])⟩,
    ⟨none, none, .o (.store 3 (.t 3) (.t 11))⟩])
  (.seq (.seq (.reg [⟨(some 12), none, .o (.v (.off (.t 1) 0))⟩,
    ⟨(some 13), none, .o (.v (.off (.t 12) 0))⟩,
    ⟨(some 14), none, .o (.v (.off (.t 13) 0))⟩,
    ⟨(some 15), none, .o (.v (.load (.t 14) none))⟩,
    ⟨(some 16), none, .o (.v (.mov (.c (.int .i64 (0)))))⟩])
  (.block 0 (.loop
    (.seq (.reg [⟨(some 17), none, .o (.v (.bin .lss (.t 16) (.t 15)))⟩])
    (.seq (.cond (.t 17)
      .skip
      (.exit 0))
    (.seq (.block 1 (.seq (.reg [⟨(some 18), none, .o (.v (.mov (.t 16)))⟩,
      ⟨(some 4), none, .o (.v (.mov (.t 18)))⟩])
    (.seq (.drw [⟨[], 0, 0, [(⟨(some 19), none, .o (.v (.mov (.t 4)))⟩, .val 0 []),
      (⟨(some 20), none, .o (.v (.off (.t 1) 22))⟩, .val 0 []),
      (⟨(some 21), none, .o (.v (.ixarr (.t 20) (.t 19) 17 1))⟩, .val 0 []),
      (⟨(some 22), none, .o (.v (.load (.t 21) none))⟩, .val 0 []),
      (⟨(some 23), none, .o (.v (.off (.t 3) 2))⟩, .val 0 []),
      (⟨(some 24), none, .o (.v (.load (.t 23) none))⟩, .val 0 [])],
      [],
      [⟨(some 25), none, .o (.v (.binb .eql (.t 22) (.t 24)))⟩], none⟩])
    (.cond (.t 25)
      (.reg [⟨(some 26), none, .o (.v (.off (.t 3) 0))⟩,
        ⟨(some 27), none, .o (.v (.load (.t 26) none))⟩,
        ⟨(some 28), none, .o (.v (.mov (.t 4)))⟩,
        ⟨(some 29), none, .o (.bsl 3 1 [(.int .i64 (0))] [(0, 1, (.t 28))])⟩,
        ⟨(some 30), none, .o (.app 3 1 8 (.t 27) (.t 29))⟩,
        ⟨(some 31), none, .o (.v (.off (.t 3) 0))⟩,
        ⟨none, none, .o (.store 1 (.t 31) (.t 30))⟩])
      .skip))))
    (.reg [⟨(some 32), none, .o (.v (.bin .add (.t 16) (.c (.int .i64 (1)))))⟩,
      ⟨(some 16), none, .o (.v (.mov (.t 32)))⟩])))))))
  (.seq (.seq (.reg [⟨(some 33), none, .o (.v (.off (.t 1) 0))⟩,
    ⟨(some 34), none, .o (.v (.off (.t 33) 0))⟩,
    ⟨(some 35), none, .o (.v (.off (.t 34) 1))⟩,
    ⟨(some 36), none, .o (.v (.load (.t 35) none))⟩,
    ⟨(some 37), none, .o (.v (.len (.t 36)))⟩,
    ⟨(some 38), none, .o (.v (.mov (.c (.int .i64 (0)))))⟩])
  (.block 2 (.loop
    (.seq (.reg [⟨(some 39), none, .o (.v (.bin .lss (.t 38) (.t 37)))⟩])
    (.seq (.cond (.t 39)
      .skip
      (.exit 2))
    (.seq (.block 3 (.seq (.reg [⟨(some 40), none, .o (.v (.mov (.t 38)))⟩,
      ⟨(some 41), none, .o (.v (.ixa (.t 36) (.t 38) 1))⟩,
      ⟨(some 42), none, .o (.v (.load (.t 41) none))⟩,
      ⟨(some 5), none, .o (.v (.mov (.t 40)))⟩,
      ⟨(some 6), none, .o (.v (.mov (.t 42)))⟩])
    (.seq (.drw [⟨[], 0, 0, [(⟨(some 43), none, .o (.v (.mov (.t 6)))⟩, .val 0 []),
      (⟨(some 44), none, .o (.v (.mov (.t 43)))⟩, .val 0 []),
      (⟨(some 45), (some (44, true)), .o (.v (.mov (.t 5)))⟩, .val 0 []),
      (⟨(some 46), (some (44, true)), .o (.v (.bin .add (.c (.int .i64 (8))) (.t 45)))⟩, .val 0 []),
      (⟨(some 47), (some (44, true)), .o (.v (.off (.t 1) 22))⟩, .val 0 []),
      (⟨(some 48), (some (44, true)), .o (.v (.ixarr (.t 47) (.t 46) 17 1))⟩, .val 0 []),
      (⟨(some 49), (some (44, true)), .o (.v (.load (.t 48) none))⟩, .val 0 []),
      (⟨(some 50), (some (44, true)), .o (.v (.off (.t 3) 2))⟩, .val 0 []),
      (⟨(some 51), (some (44, true)), .o (.v (.load (.t 50) none))⟩, .val 0 [])],
      [],
      [⟨(some 52), (some (44, true)), .o (.v (.binb .eql (.t 49) (.t 51)))⟩,
      ⟨(some 53), none, .o (.v (.pick (.t 44) (.t 52) (.c (.lit (.bool false)))))⟩], none⟩])
    (.cond (.t 53)
      (.reg [⟨(some 54), none, .o (.v (.off (.t 3) 1))⟩,
        ⟨(some 55), none, .o (.v (.load (.t 54) none))⟩,
        ⟨(some 56), none, .o (.v (.mov (.t 5)))⟩,
        ⟨(some 57), none, .o (.bsl 3 1 [(.int .i64 (0))] [(0, 1, (.t 56))])⟩,
        ⟨(some 58), none, .o (.app 3 1 8 (.t 55) (.t 57))⟩,
        ⟨(some 59), none, .o (.v (.off (.t 3) 1))⟩,
        ⟨none, none, .o (.store 1 (.t 59) (.t 58))⟩])
      .skip))))
    (.reg [⟨(some 60), none, .o (.v (.bin .add (.t 38) (.c (.int .i64 (1)))))⟩,
      ⟨(some 38), none, .o (.v (.mov (.t 60)))⟩])))))))
  (.seq (.reg [⟨(some 61), none, .o (.v (.load (.t 3) (some 3)))⟩,
    ⟨none, none, .o (.store 3 (.t 2) (.t 61))⟩])
  .ret)))))
theorem h69 : FdOk Try.prog 69 ⟨g69, [.c 2 (some 3)], 62, [], false⟩ := .of Try.func69 (by simp [Try.f69]) (by kernel_rfl)
/-- octant/rounds.isDirection -/
def g70 : RC :=
  (.seq (.reg [⟨(some 2), none, .o (.v (.mov (.c (.lit (.bool false)))))⟩])
  (.seq (.reg [⟨(some 3), none, .o (.v (.mov (.t 0)))⟩,
    ⟨(some 4), none, .o (.call (.c (.fn 71 [])) [(.t 3), (.c (.int .i64 (0))), (.c (.int .i64 (1295999)))])⟩,
    ⟨(some 2), none, .o (.v (.mov (.t 4)))⟩])
  .ret))
theorem h70 : FdOk Try.prog 70 ⟨g70, [.t 2], 5, [], false⟩ := .of Try.func70 (by simp [Try.f70]) (by kernel_rfl)
/-- octant/rounds.within -/
def g71 : RC :=
  (.seq (.reg [⟨(some 6), none, .o (.v (.mov (.c (.lit (.bool false)))))⟩])
  (.seq (.reg [⟨(some 7), none, .o (.v (.mov (.t 1)))⟩,
    ⟨(some 8), none, .o (.v (.mov (.t 0)))⟩,
    ⟨(some 9), none, .o (.v (.bin .leq (.t 7) (.t 8)))⟩,
    ⟨(some 10), none, .o (.v (.mov (.t 9)))⟩,
    ⟨(some 11), (some (10, true)), .o (.v (.mov (.t 0)))⟩,
    ⟨(some 12), (some (10, true)), .o (.v (.mov (.t 2)))⟩,
    ⟨(some 13), (some (10, true)), .o (.v (.bin .leq (.t 11) (.t 12)))⟩,
    ⟨(some 14), none, .o (.v (.pick (.t 10) (.t 13) (.c (.lit (.bool false)))))⟩,
    ⟨(some 6), none, .o (.v (.mov (.t 14)))⟩])
  .ret))
theorem h71 : FdOk Try.prog 71 ⟨g71, [.t 6], 15, [], false⟩ := .of Try.func71 (by simp [Try.f71]) (by kernel_rfl)
/-- octant/rounds.isSpan -/
def g72 : RC :=
  (.seq (.reg [⟨(some 3), none, .o (.box 23 (.t 0))⟩,
    ⟨(some 6), none, .o (.v (.mov (.c (.lit (.bool false)))))⟩])
  (.seq (.reg [⟨(some 7), none, .o (.v (.mov (.t 1)))⟩,
    ⟨(some 8), none, .o (.v (.off (.t 3) 0))⟩,
    ⟨(some 9), none, .o (.v (.load (.t 8) none))⟩,
    ⟨(some 10), none, .o (.v (.bin .leq (.t 7) (.t 9)))⟩,
    ⟨(some 11), none, .o (.v (.mov (.t 10)))⟩,
    ⟨(some 12), (some (11, true)), .o (.v (.off (.t 3) 0))⟩,
    ⟨(some 13), (some (11, true)), .o (.v (.load (.t 12) none))⟩,
    ⟨(some 14), (some (11, true)), .o (.v (.off (.t 3) 1))⟩,
    ⟨(some 15), (some (11, true)), .o (.v (.load (.t 14) none))⟩,
    ⟨(some 16), (some (11, true)), .o (.v (.bin .leq (.t 13) (.t 15)))⟩,
    ⟨(some 17), none, .o (.v (.pick (.t 11) (.t 16) (.c (.lit (.bool false)))))⟩,
    ⟨(some 18), none, .o (.v (.mov (.t 17)))⟩,
    ⟨(some 19), (some (18, true)), .o (.v (.off (.t 3) 1))⟩,
    ⟨(some 20), (some (18, true)), .o (.v (.load (.t 19) none))⟩,
    ⟨(some 21), (some (18, true)), .o (.v (.mov (.t 2)))⟩,
    ⟨(some 22), (some (18, true)), .o (.v (.bin .leq (.t 20) (.t 21)))⟩,
    ⟨(some 23), none, .o (.v (.pick (.t 18) (.t 22) (.c (.lit (.bool false)))))⟩,
    ⟨(some 6), none, .o (.v (.mov (.t 23)))⟩])
  .ret))
theorem h72 : FdOk Try.prog 72 ⟨g72, [.t 6], 24, [], false⟩ := .of Try.func72 (by simp [Try.f72]) (by kernel_rfl)
/-- octant/rounds.onCircle -/
def g73 : RC :=
  (.seq (.reg [⟨(some 2), none, .o (.v (.mov (.c (.int .i64 (0)))))⟩])
  (.seq (.reg [⟨(some 3), none, .o (.v (.mov (.t 0)))⟩,
    ⟨(some 4), none, .o (.v (.mov (.t 0)))⟩,
    ⟨(some 5), none, .o (.call (.c (.fn 76 [])) [(.t 4), (.c (.int .i64 (1296000)))])⟩,
    ⟨(some 6), none, .o (.v (.bin .mul (.c (.int .i64 (1296000))) (.t 5)))⟩,
    ⟨(some 7), none, .o (.v (.bin .sub (.t 3) (.t 6)))⟩,
    ⟨(some 2), none, .o (.v (.mov (.t 7)))⟩])
  .ret))
theorem h73 : FdOk Try.prog 73 ⟨g73, [.t 2], 8, [], false⟩ := .of Try.func73 (by simp [Try.f73]) (by kernel_rfl)
/-- octant/rounds.common -/
def g74 : RC :=
  (.seq (.reg [⟨(some 2), none, .o (.box 23 (.t 0))⟩,
    ⟨(some 3), none, .o (.box 23 (.t 1))⟩,
    ⟨(some 4), none, .o (.new 23 [(.int .i64 (0)), (.int .i64 (0))])⟩])
  (.seq (.reg [⟨(some 6), none, .o (.v (.off (.t 2) 0))⟩,
    ⟨(some 7), none, .o (.v (.load (.t 6) none))⟩,
    ⟨(some 8), none, .o (.v (.off (.t 3) 0))⟩,
    ⟨(some 9), none, .o (.v (.load (.t 8) none))⟩,
    ⟨(some 10), none, .o (.v (.max2 (.t 7) (.t 9)))⟩,
    ⟨(some 11), none, .o (.v (.off (.t 2) 1))⟩,
    ⟨(some 12), none, .o (.v (.load (.t 11) none))⟩,
    ⟨(some 13), none, .o (.v (.off (.t 3) 1))⟩,
    ⟨(some 14), none, .o (.v (.load (.t 13) none))⟩,
    ⟨(some 15), none, .o (.v (.min2 (.t 12) (.t 14)))⟩,
    ⟨(some 16), none, .o (.bld [(.int .i64 (0)), (.int .i64 (0))] [(0, 1, (.t 10)), (1, 1, (.t 15))])⟩,
    ⟨(some 5), none, .o (.new 23 [(.int .i64 (0)), (.int .i64 (0))])⟩,
    ⟨none, none, .o (.store 2 (.t 5) (.t 16))⟩])
  (.seq (.seq (.reg [⟨(some 17), none, .o (.v (.off (.t 5) 0))⟩,
    ⟨(some 18), none, .o (.v (.load (.t 17) none))⟩,
    ⟨(some 19), none, .o (.v (.off (.t 5) 1))⟩,
    ⟨(some 20), none, .o (.v (.load (.t 19) none))⟩,
    ⟨(some 21), none, .o (.v (.bin .gtr (.t 18) (.t 20)))⟩])
  (.cond (.t 21)
    (.seq (.reg [⟨(some 22), none, .o (.call (.c (.fn 54 [])) [])⟩,
      ⟨none, none, .o (.store 2 (.t 4) (.t 22))⟩])
    .ret)
    .skip))
  (.seq (.reg [⟨(some 23), none, .o (.v (.load (.t 5) (some 2)))⟩,
    ⟨none, none, .o (.store 2 (.t 4) (.t 23))⟩])
  .ret))))
theorem h74 : FdOk Try.prog 74 ⟨g74, [.c 4 (some 2)], 24, [], false⟩ := .of Try.func74 (by simp [Try.f74]) (by kernel_rfl)
/-- octant/rounds.roundUp -/
def g75 : RC :=
  (.seq (.reg [⟨(some 4), none, .o (.v (.mov (.c (.int .i64 (0)))))⟩])
  (.seq (.reg [⟨(some 5), none, .o (.v (.mov (.t 0)))⟩,
    ⟨(some 6), none, .o (.v (.neg (.t 5)))⟩,
    ⟨(some 7), none, .o (.v (.mov (.t 1)))⟩,
    ⟨(some 8), none, .o (.call (.c (.fn 76 [])) [(.t 6), (.t 7)])⟩,
    ⟨(some 9), none, .o (.v (.neg (.t 8)))⟩,
    ⟨(some 4), none, .o (.v (.mov (.t 9)))⟩])
  .ret))
theorem h75 : FdOk Try.prog 75 ⟨g75, [.t 4], 10, [], false⟩ := .of Try.func75 (by simp [Try.f75]) (by kernel_rfl)
/-- octant/rounds.roundDown -/
def g76 : RC :=
  (.seq (.reg [⟨(some 4), none, .o (.v (.mov (.c (.int .i64 (0)))))⟩])
  (.seq (.reg [⟨(some 6), none, .o (.v (.mov (.t 0)))⟩,
    ⟨(some 7), none, .o (.v (.mov (.t 1)))⟩,
    ⟨(some 8), none, .o (.v (.bin .quo (.t 6) (.t 7)))⟩,
    ⟨(some 5), none, .o (.v (.mov (.t 8)))⟩])
  (.seq (.seq (.reg [⟨(some 9), none, .o (.v (.mov (.t 0)))⟩,
    ⟨(some 10), none, .o (.v (.mov (.t 1)))⟩,
    ⟨(some 11), none, .o (.v (.bin .rem (.t 9) (.t 10)))⟩,
    ⟨(some 12), none, .o (.v (.bin .lss (.t 11) (.c (.int .i64 (0)))))⟩])
  (.cond (.t 12)
    (.reg [⟨(some 13), none, .o (.v (.mov (.t 5)))⟩,
      ⟨(some 14), none, .o (.v (.bin .sub (.t 13) (.c (.int .i64 (1)))))⟩,
      ⟨(some 5), none, .o (.v (.mov (.t 14)))⟩])
    .skip))
  (.seq (.reg [⟨(some 15), none, .o (.v (.mov (.t 5)))⟩,
    ⟨(some 4), none, .o (.v (.mov (.t 15)))⟩])
  .ret))))
theorem h76 : FdOk Try.prog 76 ⟨g76, [.t 4], 16, [], false⟩ := .of Try.func76 (by simp [Try.f76]) (by kernel_rfl)
/-- (octant/rounds.faces).apart -/
def g77 : RC :=
  (.seq (.reg [⟨(some 1), none, .o (.box 87 (.t 0))⟩,
    ⟨(some 2), none, .o (.v (.mov (.c (.int .i64 (0)))))⟩])
  (.seq (.reg [⟨(some 3), none, .o (.v (.off (.t 1) 0))⟩,
    ⟨(some 4), none, .o (.v (.off (.t 3) 1))⟩,
    ⟨(some 5), none, .o (.v (.load (.t 4) none))⟩,
    ⟨(some 6), none, .o (.v (.off (.t 1) 0))⟩,
    ⟨(some 7), none, .o (.v (.off (.t 6) 0))⟩,
    ⟨(some 8), none, .o (.v (.load (.t 7) none))⟩,
    ⟨(some 9), none, .o (.v (.bin .sub (.t 5) (.t 8)))⟩,
    ⟨(some 10), none, .o (.call (.c (.fn 73 [])) [(.t 9)])⟩,
    ⟨(some 11), none, .o (.v (.bin .sub (.t 10) (.c (.int .i64 (648000)))))⟩,
    ⟨(some 2), none, .o (.v (.mov (.t 11)))⟩])
  .ret))
theorem h77 : FdOk Try.prog 77 ⟨g77, [.t 2], 12, [], false⟩ := .of Try.func77 (by simp [Try.f77]) (by kernel_rfl)
/-- (octant/rounds.net).over -/
def g78 : RC :=
  (.seq (.reg [⟨(some 2), none, .o (.box 92 (.t 0))⟩,
    ⟨(some 4), none, .o (.new 96 (List.replicate 17 (.int .i64 (0))))⟩])
  (.seq (.reg [⟨(some 5), none, .o (.new 96 (List.replicate 17 (.int .i64 (0))))⟩])
  (.seq (.seq (.reg [⟨(some 11), none, .o (.v (.off (.t 2) 0))⟩,
    ⟨(some 12), none, .o (.v (.off (.t 11) 0))⟩,
    ⟨(some 13), none, .o (.v (.load (.t 12) none))⟩,
    ⟨(some 14), none, .o (.v (.mov (.c (.int .i64 (0)))))⟩])
  (.block 0 (.loop
    (.seq (.reg [⟨(some 15), none, .o (.v (.bin .lss (.t 14) (.t 13)))⟩])
    (.seq (.cond (.t 15)
      .skip
      (.exit 0))
    (.seq (.block 1 (.seq (.reg [⟨(some 16), none, .o (.v (.mov (.t 14)))⟩,
      ⟨(some 6), none, .o (.v (.mov (.t 16)))⟩])
    (.reg [⟨(some 17), none, .o (.v (.mov (.t 6)))⟩,
      ⟨(some 18), none, .o (.v (.ixarr (.t 5) (.t 17) 17 1))⟩,
      ⟨none, none, .o (.store 1 (.t 18) (.c (.int .i64 (648000))))⟩])))
    (.reg [⟨(some 19), none, .o (.v (.bin .add (.t 14) (.c (.int .i64 (1)))))⟩,
      ⟨(some 14), none, .o (.v (.mov (.t 19)))⟩])))))))
  (.seq (.seq (.reg [⟨(some 20), none, .o (.v (.off (.t 2) 0))⟩,
    ⟨(some 21), none, .o (.v (.off (.t 20) 1))⟩,
    ⟨(some 22), none, .o (.v (.load (.t 21) none))⟩,
    ⟨(some 23), none, .o (.v (.len (.t 22)))⟩,
    ⟨(some 24), none, .o (.v (.mov (.c (.int .i64 (0)))))⟩])
  (.block 2 (.loop
    (.seq (.reg [⟨(some 25), none, .o (.v (.bin .lss (.t 24) (.t 23)))⟩])
    (.seq (.cond (.t 25)
      .skip
      (.exit 2))
    (.seq (.block 3 (.seq (.reg [⟨(some 26), none, .o (.v (.mov (.t 24)))⟩,
      ⟨(some 27), none, .o (.v (.ixa (.t 22) (.t 24) 1))⟩,
      ⟨(some 28), none, .o (.v (.load (.t 27) none))⟩,
      ⟨(some 7), none, .o (.v (.mov (.t 26)))⟩,
      ⟨(some 8), none, .o (.v (.mov (.t 28)))⟩])
    (.seq (.reg [⟨(some 29), none, .o (.v (.mov (.t 8)))⟩])
    (.cond (.t 29)
      (.reg [⟨(some 30), none, .o (.v (.mov (.t 7)))⟩,
        ⟨(some 31), none, .o (.v (.bin .add (.c (.int .i64 (8))) (.t 30)))⟩,
        ⟨(some 32), none, .o (.v (.ixarr (.t 5) (.t 31) 17 1))⟩,
        ⟨none, none, .o (.store 1 (.t 32) (.c (.int .i64 (-1296000))))⟩])
      .skip))))
    (.reg [⟨(some 33), none, .o (.v (.bin .add (.t 24) (.c (.int .i64 (1)))))⟩,
      ⟨(some 24), none, .o (.v (.mov (.t 33)))⟩])))))))
  (.seq (.reg [⟨(some 34), none, .e1 (.sla 17 1) (.t 5)⟩,
    ⟨(some 35), none, .o (.call (.c (.fn 82 [])) [(.c (.fn 94 [])), (.t 34)])⟩,
    ⟨(some 36), none, .o (.v (.neg (.t 35)))⟩,
    ⟨(some 37), none, .o (.v (.ixarr (.t 5) (.c (.int .i64 (16))) 17 1))⟩,
    ⟨none, none, .o (.store 1 (.t 37) (.t 36))⟩])
  (.seq (.seq (.reg [⟨(some 38), none, .o (.v (.mov (.t 1)))⟩,
    ⟨(some 39), none, .o (.v (.len (.t 38)))⟩,
    ⟨(some 40), none, .o (.v (.mov (.c (.int .i64 (0)))))⟩])
  (.block 4 (.loop
    (.seq (.reg [⟨(some 41), none, .o (.v (.bin .lss (.t 40) (.t 39)))⟩])
    (.seq (.cond (.t 41)
      .skip
      (.exit 4))
    (.seq (.block 5 (.seq (.reg [⟨(some 42), none, .o (.v (.mov (.t 40)))⟩,
      ⟨(some 43), none, .o (.v (.ixa (.t 38) (.t 40) 1))⟩,
      ⟨(some 44), none, .o (.v (.load (.t 43) none))⟩,
      ⟨(some 9), none, .o (.v (.mov (.t 42)))⟩,
      ⟨(some 10), none, .o (.v (.mov (.t 44)))⟩])
    (.seq (.reg [⟨(some 45), none, .o (.v (.load (.t 2) (some 3)))⟩,
      ⟨(some 46), none, .o (.v (.mov (.t 9)))⟩,
      ⟨(some 47), none, .o (.call (.c (.fn 95 [])) [(.t 45), (.t 46)])⟩,
      ⟨(some 48), none, .o (.v (.ixarr (.t 5) (.t 47) 17 1))⟩,
      ⟨(some 49), none, .o (.v (.load (.t 48) none))⟩,
      ⟨(some 50), none, .o (.v (.mov (.t 10)))⟩,
      ⟨(some 51), none, .o (.v (.bin .sub (.t 49) (.t 50)))⟩,
      ⟨(some 52), none, .o (.v (.ixarr (.t 5) (.t 47) 17 1))⟩,
      ⟨none, none, .o (.store 1 (.t 52) (.t 51))⟩])
    (.reg [⟨(some 53), none, .o (.v (.load (.t 2) (some 3)))⟩,
      ⟨(some 54), none, .o (.v (.mov (.t 9)))⟩,
      ⟨(some 55), none, .o (.call (.c (.fn 96 [])) [(.t 53), (.t 54)])⟩,
      ⟨(some 56), none, .o (.v (.ixarr (.t 5) (.t 55) 17 1))⟩,
      ⟨(some 57), none, .o (.v (.load (.t 56) none))⟩,
      ⟨(some 58), none, .o (.v (.mov (.t 10)))⟩,
      ⟨(some 59), none, .o (.v (.bin .add (.t 57) (.t 58)))⟩,
      ⟨(some 60), none, .o (.v (.ixarr (.t 5) (.t 55) 17 1))⟩,
      ⟨none, none, .o (.store 1 (.t 60) (.t 59))⟩]))))
    (.reg [⟨(some 61), none, .o (.v (.bin .add (.t 40) (.c (.int .i64 (1)))))⟩,
      ⟨(some 40), none, .o (.v (.mov (.t 61)))⟩])))))))
  (.seq (.reg [⟨(some 62), none, .o (.v (.load (.t 5) (some 17)))⟩,
    ⟨none, none, .o (.store 17 (.t 4) (.t 62))⟩])
  .ret)))))))
theorem h78 : FdOk Try.prog 78 ⟨g78, [.c 4 (some 17)], 63, [], false⟩ := .of Try.func78 (by simp [Try.f78]) (by kernel_rfl)
/-- (octant/rounds.net).haveAngles -/
def g79 : RC :=
  (.seq (.reg [⟨(some 1), none, .o (.box 92 (.t 0))⟩,
    ⟨(some 2), none, .o (.v (.mov (.c (.lit (.bool false)))))⟩])
  (.seq (.seq (.reg [⟨(some 5), none, .o (.v (.off (.t 1) 0))⟩,
    ⟨(some 6), none, .o (.v (.off (.t 5) 2))⟩,
    ⟨(some 7), none, .o (.v (.load (.t 6) none))⟩,
    ⟨(some 8), none, .o (.v (.len (.t 7)))⟩,
    ⟨(some 9), none, .o (.v (.mov (.c (.int .i64 (0)))))⟩])
  (.block 0 (.loop
    (.seq (.reg [⟨(some 10), none, .o (.v (.bin .lss (.t 9) (.t 8)))⟩])
    (.seq (.cond (.t 10)
      .skip
      (.exit 0))
    (.seq (.block 1 (.seq (.reg [⟨(some 11), none, .o (.v (.ixa (.t 7) (.t 9) 4))⟩,
      ⟨(some 12), none, .o (.v (.load (.t 11) (some 4)))⟩,
      ⟨(some 4), none, .o (.new 66 [(.int .i64 (0)), (.int .i64 (0)), (.int .i64 (0)), (.int .i64 (0))])⟩,
      ⟨none, none, .o (.store 4 (.t 4) (.t 12))⟩])
    (.seq (.seq (.reg [⟨(some 13), none, .o (.v (.off (.t 4) 0))⟩,
      ⟨(some 14), none, .o (.v (.load (.t 13) none))⟩,
      ⟨(some 15), none, .o (.v (.off (.t 1) 0))⟩,
      ⟨(some 16), none, .o (.v (.off (.t 15) 0))⟩,
      ⟨(some 17), none, .o (.v (.load (.t 16) none))⟩,
      ⟨(some 18), none, .o (.v (.bin .sub (.t 17) (.c (.int .i64 (1)))))⟩,
      ⟨(some 19), none, .o (.call (.c (.fn 71 [])) [(.t 14), (.c (.int .i64 (0))), (.t 18)])⟩,
      ⟨(some 20), none, .o (.v (.not (.t 19)))⟩,
      ⟨(some 21), none, .o (.v (.mov (.t 20)))⟩,
      ⟨(some 22), (some (21, false)), .o (.v (.off (.t 4) 1))⟩,
      ⟨(some 23), (some (21, false)), .o (.v (.load (.t 22) none))⟩,
      ⟨(some 24), (some (21, false)), .o (.v (.off (.t 1) 0))⟩,
      ⟨(some 25), (some (21, false)), .o (.v (.off (.t 24) 1))⟩,
      ⟨(some 26), (some (21, false)), .o (.v (.load (.t 25) none))⟩,
      ⟨(some 27), (some (21, false)), .o (.v (.len (.t 26)))⟩,
      ⟨(some 28), (some (21, false)), .o (.v (.bin .sub (.t 27) (.c (.int .i64 (1)))))⟩,
      ⟨(some 29), (some (21, false)), .o (.call (.c (.fn 71 [])) [(.t 23), (.c (.int .i64 (0))), (.t 28)])⟩,
      ⟨(some 30), (some (21, false)), .o (.v (.not (.t 29)))⟩,
      ⟨(some 31), none, .o (.v (.pick (.t 21) (.c (.lit (.bool true))) (.t 30)))⟩])
    (.cond (.t 31)
      (.seq (.reg [⟨(some 2), none, .o (.v (.mov (.c (.lit (.bool false)))))⟩])
      .ret)
      .skip))
    (.seq (.reg [⟨(some 32), none, .o (.v (.off (.t 4) 2))⟩,
      ⟨(some 33), none, .o (.v (.load (.t 32) (some 2)))⟩,
      ⟨(some 34), none, .o (.call (.c (.fn 72 [])) [(.t 33), (.c (.int .i64 (0))), (.c (.int .i64 (648000)))])⟩,
      ⟨(some 35), none, .o (.v (.not (.t 34)))⟩])
    (.cond (.t 35)
      (.seq (.reg [⟨(some 2), none, .o (.v (.mov (.c (.lit (.bool false)))))⟩])
      .ret)
      .skip)))))
    (.reg [⟨(some 36), none, .o (.v (.bin .add (.t 9) (.c (.int .i64 (1)))))⟩,
      ⟨(some 9), none, .o (.v (.mov (.t 36)))⟩])))))))
  (.seq (.reg [⟨(some 2), none, .o (.v (.mov (.c (.lit (.bool true)))))⟩])
  .ret)))
theorem h79 : FdOk Try.prog 79 ⟨g79, [.t 2], 37, [], false⟩ := .of Try.func79 (by simp [Try.f79]) (by kernel_rfl)
/-- (octant/rounds.net).haveCorners -/
def g80 : RC :=
  (.seq (.reg [⟨(some 1), none, .o (.box 92 (.t 0))⟩,
    ⟨(some 2), none, .o (.v (.mov (.c (.lit (.bool false)))))⟩])
  (.seq (.reg [⟨(some 3), none, .o (.v (.mov (.c (.lit (.slice none 0 0)))))⟩])
  (.seq (.reg [⟨(some 4), none, .o (.new 127 [(.int .i64 (0)), (.int .i64 (0)), (.int .i64 (0)), (.int .i64 (0)), (.int .i64 (0)), (.int .i64 (0)), (.int .i64 (0)), (.int .i64 (0))])⟩])
  (.seq (.seq (.reg [⟨(some 8), none, .o (.v (.off (.t 1) 0))⟩,
    ⟨(some 9), none, .o (.v (.off (.t 8) 2))⟩,
    ⟨(some 10), none, .o (.v (.load (.t 9) none))⟩,
    ⟨(some 11), none, .o (.v (.len (.t 10)))⟩,
    ⟨(some 12), none, .o (.v (.mov (.c (.int .i64 (0)))))⟩])
  (.block 0 (.loop
    (.seq (.reg [⟨(some 13), none, .o (.v (.bin .lss (.t 12) (.t 11)))⟩])
    (.seq (.cond (.t 13)
      .skip
      (.exit 0))
    (.seq (.block 1 (.seq (.reg [⟨(some 14), none, .o (.v (.ixa (.t 10) (.t 12) 4))⟩,
      ⟨(some 15), none, .o (.v (.load (.t 14) (some 4)))⟩,
      ⟨(some 6), none, .o (.new 66 [(.int .i64 (0)), (.int .i64 (0)), (.int .i64 (0)), (.int .i64 (0))])⟩,
      ⟨none, none, .o (.store 4 (.t 6) (.t 15))⟩])
    (.seq (.reg [⟨(some 16), none, .o (.bld [(.int .i64 (0)), (.int .i64 (0))] [])⟩,
      ⟨(some 17), none, .o (.v (.off (.t 6) 2))⟩,
      ⟨none, none, .o (.store 2 (.t 17) (.t 16))⟩])
    (.seq (.seq (.reg [⟨(some 18), none, .o (.v (.mov (.t 3)))⟩,
      ⟨(some 19), none, .o (.v (.load (.t 6) (some 4)))⟩,
      ⟨(some 20), none, .o (.call (.c (.fn 97 [])) [(.t 18), (.t 19)])⟩])
    (.cond (.t 20)
      (.seq (.reg [⟨(some 2), none, .o (.v (.mov (.c (.lit (.bool false)))))⟩])
      .ret)
      .skip))
    (.seq (.reg [⟨(some 21), none, .o (.v (.mov (.t 3)))⟩,
      ⟨(some 22), none, .o (.v (.load (.t 6) (some 4)))⟩,
      ⟨(some 23), none, .o (.bsl 66 1 [(.int .i64 (0)), (.int .i64 (0)), (.int .i64 (0)), (.int .i64 (0))] [(0, 4, (.t 22))])⟩,
      ⟨(some 24), none, .o (.app 66 4 32 (.t 21) (.t 23))⟩,
      ⟨(some 3), none, .o (.v (.mov (.t 24)))⟩])
    (.reg [⟨(some 25), none, .o (.v (.off (.t 6) 0))⟩,
      ⟨(some 26), none, .o (.v (.load (.t 25) none))⟩,
      ⟨(some 27), none, .o (.v (.ixarr (.t 4) (.t 26) 8 1))⟩,
      ⟨(some 28), none, .o (.v (.load (.t 27) none))⟩,
      ⟨(some 29), none, .o (.v (.bin .add (.t 28) (.c (.int .i64 (1)))))⟩,
      ⟨(some 30), none, .o (.v (.ixarr (.t 4) (.t 26) 8 1))⟩,
      ⟨none, none, .o (.store 1 (.t 30) (.t 29))⟩]))))))
    (.reg [⟨(some 31), none, .o (.v (.bin .add (.t 12) (.c (.int .i64 (1)))))⟩,
      ⟨(some 12), none, .o (.v (.mov (.t 31)))⟩])))))))
  (.seq (.seq (.reg [⟨(some 32), none, .o (.v (.off (.t 1) 0))⟩,
    ⟨(some 33), none, .o (.v (.off (.t 32) 0))⟩,
    ⟨(some 34), none, .o (.v (.load (.t 33) none))⟩,
    ⟨(some 35), none, .o (.v (.mov (.c (.int .i64 (0)))))⟩])
  (.block 2 (.loop
    (.seq (.reg [⟨(some 36), none, .o (.v (.bin .lss (.t 35) (.t 34)))⟩])
    (.seq (.cond (.t 36)
      .skip
      (.exit 2))
    (.seq (.block 3 (.seq (.reg [⟨(some 37), none, .o (.v (.mov (.t 35)))⟩,
      ⟨(some 7), none, .o (.v (.mov (.t 37)))⟩])
    (.seq (.reg [⟨(some 38), none, .o (.v (.mov (.t 7)))⟩,
      ⟨(some 39), none, .o (.v (.ixarr (.t 4) (.t 38) 8 1))⟩,
      ⟨(some 40), none, .o (.v (.load (.t 39) none))⟩,
      ⟨(some 41), none, .o (.v (.bin .neq (.t 40) (.c (.int .i64 (3)))))⟩])
    (.cond (.t 41)
      (.seq (.reg [⟨(some 2), none, .o (.v (.mov (.c (.lit (.bool false)))))⟩])
      .ret)
      .skip))))
    (.reg [⟨(some 42), none, .o (.v (.bin .add (.t 35) (.c (.int .i64 (1)))))⟩,
      ⟨(some 35), none, .o (.v (.mov (.t 42)))⟩])))))))
  (.seq (.reg [⟨(some 2), none, .o (.v (.mov (.c (.lit (.bool true)))))⟩])
  .ret))))))
theorem h80 : FdOk Try.prog 80 ⟨g80, [.t 2], 43, [], false⟩ := .of Try.func80 (by simp [Try.f80]) (by kernel_rfl)
/-- (octant/rounds.net).given -/
def g81 : RC :=
  (.seq (.reg [⟨(some 2), none, .o (.box 92 (.t 0))⟩,
    ⟨(some 4), none, .o (.new 101 [(.int .i64 (0)), (.lit (.slice none 0 0)), (.lit (.slice none 0 0)), (.lit (.slice none 0 0)), (.int .i64 (0)), (.int .i64 (0)), (.int .i64 (0)), (.int .i64 (0)), (.int .i64 (0)), (.int .i64 (0)), (.int .i64 (0)), (.int .i64 (0)), (.int .i64 (0)), (.int .i64 (0)), (.int .i64 (0)), (.int .i64 (0)), (.int .i64 (0)), (.int .i64 (0)), (.int .i64 (0)), (.int .i64 (0)), (.int .i64 (0)), (.lit (.map none)), (.lit (.bool false)), (.lit (.bool false)), (.lit (.bool false)), (.lit (.bool false)), (.lit (.bool false)), (.lit (.bool false)), (.lit (.bool false)), (.lit (.bool false)), (.lit (.bool false)), (.lit (.bool false)), (.lit (.bool false)), (.lit (.bool false)), (.lit (.bool false)), (.lit (.bool false)), (.lit (.bool false)), (.lit (.bool false)), (.lit (.bool false))])⟩])
  (.seq (.drw [⟨[], 0, 2, [(⟨(some 6), none, .o (.v (.load (.t 2) (some 3)))⟩, .val 0 []),
    (⟨(some 7), none, .o (.v (.mov (.t 1)))⟩, .val 0 []),
    (⟨(some 8), none, .o (.v (.load (.t 2) (some 3)))⟩, .val 0 []),
    (⟨(some 9), none, .o (.v (.mov (.t 1)))⟩, .val 0 []),
    (⟨(some 10), none, .o (.call (.c (.fn 78 [])) [(.t 8), (.t 9)])⟩, .eff 0 []),
    (⟨(some 11), none, .o (.v (.load (.t 2) (some 3)))⟩, .val 0 []),
    (⟨(some 12), none, .o (.call (.c (.fn 98 [])) [(.t 11)])⟩, .eff 1 []),
    (⟨(some 13), none, .o (.bld [(.int .i64 (0)), (.lit (.slice none 0 0)), (.lit (.slice none 0 0)), (.lit (.slice none 0 0)), (.int .i64 (0)), (.int .i64 (0)), (.int .i64 (0)), (.int .i64 (0)), (.int .i64 (0)), (.int .i64 (0)), (.int .i64 (0)), (.int .i64 (0)), (.int .i64 (0)), (.int .i64 (0)), (.int .i64 (0)), (.int .i64 (0)), (.int .i64 (0)), (.int .i64 (0)), (.int .i64 (0)), (.int .i64 (0)), (.int .i64 (0)), (.lit (.map none)), (.lit (.bool false)), (.lit (.bool false)), (.lit (.bool false)), (.lit (.bool false)), (.lit (.bool false)), (.lit (.bool false)), (.lit (.bool false)), (.lit (.bool false)), (.lit (.bool false)), (.lit (.bool false)), (.lit (.bool false)), (.lit (.bool false)), (.lit (.bool false)), (.lit (.bool false)), (.lit (.bool false)), (.lit (.bool false)), (.lit (.bool false))] [(0, 3, (.t 6)), (3, 1, (.t 7)), (4, 17, (.t 10)), (21, 1, (.t 12))])⟩, .val 2 [])],
    [],
    [⟨(some 5), none, .o (.new 101 [(.int .i64 (0)), (.lit (.slice none 0 0)), (.lit (.slice none 0 0)), (.lit (.slice none 0 0)), (.int .i64 (0)), (.int .i64 (0)), (.int .i64 (0)), (.int .i64 (0)), (.int .i64 (0)), (.int .i64 (0)), (.int .i64 (0)), (.int .i64 (0)), (.int .i64 (0)), (.int .i64 (0)), (.int .i64 (0)), (.int .i64 (0)), (.int .i64 (0)), (.int .i64 (0)), (.int .i64 (0)), (.int .i64 (0)), (.int .i64 (0)), (.lit (.map none)), (.lit (.bool false)), (.lit (.bool false)), (.lit (.bool false)), (.lit (.bool false)), (.lit (.bool false)), (.lit (.bool false)), (.lit (.bool false)), (.lit (.bool false)), (.lit (.bool false)), (.lit (.bool false)), (.lit (.bool false)), (.lit (.bool false)), (.lit (.bool false)), (.lit (.bool false)), (.lit (.bool false)), (.lit (.bool false)), (.lit (.bool false))])⟩,
    ⟨none, none, .o (.store 39 (.t 5) (.t 13))⟩], (some 5)⟩,
    ⟨[2, 1], 1, 0, [(⟨(some 6), none, .o (.v (.load (.t 2) (some 3)))⟩, .val 0 []),
    (⟨(some 7), none, .o (.v (.mov (.t 1)))⟩, .val 0 []),
    (⟨(some 8), none, .o (.v (.load (.t 2) (some 3)))⟩, .val 0 []),
    (⟨(some 9), none, .o (.v (.mov (.t 1)))⟩, .val 0 []),
    (⟨(some 10), none, .o (.call (.c (.fn 78 [])) [(.t 8), (.t 9)])⟩, .val 0 []),
    (⟨(some 11), none, .o (.v (.load (.t 2) (some 3)))⟩, .val 0 []),
    (⟨(some 12), none, .o (.call (.c (.fn 98 [])) [(.t 11)])⟩, .val 0 []),
    (⟨(some 13), none, .o (.bld [(.int .i64 (0)), (.lit (.slice none 0 0)), (.lit (.slice none 0 0)), (.lit (.slice none 0 0)), (.int .i64 (0)), (.int .i64 (0)), (.int .i64 (0)), (.int .i64 (0)), (.int .i64 (0)), (.int .i64 (0)), (.int .i64 (0)), (.int .i64 (0)), (.int .i64 (0)), (.int .i64 (0)), (.int .i64 (0)), (.int .i64 (0)), (.int .i64 (0)), (.int .i64 (0)), (.int .i64 (0)), (.int .i64 (0)), (.int .i64 (0)), (.lit (.map none)), (.lit (.bool false)), (.lit (.bool false)), (.lit (.bool false)), (.lit (.bool false)), (.lit (.bool false)), (.lit (.bool false)), (.lit (.bool false)), (.lit (.bool false)), (.lit (.bool false)), (.lit (.bool false)), (.lit (.bool false)), (.lit (.bool false)), (.lit (.bool false)), (.lit (.bool false)), (.lit (.bool false)), (.lit (.bool false)), (.lit (.bool false))] [(0, 3, (.t 6)), (3, 1, (.t 7)), (4, 17, (.t 10)), (21, 1, (.t 12))])⟩, .val 0 []),
    (⟨(some 5), none, .o (.new 101 [(.int .i64 (0)), (.lit (.slice none 0 0)), (.lit (.slice none 0 0)), (.lit (.slice none 0 0)), (.int .i64 (0)), (.int .i64 (0)), (.int .i64 (0)), (.int .i64 (0)), (.int .i64 (0)), (.int .i64 (0)), (.int .i64 (0)), (.int .i64 (0)), (.int .i64 (0)), (.int .i64 (0)), (.int .i64 (0)), (.int .i64 (0)), (.int .i64 (0)), (.int .i64 (0)), (.int .i64 (0)), (.int .i64 (0)), (.int .i64 (0)), (.lit (.map none)), (.lit (.bool false)), (.lit (.bool false)), (.lit (.bool false)), (.lit (.bool false)), (.lit (.bool false)), (.lit (.bool false)), (.lit (.bool false)), (.lit (.bool false)), (.lit (.bool false)), (.lit (.bool false)), (.lit (.bool false)), (.lit (.bool false)), (.lit (.bool false)), (.lit (.bool false)), (.lit (.bool false)), (.lit (.bool false)), (.lit (.bool false))])⟩, .cre 0)],
    [0],
    [⟨none, none, .o (.store 39 (.t 5) (.t 13))⟩], none⟩])
  (.seq (.reg [⟨(some 14), none, .o (.call (.c (.fn 99 [])) [(.t 5)])⟩])
  (.seq (.reg [⟨(some 15), none, .o (.v (.load (.t 5) (some 39)))⟩,
    ⟨none, none, .o (.store 39 (.t 4) (.t 15))⟩])
  .ret))))
theorem h81 : FdOk Try.prog 81 ⟨g81, [.c 4 (some 39)], 16, [], false⟩ := .of Try.func81 (by simp [Try.f81]) (by kernel_rfl)
/-- octant/rounds.sum[int] -/
def g82 : RC :=
  (.seq (.reg [⟨(some 4), none, .o (.v (.mov (.c (.int .i64 (0)))))⟩])
  (.seq (.reg [⟨(some 5), none, .o (.v (.mov (.c (.int .i64 (0)))))⟩])
  (.seq (.seq (.reg [⟨(some 8), none, .o (.v (.mov (.t 1)))⟩,
    ⟨(some 9), none, .o (.v (.len (.t 8)))⟩,
    ⟨(some 10), none, .o (.v (.mov (.c (.int .i64 (0)))))⟩])
  (.block 0 (.loop
    (.seq (.reg [⟨(some 11), none, .o (.v (.bin .lss (.t 10) (.t 9)))⟩])
    (.seq (.cond (.t 11)
      .skip
      (.exit 0))
    (.seq (.block 1 (.seq (.reg [⟨(some 12), none, .o (.v (.ixa (.t 8) (.t 10) 1))⟩,
      ⟨(some 13), none, .o (.v (.load (.t 12) none))⟩,
      ⟨(some 7), none, .o (.v (.mov (.t 13)))⟩])
    (.reg [⟨(some 14), none, .o (.v (.mov (.t 5)))⟩,
      ⟨(some 15), none, .o (.v (.mov (.t 0)))⟩,
      ⟨(some 16), none, .o (.v (.mov (.t 7)))⟩,
      ⟨(some 17), none, .o (.call (.t 15) [(.t 16)])⟩,
      ⟨(some 18), none, .o (.v (.bin .add (.t 14) (.t 17)))⟩,
      ⟨(some 5), none, .o (.v (.mov (.t 18)))⟩])))
    (.reg [⟨(some 19), none, .o (.v (.bin .add (.t 10) (.c (.int .i64 (1)))))⟩,
      ⟨(some 10), none, .o (.v (.mov (.t 19)))⟩])))))))
  (.seq (.reg [⟨(some 20), none, .o (.v (.mov (.t 5)))⟩,
    ⟨(some 4), none, .o (.v (.mov (.t 20)))⟩])
  .ret))))
theorem h82 : FdOk Try.prog 82 ⟨g82, [.t 4], 21, [], true⟩ := .of Try.func82 (by simp [Try.f82]) (by kernel_rfl)
/-- (octant/rounds.giving).left$1 -/
def g83 : RC :=
  (.seq (.reg [⟨(some 2), none, .o (.v (.mov (.c (.int .i64 (0)))))⟩])
  (.seq (.reg [⟨(some 3), none, .o (.v (.mov (.t 0)))⟩,
    ⟨(some 4), none, .o (.v (.max2 (.t 3) (.c (.int .i64 (0)))))⟩,
    ⟨(some 2), none, .o (.v (.mov (.t 4)))⟩])
  .ret))
theorem h83 : FdOk Try.prog 83 ⟨g83, [.t 2], 5, [], false⟩ := .of Try.func83 (by simp [Try.f83]) (by kernel_rfl)
/-- (octant/rounds.giving).farthest -/
def g84 : RC :=
  (.seq (.reg [⟨(some 3), none, .o (.box 101 (.t 0))⟩,
    ⟨(some 5), none, .o (.box 121 (.t 2))⟩,
    ⟨(some 6), none, .o (.v (.mov (.c (.int .i64 (0)))))⟩])
  (.seq (.drw [⟨[], 0, 0, [(⟨(some 10), none, .o (.v (.off (.t 5) 0))⟩, .val 0 []),
    (⟨(some 11), none, .o (.v (.load (.t 10) none))⟩, .val 0 []),
    (⟨(some 12), none, .o (.v (.off (.t 3) 0))⟩, .val 0 []),
    (⟨(some 13), none, .o (.v (.off (.t 12) 0))⟩, .val 0 []),
    (⟨(some 14), none, .o (.v (.off (.t 13) 2))⟩, .val 0 []),
    (⟨(some 15), none, .o (.v (.load (.t 14) none))⟩, .val 0 []),
    (⟨(some 16), none, .o (.v (.mov (.t 1)))⟩, .val 0 []),
    (⟨(some 17), none, .o (.v (.ixa (.t 15) (.t 16) 4))⟩, .val 0 []),
    (⟨(some 18), none, .o (.v (.off (.t 17) 2))⟩, .val 0 []),
    (⟨(some 19), none, .o (.v (.load (.t 18) (some 2)))⟩, .val 0 [])],
    [],
    [⟨(some 20), none, .o (.call (.t 11) [(.t 19)])⟩,
    ⟨(some 7), none, .o (.v (.mov (.t 20)))⟩], none⟩])
  (.seq (.reg [⟨(some 21), none, .o (.v (.off (.t 3) 3))⟩,
    ⟨(some 22), none, .o (.v (.load (.t 21) none))⟩,
    ⟨(some 23), none, .o (.call (.c (.fn 100 [])) [(.t 22)])⟩,
    ⟨(some 8), none, .o (.v (.mov (.t 23)))⟩])
  (.seq (.reg [⟨(some 24), none, .o (.v (.mov (.t 8)))⟩,
    ⟨(some 25), none, .o (.v (.mov (.t 1)))⟩,
    ⟨(some 26), none, .o (.v (.mov (.t 7)))⟩,
    ⟨(some 27), none, .o (.v (.ixa (.t 24) (.t 25) 1))⟩,
    ⟨none, none, .o (.store 1 (.t 27) (.t 26))⟩])
  (.seq (.reg [⟨(some 28), none, .o (.v (.off (.t 3) 0))⟩,
    ⟨(some 29), none, .o (.v (.load (.t 28) (some 3)))⟩,
    ⟨(some 30), none, .o (.v (.mov (.t 1)))⟩,
    ⟨(some 31), none, .o (.v (.mov (.t 7)))⟩,
    ⟨(some 32), none, .o (.v (.mov (.t 7)))⟩,
    ⟨(some 33), none, .o (.bld [(.int .i64 (0)), (.int .i64 (0))] [(0, 1, (.t 31)), (1, 1, (.t 32))])⟩,
    ⟨(some 34), none, .o (.call (.c (.fn 93 [])) [(.t 29), (.t 30), (.t 33)])⟩,
    ⟨(some 35), none, .o (.v (.mov (.t 8)))⟩,
    ⟨(some 36), none, .o (.call (.c (.fn 81 [])) [(.t 34), (.t 35)])⟩,
    ⟨(some 9), none, .o (.new 101 [(.int .i64 (0)), (.lit (.slice none 0 0)), (.lit (.slice none 0 0)), (.lit (.slice none 0 0)), (.int .i64 (0)), (.int .i64 (0)), (.int .i64 (0)), (.int .i64 (0)), (.int .i64 (0)), (.int .i64 (0)), (.int .i64 (0)), (.int .i64 (0)), (.int .i64 (0)), (.int .i64 (0)), (.int .i64 (0)), (.int .i64 (0)), (.int .i64 (0)), (.int .i64 (0)), (.int .i64 (0)), (.int .i64 (0)), (.int .i64 (0)), (.lit (.map none)), (.lit (.bool false)), (.lit (.bool false)), (.lit (.bool false)), (.lit (.bool false)), (.lit (.bool false)), (.lit (.bool false)), (.lit (.bool false)), (.lit (.bool false)), (.lit (.bool false)), (.lit (.bool false)), (.lit (.bool false)), (.lit (.bool false)), (.lit (.bool false)), (.lit (.bool false)), (.lit (.bool false)), (.lit (.bool false)), (.lit (.bool false))])⟩,
    ⟨none, none, .o (.store 39 (.t 9) (.t 36))⟩])
  (.seq (.drw [⟨[], 0, 1, [(⟨(some 37), none, .o (.v (.mov (.t 7)))⟩, .val 0 []),
    (⟨(some 38), none, .o (.v (.off (.t 5) 1))⟩, .val 0 []),
    (⟨(some 39), none, .o (.v (.load (.t 38) none))⟩, .val 0 []),
    (⟨(some 40), none, .o (.v (.load (.t 9) (some 39)))⟩, .val 0 []),
    (⟨(some 41), none, .o (.call (.c (.fn 61 [])) [(.t 40)])⟩, .eff 0 []),
    (⟨(some 42), none, .o (.v (.bin .mul (.t 39) (.t 41)))⟩, .val 1 [])],
    [],
    [⟨(some 43), none, .o (.v (.bin .add (.t 37) (.t 42)))⟩,
    ⟨(some 6), none, .o (.v (.mov (.t 43)))⟩], none⟩])
  .ret))))))
theorem h84 : FdOk Try.prog 84 ⟨g84, [.t 6], 44, [], false⟩ := .of Try.func84 (by simp [Try.f84]) (by kernel_rfl)
/-- octant/rounds.lower -/
def g85 : RC :=
  (.seq (.reg [⟨(some 0), none, .o (.new 121 [(.lit .nilFunc), (.int .i64 (0))])⟩])
  (.seq (.reg [⟨(some 1), none, .o (.bld [(.lit .nilFunc), (.int .i64 (0))] [(0, 1, (.c (.fn 101 []))), (1, 1, (.c (.int .i64 (1))))])⟩,
    ⟨none, none, .o (.store 2 (.t 0) (.t 1))⟩])
  .ret))
theorem h85 : FdOk Try.prog 85 ⟨g85, [.c 0 (some 2)], 2, [], false⟩ := .of Try.func85 (by simp [Try.f85]) (by kernel_rfl)
/-- octant/rounds.upper -/
def g86 : RC :=
  (.seq (.reg [⟨(some 0), none, .o (.new 121 [(.lit .nilFunc), (.int .i64 (0))])⟩])
  (.seq (.reg [⟨(some 1), none, .o (.bld [(.lit .nilFunc), (.int .i64 (0))] [(0, 1, (.c (.fn 102 []))), (1, 1, (.c (.int .i64 (-1))))])⟩,
    ⟨none, none, .o (.store 2 (.t 0) (.t 1))⟩])
  .ret))
theorem h86 : FdOk Try.prog 86 ⟨g86, [.c 0 (some 2)], 2, [], false⟩ := .of Try.func86 (by simp [Try.f86]) (by kernel_rfl)
/-- octant/rounds.isRising -/
def g89 : RC :=
  (.seq (.reg [⟨(some 4), none, .o (.v (.mov (.c (.lit (.bool false)))))⟩])
  (.seq (.seq (.reg [⟨(some 7), none, .o (.v (.mov (.t 0)))⟩,
    ⟨(some 8), none, .o (.v (.len (.t 7)))⟩,
    ⟨(some 9), none, .o (.v (.mov (.c (.int .i64 (0)))))⟩])
  (.block 0 (.loop
    (.seq (.reg [⟨(some 10), none, .o (.v (.bin .lss (.t 9) (.t 8)))⟩])
    (.seq (.cond (.t 10)
      .skip
      (.exit 0))
    (.seq (.block 1 (.seq (.reg [⟨(some 11), none, .o (.v (.mov (.t 9)))⟩,
      ⟨(some 12), none, .o (.v (.ixa (.t 7) (.t 9) 1))⟩,
      ⟨(some 13), none, .o (.v (.load (.t 12) none))⟩,
      ⟨(some 5), none, .o (.v (.mov (.t 11)))⟩,
      ⟨(some 6), none, .o (.v (.mov (.t 13)))⟩])
    (.seq (.reg [⟨(some 14), none, .o (.v (.mov (.t 6)))⟩,
      ⟨(some 15), none, .o (.v (.mov (.t 1)))⟩,
      ⟨(some 16), none, .o (.v (.bin .sub (.t 15) (.c (.int .i64 (1)))))⟩,
      ⟨(some 17), none, .o (.call (.c (.fn 71 [])) [(.t 14), (.c (.int .i64 (0))), (.t 16)])⟩,
      ⟨(some 18), none, .o (.v (.not (.t 17)))⟩,
      ⟨(some 19), none, .o (.v (.mov (.t 18)))⟩,
      ⟨(some 20), (some (19, false)), .o (.v (.mov (.t 5)))⟩,
      ⟨(some 21), (some (19, false)), .o (.v (.bin .gtr (.t 20) (.c (.int .i64 (0)))))⟩,
      ⟨(some 22), (some (19, false)), .o (.v (.mov (.t 21)))⟩,
      ⟨(some 23), (some (22, true)), .o (.v (.mov (.t 6)))⟩,
      ⟨(some 24), (some (22, true)), .o (.v (.mov (.t 0)))⟩,
      ⟨(some 25), (some (22, true)), .o (.v (.mov (.t 5)))⟩,
      ⟨(some 26), (some (22, true)), .o (.v (.bin .sub (.t 25) (.c (.int .i64 (1)))))⟩,
      ⟨(some 27), (some (22, true)), .o (.v (.ixa (.t 24) (.t 26) 1))⟩,
      ⟨(some 28), (some (22, true)), .o (.v (.load (.t 27) none))⟩,
      ⟨(some 29), (some (22, true)), .o (.v (.bin .leq (.t 23) (.t 28)))⟩,
      ⟨(some 30), (some (19, false)), .o (.v (.pick (.t 22) (.t 29) (.c (.lit (.bool false)))))⟩,
      ⟨(some 31), none, .o (.v (.pick (.t 19) (.c (.lit (.bool true))) (.t 30)))⟩])
    (.cond (.t 31)
      (.seq (.reg [⟨(some 4), none, .o (.v (.mov (.c (.lit (.bool false)))))⟩])
      .ret)
      .skip))))
    (.reg [⟨(some 32), none, .o (.v (.bin .add (.t 9) (.c (.int .i64 (1)))))⟩,
      ⟨(some 9), none, .o (.v (.mov (.t 32)))⟩])))))))
  (.seq (.reg [⟨(some 4), none, .o (.v (.mov (.c (.lit (.bool true)))))⟩])
  .ret)))
theorem h89 : FdOk Try.prog 89 ⟨g89, [.t 4], 33, [], false⟩ := .of Try.func89 (by simp [Try.f89]) (by kernel_rfl)
/-- slices.Contains[[]int,int] -/
def g90 : RC :=
  (.seq (.reg [⟨(some 4), none, .o (.v (.mov (.c (.lit (.bool false)))))⟩])
  (.seq (.reg [⟨(some 5), none, .o (.v (.mov (.t 0)))⟩,
    ⟨(some 6), none, .o (.v (.mov (.t 1)))⟩,
    ⟨(some 7), none, .o (.call (.c (.fn 103 [])) [(.t 5), (.t 6)])⟩,
    ⟨(some 8), none, .o (.v (.bin .geq (.t 7) (.c (.int .i64 (0)))))⟩,
    ⟨(some 4), none, .o (.v (.mov (.t 8)))⟩])
  .ret))
theorem h90 : FdOk Try.prog 90 ⟨g90, [.t 4], 9, [], false⟩ := .of Try.func90 (by simp [Try.f90]) (by kernel_rfl)
/-- octant/rounds.sum[octant/api.Span] -/
def g91 : RC :=
  (.seq (.reg [⟨(some 4), none, .o (.v (.mov (.c (.int .i64 (0)))))⟩])
  (.seq (.reg [⟨(some 5), none, .o (.v (.mov (.c (.int .i64 (0)))))⟩])
  (.seq (.seq (.reg [⟨(some 8), none, .o (.v (.mov (.t 1)))⟩,
    ⟨(some 9), none, .o (.v (.len (.t 8)))⟩,
    ⟨(some 10), none, .o (.v (.mov (.c (.int .i64 (0)))))⟩])
  (.block 0 (.loop
    (.seq (.reg [⟨(some 11), none, .o (.v (.bin .lss (.t 10) (.t 9)))⟩])
    (.seq (.cond (.t 11)
      .skip
      (.exit 0))
    (.seq (.block 1 (.seq (.reg [⟨(some 12), none, .o (.v (.ixa (.t 8) (.t 10) 2))⟩,
      ⟨(some 13), none, .o (.v (.load (.t 12) (some 2)))⟩,
      ⟨(some 7), none, .o (.new 23 [(.int .i64 (0)), (.int .i64 (0))])⟩,
      ⟨none, none, .o (.store 2 (.t 7) (.t 13))⟩])
    (.reg [⟨(some 14), none, .o (.v (.mov (.t 5)))⟩,
      ⟨(some 15), none, .o (.v (.mov (.t 0)))⟩,
      ⟨(some 16), none, .o (.v (.load (.t 7) (some 2)))⟩,
      ⟨(some 17), none, .o (.call (.t 15) [(.t 16)])⟩,
      ⟨(some 18), none, .o (.v (.bin .add (.t 14) (.t 17)))⟩,
      ⟨(some 5), none, .o (.v (.mov (.t 18)))⟩])))
    (.reg [⟨(some 19), none, .o (.v (.bin .add (.t 10) (.c (.int .i64 (1)))))⟩,
      ⟨(some 10), none, .o (.v (.mov (.t 19)))⟩])))))))
  (.seq (.reg [⟨(some 20), none, .o (.v (.mov (.t 5)))⟩,
    ⟨(some 4), none, .o (.v (.mov (.t 20)))⟩])
  .ret))))
theorem h91 : FdOk Try.prog 91 ⟨g91, [.t 4], 21, [], false⟩ := .of Try.func91 (by simp [Try.f91]) (by kernel_rfl)
/-- (octant/rounds.net).with -/
def g93 : RC :=
  (.seq (.reg [⟨(some 3), none, .o (.box 92 (.t 0))⟩,
    ⟨(some 5), none, .o (.box 23 (.t 2))⟩,
    ⟨(some 6), none, .o (.new 92 [(.int .i64 (0)), (.lit (.slice none 0 0)), (.lit (.slice none 0 0))])⟩])
  (.seq (.reg [⟨(some 9), none, .o (.v (.off (.t 3) 0))⟩,
    ⟨(some 10), none, .o (.v (.off (.t 9) 2))⟩,
    ⟨(some 11), none, .o (.v (.load (.t 10) none))⟩,
    ⟨(some 12), none, .o (.v (.mov (.t 1)))⟩,
    ⟨(some 13), none, .o (.v (.ixa (.t 11) (.t 12) 4))⟩,
    ⟨(some 14), none, .o (.v (.load (.t 13) (some 4)))⟩,
    ⟨(some 7), none, .o (.new 66 [(.int .i64 (0)), (.int .i64 (0)), (.int .i64 (0)), (.int .i64 (0))])⟩,
    ⟨none, none, .o (.store 4 (.t 7) (.t 14))⟩])
  (.seq (.reg [⟨(some 15), none, .o (.v (.load (.t 5) (some 2)))⟩,
    ⟨(some 16), none, .o (.v (.off (.t 7) 2))⟩,
    ⟨none, none, .o (.store 2 (.t 16) (.t 15))⟩])
  (.seq (.drw [⟨[3, 1, 7], 1, 0, [(⟨(some 17), none, .o (.v (.off (.t 3) 0))⟩, .val 0 []),
    (⟨(some 18), none, .o (.v (.off (.t 17) 2))⟩, .val 0 []),
    (⟨(some 19), none, .o (.v (.load (.t 18) none))⟩, .val 0 []),
    (⟨(some 20), none, .o (.v (.mov (.t 1)))⟩, .val 0 []),
    (⟨(some 21), none, .o (.v (.mov (.t 1)))⟩, .val 0 []),
    (⟨(some 22), none, .o (.slc (.t 19) none (some (.t 20)) (some (.t 21)) 4)⟩, .val 0 []),
    (⟨(some 23), none, .o (.v (.load (.t 7) (some 4)))⟩, .val 0 []),
    (⟨(some 24), none, .o (.bsl 66 1 [(.int .i64 (0)), (.int .i64 (0)), (.int .i64 (0)), (.int .i64 (0))] [(0, 4, (.t 23))])⟩, .cre 0)],
    [0],
    [⟨(some 25), none, .o (.app 66 4 32 (.t 22) (.t 24))⟩,
    ⟨(some 8), none, .o (.v (.mov (.t 25)))⟩], none⟩])
  (.seq (.reg [⟨(some 26), none, .o (.v (.mov (.t 8)))⟩,
    ⟨(some 27), none, .o (.v (.off (.t 3) 0))⟩,
    ⟨(some 28), none, .o (.v (.off (.t 27) 2))⟩,
    ⟨(some 29), none, .o (.v (.load (.t 28) none))⟩,
    ⟨(some 30), none, .o (.v (.mov (.t 1)))⟩,
    ⟨(some 31), none, .o (.v (.bin .add (.t 30) (.c (.int .i64 (1)))))⟩,
    ⟨(some 32), none, .o (.slc (.t 29) (some (.t 31)) none none 4)⟩,
    ⟨(some 33), none, .o (.app 66 4 32 (.t 26) (.t 32))⟩,
    ⟨(some 34), none, .o (.v (.off (.t 3) 0))⟩,
    ⟨(some 35), none, .o (.v (.off (.t 34) 2))⟩,
    ⟨none, none, .o (.store 1 (.t 35) (.t 33))⟩])
  (.seq (.reg [⟨(some 36), none, .o (.v (.load (.t 3) (some 3)))⟩,
    ⟨none, none, .o (.store 3 (.t 6) (.t 36))⟩])
  .ret))))))
theorem h93 : FdOk Try.prog 93 ⟨g93, [.c 6 (some 3)], 37, [], false⟩ := .of Try.func93 (by simp [Try.f93]) (by kernel_rfl)
/-- octant/rounds.itself -/
def g94 : RC :=
  (.seq (.reg [⟨(some 2), none, .o (.v (.mov (.c (.int .i64 (0)))))⟩])
  (.seq (.reg [⟨(some 3), none, .o (.v (.mov (.t 0)))⟩,
    ⟨(some 2), none, .o (.v (.mov (.t 3)))⟩])
  .ret))
theorem h94 : FdOk Try.prog 94 ⟨g94, [.t 2], 4, [], false⟩ := .of Try.func94 (by simp [Try.f94]) (by kernel_rfl)
/-- (octant/rounds.net).triangle -/
def g95 : RC :=
  (.seq (.reg [⟨(some 2), none, .o (.box 92 (.t 0))⟩,
    ⟨(some 4), none, .o (.v (.mov (.c (.int .i64 (0)))))⟩])
  (.seq (.reg [⟨(some 5), none, .o (.v (.off (.t 2) 0))⟩,
    ⟨(some 6), none, .o (.v (.off (.t 5) 2))⟩,
    ⟨(some 7), none, .o (.v (.load (.t 6) none))⟩,
    ⟨(some 8), none, .o (.v (.mov (.t 1)))⟩,
    ⟨(some 9), none, .o (.v (.ixa (.t 7) (.t 8) 4))⟩,
    ⟨(some 10), none, .o (.v (.off (.t 9) 0))⟩,
    ⟨(some 11), none, .o (.v (.load (.t 10) none))⟩,
    ⟨(some 4), none, .o (.v (.mov (.t 11)))⟩])
  .ret))
theorem h95 : FdOk Try.prog 95 ⟨g95, [.t 4], 12, [], false⟩ := .of Try.func95 (by simp [Try.f95]) (by kernel_rfl)
/-- (octant/rounds.net).station -/
def g96 : RC :=
  (.seq (.reg [⟨(some 2), none, .o (.box 92 (.t 0))⟩,
    ⟨(some 4), none, .o (.v (.mov (.c (.int .i64 (0)))))⟩])
  (.seq (.seq (.reg [⟨(some 6), none, .o (.v (.off (.t 2) 0))⟩,
    ⟨(some 7), none, .o (.v (.off (.t 6) 2))⟩,
    ⟨(some 8), none, .o (.v (.load (.t 7) none))⟩,
    ⟨(some 9), none, .o (.v (.mov (.t 1)))⟩,
    ⟨(some 10), none, .o (.v (.ixa (.t 8) (.t 9) 4))⟩,
    ⟨(some 11), none, .o (.v (.off (.t 10) 1))⟩,
    ⟨(some 12), none, .o (.v (.load (.t 11) none))⟩,
    ⟨(some 5), none, .o (.v (.mov (.t 12)))⟩])
  (.seq (.reg [⟨(some 13), none, .o (.v (.off (.t 2) 0))⟩,
    ⟨(some 14), none, .o (.v (.off (.t 13) 1))⟩,
    ⟨(some 15), none, .o (.v (.load (.t 14) none))⟩,
    ⟨(some 16), none, .o (.v (.mov (.t 5)))⟩,
    ⟨(some 17), none, .o (.v (.ixa (.t 15) (.t 16) 1))⟩,
    ⟨(some 18), none, .o (.v (.load (.t 17) none))⟩])
  (.cond (.t 18)
    (.seq (.reg [⟨(some 19), none, .o (.v (.mov (.t 5)))⟩,
      ⟨(some 20), none, .o (.v (.bin .add (.c (.int .i64 (8))) (.t 19)))⟩,
      ⟨(some 4), none, .o (.v (.mov (.t 20)))⟩])
    .ret)
    .skip)))
  (.seq (.reg [⟨(some 4), none, .o (.v (.mov (.c (.int .i64 (16)))))⟩])
  .ret)))
theorem h96 : FdOk Try.prog 96 ⟨g96, [.t 4], 21, [], false⟩ := .of Try.func96 (by simp [Try.f96]) (by kernel_rfl)
/-- slices.Contains[[]octant/api.RoundsAngle,octant/api.RoundsAngle] -/
def g97 : RC :=
  (.seq (.reg [⟨(some 3), none, .o (.box 66 (.t 1))⟩,
    ⟨(some 4), none, .o (.v (.mov (.c (.lit (.bool false)))))⟩])
  (.seq (.reg [⟨(some 5), none, .o (.v (.mov (.t 0)))⟩,
    ⟨(some 6), none, .o (.v (.load (.t 3) (some 4)))⟩,
    ⟨(some 7), none, .o (.call (.c (.fn 104 [])) [(.t 5), (.t 6)])⟩,
    ⟨(some 8), none, .o (.v (.bin .geq (.t 7) (.c (.int .i64 (0)))))⟩,
    ⟨(some 4), none, .o (.v (.mov (.t 8)))⟩])
  .ret))
theorem h97 : FdOk Try.prog 97 ⟨g97, [.t 4], 9, [], false⟩ := .of Try.func97 (by simp [Try.f97]) (by kernel_rfl)
/-- (octant/rounds.net).around -/
def g98 : RC :=
  (.seq (.reg [⟨(some 1), none, .o (.box 92 (.t 0))⟩,
    ⟨(some 2), none, .o (.v (.mov (.c (.lit (.map none)))))⟩])
  (.seq (.reg [⟨(some 5), none, .mkm⟩,
    ⟨(some 3), none, .o (.v (.mov (.t 5)))⟩])
  (.seq (.seq (.reg [⟨(some 6), none, .o (.v (.off (.t 1) 0))⟩,
    ⟨(some 7), none, .o (.v (.off (.t 6) 2))⟩,
    ⟨(some 8), none, .o (.v (.load (.t 7) none))⟩,
    ⟨(some 9), none, .o (.v (.len (.t 8)))⟩,
    ⟨(some 10), none, .o (.v (.mov (.c (.int .i64 (0)))))⟩])
  (.block 0 (.loop
    (.seq (.reg [⟨(some 11), none, .o (.v (.bin .lss (.t 10) (.t 9)))⟩])
    (.seq (.cond (.t 11)
      .skip
      (.exit 0))
    (.seq (.block 1 (.seq (.reg [⟨(some 12), none, .o (.v (.mov (.t 10)))⟩,
      ⟨(some 4), none, .o (.v (.mov (.t 12)))⟩])
    (.seq (.drw [⟨[3, 1, 4], 1, 1, [(⟨(some 13), none, .o (.v (.mov (.t 3)))⟩, .val 0 []),
      (⟨(some 14), none, .o (.v (.load (.t 1) (some 3)))⟩, .val 0 []),
      (⟨(some 15), none, .o (.v (.mov (.t 4)))⟩, .val 0 []),
      (⟨(some 16), none, .o (.call (.c (.fn 95 [])) [(.t 14), (.t 15)])⟩, .val 0 []),
      (⟨(some 17), none, .o (.v (.mov (.t 3)))⟩, .val 0 []),
      (⟨(some 18), none, .o (.v (.load (.t 1) (some 3)))⟩, .val 0 []),
      (⟨(some 19), none, .o (.v (.mov (.t 4)))⟩, .val 0 []),
      (⟨(some 20), none, .o (.call (.c (.fn 95 [])) [(.t 18), (.t 19)])⟩, .val 0 []),
      (⟨(some 21), none, .lku (.i .i64) (.lit (.slice none 0 0)) false (.t 17) (.t 20)⟩, .val 0 []),
      (⟨(some 22), none, .o (.v (.mov (.t 4)))⟩, .val 0 []),
      (⟨(some 23), none, .o (.bsl 3 1 [(.int .i64 (0))] [(0, 1, (.t 22))])⟩, .cre 0),
      (⟨(some 24), none, .o (.app 3 1 8 (.t 21) (.t 23))⟩, .eff 0 [0])],
      [],
      [⟨none, none, .upd (.i .i64) (.t 13) (.t 16) (.t 24)⟩], none⟩,
      ⟨[3, 1, 4], 0, 0, [(⟨(some 13), none, .o (.v (.mov (.t 3)))⟩, .val 0 []),
      (⟨(some 14), none, .o (.v (.load (.t 1) (some 3)))⟩, .val 0 []),
      (⟨(some 15), none, .o (.v (.mov (.t 4)))⟩, .val 0 []),
      (⟨(some 16), none, .o (.call (.c (.fn 95 [])) [(.t 14), (.t 15)])⟩, .val 0 []),
      (⟨(some 17), none, .o (.v (.mov (.t 3)))⟩, .val 0 []),
      (⟨(some 18), none, .o (.v (.load (.t 1) (some 3)))⟩, .val 0 []),
      (⟨(some 19), none, .o (.v (.mov (.t 4)))⟩, .val 0 []),
      (⟨(some 20), none, .o (.call (.c (.fn 95 [])) [(.t 18), (.t 19)])⟩, .val 0 []),
      (⟨(some 21), none, .lku (.i .i64) (.lit (.slice none 0 0)) false (.t 17) (.t 20)⟩, .val 0 []),
      (⟨(some 22), none, .o (.v (.mov (.t 4)))⟩, .val 0 []),
      (⟨(some 23), none, .o (.bsl 3 1 [(.int .i64 (0))] [(0, 1, (.t 22))])⟩, .val 0 []),
      (⟨(some 24), none, .o (.app 3 1 8 (.t 21) (.t 23))⟩, .val 0 [])],
      [],
      [⟨none, none, .upd (.i .i64) (.t 13) (.t 16) (.t 24)⟩], none⟩,
      ⟨[3, 1, 4], 1, 1, [(⟨(some 13), none, .o (.v (.mov (.t 3)))⟩, .pur),
      (⟨(some 14), none, .o (.v (.load (.t 1) (some 3)))⟩, .val 0 []),
      (⟨(some 15), none, .o (.v (.mov (.t 4)))⟩, .val 0 []),
      (⟨(some 16), none, .o (.call (.c (.fn 95 [])) [(.t 14), (.t 15)])⟩, .val 0 []),
      (⟨(some 17), none, .o (.v (.mov (.t 3)))⟩, .val 0 []),
      (⟨(some 18), none, .o (.v (.load (.t 1) (some 3)))⟩, .val 0 []),
      (⟨(some 19), none, .o (.v (.mov (.t 4)))⟩, .val 0 []),
      (⟨(some 20), none, .o (.call (.c (.fn 95 [])) [(.t 18), (.t 19)])⟩, .val 0 []),
      (⟨(some 21), none, .lku (.i .i64) (.lit (.slice none 0 0)) false (.t 17) (.t 20)⟩, .val 0 []),
      (⟨(some 22), none, .o (.v (.mov (.t 4)))⟩, .val 0 []),
      (⟨(some 23), none, .o (.bsl 3 1 [(.int .i64 (0))] [(0, 1, (.t 22))])⟩, .cre 0),
      (⟨(some 24), none, .o (.app 3 1 8 (.t 21) (.t 23))⟩, .efs 0 [0] [])],
      [],
      [⟨none, none, .upd (.i .i64) (.t 13) (.t 16) (.t 24)⟩], none⟩])
    (.drw [⟨[3, 1, 4], 1, 1, [(⟨(some 25), none, .o (.v (.mov (.t 3)))⟩, .val 0 []),
      (⟨(some 26), none, .o (.v (.load (.t 1) (some 3)))⟩, .val 0 []),
      (⟨(some 27), none, .o (.v (.mov (.t 4)))⟩, .val 0 []),
      (⟨(some 28), none, .o (.call (.c (.fn 96 [])) [(.t 26), (.t 27)])⟩, .val 0 []),
      (⟨(some 29), none, .o (.v (.mov (.t 3)))⟩, .val 0 []),
      (⟨(some 30), none, .o (.v (.load (.t 1) (some 3)))⟩, .val 0 []),
      (⟨(some 31), none, .o (.v (.mov (.t 4)))⟩, .val 0 []),
      (⟨(some 32), none, .o (.call (.c (.fn 96 [])) [(.t 30), (.t 31)])⟩, .val 0 []),
      (⟨(some 33), none, .lku (.i .i64) (.lit (.slice none 0 0)) false (.t 29) (.t 32)⟩, .val 0 []),
      (⟨(some 34), none, .o (.v (.mov (.t 4)))⟩, .val 0 []),
      (⟨(some 35), none, .o (.bsl 3 1 [(.int .i64 (0))] [(0, 1, (.t 34))])⟩, .cre 0),
      (⟨(some 36), none, .o (.app 3 1 8 (.t 33) (.t 35))⟩, .eff 0 [0])],
      [],
      [⟨none, none, .upd (.i .i64) (.t 25) (.t 28) (.t 36)⟩], none⟩,
      ⟨[3, 1, 4], 0, 0, [(⟨(some 25), none, .o (.v (.mov (.t 3)))⟩, .val 0 []),
      (⟨(some 26), none, .o (.v (.load (.t 1) (some 3)))⟩, .val 0 []),
      (⟨(some 27), none, .o (.v (.mov (.t 4)))⟩, .val 0 []),
      (⟨(some 28), none, .o (.call (.c (.fn 96 [])) [(.t 26), (.t 27)])⟩, .val 0 []),
      (⟨(some 29), none, .o (.v (.mov (.t 3)))⟩, .val 0 []),
      (⟨(some 30), none, .o (.v (.load (.t 1) (some 3)))⟩, .val 0 []),
      (⟨(some 31), none, .o (.v (.mov (.t 4)))⟩, .val 0 []),
      (⟨(some 32), none, .o (.call (.c (.fn 96 [])) [(.t 30), (.t 31)])⟩, .val 0 []),
      (⟨(some 33), none, .lku (.i .i64) (.lit (.slice none 0 0)) false (.t 29) (.t 32)⟩, .val 0 []),
      (⟨(some 34), none, .o (.v (.mov (.t 4)))⟩, .val 0 []),
      (⟨(some 35), none, .o (.bsl 3 1 [(.int .i64 (0))] [(0, 1, (.t 34))])⟩, .val 0 []),
      (⟨(some 36), none, .o (.app 3 1 8 (.t 33) (.t 35))⟩, .val 0 [])],
      [],
      [⟨none, none, .upd (.i .i64) (.t 25) (.t 28) (.t 36)⟩], none⟩,
      ⟨[3, 1, 4], 1, 1, [(⟨(some 25), none, .o (.v (.mov (.t 3)))⟩, .pur),
      (⟨(some 26), none, .o (.v (.load (.t 1) (some 3)))⟩, .val 0 []),
      (⟨(some 27), none, .o (.v (.mov (.t 4)))⟩, .val 0 []),
      (⟨(some 28), none, .o (.call (.c (.fn 96 [])) [(.t 26), (.t 27)])⟩, .val 0 []),
      (⟨(some 29), none, .o (.v (.mov (.t 3)))⟩, .val 0 []),
      (⟨(some 30), none, .o (.v (.load (.t 1) (some 3)))⟩, .val 0 []),
      (⟨(some 31), none, .o (.v (.mov (.t 4)))⟩, .val 0 []),
      (⟨(some 32), none, .o (.call (.c (.fn 96 [])) [(.t 30), (.t 31)])⟩, .val 0 []),
      (⟨(some 33), none, .lku (.i .i64) (.lit (.slice none 0 0)) false (.t 29) (.t 32)⟩, .val 0 []),
      (⟨(some 34), none, .o (.v (.mov (.t 4)))⟩, .val 0 []),
      (⟨(some 35), none, .o (.bsl 3 1 [(.int .i64 (0))] [(0, 1, (.t 34))])⟩, .cre 0),
      (⟨(some 36), none, .o (.app 3 1 8 (.t 33) (.t 35))⟩, .efs 0 [0] [])],
      [],
      [⟨none, none, .upd (.i .i64) (.t 25) (.t 28) (.t 36)⟩], none⟩]))))
    (.reg [⟨(some 37), none, .o (.v (.bin .add (.t 10) (.c (.int .i64 (1)))))⟩,
      ⟨(some 10), none, .o (.v (.mov (.t 37)))⟩])))))))
  (.seq (.reg [⟨(some 38), none, .o (.v (.mov (.t 3)))⟩,
    ⟨(some 2), none, .o (.v (.mov (.t 38)))⟩])
  .ret))))
theorem h98 : FdOk Try.prog 98 ⟨g98, [.t 2], 39, [], false⟩ := .of Try.func98 (by simp [Try.f98]) (by kernel_rfl)
/-- (*octant/rounds.giving).settle -/
def g99 : RC :=
  (.block 0 (.loop
    (.block 1 (.seq (.reg [⟨(some 7), none, .o (.v (.mov (.t 0)))⟩,
      ⟨(some 8), none, .o (.call (.c (.fn 105 [])) [(.t 7)])⟩,
      ⟨(some 6), none, .o (.v (.mov (.t 8)))⟩,
      ⟨(some 9), none, .o (.v (.ext (.t 6) 0))⟩,
      ⟨(some 10), none, .o (.v (.ext (.t 6) 1))⟩,
      ⟨(some 2), none, .o (.new 99 (List.replicate 17 (.lit (.bool false))))⟩,
      ⟨(some 3), none, .o (.new 95 (List.replicate 17 (.int .i64 (0))))⟩,
      ⟨none, none, .o (.store 17 (.t 2) (.t 9))⟩,
      ⟨none, none, .o (.store 17 (.t 3) (.t 10))⟩])
    (.seq (.reg [⟨(some 4), none, .o (.v (.mov (.c (.int .i64 (0)))))⟩])
    (.seq (.seq (.reg [⟨(some 11), none, .o (.v (.mov (.c (.int .i64 (0)))))⟩])
    (.block 2 (.loop
      (.seq (.reg [⟨(some 12), none, .o (.v (.bin .lss (.t 11) (.c (.int .i64 (17)))))⟩])
      (.seq (.cond (.t 12)
        .skip
        (.exit 2))
      (.seq (.block 3 (.seq (.reg [⟨(some 13), none, .o (.v (.mov (.t 11)))⟩,
        ⟨(some 5), none, .o (.v (.mov (.t 13)))⟩])
      (.seq (.reg [⟨(some 14), none, .o (.v (.mov (.t 0)))⟩,
        ⟨(some 15), none, .o (.v (.mov (.t 5)))⟩,
        ⟨(some 16), none, .nck (.t 14)⟩,
        ⟨(some 17), none, .o (.v (.off (.t 16) 4))⟩,
        ⟨(some 18), none, .o (.v (.ixarr (.t 17) (.t 15) 17 1))⟩,
        ⟨(some 19), none, .o (.v (.load (.t 18) none))⟩,
        ⟨(some 20), none, .o (.v (.bin .gtr (.t 19) (.c (.int .i64 (0)))))⟩])
      (.cond (.t 20)
        (.reg [⟨(some 21), none, .o (.v (.mov (.t 4)))⟩,
          ⟨(some 22), none, .o (.v (.mov (.t 0)))⟩,
          ⟨(some 23), none, .o (.v (.mov (.t 5)))⟩,
          ⟨(some 24), none, .o (.v (.load (.t 3) (some 17)))⟩,
          ⟨(some 25), none, .o (.call (.c (.fn 106 [])) [(.t 22), (.t 23), (.t 24)])⟩,
          ⟨(some 26), none, .o (.v (.bin .add (.t 21) (.t 25)))⟩,
          ⟨(some 4), none, .o (.v (.mov (.t 26)))⟩])
        .skip))))
      (.reg [⟨(some 27), none, .o (.v (.bin .add (.t 11) (.c (.int .i64 (1)))))⟩,
        ⟨(some 11), none, .o (.v (.mov (.t 27)))⟩])))))))
    (.seq (.reg [⟨(some 28), none, .o (.v (.mov (.t 4)))⟩,
      ⟨(some 29), none, .o (.v (.bin .eql (.t 28) (.c (.int .i64 (0)))))⟩])
    (.cond (.t 29)
      (.seq (.reg [⟨(some 30), none, .o (.v (.mov (.t 0)))⟩,
        ⟨(some 31), none, .o (.v (.load (.t 2) (some 17)))⟩,
        ⟨(some 32), none, .nck (.t 30)⟩,
        ⟨(some 33), none, .o (.v (.off (.t 32) 22))⟩,
        ⟨none, none, .o (.store 17 (.t 33) (.t 31))⟩])
      .ret)
      .skip))))))))
theorem h99 : FdOk Try.prog 99 ⟨g99, [], 34, [], false⟩ := .of Try.func99 (by simp [Try.f99]) (by kernel_rfl)
/-- slices.Clone[[]int,int] -/
def g100 : RC :=
  (.seq (.reg [⟨(some 2), none, .o (.v (.mov (.c (.lit (.slice none 0 0)))))⟩])
  (.seq (.seq (.reg [⟨(some 3), none, .o (.v (.mov (.t 0)))⟩,
    ⟨(some 4), none, .o (.v (.isnil false (.t 3)))⟩])
  (.cond (.t 4)
    (.seq (.reg [⟨(some 2), none, .o (.v (.mov (.c (.lit (.slice none 0 0)))))⟩])
    .ret)
    .skip))
  (.seq (.reg [⟨(some 5), none, (.bs0 1)⟩,
    ⟨(some 6), none, .o (.v (.mov (.t 0)))⟩,
    ⟨(some 7), none, .o (.app 3 1 8 (.t 5) (.t 6))⟩,
    ⟨(some 2), none, .o (.v (.mov (.t 7)))⟩])
  .ret)))
theorem h100 : FdOk Try.prog 100 ⟨g100, [.t 2], 8, [], true⟩ := .of Try.func100 (by simp [Try.f100]) (by kernel_rfl)
/-- octant/rounds.lower$1 -/
def g101 : RC :=
  (.seq (.reg [⟨(some 1), none, .o (.box 23 (.t 0))⟩,
    ⟨(some 2), none, .o (.v (.mov (.c (.int .i64 (0)))))⟩])
  (.seq (.reg [⟨(some 3), none, .o (.v (.off (.t 1) 0))⟩,
    ⟨(some 4), none, .o (.v (.load (.t 3) none))⟩,
    ⟨(some 2), none, .o (.v (.mov (.t 4)))⟩])
  .ret))
theorem h101 : FdOk Try.prog 101 ⟨g101, [.t 2], 5, [], false⟩ := .of Try.func101 (by simp [Try.f101]) (by kernel_rfl)
/-- octant/rounds.upper$1 -/
def g102 : RC :=
  (.seq (.reg [⟨(some 1), none, .o (.box 23 (.t 0))⟩,
    ⟨(some 2), none, .o (.v (.mov (.c (.int .i64 (0)))))⟩])
  (.seq (.reg [⟨(some 3), none, .o (.v (.off (.t 1) 1))⟩,
    ⟨(some 4), none, .o (.v (.load (.t 3) none))⟩,
    ⟨(some 2), none, .o (.v (.mov (.t 4)))⟩])
  .ret))
theorem h102 : FdOk Try.prog 102 ⟨g102, [.t 2], 5, [], false⟩ := .of Try.func102 (by simp [Try.f102]) (by kernel_rfl)
/-- slices.Index[[]int,int] -/
def g103 : RC :=
  (.seq (.reg [⟨(some 4), none, .o (.v (.mov (.c (.int .i64 (0)))))⟩])
  (.seq (.seq (.reg [⟨(some 6), none, .o (.v (.mov (.t 0)))⟩,
    ⟨(some 7), none, .o (.v (.len (.t 6)))⟩,
    ⟨(some 8), none, .o (.v (.mov (.c (.int .i64 (0)))))⟩])
  (.block 0 (.loop
    (.seq (.reg [⟨(some 9), none, .o (.v (.bin .lss (.t 8) (.t 7)))⟩])
    (.seq (.cond (.t 9)
      .skip
      (.exit 0))
    (.seq (.block 1 (.seq (.reg [⟨(some 10), none, .o (.v (.mov (.t 8)))⟩,
      ⟨(some 5), none, .o (.v (.mov (.t 10)))⟩])
    (.seq (.reg [⟨(some 11), none, .o (.v (.mov (.t 1)))⟩,
      ⟨(some 12), none, .o (.v (.mov (.t 0)))⟩,
      ⟨(some 13), none, .o (.v (.mov (.t 5)))⟩,
      ⟨(some 14), none, .o (.v (.ixa (.t 12) (.t 13) 1))⟩,
      ⟨(some 15), none, .o (.v (.load (.t 14) none))⟩,
      ⟨(some 16), none, .o (.v (.bin .eql (.t 11) (.t 15)))⟩])
    (.cond (.t 16)
      (.seq (.reg [⟨(some 17), none, .o (.v (.mov (.t 5)))⟩,
        ⟨(some 4), none, .o (.v (.mov (.t 17)))⟩])
      .ret)
      .skip))))
    (.reg [⟨(some 18), none, .o (.v (.bin .add (.t 8) (.c (.int .i64 (1)))))⟩,
      ⟨(some 8), none, .o (.v (.mov (.t 18)))⟩])))))))
  (.seq (.reg [⟨(some 4), none, .o (.v (.mov (.c (.int .i64 (-1)))))⟩])
  .ret)))
theorem h103 : FdOk Try.prog 103 ⟨g103, [.t 4], 19, [], false⟩ := .of Try.func103 (by simp [Try.f103]) (by kernel_rfl)
/-- slices.Index[[]octant/api.RoundsAngle,octant/api.RoundsAngle] -/
def g104 : RC :=
  (.seq (.reg [⟨(some 3), none, .o (.box 66 (.t 1))⟩,
    ⟨(some 4), none, .o (.v (.mov (.c (.int .i64 (0)))))⟩])
  (.seq (.seq (.reg [⟨(some 6), none, .o (.v (.mov (.t 0)))⟩,
    ⟨(some 7), none, .o (.v (.len (.t 6)))⟩,
    ⟨(some 8), none, .o (.v (.mov (.c (.int .i64 (0)))))⟩])
  (.block 0 (.loop
    (.seq (.reg [⟨(some 9), none, .o (.v (.bin .lss (.t 8) (.t 7)))⟩])
    (.seq (.cond (.t 9)
      .skip
      (.exit 0))
    (.seq (.block 1 (.seq (.reg [⟨(some 10), none, .o (.v (.mov (.t 8)))⟩,
      ⟨(some 5), none, .o (.v (.mov (.t 10)))⟩])
    (.seq (.drw [⟨[], 0, 0, [(⟨(some 11), none, .o (.v (.load (.t 3) (some 4)))⟩, .val 0 []),
      (⟨(some 12), none, .o (.v (.mov (.t 0)))⟩, .val 0 []),
      (⟨(some 13), none, .o (.v (.mov (.t 5)))⟩, .val 0 []),
      (⟨(some 14), none, .o (.v (.ixa (.t 12) (.t 13) 4))⟩, .val 0 []),
      (⟨(some 15), none, .o (.v (.load (.t 14) (some 4)))⟩, .val 0 [])],
      [],
      [⟨(some 16), none, .o (.v (.eqs [(some .i64), (some .i64), (some .i64), (some .i64)] false (.t 11) (.t 15)))⟩], none⟩])
    (.cond (.t 16)
      (.seq (.reg [⟨(some 17), none, .o (.v (.mov (.t 5)))⟩,
        ⟨(some 4), none, .o (.v (.mov (.t 17)))⟩])
      .ret)
      .skip))))
    (.reg [⟨(some 18), none, .o (.v (.bin .add (.t 8) (.c (.int .i64 (1)))))⟩,
      ⟨(some 8), none, .o (.v (.mov (.t 18)))⟩])))))))
  (.seq (.reg [⟨(some 4), none, .o (.v (.mov (.c (.int .i64 (-1)))))⟩])
  .ret)))
theorem h104 : FdOk Try.prog 104 ⟨g104, [.t 4], 19, [], false⟩ := .of Try.func104 (by simp [Try.f104]) (by kernel_rfl)
/-- (*octant/rounds.giving).reach -/
def g105 : RC :=
  (.seq (.reg [⟨(some 2), none, .o (.new 99 (List.replicate 17 (.lit (.bool false))))⟩,
    ⟨(some 3), none, .o (.new 95 (List.replicate 17 (.int .i64 (0))))⟩])
  (.scp (.seq (.seq (.reg [⟨(some 10), none, .o (.v (.mov (.t 0)))⟩,
    ⟨(some 11), none, .nck (.t 10)⟩,
    ⟨(some 12), none, .o (.v (.off (.t 11) 4))⟩,
    ⟨(some 13), none, .o (.v (.load (.t 12) (some 17)))⟩,
    ⟨(some 14), none, .o (.v (.mov (.c (.int .i64 (0)))))⟩])
  (.block 0 (.loop
    (.seq (.reg [⟨(some 15), none, .o (.v (.bin .lss (.t 14) (.c (.int .i64 (17)))))⟩])
    (.seq (.cond (.t 15)
      .skip
      (.exit 0))
    (.seq (.block 1 (.seq (.reg [⟨(some 16), none, .o (.v (.mov (.t 14)))⟩,
      ⟨(some 17), none, .o (.v (.ixv (.t 13) (.t 14) 17 1 none))⟩,
      ⟨(some 4), none, .o (.v (.mov (.t 16)))⟩,
      ⟨(some 5), none, .o (.v (.mov (.t 17)))⟩])
    (.reg [⟨(some 18), none, .o (.v (.mov (.t 4)))⟩,
      ⟨(some 19), none, .o (.v (.mov (.t 5)))⟩,
      ⟨(some 20), none, .o (.v (.bin .gtr (.t 19) (.c (.int .i64 (0)))))⟩,
      ⟨(some 21), none, .o (.v (.ixarr (.t 2) (.t 18) 17 1))⟩,
      ⟨none, none, .o (.store 1 (.t 21) (.t 20))⟩])))
    (.reg [⟨(some 22), none, .o (.v (.bin .add (.t 14) (.c (.int .i64 (1)))))⟩,
      ⟨(some 14), none, .o (.v (.mov (.t 22)))⟩])))))))
  (.seq .skip
  (.seq (.seq (.reg [⟨(some 6), none, .o (.new 3 [(.int .i64 (0))])⟩,
    ⟨none, none, .o (.store 1 (.t 6) (.c (.int .i64 (1))))⟩])
  (.block 2 (.loop
    (.seq (.block 3 (.seq (.reg [⟨(some 25), none, .o (.v (.load (.t 2) (some 17)))⟩,
      ⟨(some 7), none, .o (.new 99 (List.replicate 17 (.lit (.bool false))))⟩,
      ⟨none, none, .o (.store 17 (.t 7) (.t 25))⟩])
    (.seq (.seq (.reg [⟨(some 26), none, .o (.v (.mov (.c (.int .i64 (0)))))⟩])
    (.block 4 (.loop
      (.seq (.reg [⟨(some 27), none, .o (.v (.bin .lss (.t 26) (.c (.int .i64 (17)))))⟩])
      (.seq (.cond (.t 27)
        .skip
        (.exit 4))
      (.seq (.block 5 (.seq (.reg [⟨(some 28), none, .o (.v (.mov (.t 26)))⟩,
        ⟨(some 8), none, .o (.v (.mov (.t 28)))⟩])
      (.seq (.seq (.reg [⟨(some 29), none, .o (.v (.mov (.t 8)))⟩,
        ⟨(some 30), none, .o (.v (.ixarr (.t 7) (.t 29) 17 1))⟩,
        ⟨(some 31), none, .o (.v (.load (.t 30) none))⟩,
        ⟨(some 32), none, .o (.v (.not (.t 31)))⟩])
      (.cond (.t 32)
        (.exit 5)
        .skip))
      (.seq (.reg [⟨(some 33), none, .o (.v (.mov (.t 0)))⟩,
        ⟨(some 34), none, .o (.v (.mov (.t 8)))⟩,
        ⟨(some 35), none, .o (.call (.c (.fn 107 [])) [(.t 33), (.t 34)])⟩])
      (.block 6 (.rng (.t 35) [36]
        (.reg [⟨(some 9), none, .o (.new 140 [(.int .i64 (0)), (.int .i64 (0)), (.int .i64 (0)), (.int .i64 (0))])⟩,
          ⟨none, none, .o (.store 4 (.t 9) (.t 36))⟩])
        (.block 7 (.seq (.reg [⟨(some 37), none, .o (.v (.off (.t 9) 1))⟩,
          ⟨(some 38), none, .o (.v (.load (.t 37) none))⟩,
          ⟨(some 39), none, .o (.v (.ixarr (.t 2) (.t 38) 17 1))⟩,
          ⟨(some 40), none, .o (.v (.load (.t 39) none))⟩,
          ⟨(some 41), none, .o (.v (.not (.t 40)))⟩])
        (.cond (.t 41)
          (.drw [⟨[], 0, 1, [(⟨(some 42), none, .o (.v (.off (.t 9) 1))⟩, .val 0 []),
            (⟨(some 43), none, .o (.v (.load (.t 42) none))⟩, .val 0 []),
            (⟨(some 44), none, .o (.v (.off (.t 9) 1))⟩, .prd [2]),
            (⟨(some 45), none, .o (.v (.load (.t 44) none))⟩, .prd [2]),
            (⟨(some 46), none, .o (.v (.load (.t 6) none))⟩, .prd [2]),
            (⟨(some 47), none, .o (.v (.ixarr (.t 2) (.t 43) 17 1))⟩, .val 0 []),
            (⟨none, none, .o (.store 1 (.t 47) (.c (.lit (.bool true))))⟩, .efs 0 [] [])],
            [],
            [⟨(some 48), none, .o (.v (.ixarr (.t 3) (.t 45) 17 1))⟩,
            ⟨none, none, .o (.store 1 (.t 48) (.t 46))⟩], none⟩,
            ⟨[], 0, 1, [(⟨(some 42), none, .o (.v (.off (.t 9) 1))⟩, .val 0 []),
            (⟨(some 43), none, .o (.v (.load (.t 42) none))⟩, .val 0 []),
            (⟨(some 44), none, .o (.v (.off (.t 9) 1))⟩, .prd [2]),
            (⟨(some 45), none, .o (.v (.load (.t 44) none))⟩, .prd [2]),
            (⟨(some 46), none, .o (.v (.load (.t 6) none))⟩, .prd [2]),
            (⟨(some 47), none, .o (.v (.ixarr (.t 2) (.t 43) 17 1))⟩, .val 0 []),
            (⟨none, none, .o (.store 1 (.t 47) (.c (.lit (.bool true))))⟩, .efs 0 [] [])],
            [],
            [⟨(some 48), none, .o (.v (.ixarr (.t 3) (.t 45) 17 1))⟩,
            ⟨none, none, .o (.store 1 (.t 48) (.t 46))⟩], none⟩])
          .skip)))))))))
      (.reg [⟨(some 49), none, .o (.v (.bin .add (.t 26) (.c (.int .i64 (1)))))⟩,
        ⟨(some 26), none, .o (.v (.mov (.t 49)))⟩])))))))
    (.seq (.reg [⟨(some 50), none, .o (.v (.load (.t 2) (some 17)))⟩,
      ⟨(some 51), none, .o (.v (.load (.t 7) (some 17)))⟩,
      ⟨(some 52), none, .o (.v (.eqs (List.replicate 17 none) false (.t 50) (.t 51)))⟩])
    (.cond (.t 52)
      (.exit 2)
      .skip)))))
    (.seq (.seq (.reg [⟨(some 53), none, .o (.v (.load (.t 6) none))⟩])
    (.reg [⟨(some 6), none, .o (.new 3 [(.int .i64 (0))])⟩,
      ⟨none, none, .o (.store 1 (.t 6) (.t 53))⟩]))
    (.reg [⟨(some 23), none, .o (.v (.load (.t 6) none))⟩,
      ⟨(some 24), none, .o (.v (.bin .add (.t 23) (.c (.int .i64 (1)))))⟩,
      ⟨none, none, .o (.store 1 (.t 6) (.t 24))⟩]))))))
  (.seq (.drw [⟨[], 0, 1, [(⟨(some 54), none, .o (.v (.load (.t 2) (some 17)))⟩, .val 0 []),
    (⟨(some 55), none, .o (.v (.load (.t 3) (some 17)))⟩, .prd [2]),
    (⟨none, none, .o (.store 17 (.t 2) (.t 54))⟩, .efs 0 [] [])],
    [],
    [⟨none, none, .o (.store 17 (.t 3) (.t 55))⟩], none⟩,
    ⟨[], 0, 1, [(⟨(some 54), none, .o (.v (.load (.t 2) (some 17)))⟩, .val 0 []),
    (⟨(some 55), none, .o (.v (.load (.t 3) (some 17)))⟩, .prd [2]),
    (⟨none, none, .o (.store 17 (.t 2) (.t 54))⟩, .efs 0 [] [])],
    [],
    [⟨none, none, .o (.store 17 (.t 3) (.t 55))⟩], none⟩])
  .ret))))))
theorem h105 : FdOk Try.prog 105 ⟨g105, [.c 2 (some 17), .c 3 (some 17)], 56, [], false⟩ := .of Try.func105 (by simp [Try.f105]) (by kernel_rfl)
/-- (*octant/rounds.giving).goOn -/
def g106 : RC :=
  (.seq (.reg [⟨(some 3), none, .o (.box 132 (.t 0))⟩,
    ⟨(some 5), none, .o (.box 95 (.t 2))⟩,
    ⟨(some 6), none, .o (.v (.mov (.c (.int .i64 (0)))))⟩])
  (.seq (.reg [⟨(some 7), none, .o (.new 99 (List.replicate 17 (.lit (.bool false))))⟩])
  (.seq (.reg [⟨(some 8), none, .o (.new 57 [(.lit .nilFunc)])⟩])
  (.seq (.reg [⟨(some 10), none, .o (.v (.mkfn 108 [(.t 3), (.t 7), (.t 5), (.t 8)]))⟩,
    ⟨none, none, .o (.store 1 (.t 8) (.t 10))⟩])
  (.seq (.drw [⟨[], 0, 0, [(⟨(some 11), none, .o (.v (.load (.t 8) none))⟩, .val 0 []),
    (⟨(some 12), none, .o (.v (.mov (.t 1)))⟩, .val 0 []),
    (⟨(some 13), none, .o (.v (.load (.t 3) none))⟩, .val 0 []),
    (⟨(some 14), none, .o (.v (.mov (.t 1)))⟩, .val 0 []),
    (⟨(some 15), none, .nck (.t 13)⟩, .val 0 []),
    (⟨(some 16), none, .o (.v (.off (.t 15) 4))⟩, .val 0 []),
    (⟨(some 17), none, .o (.v (.ixarr (.t 16) (.t 14) 17 1))⟩, .val 0 []),
    (⟨(some 18), none, .o (.v (.load (.t 17) none))⟩, .val 0 [])],
    [],
    [⟨(some 19), none, .o (.call (.t 11) [(.t 12), (.t 18)])⟩,
    ⟨(some 9), none, .o (.v (.mov (.t 19)))⟩], none⟩])
  (.seq (.drw [⟨[], 0, 0, [(⟨(some 20), none, .o (.v (.load (.t 3) none))⟩, .val 0 []),
    (⟨(some 21), none, .o (.v (.mov (.t 1)))⟩, .val 0 []),
    (⟨(some 22), none, .nck (.t 20)⟩, .val 0 []),
    (⟨(some 23), none, .o (.v (.off (.t 22) 4))⟩, .val 0 []),
    (⟨(some 24), none, .o (.v (.ixarr (.t 23) (.t 21) 17 1))⟩, .val 0 []),
    (⟨(some 25), none, .o (.v (.load (.t 24) none))⟩, .val 0 []),
    (⟨(some 26), none, .o (.v (.mov (.t 9)))⟩, .val 0 []),
    (⟨(some 27), none, .o (.v (.bin .sub (.t 25) (.t 26)))⟩, .val 0 []),
    (⟨(some 28), none, .nck (.t 20)⟩, .val 0 []),
    (⟨(some 29), none, .o (.v (.off (.t 28) 4))⟩, .val 0 [])],
    [],
    [⟨(some 30), none, .o (.v (.ixarr (.t 29) (.t 21) 17 1))⟩,
    ⟨none, none, .o (.store 1 (.t 30) (.t 27))⟩], none⟩])
  (.seq (.reg [⟨(some 31), none, .o (.v (.mov (.t 9)))⟩,
    ⟨(some 6), none, .o (.v (.mov (.t 31)))⟩])
  .ret)))))))
theorem h106 : FdOk Try.prog 106 ⟨g106, [.t 6], 32, [], false⟩ := .of Try.func106 (by simp [Try.f106]) (by kernel_rfl)
/-- (*octant/rounds.giving).steps -/
def g107 : RC :=
  (.seq (.reg [⟨(some 2), none, .o (.box 132 (.t 0))⟩,
    ⟨(some 3), none, .o (.box 3 (.t 1))⟩,
    ⟨(some 4), none, .o (.v (.mov (.c (.lit .nilFunc))))⟩])
  (.seq (.reg [⟨(some 5), none, .o (.v (.mkfn 109 [(.t 2), (.t 3)]))⟩,
    ⟨(some 4), none, .o (.v (.mov (.t 5)))⟩])
  .ret))
theorem h107 : FdOk Try.prog 107 ⟨g107, [.t 4], 6, [], false⟩ := .of Try.func107 (by simp [Try.f107]) (by kernel_rfl)
/-- (*octant/rounds.giving).goOn$1 -/
def g108 : RC :=
  (.seq (.reg [⟨(some 6), none, .o (.box 3 (.t 0))⟩,
    ⟨(some 7), none, .o (.box 3 (.t 1))⟩,
    ⟨(some 8), none, .o (.new 3 [(.int .i64 (0))])⟩])
  (.seq (.seq (.drw [⟨[], 0, 0, [(⟨(some 12), none, .o (.v (.load (.t 2) none))⟩, .val 0 []),
    (⟨(some 13), none, .o (.v (.load (.t 6) none))⟩, .val 0 []),
    (⟨(some 14), none, .nck (.t 12)⟩, .val 0 []),
    (⟨(some 15), none, .o (.v (.off (.t 14) 4))⟩, .val 0 [])],
    [],
    [⟨(some 16), none, .o (.v (.ixarr (.t 15) (.t 13) 17 1))⟩,
    ⟨(some 17), none, .o (.v (.load (.t 16) none))⟩,
    ⟨(some 18), none, .o (.v (.bin .lss (.t 17) (.c (.int .i64 (0)))))⟩], none⟩])
  (.cond (.t 18)
    (.seq (.drw [⟨[], 0, 0, [(⟨(some 19), none, .o (.v (.load (.t 7) none))⟩, .val 0 []),
      (⟨(some 20), none, .o (.v (.load (.t 2) none))⟩, .val 0 []),
      (⟨(some 21), none, .o (.v (.load (.t 6) none))⟩, .val 0 []),
      (⟨(some 22), none, .nck (.t 20)⟩, .val 0 []),
      (⟨(some 23), none, .o (.v (.off (.t 22) 4))⟩, .val 0 []),
      (⟨(some 24), none, .o (.v (.ixarr (.t 23) (.t 21) 17 1))⟩, .val 0 []),
      (⟨(some 25), none, .o (.v (.load (.t 24) none))⟩, .val 0 []),
      (⟨(some 26), none, .o (.v (.neg (.t 25)))⟩, .val 0 [])],
      [],
      [⟨(some 27), none, .o (.v (.min2 (.t 19) (.t 26)))⟩,
      ⟨(some 9), none, .o (.v (.mov (.t 27)))⟩], none⟩])
    (.seq (.drw [⟨[], 0, 0, [(⟨(some 28), none, .o (.v (.load (.t 2) none))⟩, .val 0 []),
      (⟨(some 29), none, .o (.v (.load (.t 6) none))⟩, .val 0 []),
      (⟨(some 30), none, .nck (.t 28)⟩, .val 0 []),
      (⟨(some 31), none, .o (.v (.off (.t 30) 4))⟩, .val 0 []),
      (⟨(some 32), none, .o (.v (.ixarr (.t 31) (.t 29) 17 1))⟩, .val 0 []),
      (⟨(some 33), none, .o (.v (.load (.t 32) none))⟩, .val 0 []),
      (⟨(some 34), none, .o (.v (.mov (.t 9)))⟩, .val 0 []),
      (⟨(some 35), none, .o (.v (.bin .add (.t 33) (.t 34)))⟩, .val 0 []),
      (⟨(some 36), none, .nck (.t 28)⟩, .val 0 []),
      (⟨(some 37), none, .o (.v (.off (.t 36) 4))⟩, .val 0 [])],
      [],
      [⟨(some 38), none, .o (.v (.ixarr (.t 37) (.t 29) 17 1))⟩,
      ⟨none, none, .o (.store 1 (.t 38) (.t 35))⟩], none⟩])
    (.seq (.reg [⟨(some 39), none, .o (.v (.mov (.t 9)))⟩,
      ⟨none, none, .o (.store 1 (.t 8) (.t 39))⟩])
    .ret)))
    .skip))
  (.seq (.reg [⟨(some 40), none, .o (.v (.load (.t 6) none))⟩,
    ⟨(some 41), none, .o (.v (.ixarr (.t 3) (.t 40) 17 1))⟩,
    ⟨none, none, .o (.store 1 (.t 41) (.c (.lit (.bool true))))⟩])
  (.seq (.seq (.reg [⟨(some 42), none, .o (.v (.load (.t 2) none))⟩,
    ⟨(some 43), none, .o (.v (.load (.t 6) none))⟩,
    ⟨(some 44), none, .o (.call (.c (.fn 107 [])) [(.t 42), (.t 43)])⟩])
  (.block 0 (.rng (.t 44) [45]
    (.reg [⟨(some 10), none, .o (.new 140 [(.int .i64 (0)), (.int .i64 (0)), (.int .i64 (0)), (.int .i64 (0))])⟩,
      ⟨none, none, .o (.store 4 (.t 10) (.t 45))⟩])
    (.block 1 (.seq (.seq (.drw [⟨[], 0, 0, [(⟨(some 46), none, .o (.v (.off (.t 10) 1))⟩, .val 0 []),
      (⟨(some 47), none, .o (.v (.load (.t 46) none))⟩, .val 0 []),
      (⟨(some 48), none, .o (.v (.ixarr (.t 3) (.t 47) 17 1))⟩, .val 0 []),
      (⟨(some 49), none, .o (.v (.load (.t 48) none))⟩, .val 0 []),
      (⟨(some 50), none, .o (.v (.mov (.t 49)))⟩, .val 0 []),
      (⟨(some 51), (some (50, false)), .o (.v (.off (.t 10) 1))⟩, .val 0 []),
      (⟨(some 52), (some (50, false)), .o (.v (.load (.t 51) none))⟩, .val 0 []),
      (⟨(some 53), (some (50, false)), .o (.v (.ixarr (.t 4) (.t 52) 17 1))⟩, .val 0 []),
      (⟨(some 54), (some (50, false)), .o (.v (.load (.t 53) none))⟩, .val 0 []),
      (⟨(some 55), (some (50, false)), .o (.v (.load (.t 6) none))⟩, .val 0 []),
      (⟨(some 56), (some (50, false)), .o (.v (.ixarr (.t 4) (.t 55) 17 1))⟩, .val 0 []),
      (⟨(some 57), (some (50, false)), .o (.v (.load (.t 56) none))⟩, .val 0 []),
      (⟨(some 58), (some (50, false)), .o (.v (.bin .add (.t 57) (.c (.int .i64 (1)))))⟩, .val 0 [])],
      [],
      [⟨(some 59), (some (50, false)), .o (.v (.bin .neq (.t 54) (.t 58)))⟩,
      ⟨(some 60), none, .o (.v (.pick (.t 50) (.c (.lit (.bool true))) (.t 59)))⟩], none⟩])
    (.cond (.t 60)
      (.exit 1)
      .skip))
    (.seq (.reg [⟨(some 61), none, .o (.v (.load (.t 5) none))⟩,
      ⟨(some 62), none, .o (.v (.off (.t 10) 1))⟩,
      ⟨(some 63), none, .o (.v (.load (.t 62) none))⟩,
      ⟨(some 64), none, .o (.v (.load (.t 7) none))⟩,
      ⟨(some 65), none, .o (.v (.off (.t 10) 3))⟩,
      ⟨(some 66), none, .o (.v (.load (.t 65) none))⟩,
      ⟨(some 67), none, .o (.v (.min2 (.t 64) (.t 66)))⟩,
      ⟨(some 68), none, .o (.call (.t 61) [(.t 63), (.t 67)])⟩,
      ⟨(some 11), none, .o (.v (.mov (.t 68)))⟩])
    (.seq (.reg [⟨(some 69), none, .o (.v (.mov (.t 11)))⟩,
      ⟨(some 70), none, .o (.v (.bin .gtr (.t 69) (.c (.int .i64 (0)))))⟩])
    (.cond (.t 70)
      (.seq (.drw [⟨[], 0, 0, [(⟨(some 71), none, .o (.v (.load (.t 2) none))⟩, .val 0 []),
        (⟨(some 72), none, .nck (.t 71)⟩, .val 0 []),
        (⟨(some 73), none, .o (.v (.off (.t 72) 3))⟩, .val 0 []),
        (⟨(some 74), none, .o (.v (.load (.t 73) none))⟩, .val 0 []),
        (⟨(some 75), none, .o (.v (.off (.t 10) 0))⟩, .val 0 []),
        (⟨(some 76), none, .o (.v (.load (.t 75) none))⟩, .val 0 []),
        (⟨(some 77), none, .o (.v (.ixa (.t 74) (.t 76) 1))⟩, .val 0 []),
        (⟨(some 78), none, .o (.v (.load (.t 77) none))⟩, .val 0 []),
        (⟨(some 79), none, .o (.v (.off (.t 10) 2))⟩, .val 0 []),
        (⟨(some 80), none, .o (.v (.load (.t 79) none))⟩, .val 0 []),
        (⟨(some 81), none, .o (.v (.mov (.t 11)))⟩, .val 0 []),
        (⟨(some 82), none, .o (.v (.bin .mul (.t 80) (.t 81)))⟩, .val 0 [])],
        [],
        [⟨(some 83), none, .o (.v (.bin .add (.t 78) (.t 82)))⟩,
        ⟨(some 84), none, .o (.v (.ixa (.t 74) (.t 76) 1))⟩,
        ⟨none, none, .o (.store 1 (.t 84) (.t 83))⟩], none⟩])
      (.seq (.reg [⟨(some 85), none, .o (.v (.mov (.t 11)))⟩,
        ⟨none, none, .o (.store 1 (.t 8) (.t 85))⟩])
      .ret))
      .skip))))))))
  (.seq (.reg [⟨none, none, .o (.store 1 (.t 8) (.c (.int .i64 (0))))⟩])
  .ret)))))
theorem h108 : FdOk Try.prog 108 ⟨g108, [.c 8 none], 86, [], false⟩ := .of Try.func108 (by simp [Try.f108]) (by kernel_rfl)
/-- (*octant/rounds.giving).steps$1 -/
def g109 : RC :=
  (.seq (.drw [⟨[], 0, 0, [(⟨(some 7), none, .o (.v (.load (.t 1) none))⟩, .val 0 []),
    (⟨(some 8), none, .nck (.t 7)⟩, .val 0 []),
    (⟨(some 9), none, .o (.v (.off (.t 8) 21))⟩, .val 0 []),
    (⟨(some 10), none, .o (.v (.load (.t 9) none))⟩, .val 0 []),
    (⟨(some 11), none, .o (.v (.load (.t 2) none))⟩, .val 0 []),
    (⟨(some 12), none, .lku (.i .i64) (.lit (.slice none 0 0)) false (.t 10) (.t 11)⟩, .val 0 []),
    (⟨(some 13), none, .o (.v (.len (.t 12)))⟩, .val 0 []),
    (⟨(some 14), none, .o (.v (.mov (.c (.int .i64 (0)))))⟩, .val 0 [])],
    [],
    [], none⟩])
  (.block 0 (.loop
    (.seq (.reg [⟨(some 15), none, .o (.v (.bin .lss (.t 14) (.t 13)))⟩])
    (.seq (.cond (.t 15)
      .skip
      (.exit 0))
    (.seq (.block 1 (.seq (.reg [⟨(some 16), none, .o (.v (.ixa (.t 12) (.t 14) 1))⟩,
      ⟨(some 17), none, .o (.v (.load (.t 16) none))⟩,
      ⟨(some 5), none, .o (.v (.mov (.t 17)))⟩])
    (.seq (.reg [⟨(some 18), none, .o (.v (.load (.t 1) none))⟩,
      ⟨(some 19), none, .o (.v (.load (.t 2) none))⟩,
      ⟨(some 20), none, .o (.v (.mov (.t 5)))⟩,
      ⟨(some 21), none, .o (.call (.c (.fn 110 [])) [(.t 18), (.t 19), (.t 20)])⟩,
      ⟨(some 6), none, .o (.new 140 [(.int .i64 (0)), (.int .i64 (0)), (.int .i64 (0)), (.int .i64 (0))])⟩,
      ⟨none, none, .o (.store 4 (.t 6) (.t 21))⟩])
    (.seq (.reg [⟨(some 22), none, .o (.v (.off (.t 6) 3))⟩,
      ⟨(some 23), none, .o (.v (.load (.t 22) none))⟩,
      ⟨(some 24), none, .o (.v (.bin .gtr (.t 23) (.c (.int .i64 (0)))))⟩,
      ⟨(some 25), none, .o (.v (.mov (.t 24)))⟩,
      ⟨(some 26), (some (25, true)), .o (.v (.mov (.t 0)))⟩,
      ⟨(some 27), (some (25, true)), .o (.v (.load (.t 6) (some 4)))⟩,
      ⟨(some 28), (some (25, true)), .o (.call (.t 26) [(.t 27)])⟩,
      ⟨(some 29), (some (25, true)), .o (.v (.not (.t 28)))⟩,
      ⟨(some 30), none, .o (.v (.pick (.t 25) (.t 29) (.c (.lit (.bool false)))))⟩])
    (.cond (.t 30)
      .ret
      .skip)))))
    (.reg [⟨(some 31), none, .o (.v (.bin .add (.t 14) (.c (.int .i64 (1)))))⟩,
      ⟨(some 14), none, .o (.v (.mov (.t 31)))⟩])))))))
theorem h109 : FdOk Try.prog 109 ⟨g109, [], 32, [], false⟩ := .of Try.func109 (by simp [Try.f109]) (by kernel_rfl)
/-- (*octant/rounds.giving).step -/
def g110 : RC :=
  (.seq (.reg [⟨(some 6), none, .o (.new 140 [(.int .i64 (0)), (.int .i64 (0)), (.int .i64 (0)), (.int .i64 (0))])⟩])
  (.seq (.reg [⟨(some 10), none, .o (.v (.mov (.t 0)))⟩,
    ⟨(some 11), none, .nck (.t 10)⟩,
    ⟨(some 12), none, .o (.v (.off (.t 11) 0))⟩,
    ⟨(some 13), none, .o (.v (.load (.t 12) (some 3)))⟩,
    ⟨(some 14), none, .o (.v (.mov (.t 2)))⟩,
    ⟨(some 15), none, .o (.call (.c (.fn 95 [])) [(.t 13), (.t 14)])⟩,
    ⟨(some 7), none, .o (.v (.mov (.c (.fn 111 []))))⟩,
    ⟨(some 8), none, .o (.v (.mov (.t 15)))⟩,
    ⟨(some 9), none, .o (.v (.mov (.c (.int .i64 (-1)))))⟩])
  (.seq (.seq (.reg [⟨(some 16), none, .o (.v (.mov (.t 8)))⟩,
    ⟨(some 17), none, .o (.v (.mov (.t 1)))⟩,
    ⟨(some 18), none, .o (.v (.bin .eql (.t 16) (.t 17)))⟩])
  (.cond (.t 18)
    (.reg [⟨(some 19), none, .o (.v (.mov (.t 0)))⟩,
      ⟨(some 20), none, .nck (.t 19)⟩,
      ⟨(some 21), none, .o (.v (.off (.t 20) 0))⟩,
      ⟨(some 22), none, .o (.v (.load (.t 21) (some 3)))⟩,
      ⟨(some 23), none, .o (.v (.mov (.t 2)))⟩,
      ⟨(some 24), none, .o (.call (.c (.fn 96 [])) [(.t 22), (.t 23)])⟩,
      ⟨(some 7), none, .o (.v (.mov (.c (.fn 112 []))))⟩,
      ⟨(some 8), none, .o (.v (.mov (.t 24)))⟩,
      ⟨(some 9), none, .o (.v (.mov (.c (.int .i64 (1)))))⟩])
    .skip))
  (.seq (.reg [⟨(some 25), none, .o (.v (.mov (.t 2)))⟩,
    ⟨(some 26), none, .o (.v (.mov (.t 8)))⟩,
    ⟨(some 27), none, .o (.v (.mov (.t 9)))⟩,
    ⟨(some 28), none, .o (.v (.mov (.t 7)))⟩,
    ⟨(some 29), none, .o (.v (.mov (.t 0)))⟩,
    ⟨(some 30), none, .o (.v (.mov (.t 2)))⟩,
    ⟨(some 31), none, .o (.call (.t 28) [(.t 29), (.t 30)])⟩,
    ⟨(some 32), none, .o (.bld [(.int .i64 (0)), (.int .i64 (0)), (.int .i64 (0)), (.int .i64 (0))] [(0, 1, (.t 25)), (1, 1, (.t 26)), (2, 1, (.t 27)), (3, 1, (.t 31))])⟩,
    ⟨none, none, .o (.store 4 (.t 6) (.t 32))⟩])
  .ret))))
theorem h110 : FdOk Try.prog 110 ⟨g110, [.c 6 (some 4)], 33, [], false⟩ := .of Try.func110 (by simp [Try.f110]) (by kernel_rfl)
/-- (*octant/rounds.giving).less -/
def g111 : RC :=
  (.seq (.reg [⟨(some 4), none, .o (.v (.mov (.c (.int .i64 (0)))))⟩])
  (.seq (.drw [⟨[], 0, 0, [(⟨(some 5), none, .o (.v (.mov (.t 0)))⟩, .val 0 []),
    (⟨(some 6), none, .nck (.t 5)⟩, .val 0 []),
    (⟨(some 7), none, .o (.v (.off (.t 6) 3))⟩, .val 0 []),
    (⟨(some 8), none, .o (.v (.load (.t 7) none))⟩, .val 0 []),
    (⟨(some 9), none, .o (.v (.mov (.t 1)))⟩, .val 0 []),
    (⟨(some 10), none, .o (.v (.ixa (.t 8) (.t 9) 1))⟩, .val 0 []),
    (⟨(some 11), none, .o (.v (.load (.t 10) none))⟩, .val 0 []),
    (⟨(some 12), none, .o (.v (.mov (.t 0)))⟩, .val 0 []),
    (⟨(some 13), none, .nck (.t 12)⟩, .val 0 []),
    (⟨(some 14), none, .o (.v (.off (.t 13) 0))⟩, .val 0 []),
    (⟨(some 15), none, .o (.v (.off (.t 14) 0))⟩, .val 0 []),
    (⟨(some 16), none, .o (.v (.off (.t 15) 2))⟩, .val 0 []),
    (⟨(some 17), none, .o (.v (.load (.t 16) none))⟩, .val 0 []),
    (⟨(some 18), none, .o (.v (.mov (.t 1)))⟩, .val 0 []),
    (⟨(some 19), none, .o (.v (.ixa (.t 17) (.t 18) 4))⟩, .val 0 []),
    (⟨(some 20), none, .o (.v (.off (.t 19) 2))⟩, .val 0 []),
    (⟨(some 21), none, .o (.v (.off (.t 20) 0))⟩, .val 0 []),
    (⟨(some 22), none, .o (.v (.load (.t 21) none))⟩, .val 0 [])],
    [],
    [⟨(some 23), none, .o (.v (.bin .sub (.t 11) (.t 22)))⟩,
    ⟨(some 4), none, .o (.v (.mov (.t 23)))⟩], none⟩])
  .ret))
theorem h111 : FdOk Try.prog 111 ⟨g111, [.t 4], 24, [], false⟩ := .of Try.func111 (by simp [Try.f111]) (by kernel_rfl)
/-- (*octant/rounds.giving).more -/
def g112 : RC :=
  (.seq (.reg [⟨(some 4), none, .o (.v (.mov (.c (.int .i64 (0)))))⟩])
  (.seq (.drw [⟨[], 0, 0, [(⟨(some 5), none, .o (.v (.mov (.t 0)))⟩, .val 0 []),
    (⟨(some 6), none, .nck (.t 5)⟩, .val 0 []),
    (⟨(some 7), none, .o (.v (.off (.t 6) 0))⟩, .val 0 []),
    (⟨(some 8), none, .o (.v (.off (.t 7) 0))⟩, .val 0 []),
    (⟨(some 9), none, .o (.v (.off (.t 8) 2))⟩, .val 0 []),
    (⟨(some 10), none, .o (.v (.load (.t 9) none))⟩, .val 0 []),
    (⟨(some 11), none, .o (.v (.mov (.t 1)))⟩, .val 0 []),
    (⟨(some 12), none, .o (.v (.ixa (.t 10) (.t 11) 4))⟩, .val 0 []),
    (⟨(some 13), none, .o (.v (.off (.t 12) 2))⟩, .val 0 []),
    (⟨(some 14), none, .o (.v (.off (.t 13) 1))⟩, .val 0 []),
    (⟨(some 15), none, .o (.v (.load (.t 14) none))⟩, .val 0 []),
    (⟨(some 16), none, .o (.v (.mov (.t 0)))⟩, .val 0 []),
    (⟨(some 17), none, .nck (.t 16)⟩, .val 0 []),
    (⟨(some 18), none, .o (.v (.off (.t 17) 3))⟩, .val 0 []),
    (⟨(some 19), none, .o (.v (.load (.t 18) none))⟩, .val 0 []),
    (⟨(some 20), none, .o (.v (.mov (.t 1)))⟩, .val 0 []),
    (⟨(some 21), none, .o (.v (.ixa (.t 19) (.t 20) 1))⟩, .val 0 []),
    (⟨(some 22), none, .o (.v (.load (.t 21) none))⟩, .val 0 [])],
    [],
    [⟨(some 23), none, .o (.v (.bin .sub (.t 15) (.t 22)))⟩,
    ⟨(some 4), none, .o (.v (.mov (.t 23)))⟩], none⟩])
  .ret))
theorem h112 : FdOk Try.prog 112 ⟨g112, [.t 4], 24, [], false⟩ := .of Try.func112 (by simp [Try.f112]) (by kernel_rfl)

end Go.Proofs.Ytgfoakilompbdaa
