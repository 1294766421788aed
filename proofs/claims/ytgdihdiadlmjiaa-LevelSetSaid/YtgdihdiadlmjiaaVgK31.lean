/- The code of the program's functions, as code that is run, and that it is theirs. -/
import Derived.Test.YtgdihdiadlmjiaaVgR18
import Derived.Test.YtgdihdiadlmjiaaChecked
import Derived.KernelRfl
namespace Go.Proofs.Ytgdihdiadlmjiaa
open Go Go.Vg
set_option maxRecDepth 100000
set_option maxHeartbeats 4000000
/-- octant/octantlaw03.LevelKnown -/
def g15 : RC :=
  (.seq (.reg [⟨(some 0), none, .o (.v (.mov (.c (.lit (.bool false)))))⟩])
  (.seq (.reg [⟨(some 58), none, .o (.bld [(.int .i64 (0)), (.int .i64 (0)), (.int .i64 (0)), (.int .i64 (0)), (.int .i64 (0)), (.int .i64 (0)), (.int .i64 (0)), (.int .i64 (0))] [])⟩,
    ⟨(some 59), none, .o (.call (.c (.fn 43 [])) [])⟩,
    ⟨(some 60), none, .o (.call (.c (.fn 43 [])) [])⟩,
    ⟨(some 61), none, .o (.call (.c (.fn 43 [])) [])⟩,
    ⟨(some 62), none, .o (.call (.c (.fn 43 [])) [])⟩,
    ⟨(some 63), none, .o (.call (.c (.fn 43 [])) [])⟩,
    ⟨(some 64), none, .o (.bsl 25 6 (List.replicate 48 (.int .i64 (0))) [(0, 8, (.t 58)), (8, 8, (.t 59)), (16, 8, (.t 60)), (24, 8, (.t 61)), (32, 8, (.t 62)), (40, 8, (.t 63))])⟩,
    ⟨(some 1), none, .o (.v (.mov (.t 64)))⟩])
  (.seq (.reg [⟨(some 65), none, .o (.v (.mov (.t 1)))⟩,
    ⟨(some 66), none, .o (.v (.ixa (.t 65) (.c (.int .i64 (1))) 8))⟩,
    ⟨(some 67), none, .o (.v (.off (.t 66) 0))⟩,
    ⟨none, none, .o (.store 1 (.t 67) (.c (.int .i64 (201))))⟩])
  (.seq (.reg [⟨(some 68), none, .o (.v (.mov (.t 1)))⟩,
    ⟨(some 69), none, .o (.call (.c (.fn 44 [])) [(.c (.int .i64 (20))), (.c (.int .i64 (16)))])⟩,
    ⟨(some 70), none, .o (.v (.ixa (.t 68) (.c (.int .i64 (2))) 8))⟩,
    ⟨(some 71), none, .o (.v (.off (.t 70) 1))⟩,
    ⟨none, none, .o (.store 2 (.t 71) (.t 69))⟩])
  (.seq (.reg [⟨(some 72), none, .o (.v (.mov (.t 1)))⟩,
    ⟨(some 73), none, .o (.call (.c (.fn 44 [])) [(.c (.int .i64 (0))), (.c (.int .i64 (52)))])⟩,
    ⟨(some 74), none, .o (.v (.ixa (.t 72) (.c (.int .i64 (3))) 8))⟩,
    ⟨(some 75), none, .o (.v (.off (.t 74) 3))⟩,
    ⟨none, none, .o (.store 2 (.t 75) (.t 73))⟩])
  (.seq (.reg [⟨(some 76), none, .o (.v (.mov (.t 1)))⟩,
    ⟨(some 77), none, .o (.call (.c (.fn 44 [])) [(.c (.int .i64 (38))), (.c (.int .i64 (81)))])⟩,
    ⟨(some 78), none, .o (.v (.ixa (.t 76) (.c (.int .i64 (4))) 8))⟩,
    ⟨(some 79), none, .o (.v (.off (.t 78) 5))⟩,
    ⟨none, none, .o (.store 2 (.t 79) (.t 77))⟩])
  (.seq (.reg [⟨(some 80), none, .o (.v (.mov (.t 1)))⟩,
    ⟨(some 81), none, .o (.v (.ixa (.t 80) (.c (.int .i64 (5))) 8))⟩,
    ⟨(some 82), none, .o (.v (.off (.t 81) 7))⟩,
    ⟨none, none, .o (.store 1 (.t 82) (.c (.int .i64 (9))))⟩])
  (.seq (.seq (.reg [⟨(some 2), none, .o (.v (.mov (.c (.int .i64 (0)))))⟩])
  (.block 0 (.loop
    (.seq (.seq (.reg [⟨(some 83), none, .o (.v (.mov (.t 2)))⟩,
      ⟨(some 84), none, .o (.v (.mov (.t 1)))⟩,
      ⟨(some 85), none, .o (.v (.len (.t 84)))⟩,
      ⟨(some 86), none, .o (.v (.bin .lss (.t 83) (.t 85)))⟩])
    (.cond (.t 86)
      .skip
      (.exit 0)))
    (.seq (.block 1 (.seq (.reg [⟨(some 90), none, .o (.v (.mov (.t 1)))⟩,
      ⟨(some 91), none, .o (.v (.mov (.t 2)))⟩,
      ⟨(some 92), none, .o (.v (.ixa (.t 90) (.t 91) 8))⟩,
      ⟨(some 93), none, .o (.v (.load (.t 92) (some 8)))⟩,
      ⟨(some 94), none, .o (.bld [(.int .i64 (0)), (.int .i64 (0)), (.int .i64 (0))] [])⟩,
      ⟨(some 95), none, .o (.call (.c (.fn 16 [])) [(.t 93), (.c (.lit (.slice none 0 0))), (.t 94)])⟩,
      ⟨(some 89), none, .o (.v (.mov (.t 95)))⟩,
      ⟨(some 96), none, .o (.v (.ext (.t 89) 0))⟩,
      ⟨(some 97), none, .o (.v (.ext (.t 89) 1))⟩,
      ⟨(some 3), none, .o (.v (.mov (.t 96)))⟩,
      ⟨(some 4), none, .o (.v (.mov (.t 97)))⟩])
    (.seq (.reg [⟨(some 99), none, .o (.v (.mov (.t 1)))⟩,
      ⟨(some 100), none, .o (.v (.mov (.t 2)))⟩,
      ⟨(some 101), none, .o (.v (.ixa (.t 99) (.t 100) 8))⟩,
      ⟨(some 102), none, .o (.v (.load (.t 101) (some 8)))⟩,
      ⟨(some 103), none, .o (.call (.c (.fn 20 [])) [(.t 102), (.c (.lit (.slice none 0 0)))])⟩,
      ⟨(some 98), none, .o (.v (.mov (.t 103)))⟩,
      ⟨(some 104), none, .o (.v (.ext (.t 98) 0))⟩,
      ⟨(some 105), none, .o (.v (.ext (.t 98) 1))⟩,
      ⟨(some 106), none, .o (.v (.ext (.t 98) 2))⟩,
      ⟨(some 5), none, .o (.new 23 [(.int .i64 (0)), (.int .i64 (0))])⟩,
      ⟨(some 6), none, .o (.new 23 [(.int .i64 (0)), (.int .i64 (0))])⟩,
      ⟨none, none, .o (.store 2 (.t 5) (.t 104))⟩,
      ⟨none, none, .o (.store 2 (.t 6) (.t 105))⟩,
      ⟨(some 7), none, .o (.v (.mov (.t 106)))⟩])
    (.seq (.reg [⟨(some 108), none, .o (.v (.mov (.t 1)))⟩,
      ⟨(some 109), none, .o (.v (.mov (.t 2)))⟩,
      ⟨(some 110), none, .o (.v (.ixa (.t 108) (.t 109) 8))⟩,
      ⟨(some 111), none, .o (.v (.load (.t 110) (some 8)))⟩,
      ⟨(some 112), none, .o (.call (.c (.fn 23 [])) [(.t 111), (.c (.lit (.slice none 0 0)))])⟩,
      ⟨(some 107), none, .o (.v (.mov (.t 112)))⟩,
      ⟨(some 113), none, .o (.v (.ext (.t 107) 0))⟩,
      ⟨(some 114), none, .o (.v (.ext (.t 107) 1))⟩,
      ⟨(some 8), none, .o (.v (.mov (.t 113)))⟩,
      ⟨(some 9), none, .o (.v (.mov (.t 114)))⟩])
    (.seq (.reg [⟨(some 116), none, .o (.v (.mov (.t 1)))⟩,
      ⟨(some 117), none, .o (.v (.mov (.t 2)))⟩,
      ⟨(some 118), none, .o (.v (.ixa (.t 116) (.t 117) 8))⟩,
      ⟨(some 119), none, .o (.v (.load (.t 118) (some 8)))⟩,
      ⟨(some 120), none, .o (.call (.c (.fn 26 [])) [(.t 119), (.c (.lit (.slice none 0 0)))])⟩,
      ⟨(some 115), none, .o (.v (.mov (.t 120)))⟩,
      ⟨(some 121), none, .o (.v (.ext (.t 115) 0))⟩,
      ⟨(some 122), none, .o (.v (.ext (.t 115) 1))⟩,
      ⟨(some 123), none, .o (.v (.ext (.t 115) 2))⟩,
      ⟨(some 10), none, .o (.v (.mov (.t 121)))⟩,
      ⟨(some 11), none, .o (.v (.mov (.t 122)))⟩,
      ⟨(some 12), none, .o (.v (.mov (.t 123)))⟩])
    (.seq (.reg [⟨(some 124), none, .o (.v (.mov (.t 1)))⟩,
      ⟨(some 125), none, .o (.v (.mov (.t 2)))⟩,
      ⟨(some 126), none, .o (.v (.ixa (.t 124) (.t 125) 8))⟩,
      ⟨(some 127), none, .o (.v (.load (.t 126) (some 8)))⟩,
      ⟨(some 128), none, .o (.call (.c (.fn 18 [])) [(.t 127)])⟩,
      ⟨(some 129), none, .o (.v (.bin .neq (.t 128) (.c (.int .i64 (30)))))⟩,
      ⟨(some 130), none, .o (.v (.mov (.t 129)))⟩,
      ⟨(some 131), (some (130, false)), .o (.v (.mov (.t 4)))⟩,
      ⟨(some 132), (some (130, false)), .o (.v (.bin .neq (.t 131) (.c (.int .i64 (30)))))⟩,
      ⟨(some 133), none, .o (.v (.pick (.t 130) (.c (.lit (.bool true))) (.t 132)))⟩,
      ⟨(some 134), none, .o (.v (.mov (.t 133)))⟩,
      ⟨(some 135), (some (134, false)), .o (.v (.mov (.t 7)))⟩,
      ⟨(some 136), (some (134, false)), .o (.v (.bin .neq (.t 135) (.c (.int .i64 (30)))))⟩,
      ⟨(some 137), none, .o (.v (.pick (.t 134) (.c (.lit (.bool true))) (.t 136)))⟩,
      ⟨(some 138), none, .o (.v (.mov (.t 137)))⟩,
      ⟨(some 139), (some (138, false)), .o (.v (.mov (.t 9)))⟩,
      ⟨(some 140), (some (138, false)), .o (.v (.bin .neq (.t 139) (.c (.int .i64 (30)))))⟩,
      ⟨(some 141), none, .o (.v (.pick (.t 138) (.c (.lit (.bool true))) (.t 140)))⟩,
      ⟨(some 142), none, .o (.v (.mov (.t 141)))⟩,
      ⟨(some 143), (some (142, false)), .o (.v (.mov (.t 12)))⟩,
      ⟨(some 144), (some (142, false)), .o (.v (.bin .neq (.t 143) (.c (.int .i64 (30)))))⟩,
      ⟨(some 145), none, .o (.v (.pick (.t 142) (.c (.lit (.bool true))) (.t 144)))⟩])
    (.cond (.t 145)
      (.seq (.reg [⟨(some 0), none, .o (.v (.mov (.c (.lit (.bool false)))))⟩])
      .ret)
      .skip)))))))
    (.reg [⟨(some 87), none, .o (.v (.mov (.t 2)))⟩,
      ⟨(some 88), none, .o (.v (.bin .add (.t 87) (.c (.int .i64 (1)))))⟩,
      ⟨(some 2), none, .o (.v (.mov (.t 88)))⟩]))))))
  (.seq (.reg [⟨(some 146), none, .msl 57 3 [(.int .i64 (0)), (.int .i64 (0)), (.lit (.bool false))] (.c (.int .i64 (9))) (.c (.int .i64 (9)))⟩,
    ⟨(some 147), none, .o (.bld [(.int .i64 (0)), (.int .i64 (0)), (.lit (.bool false))] [(0, 1, (.c (.int .i64 (14)))), (1, 1, (.c (.int .i64 (14))))])⟩,
    ⟨(some 148), none, .o (.bsl 57 1 [(.int .i64 (0)), (.int .i64 (0)), (.lit (.bool false))] [(0, 3, (.t 147))])⟩,
    ⟨(some 149), none, .o (.bld [(.int .i64 (0)), (.int .i64 (0)), (.lit (.bool false))] [(0, 1, (.c (.int .i64 (-1)))), (1, 1, (.c (.int .i64 (17))))])⟩,
    ⟨(some 150), none, .o (.bsl 57 1 [(.int .i64 (0)), (.int .i64 (0)), (.lit (.bool false))] [(0, 3, (.t 149))])⟩,
    ⟨(some 151), none, .o (.bld [(.int .i64 (0)), (.int .i64 (0)), (.lit (.bool false))] [(0, 1, (.c (.int .i64 (23)))), (1, 1, (.c (.int .i64 (41))))])⟩,
    ⟨(some 152), none, .o (.bsl 57 1 [(.int .i64 (0)), (.int .i64 (0)), (.lit (.bool false))] [(0, 3, (.t 151))])⟩,
    ⟨(some 153), none, .o (.bld [(.int .i64 (0)), (.int .i64 (0)), (.lit (.bool false))] [(0, 1, (.c (.int .i64 (14)))), (1, 1, (.c (.int .i64 (28))))])⟩,
    ⟨(some 154), none, .o (.bsl 57 1 [(.int .i64 (0)), (.int .i64 (0)), (.lit (.bool false))] [(0, 3, (.t 153))])⟩,
    ⟨(some 155), none, .o (.bld [(.int .i64 (0)), (.int .i64 (0)), (.lit (.bool false))] [(0, 1, (.c (.int .i64 (14)))), (1, 1, (.c (.int .i64 (36))))])⟩,
    ⟨(some 156), none, .o (.bsl 57 1 [(.int .i64 (0)), (.int .i64 (0)), (.lit (.bool false))] [(0, 3, (.t 155))])⟩,
    ⟨(some 157), none, .o (.bsl 26 7 [(.lit (.slice none 0 0)), (.lit (.slice none 0 0)), (.lit (.slice none 0 0)), (.lit (.slice none 0 0)), (.lit (.slice none 0 0)), (.lit (.slice none 0 0)), (.lit (.slice none 0 0))] [(0, 1, (.c (.lit (.slice none 0 0)))), (1, 1, (.t 146)), (2, 1, (.t 148)), (3, 1, (.t 150)), (4, 1, (.t 152)), (5, 1, (.t 154)), (6, 1, (.t 156))])⟩,
    ⟨(some 13), none, .o (.v (.mov (.t 157)))⟩])
  (.seq (.seq (.reg [⟨(some 14), none, .o (.v (.mov (.c (.int .i64 (0)))))⟩])
  (.block 2 (.loop
    (.seq (.seq (.reg [⟨(some 158), none, .o (.v (.mov (.t 14)))⟩,
      ⟨(some 159), none, .o (.v (.mov (.t 13)))⟩,
      ⟨(some 160), none, .o (.v (.len (.t 159)))⟩,
      ⟨(some 161), none, .o (.v (.bin .lss (.t 158) (.t 160)))⟩])
    (.cond (.t 161)
      .skip
      (.exit 2)))
    (.seq (.block 3 (.seq (.drw [⟨[], 0, 2, [(⟨(some 165), none, .o (.call (.c (.fn 43 [])) [])⟩, .eff 0 []),
      (⟨(some 166), none, .o (.v (.mov (.t 13)))⟩, .val 0 []),
      (⟨(some 167), none, .o (.v (.mov (.t 14)))⟩, .val 0 []),
      (⟨(some 168), none, .o (.v (.ixa (.t 166) (.t 167) 1))⟩, .val 0 []),
      (⟨(some 169), none, .o (.v (.load (.t 168) none))⟩, .val 0 []),
      (⟨(some 170), none, .o (.bld [(.int .i64 (0)), (.int .i64 (0)), (.int .i64 (0))] [])⟩, .val 0 []),
      (⟨(some 171), none, .o (.call (.c (.fn 16 [])) [(.t 165), (.t 169), (.t 170)])⟩, .eff 1 []),
      (⟨(some 164), none, .o (.v (.mov (.t 171)))⟩, .val 2 []),
      (⟨(some 172), none, .o (.v (.ext (.t 164) 0))⟩, .val 2 []),
      (⟨(some 173), none, .o (.v (.ext (.t 164) 1))⟩, .val 2 []),
      (⟨(some 15), none, .o (.v (.mov (.t 172)))⟩, .val 2 [])],
      [],
      [⟨(some 16), none, .o (.v (.mov (.t 173)))⟩], none⟩])
    (.seq (.drw [⟨[13, 14, 176, 177, 178, 175, 179, 180, 174, 17, 181, 18, 182, 183], 2, 2, [(⟨(some 175), none, .o (.call (.c (.fn 43 [])) [])⟩, .val 0 []),
      (⟨(some 176), none, .o (.v (.mov (.t 13)))⟩, .val 0 []),
      (⟨(some 177), none, .o (.v (.mov (.t 14)))⟩, .val 0 []),
      (⟨(some 178), none, .o (.v (.ixa (.t 176) (.t 177) 1))⟩, .val 0 []),
      (⟨(some 179), none, .o (.v (.load (.t 178) none))⟩, .val 0 []),
      (⟨(some 180), none, .o (.call (.c (.fn 20 [])) [(.t 175), (.t 179)])⟩, .val 0 []),
      (⟨(some 174), none, .o (.v (.mov (.t 180)))⟩, .val 0 []),
      (⟨(some 181), none, .o (.v (.ext (.t 174) 0))⟩, .val 0 []),
      (⟨(some 182), none, .o (.v (.ext (.t 174) 1))⟩, .pur),
      (⟨(some 183), none, .o (.v (.ext (.t 174) 2))⟩, .pur),
      (⟨(some 17), none, .o (.new 23 [(.int .i64 (0)), (.int .i64 (0))])⟩, .cre 0),
      (⟨(some 18), none, .o (.new 23 [(.int .i64 (0)), (.int .i64 (0))])⟩, .cre 1),
      (⟨none, none, .o (.store 2 (.t 17) (.t 181))⟩, .efs 0 [0, 1] []),
      (⟨none, none, .o (.store 2 (.t 18) (.t 182))⟩, .efs 1 [] [])],
      [],
      [⟨(some 19), none, .o (.v (.mov (.t 183)))⟩], none⟩])
    (.seq (.drw [⟨[], 0, 2, [(⟨(some 185), none, .o (.call (.c (.fn 43 [])) [])⟩, .eff 0 []),
      (⟨(some 186), none, .o (.v (.mov (.t 13)))⟩, .val 0 []),
      (⟨(some 187), none, .o (.v (.mov (.t 14)))⟩, .val 0 []),
      (⟨(some 188), none, .o (.v (.ixa (.t 186) (.t 187) 1))⟩, .val 0 []),
      (⟨(some 189), none, .o (.v (.load (.t 188) none))⟩, .val 0 []),
      (⟨(some 190), none, .o (.call (.c (.fn 23 [])) [(.t 185), (.t 189)])⟩, .eff 1 []),
      (⟨(some 184), none, .o (.v (.mov (.t 190)))⟩, .val 2 []),
      (⟨(some 191), none, .o (.v (.ext (.t 184) 0))⟩, .val 2 []),
      (⟨(some 192), none, .o (.v (.ext (.t 184) 1))⟩, .val 2 []),
      (⟨(some 20), none, .o (.v (.mov (.t 191)))⟩, .val 2 [])],
      [],
      [⟨(some 21), none, .o (.v (.mov (.t 192)))⟩], none⟩])
    (.seq (.drw [⟨[], 0, 2, [(⟨(some 194), none, .o (.call (.c (.fn 43 [])) [])⟩, .eff 0 []),
      (⟨(some 195), none, .o (.v (.mov (.t 13)))⟩, .val 0 []),
      (⟨(some 196), none, .o (.v (.mov (.t 14)))⟩, .val 0 []),
      (⟨(some 197), none, .o (.v (.ixa (.t 195) (.t 196) 1))⟩, .val 0 []),
      (⟨(some 198), none, .o (.v (.load (.t 197) none))⟩, .val 0 []),
      (⟨(some 199), none, .o (.call (.c (.fn 26 [])) [(.t 194), (.t 198)])⟩, .eff 1 []),
      (⟨(some 193), none, .o (.v (.mov (.t 199)))⟩, .val 2 []),
      (⟨(some 200), none, .o (.v (.ext (.t 193) 0))⟩, .val 2 []),
      (⟨(some 201), none, .o (.v (.ext (.t 193) 1))⟩, .val 2 []),
      (⟨(some 202), none, .o (.v (.ext (.t 193) 2))⟩, .val 2 []),
      (⟨(some 22), none, .o (.v (.mov (.t 200)))⟩, .val 2 []),
      (⟨(some 23), none, .o (.v (.mov (.t 201)))⟩, .val 2 [])],
      [],
      [⟨(some 24), none, .o (.v (.mov (.t 202)))⟩], none⟩])
    (.seq (.reg [⟨(some 203), none, .o (.v (.mov (.t 16)))⟩,
      ⟨(some 204), none, .o (.v (.bin .neq (.t 203) (.c (.int .i64 (31)))))⟩,
      ⟨(some 205), none, .o (.v (.mov (.t 204)))⟩,
      ⟨(some 206), (some (205, false)), .o (.v (.mov (.t 19)))⟩,
      ⟨(some 207), (some (205, false)), .o (.v (.bin .neq (.t 206) (.c (.int .i64 (31)))))⟩,
      ⟨(some 208), none, .o (.v (.pick (.t 205) (.c (.lit (.bool true))) (.t 207)))⟩,
      ⟨(some 209), none, .o (.v (.mov (.t 208)))⟩,
      ⟨(some 210), (some (209, false)), .o (.v (.mov (.t 21)))⟩,
      ⟨(some 211), (some (209, false)), .o (.v (.bin .neq (.t 210) (.c (.int .i64 (31)))))⟩,
      ⟨(some 212), none, .o (.v (.pick (.t 209) (.c (.lit (.bool true))) (.t 211)))⟩,
      ⟨(some 213), none, .o (.v (.mov (.t 212)))⟩,
      ⟨(some 214), (some (213, false)), .o (.v (.mov (.t 24)))⟩,
      ⟨(some 215), (some (213, false)), .o (.v (.bin .neq (.t 214) (.c (.int .i64 (31)))))⟩,
      ⟨(some 216), none, .o (.v (.pick (.t 213) (.c (.lit (.bool true))) (.t 215)))⟩])
    (.cond (.t 216)
      (.seq (.reg [⟨(some 0), none, .o (.v (.mov (.c (.lit (.bool false)))))⟩])
      .ret)
      .skip)))))))
    (.reg [⟨(some 162), none, .o (.v (.mov (.t 14)))⟩,
      ⟨(some 163), none, .o (.v (.bin .add (.t 162) (.c (.int .i64 (1)))))⟩,
      ⟨(some 14), none, .o (.v (.mov (.t 163)))⟩]))))))
  (.seq (.drw [⟨[], 0, 8, [(⟨(some 217), none, .o (.call (.c (.fn 45 [])) [])⟩, .eff 0 []),
    (⟨(some 218), none, .o (.v (.ixa (.t 217) (.c (.int .i64 (0))) 3))⟩, .val 1 []),
    (⟨(some 219), none, .o (.v (.load (.t 218) (some 3)))⟩, .val 1 []),
    (⟨(some 220), none, .o (.call (.c (.fn 45 [])) [])⟩, .eff 1 []),
    (⟨(some 221), none, .o (.v (.ixa (.t 220) (.c (.int .i64 (0))) 3))⟩, .val 2 []),
    (⟨(some 222), none, .o (.v (.load (.t 221) (some 3)))⟩, .val 2 []),
    (⟨(some 223), none, .o (.call (.c (.fn 45 [])) [])⟩, .eff 2 []),
    (⟨(some 224), none, .o (.v (.ixa (.t 223) (.c (.int .i64 (0))) 3))⟩, .val 3 []),
    (⟨(some 225), none, .o (.v (.load (.t 224) (some 3)))⟩, .val 3 []),
    (⟨(some 226), none, .o (.call (.c (.fn 45 [])) [])⟩, .eff 3 []),
    (⟨(some 227), none, .o (.v (.ixa (.t 226) (.c (.int .i64 (0))) 3))⟩, .val 4 []),
    (⟨(some 228), none, .o (.v (.load (.t 227) (some 3)))⟩, .val 4 []),
    (⟨(some 229), none, .o (.call (.c (.fn 45 [])) [])⟩, .eff 4 []),
    (⟨(some 230), none, .o (.v (.ixa (.t 229) (.c (.int .i64 (0))) 3))⟩, .val 5 []),
    (⟨(some 231), none, .o (.v (.load (.t 230) (some 3)))⟩, .val 5 []),
    (⟨(some 232), none, .o (.call (.c (.fn 45 [])) [])⟩, .eff 5 []),
    (⟨(some 233), none, .o (.v (.ixa (.t 232) (.c (.int .i64 (0))) 3))⟩, .val 6 []),
    (⟨(some 234), none, .o (.v (.load (.t 233) (some 3)))⟩, .val 6 []),
    (⟨(some 235), none, .o (.call (.c (.fn 45 [])) [])⟩, .eff 6 []),
    (⟨(some 236), none, .o (.v (.ixa (.t 235) (.c (.int .i64 (0))) 3))⟩, .val 7 []),
    (⟨(some 237), none, .o (.v (.load (.t 236) (some 3)))⟩, .val 7 []),
    (⟨(some 238), none, .o (.call (.c (.fn 45 [])) [])⟩, .eff 7 []),
    (⟨(some 239), none, .o (.v (.ixa (.t 238) (.c (.int .i64 (0))) 3))⟩, .val 8 []),
    (⟨(some 240), none, .o (.v (.load (.t 239) (some 3)))⟩, .val 8 [])],
    [],
    [⟨(some 241), none, .o (.bsl 57 8 [(.int .i64 (0)), (.int .i64 (0)), (.lit (.bool false)), (.int .i64 (0)), (.int .i64 (0)), (.lit (.bool false)), (.int .i64 (0)), (.int .i64 (0)), (.lit (.bool false)), (.int .i64 (0)), (.int .i64 (0)), (.lit (.bool false)), (.int .i64 (0)), (.int .i64 (0)), (.lit (.bool false)), (.int .i64 (0)), (.int .i64 (0)), (.lit (.bool false)), (.int .i64 (0)), (.int .i64 (0)), (.lit (.bool false)), (.int .i64 (0)), (.int .i64 (0)), (.lit (.bool false))] [(0, 3, (.t 219)), (3, 3, (.t 222)), (6, 3, (.t 225)), (9, 3, (.t 228)), (12, 3, (.t 231)), (15, 3, (.t 234)), (18, 3, (.t 237)), (21, 3, (.t 240))])⟩,
    ⟨(some 25), none, .o (.v (.mov (.t 241)))⟩], none⟩])
  (.seq (.reg [⟨(some 243), none, .o (.call (.c (.fn 43 [])) [])⟩,
    ⟨(some 244), none, .o (.call (.c (.fn 45 [])) [])⟩,
    ⟨(some 245), none, .o (.bld [(.int .i64 (0)), (.int .i64 (0)), (.int .i64 (0))] [(0, 1, (.c (.int .i64 (53)))), (1, 1, (.c (.int .i64 (40))))])⟩,
    ⟨(some 246), none, .o (.call (.c (.fn 16 [])) [(.t 243), (.t 244), (.t 245)])⟩,
    ⟨(some 242), none, .o (.v (.mov (.t 246)))⟩,
    ⟨(some 247), none, .o (.v (.ext (.t 242) 0))⟩,
    ⟨(some 248), none, .o (.v (.ext (.t 242) 1))⟩,
    ⟨(some 26), none, .o (.v (.mov (.t 247)))⟩,
    ⟨(some 27), none, .o (.v (.mov (.t 248)))⟩])
  (.seq (.reg [⟨(some 250), none, .o (.call (.c (.fn 43 [])) [])⟩,
    ⟨(some 251), none, .o (.call (.c (.fn 45 [])) [])⟩,
    ⟨(some 252), none, .o (.bld [(.int .i64 (0)), (.int .i64 (0)), (.int .i64 (0))] [(0, 1, (.c (.int .i64 (50)))), (1, 1, (.c (.int .i64 (43))))])⟩,
    ⟨(some 253), none, .o (.call (.c (.fn 16 [])) [(.t 250), (.t 251), (.t 252)])⟩,
    ⟨(some 249), none, .o (.v (.mov (.t 253)))⟩,
    ⟨(some 254), none, .o (.v (.ext (.t 249) 0))⟩,
    ⟨(some 255), none, .o (.v (.ext (.t 249) 1))⟩,
    ⟨(some 28), none, .o (.v (.mov (.t 254)))⟩,
    ⟨(some 29), none, .o (.v (.mov (.t 255)))⟩])
  (.seq (.reg [⟨(some 257), none, .o (.call (.c (.fn 43 [])) [])⟩,
    ⟨(some 258), none, .o (.call (.c (.fn 45 [])) [])⟩,
    ⟨(some 259), none, .o (.call (.c (.fn 20 [])) [(.t 257), (.t 258)])⟩,
    ⟨(some 256), none, .o (.v (.mov (.t 259)))⟩,
    ⟨(some 260), none, .o (.v (.ext (.t 256) 0))⟩,
    ⟨(some 261), none, .o (.v (.ext (.t 256) 1))⟩,
    ⟨(some 262), none, .o (.v (.ext (.t 256) 2))⟩,
    ⟨(some 30), none, .o (.new 23 [(.int .i64 (0)), (.int .i64 (0))])⟩,
    ⟨(some 31), none, .o (.new 23 [(.int .i64 (0)), (.int .i64 (0))])⟩,
    ⟨none, none, .o (.store 2 (.t 30) (.t 260))⟩,
    ⟨none, none, .o (.store 2 (.t 31) (.t 261))⟩,
    ⟨(some 32), none, .o (.v (.mov (.t 262)))⟩])
  (.seq (.reg [⟨(some 264), none, .o (.call (.c (.fn 43 [])) [])⟩,
    ⟨(some 265), none, .o (.call (.c (.fn 45 [])) [])⟩,
    ⟨(some 266), none, .o (.slc (.t 265) none (some (.c (.int .i64 (2)))) none 3)⟩,
    ⟨(some 267), none, .o (.call (.c (.fn 23 [])) [(.t 264), (.t 266)])⟩,
    ⟨(some 263), none, .o (.v (.mov (.t 267)))⟩,
    ⟨(some 268), none, .o (.v (.ext (.t 263) 0))⟩,
    ⟨(some 269), none, .o (.v (.ext (.t 263) 1))⟩,
    ⟨(some 33), none, .o (.v (.mov (.t 268)))⟩,
    ⟨(some 34), none, .o (.v (.mov (.t 269)))⟩])
  (.seq (.reg [⟨(some 271), none, .o (.call (.c (.fn 43 [])) [])⟩,
    ⟨(some 272), none, .o (.v (.mov (.t 25)))⟩,
    ⟨(some 273), none, .o (.call (.c (.fn 26 [])) [(.t 271), (.t 272)])⟩,
    ⟨(some 270), none, .o (.v (.mov (.t 273)))⟩,
    ⟨(some 274), none, .o (.v (.ext (.t 270) 0))⟩,
    ⟨(some 275), none, .o (.v (.ext (.t 270) 1))⟩,
    ⟨(some 276), none, .o (.v (.ext (.t 270) 2))⟩,
    ⟨(some 35), none, .o (.v (.mov (.t 274)))⟩,
    ⟨(some 36), none, .o (.v (.mov (.t 275)))⟩,
    ⟨(some 37), none, .o (.v (.mov (.t 276)))⟩])
  (.seq (.reg [⟨(some 278), none, .o (.call (.c (.fn 43 [])) [])⟩,
    ⟨(some 279), none, .o (.call (.c (.fn 45 [])) [])⟩,
    ⟨(some 280), none, .o (.call (.c (.fn 26 [])) [(.t 278), (.t 279)])⟩,
    ⟨(some 277), none, .o (.v (.mov (.t 280)))⟩,
    ⟨(some 281), none, .o (.v (.ext (.t 277) 0))⟩,
    ⟨(some 282), none, .o (.v (.ext (.t 277) 1))⟩,
    ⟨(some 283), none, .o (.v (.ext (.t 277) 2))⟩,
    ⟨(some 38), none, .o (.v (.mov (.t 281)))⟩,
    ⟨(some 39), none, .o (.v (.mov (.t 282)))⟩,
    ⟨(some 40), none, .o (.v (.mov (.t 283)))⟩])
  (.seq (.reg [⟨(some 285), none, .o (.call (.c (.fn 44 [])) [(.c (.int .i64 (5))), (.c (.int .i64 (4)))])⟩,
    ⟨(some 286), none, .o (.call (.c (.fn 28 [])) [(.t 285), (.c (.int .i64 (20))), (.c (.int .i64 (60)))])⟩,
    ⟨(some 284), none, .o (.v (.mov (.t 286)))⟩,
    ⟨(some 287), none, .o (.v (.ext (.t 284) 0))⟩,
    ⟨(some 288), none, .o (.v (.ext (.t 284) 1))⟩,
    ⟨(some 41), none, .o (.v (.mov (.t 287)))⟩,
    ⟨(some 42), none, .o (.v (.mov (.t 288)))⟩])
  (.seq (.reg [⟨(some 290), none, .o (.call (.c (.fn 44 [])) [(.c (.int .i64 (4))), (.c (.int .i64 (5)))])⟩,
    ⟨(some 291), none, .o (.call (.c (.fn 28 [])) [(.t 290), (.c (.int .i64 (0))), (.c (.int .i64 (60)))])⟩,
    ⟨(some 289), none, .o (.v (.mov (.t 291)))⟩,
    ⟨(some 292), none, .o (.v (.ext (.t 289) 0))⟩,
    ⟨(some 293), none, .o (.v (.ext (.t 289) 1))⟩,
    ⟨(some 43), none, .o (.v (.mov (.t 292)))⟩,
    ⟨(some 44), none, .o (.v (.mov (.t 293)))⟩])
  (.seq (.reg [⟨(some 295), none, .o (.call (.c (.fn 44 [])) [(.c (.int .i64 (4))), (.c (.int .i64 (5)))])⟩,
    ⟨(some 296), none, .o (.call (.c (.fn 28 [])) [(.t 295), (.c (.int .i64 (101))), (.c (.int .i64 (60)))])⟩,
    ⟨(some 294), none, .o (.v (.mov (.t 296)))⟩,
    ⟨(some 297), none, .o (.v (.ext (.t 294) 0))⟩,
    ⟨(some 298), none, .o (.v (.ext (.t 294) 1))⟩,
    ⟨(some 45), none, .o (.v (.mov (.t 297)))⟩,
    ⟨(some 46), none, .o (.v (.mov (.t 298)))⟩])
  (.seq (.reg [⟨(some 300), none, .o (.call (.c (.fn 44 [])) [(.c (.int .i64 (4))), (.c (.int .i64 (5)))])⟩,
    ⟨(some 301), none, .o (.call (.c (.fn 28 [])) [(.t 300), (.c (.int .i64 (20))), (.c (.int .i64 (-1)))])⟩,
    ⟨(some 299), none, .o (.v (.mov (.t 301)))⟩,
    ⟨(some 302), none, .o (.v (.ext (.t 299) 0))⟩,
    ⟨(some 303), none, .o (.v (.ext (.t 299) 1))⟩,
    ⟨(some 47), none, .o (.v (.mov (.t 302)))⟩,
    ⟨(some 48), none, .o (.v (.mov (.t 303)))⟩])
  (.seq (.reg [⟨(some 305), none, .o (.call (.c (.fn 44 [])) [(.c (.int .i64 (200))), (.c (.int .i64 (312)))])⟩,
    ⟨(some 306), none, .o (.call (.c (.fn 28 [])) [(.t 305), (.c (.int .i64 (20))), (.c (.int .i64 (50)))])⟩,
    ⟨(some 304), none, .o (.v (.mov (.t 306)))⟩,
    ⟨(some 307), none, .o (.v (.ext (.t 304) 0))⟩,
    ⟨(some 308), none, .o (.v (.ext (.t 304) 1))⟩,
    ⟨(some 49), none, .o (.v (.mov (.t 307)))⟩,
    ⟨(some 50), none, .o (.v (.mov (.t 308)))⟩])
  (.seq (.seq (.reg [⟨(some 309), none, .o (.v (.mov (.t 27)))⟩,
    ⟨(some 310), none, .o (.v (.bin .neq (.t 309) (.c (.int .i64 (32)))))⟩,
    ⟨(some 311), none, .o (.v (.mov (.t 310)))⟩,
    ⟨(some 312), (some (311, false)), .o (.v (.mov (.t 29)))⟩,
    ⟨(some 313), (some (311, false)), .o (.v (.bin .neq (.t 312) (.c (.int .i64 (32)))))⟩,
    ⟨(some 314), none, .o (.v (.pick (.t 311) (.c (.lit (.bool true))) (.t 313)))⟩,
    ⟨(some 315), none, .o (.v (.mov (.t 314)))⟩,
    ⟨(some 316), (some (315, false)), .o (.v (.mov (.t 32)))⟩,
    ⟨(some 317), (some (315, false)), .o (.v (.bin .neq (.t 316) (.c (.int .i64 (33)))))⟩,
    ⟨(some 318), none, .o (.v (.pick (.t 315) (.c (.lit (.bool true))) (.t 317)))⟩,
    ⟨(some 319), none, .o (.v (.mov (.t 318)))⟩,
    ⟨(some 320), (some (319, false)), .o (.v (.mov (.t 34)))⟩,
    ⟨(some 321), (some (319, false)), .o (.v (.bin .neq (.t 320) (.c (.int .i64 (4)))))⟩,
    ⟨(some 322), none, .o (.v (.pick (.t 319) (.c (.lit (.bool true))) (.t 321)))⟩,
    ⟨(some 323), none, .o (.v (.mov (.t 322)))⟩,
    ⟨(some 324), (some (323, false)), .o (.v (.mov (.t 37)))⟩,
    ⟨(some 325), (some (323, false)), .o (.v (.bin .neq (.t 324) (.c (.int .i64 (6)))))⟩,
    ⟨(some 326), none, .o (.v (.pick (.t 323) (.c (.lit (.bool true))) (.t 325)))⟩,
    ⟨(some 327), none, .o (.v (.mov (.t 326)))⟩,
    ⟨(some 328), (some (327, false)), .o (.v (.mov (.t 40)))⟩,
    ⟨(some 329), (some (327, false)), .o (.v (.bin .neq (.t 328) (.c (.int .i64 (33)))))⟩,
    ⟨(some 330), none, .o (.v (.pick (.t 327) (.c (.lit (.bool true))) (.t 329)))⟩,
    ⟨(some 331), none, .o (.v (.mov (.t 330)))⟩,
    ⟨(some 332), (some (331, false)), .o (.v (.mov (.t 42)))⟩,
    ⟨(some 333), (some (331, false)), .o (.v (.bin .neq (.t 332) (.c (.int .i64 (7)))))⟩,
    ⟨(some 334), none, .o (.v (.pick (.t 331) (.c (.lit (.bool true))) (.t 333)))⟩,
    ⟨(some 335), none, .o (.v (.mov (.t 334)))⟩,
    ⟨(some 336), (some (335, false)), .o (.v (.mov (.t 44)))⟩,
    ⟨(some 337), (some (335, false)), .o (.v (.bin .neq (.t 336) (.c (.int .i64 (7)))))⟩,
    ⟨(some 338), none, .o (.v (.pick (.t 335) (.c (.lit (.bool true))) (.t 337)))⟩,
    ⟨(some 339), none, .o (.v (.mov (.t 338)))⟩,
    ⟨(some 340), (some (339, false)), .o (.v (.mov (.t 46)))⟩,
    ⟨(some 341), (some (339, false)), .o (.v (.bin .neq (.t 340) (.c (.int .i64 (7)))))⟩,
    ⟨(some 342), none, .o (.v (.pick (.t 339) (.c (.lit (.bool true))) (.t 341)))⟩,
    ⟨(some 343), none, .o (.v (.mov (.t 342)))⟩,
    ⟨(some 344), (some (343, false)), .o (.v (.mov (.t 48)))⟩,
    ⟨(some 345), (some (343, false)), .o (.v (.bin .neq (.t 344) (.c (.int .i64 (7)))))⟩,
    ⟨(some 346), none, .o (.v (.pick (.t 343) (.c (.lit (.bool true))) (.t 345)))⟩,
    ⟨(some 347), none, .o (.v (.mov (.t 346)))⟩,
    ⟨(some 348), (some (347, false)), .o (.v (.mov (.t 50)))⟩,
    ⟨(some 349), (some (347, false)), .o (.v (.bin .neq (.t 348) (.c (.int .i64 (4)))))⟩,
    ⟨(some 350), none, .o (.v (.pick (.t 347) (.c (.lit (.bool true))) (.t 349)))⟩])
  (.cond (.t 350)
    (.seq (.reg [⟨(some 0), none, .o (.v (.mov (.c (.lit (.bool false)))))⟩])
    .ret)
    .skip))
  (.seq (.reg [⟨(some 351), none, .o (.call (.c (.fn 43 [])) [])⟩,
    ⟨(some 352), none, .o (.call (.c (.fn 46 [])) [])⟩,
    ⟨(some 353), none, .o (.bsl 25 2 (List.replicate 16 (.int .i64 (0))) [(0, 8, (.t 351)), (8, 8, (.t 352))])⟩,
    ⟨(some 51), none, .o (.v (.mov (.t 353)))⟩])
  (.seq (.reg [⟨(some 355), none, .o (.bld [(.int .i64 (0)), (.int .i64 (0))] [])⟩,
    ⟨(some 356), none, .o (.call (.c (.fn 30 [])) [(.c (.lit (.slice none 0 0))), (.c (.lit (.slice none 0 0))), (.t 355)])⟩,
    ⟨(some 354), none, .o (.v (.mov (.t 356)))⟩,
    ⟨(some 357), none, .o (.v (.ext (.t 354) 0))⟩,
    ⟨(some 358), none, .o (.v (.ext (.t 354) 1))⟩,
    ⟨(some 27), none, .o (.v (.mov (.t 358)))⟩])
  (.seq (.reg [⟨(some 360), none, .o (.v (.mov (.t 51)))⟩,
    ⟨(some 361), none, .o (.bsl 3 1 [(.int .i64 (0))] [(0, 1, (.c (.int .i64 (30))))])⟩,
    ⟨(some 362), none, .o (.bld [(.int .i64 (0)), (.int .i64 (0))] [])⟩,
    ⟨(some 363), none, .o (.call (.c (.fn 30 [])) [(.t 360), (.t 361), (.t 362)])⟩,
    ⟨(some 359), none, .o (.v (.mov (.t 363)))⟩,
    ⟨(some 364), none, .o (.v (.ext (.t 359) 0))⟩,
    ⟨(some 365), none, .o (.v (.ext (.t 359) 1))⟩,
    ⟨(some 29), none, .o (.v (.mov (.t 365)))⟩])
  (.seq (.reg [⟨(some 367), none, .o (.v (.mov (.t 51)))⟩,
    ⟨(some 368), none, .o (.bsl 3 2 [(.int .i64 (0)), (.int .i64 (0))] [(0, 1, (.c (.int .i64 (30)))), (1, 1, (.c (.int .i64 (1001))))])⟩,
    ⟨(some 369), none, .o (.bld [(.int .i64 (0)), (.int .i64 (0))] [])⟩,
    ⟨(some 370), none, .o (.call (.c (.fn 30 [])) [(.t 367), (.t 368), (.t 369)])⟩,
    ⟨(some 366), none, .o (.v (.mov (.t 370)))⟩,
    ⟨(some 371), none, .o (.v (.ext (.t 366) 0))⟩,
    ⟨(some 372), none, .o (.v (.ext (.t 366) 1))⟩,
    ⟨(some 32), none, .o (.v (.mov (.t 372)))⟩])
  (.seq (.reg [⟨(some 374), none, .o (.v (.mov (.t 51)))⟩,
    ⟨(some 375), none, .o (.bsl 3 2 [(.int .i64 (0)), (.int .i64 (0))] [(0, 1, (.c (.int .i64 (30)))), (1, 1, (.c (.int .i64 (40))))])⟩,
    ⟨(some 376), none, .o (.bld [(.int .i64 (0)), (.int .i64 (0))] [(0, 1, (.c (.int .i64 (-1))))])⟩,
    ⟨(some 377), none, .o (.call (.c (.fn 30 [])) [(.t 374), (.t 375), (.t 376)])⟩,
    ⟨(some 373), none, .o (.v (.mov (.t 377)))⟩,
    ⟨(some 378), none, .o (.v (.ext (.t 373) 0))⟩,
    ⟨(some 379), none, .o (.v (.ext (.t 373) 1))⟩,
    ⟨(some 34), none, .o (.v (.mov (.t 379)))⟩])
  (.seq (.reg [⟨(some 381), none, .o (.v (.mov (.t 51)))⟩,
    ⟨(some 382), none, .o (.bsl 3 2 [(.int .i64 (0)), (.int .i64 (0))] [(0, 1, (.c (.int .i64 (30)))), (1, 1, (.c (.int .i64 (40))))])⟩,
    ⟨(some 383), none, .o (.bld [(.int .i64 (0)), (.int .i64 (0))] [(0, 1, (.c (.int .i64 (800)))), (1, 1, (.c (.int .i64 (300))))])⟩,
    ⟨(some 384), none, .o (.call (.c (.fn 30 [])) [(.t 381), (.t 382), (.t 383)])⟩,
    ⟨(some 380), none, .o (.v (.mov (.t 384)))⟩,
    ⟨(some 385), none, .o (.v (.ext (.t 380) 0))⟩,
    ⟨(some 386), none, .o (.v (.ext (.t 380) 1))⟩,
    ⟨(some 37), none, .o (.v (.mov (.t 386)))⟩])
  (.seq (.reg [⟨(some 388), none, .o (.v (.mov (.t 51)))⟩,
    ⟨(some 389), none, .o (.bsl 3 2 [(.int .i64 (0)), (.int .i64 (0))] [(0, 1, (.c (.int .i64 (30)))), (1, 1, (.c (.int .i64 (40))))])⟩,
    ⟨(some 390), none, .o (.bld [(.int .i64 (0)), (.int .i64 (0))] [(0, 1, (.c (.int .i64 (800)))), (1, 1, (.c (.int .i64 (400))))])⟩,
    ⟨(some 391), none, .o (.call (.c (.fn 30 [])) [(.t 388), (.t 389), (.t 390)])⟩,
    ⟨(some 387), none, .o (.v (.mov (.t 391)))⟩,
    ⟨(some 392), none, .o (.v (.ext (.t 387) 0))⟩,
    ⟨(some 393), none, .o (.v (.ext (.t 387) 1))⟩,
    ⟨(some 52), none, .o (.v (.mov (.t 392)))⟩,
    ⟨(some 40), none, .o (.v (.mov (.t 393)))⟩])
  (.seq (.reg [⟨(some 395), none, .o (.call (.c (.fn 43 [])) [])⟩,
    ⟨(some 396), none, .o (.call (.c (.fn 45 [])) [])⟩,
    ⟨(some 397), none, .o (.slc (.t 396) none (some (.c (.int .i64 (1)))) none 3)⟩,
    ⟨(some 398), none, .o (.call (.c (.fn 20 [])) [(.t 395), (.t 397)])⟩,
    ⟨(some 394), none, .o (.v (.mov (.t 398)))⟩,
    ⟨(some 399), none, .o (.v (.ext (.t 394) 0))⟩,
    ⟨(some 400), none, .o (.v (.ext (.t 394) 1))⟩,
    ⟨(some 401), none, .o (.v (.ext (.t 394) 2))⟩,
    ⟨(some 53), none, .o (.new 23 [(.int .i64 (0)), (.int .i64 (0))])⟩,
    ⟨(some 54), none, .o (.new 23 [(.int .i64 (0)), (.int .i64 (0))])⟩,
    ⟨none, none, .o (.store 2 (.t 53) (.t 399))⟩,
    ⟨none, none, .o (.store 2 (.t 54) (.t 400))⟩,
    ⟨(some 42), none, .o (.v (.mov (.t 401)))⟩])
  (.seq (.reg [⟨(some 403), none, .o (.call (.c (.fn 43 [])) [])⟩,
    ⟨(some 404), none, .o (.call (.c (.fn 45 [])) [])⟩,
    ⟨(some 405), none, .o (.slc (.t 404) none (some (.c (.int .i64 (2)))) none 3)⟩,
    ⟨(some 406), none, .o (.bld [(.int .i64 (0)), (.int .i64 (0)), (.int .i64 (0))] [(0, 1, (.c (.int .i64 (50)))), (1, 1, (.c (.int .i64 (40)))), (2, 1, (.c (.int .i64 (251))))])⟩,
    ⟨(some 407), none, .o (.call (.c (.fn 16 [])) [(.t 403), (.t 405), (.t 406)])⟩,
    ⟨(some 402), none, .o (.v (.mov (.t 407)))⟩,
    ⟨(some 408), none, .o (.v (.ext (.t 402) 0))⟩,
    ⟨(some 409), none, .o (.v (.ext (.t 402) 1))⟩,
    ⟨(some 55), none, .o (.v (.mov (.t 408)))⟩,
    ⟨(some 44), none, .o (.v (.mov (.t 409)))⟩])
  (.seq (.reg [⟨(some 411), none, .o (.call (.c (.fn 44 [])) [(.c (.int .i64 (-90))), (.c (.int .i64 (-70)))])⟩,
    ⟨(some 412), none, .o (.call (.c (.fn 28 [])) [(.t 411), (.c (.int .i64 (20))), (.c (.int .i64 (60)))])⟩,
    ⟨(some 410), none, .o (.v (.mov (.t 412)))⟩,
    ⟨(some 413), none, .o (.v (.ext (.t 410) 0))⟩,
    ⟨(some 414), none, .o (.v (.ext (.t 410) 1))⟩,
    ⟨(some 56), none, .o (.v (.mov (.t 413)))⟩,
    ⟨(some 46), none, .o (.v (.mov (.t 414)))⟩])
  (.seq (.reg [⟨(some 416), none, .o (.call (.c (.fn 44 [])) [(.c (.int .i64 (-60))), (.c (.int .i64 (60)))])⟩,
    ⟨(some 417), none, .o (.call (.c (.fn 28 [])) [(.t 416), (.c (.int .i64 (20))), (.c (.int .i64 (60)))])⟩,
    ⟨(some 415), none, .o (.v (.mov (.t 417)))⟩,
    ⟨(some 418), none, .o (.v (.ext (.t 415) 0))⟩,
    ⟨(some 419), none, .o (.v (.ext (.t 415) 1))⟩,
    ⟨(some 57), none, .o (.v (.mov (.t 418)))⟩,
    ⟨(some 48), none, .o (.v (.mov (.t 419)))⟩])
  (.seq (.drw [⟨[], 0, 1, [(⟨(some 420), none, .o (.v (.mov (.t 27)))⟩, .val 0 []),
    (⟨(some 421), none, .o (.v (.bin .eql (.t 420) (.c (.int .i64 (34)))))⟩, .val 0 []),
    (⟨(some 422), none, .o (.v (.mov (.t 421)))⟩, .val 0 []),
    (⟨(some 423), (some (422, true)), .o (.v (.mov (.t 29)))⟩, .val 0 []),
    (⟨(some 424), (some (422, true)), .o (.v (.bin .eql (.t 423) (.c (.int .i64 (34)))))⟩, .val 0 []),
    (⟨(some 425), none, .o (.v (.pick (.t 422) (.t 424) (.c (.lit (.bool false)))))⟩, .val 0 []),
    (⟨(some 426), none, .o (.v (.mov (.t 425)))⟩, .val 0 []),
    (⟨(some 427), (some (426, true)), .o (.v (.mov (.t 32)))⟩, .val 0 []),
    (⟨(some 428), (some (426, true)), .o (.v (.bin .eql (.t 427) (.c (.int .i64 (34)))))⟩, .val 0 []),
    (⟨(some 429), none, .o (.v (.pick (.t 426) (.t 428) (.c (.lit (.bool false)))))⟩, .val 0 []),
    (⟨(some 430), none, .o (.v (.mov (.t 429)))⟩, .val 0 []),
    (⟨(some 431), (some (430, true)), .o (.v (.mov (.t 34)))⟩, .val 0 []),
    (⟨(some 432), (some (430, true)), .o (.v (.bin .eql (.t 431) (.c (.int .i64 (34)))))⟩, .val 0 []),
    (⟨(some 433), none, .o (.v (.pick (.t 430) (.t 432) (.c (.lit (.bool false)))))⟩, .val 0 []),
    (⟨(some 434), none, .o (.v (.mov (.t 433)))⟩, .val 0 []),
    (⟨(some 435), (some (434, true)), .o (.v (.mov (.t 37)))⟩, .val 0 []),
    (⟨(some 436), (some (434, true)), .o (.v (.bin .eql (.t 435) (.c (.int .i64 (4)))))⟩, .val 0 []),
    (⟨(some 437), none, .o (.v (.pick (.t 434) (.t 436) (.c (.lit (.bool false)))))⟩, .val 0 []),
    (⟨(some 438), none, .o (.v (.mov (.t 437)))⟩, .val 0 []),
    (⟨(some 439), (some (438, true)), .o (.v (.mov (.t 40)))⟩, .val 0 []),
    (⟨(some 440), (some (438, true)), .o (.v (.bin .eql (.t 439) (.c (.int .i64 (0)))))⟩, .val 0 []),
    (⟨(some 441), none, .o (.v (.pick (.t 438) (.t 440) (.c (.lit (.bool false)))))⟩, .val 0 []),
    (⟨(some 442), none, .o (.v (.mov (.t 441)))⟩, .val 0 []),
    (⟨(some 443), (some (442, true)), .o (.v (.mov (.t 52)))⟩, .val 0 []),
    (⟨(some 444), (some (442, true)), .o (.v (.bin .eql (.t 443) (.c (.int .i64 (0)))))⟩, .val 0 []),
    (⟨(some 445), none, .o (.v (.pick (.t 442) (.t 444) (.c (.lit (.bool false)))))⟩, .val 0 []),
    (⟨(some 446), none, .o (.v (.mov (.t 445)))⟩, .val 0 []),
    (⟨(some 447), (some (446, true)), .o (.v (.mov (.t 42)))⟩, .val 0 []),
    (⟨(some 448), (some (446, true)), .o (.v (.bin .eql (.t 447) (.c (.int .i64 (0)))))⟩, .val 0 []),
    (⟨(some 449), none, .o (.v (.pick (.t 446) (.t 448) (.c (.lit (.bool false)))))⟩, .val 0 []),
    (⟨(some 450), none, .o (.v (.mov (.t 449)))⟩, .val 0 []),
    (⟨(some 451), (some (450, true)), .o (.v (.load (.t 53) (some 2)))⟩, .val 0 []),
    (⟨(some 452), (some (450, true)), .o (.call (.c (.fn 44 [])) [(.c (.int .i64 (150))), (.c (.int .i64 (468)))])⟩, .eff 0 [])],
    [],
    [⟨(some 453), (some (450, true)), .o (.v (.eqs [(some .i64), (some .i64)] false (.t 451) (.t 452)))⟩,
    ⟨(some 454), none, .o (.v (.pick (.t 450) (.t 453) (.c (.lit (.bool false)))))⟩,
    ⟨(some 455), none, .o (.v (.mov (.t 454)))⟩,
    ⟨(some 456), (some (455, true)), .o (.v (.mov (.t 44)))⟩,
    ⟨(some 457), (some (455, true)), .o (.v (.bin .eql (.t 456) (.c (.int .i64 (0)))))⟩,
    ⟨(some 458), none, .o (.v (.pick (.t 455) (.t 457) (.c (.lit (.bool false)))))⟩,
    ⟨(some 459), none, .o (.v (.mov (.t 458)))⟩,
    ⟨(some 460), (some (459, true)), .o (.v (.mov (.t 55)))⟩,
    ⟨(some 461), (some (459, true)), .o (.v (.not (.t 460)))⟩,
    ⟨(some 462), none, .o (.v (.pick (.t 459) (.t 461) (.c (.lit (.bool false)))))⟩,
    ⟨(some 463), none, .o (.v (.mov (.t 462)))⟩,
    ⟨(some 464), (some (463, true)), .o (.v (.mov (.t 46)))⟩,
    ⟨(some 465), (some (463, true)), .o (.v (.bin .eql (.t 464) (.c (.int .i64 (0)))))⟩,
    ⟨(some 466), none, .o (.v (.pick (.t 463) (.t 465) (.c (.lit (.bool false)))))⟩,
    ⟨(some 467), none, .o (.v (.mov (.t 466)))⟩,
    ⟨(some 468), (some (467, true)), .o (.v (.mov (.t 56)))⟩,
    ⟨(some 469), (some (467, true)), .o (.v (.bin .eql (.t 468) (.c (.int .i64 (2)))))⟩,
    ⟨(some 470), none, .o (.v (.pick (.t 467) (.t 469) (.c (.lit (.bool false)))))⟩,
    ⟨(some 471), none, .o (.v (.mov (.t 470)))⟩,
    ⟨(some 472), (some (471, true)), .o (.v (.mov (.t 48)))⟩,
    ⟨(some 473), (some (471, true)), .o (.v (.bin .eql (.t 472) (.c (.int .i64 (0)))))⟩,
    ⟨(some 474), none, .o (.v (.pick (.t 471) (.t 473) (.c (.lit (.bool false)))))⟩,
    ⟨(some 475), none, .o (.v (.mov (.t 474)))⟩,
    ⟨(some 476), (some (475, true)), .o (.v (.mov (.t 57)))⟩,
    ⟨(some 477), (some (475, true)), .o (.v (.bin .eql (.t 476) (.c (.int .i64 (0)))))⟩,
    ⟨(some 478), none, .o (.v (.pick (.t 475) (.t 477) (.c (.lit (.bool false)))))⟩,
    ⟨(some 479), none, .o (.v (.mov (.t 478)))⟩,
    ⟨(some 480), none, .o (.v (.pick (.t 479) (.c (.lit (.bool true))) (.c (.lit (.bool false)))))⟩,
    ⟨(some 481), none, .o (.v (.mov (.t 480)))⟩,
    ⟨(some 482), (some (481, true)), .o (.call (.c (.fn 22 [])) [])⟩,
    ⟨(some 483), none, .o (.v (.pick (.t 481) (.t 482) (.c (.lit (.bool false)))))⟩,
    ⟨(some 0), none, .o (.v (.mov (.t 483)))⟩], none⟩])
  .ret)))))))))))))))))))))))))))))))))))
theorem h15 : FdOk Try.prog 15 ⟨g15, [.t 0], 484, []⟩ := .of Try.func15 (by simp [Try.f15]) (by kernel_rfl)
/-- octant/level.Can -/
def g16 : RC :=
  (.seq (.reg [⟨(some 3), none, .o (.box 25 (.t 0))⟩,
    ⟨(some 5), none, .o (.box 28 (.t 2))⟩,
    ⟨(some 6), none, .o (.v (.mov (.c (.lit (.bool false)))))⟩,
    ⟨(some 7), none, .o (.v (.mov (.c (.int .i64 (0)))))⟩])
  (.seq (.seq (.reg [⟨(some 10), none, .o (.v (.load (.t 3) (some 8)))⟩,
    ⟨(some 11), none, .o (.v (.mov (.t 1)))⟩,
    ⟨(some 12), none, .o (.call (.c (.fn 47 [])) [(.t 10), (.t 11)])⟩,
    ⟨(some 8), none, .o (.v (.mov (.t 12)))⟩])
  (.seq (.reg [⟨(some 13), none, .o (.v (.mov (.t 8)))⟩,
    ⟨(some 14), none, .o (.v (.bin .neq (.t 13) (.c (.int .i64 (0)))))⟩])
  (.cond (.t 14)
    (.seq (.reg [⟨(some 15), none, .o (.v (.mov (.t 8)))⟩,
      ⟨(some 6), none, .o (.v (.mov (.c (.lit (.bool false)))))⟩,
      ⟨(some 7), none, .o (.v (.mov (.t 15)))⟩])
    .ret)
    .skip)))
  (.seq (.reg [⟨(some 16), none, .o (.v (.load (.t 3) (some 8)))⟩,
    ⟨(some 17), none, .o (.bld [(.int .i64 (0)), (.int .i64 (0)), (.int .i64 (0)), (.int .i64 (0)), (.int .i64 (0)), (.int .i64 (0)), (.int .i64 (0)), (.int .i64 (0))] [(0, 8, (.t 16))])⟩,
    ⟨(some 9), none, .o (.new 78 [(.int .i64 (0)), (.int .i64 (0)), (.int .i64 (0)), (.int .i64 (0)), (.int .i64 (0)), (.int .i64 (0)), (.int .i64 (0)), (.int .i64 (0))])⟩,
    ⟨none, none, .o (.store 8 (.t 9) (.t 17))⟩])
  (.seq (.seq (.reg [⟨(some 18), none, .o (.v (.load (.t 9) (some 8)))⟩,
    ⟨(some 19), none, .o (.v (.load (.t 5) (some 3)))⟩,
    ⟨(some 20), none, .o (.call (.c (.fn 48 [])) [(.t 18), (.t 19)])⟩,
    ⟨(some 21), none, .o (.v (.not (.t 20)))⟩])
  (.cond (.t 21)
    (.seq (.reg [⟨(some 6), none, .o (.v (.mov (.c (.lit (.bool false)))))⟩,
      ⟨(some 7), none, .o (.v (.mov (.c (.int .i64 (32)))))⟩])
    .ret)
    .skip))
  (.seq (.drw [⟨[], 0, 1, [(⟨(some 22), none, .o (.v (.load (.t 9) (some 8)))⟩, .val 0 []),
    (⟨(some 23), none, .o (.v (.mov (.t 1)))⟩, .val 0 []),
    (⟨(some 24), none, .o (.call (.c (.fn 49 [])) [(.t 22), (.t 23)])⟩, .eff 0 []),
    (⟨(some 25), none, .o (.v (.load (.t 5) (some 3)))⟩, .val 0 [])],
    [],
    [⟨(some 26), none, .o (.call (.c (.fn 50 [])) [(.t 24), (.t 25)])⟩,
    ⟨(some 6), none, .o (.v (.mov (.t 26)))⟩,
    ⟨(some 7), none, .o (.v (.mov (.c (.int .i64 (0)))))⟩], none⟩])
  .ret)))))
theorem h16 : FdOk Try.prog 16 ⟨g16, [.t 6, .t 7], 27, []⟩ := .of Try.func16 (by simp [Try.f16]) (by kernel_rfl)
/-- octant/level.Check -/
def g18 : RC :=
  (.seq (.reg [⟨(some 1), none, .o (.box 25 (.t 0))⟩,
    ⟨(some 2), none, .o (.v (.mov (.c (.int .i64 (0)))))⟩])
  (.seq (.seq (.reg [⟨(some 3), none, .o (.v (.load (.t 1) (some 8)))⟩,
    ⟨(some 4), none, .o (.bld [(.int .i64 (0)), (.int .i64 (0)), (.int .i64 (0)), (.int .i64 (0)), (.int .i64 (0)), (.int .i64 (0)), (.int .i64 (0)), (.int .i64 (0))] [(0, 8, (.t 3))])⟩,
    ⟨(some 5), none, .o (.call (.c (.fn 54 [])) [(.t 4)])⟩,
    ⟨(some 6), none, .o (.v (.not (.t 5)))⟩])
  (.cond (.t 6)
    (.seq (.reg [⟨(some 2), none, .o (.v (.mov (.c (.int .i64 (30)))))⟩])
    .ret)
    .skip))
  (.seq (.reg [⟨(some 2), none, .o (.v (.mov (.c (.int .i64 (0)))))⟩])
  .ret)))
theorem h18 : FdOk Try.prog 18 ⟨g18, [.t 2], 7, []⟩ := .of Try.func18 (by simp [Try.f18]) (by kernel_rfl)
/-- octant/level.Tilt -/
def g20 : RC :=
  (.seq (.reg [⟨(some 2), none, .o (.box 25 (.t 0))⟩,
    ⟨(some 4), none, .o (.new 23 [(.int .i64 (0)), (.int .i64 (0))])⟩,
    ⟨(some 5), none, .o (.new 23 [(.int .i64 (0)), (.int .i64 (0))])⟩,
    ⟨(some 6), none, .o (.v (.mov (.c (.int .i64 (0)))))⟩])
  (.seq (.seq (.reg [⟨(some 10), none, .o (.v (.load (.t 2) (some 8)))⟩,
    ⟨(some 11), none, .o (.v (.mov (.t 1)))⟩,
    ⟨(some 12), none, .o (.call (.c (.fn 47 [])) [(.t 10), (.t 11)])⟩,
    ⟨(some 7), none, .o (.v (.mov (.t 12)))⟩])
  (.seq (.reg [⟨(some 13), none, .o (.v (.mov (.t 7)))⟩,
    ⟨(some 14), none, .o (.v (.bin .neq (.t 13) (.c (.int .i64 (0)))))⟩])
  (.cond (.t 14)
    (.seq (.reg [⟨(some 15), none, .o (.bld [(.int .i64 (0)), (.int .i64 (0))] [])⟩,
      ⟨(some 16), none, .o (.bld [(.int .i64 (0)), (.int .i64 (0))] [])⟩,
      ⟨(some 17), none, .o (.v (.mov (.t 7)))⟩,
      ⟨none, none, .o (.store 2 (.t 4) (.t 15))⟩,
      ⟨none, none, .o (.store 2 (.t 5) (.t 16))⟩,
      ⟨(some 6), none, .o (.v (.mov (.t 17)))⟩])
    .ret)
    .skip)))
  (.seq (.reg [⟨(some 18), none, .o (.v (.load (.t 2) (some 8)))⟩,
    ⟨(some 19), none, .o (.bld [(.int .i64 (0)), (.int .i64 (0)), (.int .i64 (0)), (.int .i64 (0)), (.int .i64 (0)), (.int .i64 (0)), (.int .i64 (0)), (.int .i64 (0))] [(0, 8, (.t 18))])⟩,
    ⟨(some 8), none, .o (.new 78 [(.int .i64 (0)), (.int .i64 (0)), (.int .i64 (0)), (.int .i64 (0)), (.int .i64 (0)), (.int .i64 (0)), (.int .i64 (0)), (.int .i64 (0))])⟩,
    ⟨none, none, .o (.store 8 (.t 8) (.t 19))⟩])
  (.seq (.drw [⟨[], 0, 2, [(⟨(some 20), none, .o (.v (.load (.t 8) (some 8)))⟩, .val 0 []),
    (⟨(some 21), none, .o (.v (.load (.t 8) (some 8)))⟩, .val 0 []),
    (⟨(some 22), none, .o (.v (.mov (.t 1)))⟩, .val 0 []),
    (⟨(some 23), none, .o (.call (.c (.fn 49 [])) [(.t 21), (.t 22)])⟩, .eff 0 []),
    (⟨(some 24), none, .o (.call (.c (.fn 56 [])) [(.t 20), (.t 23)])⟩, .eff 1 [])],
    [],
    [⟨(some 9), none, .o (.new 88 [(.int .i64 (0)), (.int .i64 (0)), (.int .i64 (0)), (.int .i64 (0))])⟩,
    ⟨none, none, .o (.store 4 (.t 9) (.t 24))⟩], (some 9)⟩,
    ⟨[8, 1, 21, 22, 20, 23, 9, 24], 1, 0, [(⟨(some 20), none, .o (.v (.load (.t 8) (some 8)))⟩, .val 0 []),
    (⟨(some 21), none, .o (.v (.load (.t 8) (some 8)))⟩, .val 0 []),
    (⟨(some 22), none, .o (.v (.mov (.t 1)))⟩, .val 0 []),
    (⟨(some 23), none, .o (.call (.c (.fn 49 [])) [(.t 21), (.t 22)])⟩, .val 0 []),
    (⟨(some 24), none, .o (.call (.c (.fn 56 [])) [(.t 20), (.t 23)])⟩, .val 0 []),
    (⟨(some 9), none, .o (.new 88 [(.int .i64 (0)), (.int .i64 (0)), (.int .i64 (0)), (.int .i64 (0))])⟩, .cre 0)],
    [0],
    [⟨none, none, .o (.store 4 (.t 9) (.t 24))⟩], none⟩])
  (.seq (.seq (.drw [⟨[], 0, 1, [(⟨(some 25), none, .o (.v (.load (.t 9) (some 4)))⟩, .val 0 []),
    (⟨(some 26), none, .o (.call (.c (.fn 57 [])) [])⟩, .eff 0 [])],
    [],
    [⟨(some 27), none, .o (.v (.eqs [(some .i64), (some .i64), (some .i64), (some .i64)] false (.t 25) (.t 26)))⟩], none⟩])
  (.cond (.t 27)
    (.seq (.reg [⟨(some 28), none, .o (.bld [(.int .i64 (0)), (.int .i64 (0))] [])⟩,
      ⟨(some 29), none, .o (.bld [(.int .i64 (0)), (.int .i64 (0))] [])⟩,
      ⟨none, none, .o (.store 2 (.t 4) (.t 28))⟩,
      ⟨none, none, .o (.store 2 (.t 5) (.t 29))⟩,
      ⟨(some 6), none, .o (.v (.mov (.c (.int .i64 (33)))))⟩])
    .ret)
    .skip))
  (.seq (.drw [⟨[], 0, 1, [(⟨(some 30), none, .o (.v (.off (.t 9) 0))⟩, .val 0 []),
    (⟨(some 31), none, .o (.v (.load (.t 30) (some 2)))⟩, .val 0 []),
    (⟨(some 32), none, .o (.v (.off (.t 9) 2))⟩, .prd [4]),
    (⟨(some 33), none, .o (.v (.load (.t 32) (some 2)))⟩, .prd [4]),
    (⟨none, none, .o (.store 2 (.t 4) (.t 31))⟩, .efs 0 [] [])],
    [],
    [⟨none, none, .o (.store 2 (.t 5) (.t 33))⟩,
    ⟨(some 6), none, .o (.v (.mov (.c (.int .i64 (0)))))⟩], none⟩])
  .ret))))))
theorem h20 : FdOk Try.prog 20 ⟨g20, [.c 4 (some 2), .c 5 (some 2), .t 6], 34, []⟩ := .of Try.func20 (by simp [Try.f20]) (by kernel_rfl)
/-- octant/octantlaw03.works -/
def g22 : RC :=
  (.seq (.reg [⟨(some 0), none, .o (.v (.mov (.c (.lit (.bool false)))))⟩])
  (.seq (.reg [⟨(some 14), none, .o (.call (.c (.fn 43 [])) [])⟩,
    ⟨(some 15), none, .o (.call (.c (.fn 45 [])) [])⟩,
    ⟨(some 16), none, .o (.slc (.t 15) none (some (.c (.int .i64 (2)))) none 3)⟩,
    ⟨(some 17), none, .o (.bld [(.int .i64 (0)), (.int .i64 (0)), (.int .i64 (0))] [(0, 1, (.c (.int .i64 (50)))), (1, 1, (.c (.int .i64 (40)))), (2, 1, (.c (.int .i64 (250))))])⟩,
    ⟨(some 18), none, .o (.call (.c (.fn 16 [])) [(.t 14), (.t 16), (.t 17)])⟩,
    ⟨(some 13), none, .o (.v (.mov (.t 18)))⟩,
    ⟨(some 19), none, .o (.v (.ext (.t 13) 0))⟩,
    ⟨(some 20), none, .o (.v (.ext (.t 13) 1))⟩,
    ⟨(some 1), none, .o (.v (.mov (.t 19)))⟩,
    ⟨(some 2), none, .o (.v (.mov (.t 20)))⟩])
  (.seq (.reg [⟨(some 22), none, .o (.call (.c (.fn 43 [])) [])⟩,
    ⟨(some 23), none, .o (.call (.c (.fn 45 [])) [])⟩,
    ⟨(some 24), none, .o (.slc (.t 23) none (some (.c (.int .i64 (2)))) none 3)⟩,
    ⟨(some 25), none, .o (.call (.c (.fn 20 [])) [(.t 22), (.t 24)])⟩,
    ⟨(some 21), none, .o (.v (.mov (.t 25)))⟩,
    ⟨(some 26), none, .o (.v (.ext (.t 21) 0))⟩,
    ⟨(some 27), none, .o (.v (.ext (.t 21) 1))⟩,
    ⟨(some 28), none, .o (.v (.ext (.t 21) 2))⟩,
    ⟨(some 3), none, .o (.new 23 [(.int .i64 (0)), (.int .i64 (0))])⟩,
    ⟨(some 4), none, .o (.new 23 [(.int .i64 (0)), (.int .i64 (0))])⟩,
    ⟨none, none, .o (.store 2 (.t 3) (.t 26))⟩,
    ⟨none, none, .o (.store 2 (.t 4) (.t 27))⟩,
    ⟨(some 5), none, .o (.v (.mov (.t 28)))⟩])
  (.seq (.reg [⟨(some 30), none, .o (.call (.c (.fn 43 [])) [])⟩,
    ⟨(some 31), none, .o (.call (.c (.fn 45 [])) [])⟩,
    ⟨(some 32), none, .o (.call (.c (.fn 23 [])) [(.t 30), (.t 31)])⟩,
    ⟨(some 29), none, .o (.v (.mov (.t 32)))⟩,
    ⟨(some 33), none, .o (.v (.ext (.t 29) 0))⟩,
    ⟨(some 34), none, .o (.v (.ext (.t 29) 1))⟩,
    ⟨(some 6), none, .o (.v (.mov (.t 33)))⟩,
    ⟨(some 7), none, .o (.v (.mov (.t 34)))⟩])
  (.seq (.reg [⟨(some 36), none, .o (.call (.c (.fn 43 [])) [])⟩,
    ⟨(some 37), none, .o (.call (.c (.fn 45 [])) [])⟩,
    ⟨(some 38), none, .o (.slc (.t 37) none (some (.c (.int .i64 (1)))) none 3)⟩,
    ⟨(some 39), none, .o (.call (.c (.fn 26 [])) [(.t 36), (.t 38)])⟩,
    ⟨(some 35), none, .o (.v (.mov (.t 39)))⟩,
    ⟨(some 40), none, .o (.v (.ext (.t 35) 0))⟩,
    ⟨(some 41), none, .o (.v (.ext (.t 35) 1))⟩,
    ⟨(some 42), none, .o (.v (.ext (.t 35) 2))⟩,
    ⟨(some 8), none, .o (.v (.mov (.t 40)))⟩,
    ⟨(some 9), none, .o (.v (.mov (.t 41)))⟩,
    ⟨(some 10), none, .o (.v (.mov (.t 42)))⟩])
  (.seq (.seq (.drw [⟨[2, 43, 44, 45, 5, 46, 47, 48, 49, 7, 50, 51, 52, 53, 10, 54, 55, 56, 57, 1, 58, 59, 60, 61, 3, 62, 63, 64, 65, 66, 4, 67, 68, 69, 70, 71, 6, 72, 73, 74, 75, 76, 77, 8, 78, 79, 80, 81, 9, 82, 83], 0, 0, [(⟨(some 43), none, .o (.v (.mov (.t 2)))⟩, .val 0 []),
    (⟨(some 44), none, .o (.v (.bin .neq (.t 43) (.c (.int .i64 (0)))))⟩, .val 0 []),
    (⟨(some 45), none, .o (.v (.mov (.t 44)))⟩, .val 0 []),
    (⟨(some 46), (some (45, false)), .o (.v (.mov (.t 5)))⟩, .val 0 []),
    (⟨(some 47), (some (45, false)), .o (.v (.bin .neq (.t 46) (.c (.int .i64 (0)))))⟩, .val 0 []),
    (⟨(some 48), none, .o (.v (.pick (.t 45) (.c (.lit (.bool true))) (.t 47)))⟩, .val 0 []),
    (⟨(some 49), none, .o (.v (.mov (.t 48)))⟩, .val 0 []),
    (⟨(some 50), (some (49, false)), .o (.v (.mov (.t 7)))⟩, .val 0 []),
    (⟨(some 51), (some (49, false)), .o (.v (.bin .neq (.t 50) (.c (.int .i64 (0)))))⟩, .val 0 []),
    (⟨(some 52), none, .o (.v (.pick (.t 49) (.c (.lit (.bool true))) (.t 51)))⟩, .val 0 []),
    (⟨(some 53), none, .o (.v (.mov (.t 52)))⟩, .val 0 []),
    (⟨(some 54), (some (53, false)), .o (.v (.mov (.t 10)))⟩, .val 0 []),
    (⟨(some 55), (some (53, false)), .o (.v (.bin .neq (.t 54) (.c (.int .i64 (0)))))⟩, .val 0 []),
    (⟨(some 56), none, .o (.v (.pick (.t 53) (.c (.lit (.bool true))) (.t 55)))⟩, .val 0 []),
    (⟨(some 57), none, .o (.v (.mov (.t 56)))⟩, .val 0 []),
    (⟨(some 58), (some (57, false)), .o (.v (.mov (.t 1)))⟩, .val 0 []),
    (⟨(some 59), (some (57, false)), .o (.v (.not (.t 58)))⟩, .val 0 []),
    (⟨(some 60), none, .o (.v (.pick (.t 57) (.c (.lit (.bool true))) (.t 59)))⟩, .val 0 []),
    (⟨(some 61), none, .o (.v (.mov (.t 60)))⟩, .val 0 []),
    (⟨(some 62), (some (61, false)), .o (.v (.load (.t 3) (some 2)))⟩, .val 0 []),
    (⟨(some 63), (some (61, false)), .o (.call (.c (.fn 44 [])) [(.c (.int .i64 (200))), (.c (.int .i64 (312)))])⟩, .val 0 []),
    (⟨(some 64), (some (61, false)), .o (.v (.eqs [(some .i64), (some .i64)] true (.t 62) (.t 63)))⟩, .val 0 []),
    (⟨(some 65), none, .o (.v (.pick (.t 61) (.c (.lit (.bool true))) (.t 64)))⟩, .val 0 []),
    (⟨(some 66), none, .o (.v (.mov (.t 65)))⟩, .val 0 []),
    (⟨(some 67), (some (66, false)), .o (.v (.load (.t 4) (some 2)))⟩, .val 0 []),
    (⟨(some 68), (some (66, false)), .o (.call (.c (.fn 44 [])) [(.c (.int .i64 (40))), (.c (.int .i64 (42)))])⟩, .val 0 []),
    (⟨(some 69), (some (66, false)), .o (.v (.eqs [(some .i64), (some .i64)] true (.t 67) (.t 68)))⟩, .val 0 []),
    (⟨(some 70), none, .o (.v (.pick (.t 66) (.c (.lit (.bool true))) (.t 69)))⟩, .val 0 []),
    (⟨(some 71), none, .o (.v (.mov (.t 70)))⟩, .val 0 []),
    (⟨(some 72), (some (71, false)), .o (.v (.mov (.t 6)))⟩, .val 0 []),
    (⟨(some 73), (some (71, false)), .o (.bsl 3 2 [(.int .i64 (0)), (.int .i64 (0))] [(0, 1, (.c (.int .i64 (1)))), (1, 1, (.c (.int .i64 (2))))])⟩, .val 0 [])],
    [],
    [⟨(some 74), (some (71, false)), .o (.call (.c (.fn 25 [])) [(.t 72), (.t 73)])⟩,
    ⟨(some 75), (some (71, false)), .o (.v (.not (.t 74)))⟩,
    ⟨(some 76), none, .o (.v (.pick (.t 71) (.c (.lit (.bool true))) (.t 75)))⟩,
    ⟨(some 77), none, .o (.v (.mov (.t 76)))⟩,
    ⟨(some 78), (some (77, false)), .o (.v (.mov (.t 8)))⟩,
    ⟨(some 79), (some (77, false)), .o (.v (.not (.t 78)))⟩,
    ⟨(some 80), none, .o (.v (.pick (.t 77) (.c (.lit (.bool true))) (.t 79)))⟩,
    ⟨(some 81), none, .o (.v (.mov (.t 80)))⟩,
    ⟨(some 82), (some (81, false)), .o (.v (.mov (.t 9)))⟩,
    ⟨(some 83), (some (81, false)), .o (.v (.bin .neq (.t 82) (.c (.int .i64 (118)))))⟩,
    ⟨(some 84), none, .o (.v (.pick (.t 81) (.c (.lit (.bool true))) (.t 83)))⟩], none⟩])
  (.cond (.t 84)
    (.seq (.reg [⟨(some 0), none, .o (.v (.mov (.c (.lit (.bool false)))))⟩])
    .ret)
    .skip))
  (.seq (.reg [⟨(some 86), none, .o (.call (.c (.fn 44 [])) [(.c (.int .i64 (200))), (.c (.int .i64 (312)))])⟩,
    ⟨(some 87), none, .o (.call (.c (.fn 28 [])) [(.t 86), (.c (.int .i64 (20))), (.c (.int .i64 (60)))])⟩,
    ⟨(some 85), none, .o (.v (.mov (.t 87)))⟩,
    ⟨(some 88), none, .o (.v (.ext (.t 85) 0))⟩,
    ⟨(some 89), none, .o (.v (.ext (.t 85) 1))⟩,
    ⟨(some 11), none, .o (.v (.mov (.t 88)))⟩,
    ⟨(some 2), none, .o (.v (.mov (.t 89)))⟩])
  (.seq (.reg [⟨(some 91), none, .o (.call (.c (.fn 43 [])) [])⟩,
    ⟨(some 92), none, .o (.call (.c (.fn 46 [])) [])⟩,
    ⟨(some 93), none, .o (.bsl 25 2 (List.replicate 16 (.int .i64 (0))) [(0, 8, (.t 91)), (8, 8, (.t 92))])⟩,
    ⟨(some 94), none, .o (.bsl 3 2 [(.int .i64 (0)), (.int .i64 (0))] [(0, 1, (.c (.int .i64 (30)))), (1, 1, (.c (.int .i64 (40))))])⟩,
    ⟨(some 95), none, .o (.bld [(.int .i64 (0)), (.int .i64 (0))] [(0, 1, (.c (.int .i64 (600)))), (1, 1, (.c (.int .i64 (300))))])⟩,
    ⟨(some 96), none, .o (.call (.c (.fn 30 [])) [(.t 93), (.t 94), (.t 95)])⟩,
    ⟨(some 90), none, .o (.v (.mov (.t 96)))⟩,
    ⟨(some 97), none, .o (.v (.ext (.t 90) 0))⟩,
    ⟨(some 98), none, .o (.v (.ext (.t 90) 1))⟩,
    ⟨(some 12), none, .o (.v (.mov (.t 97)))⟩,
    ⟨(some 5), none, .o (.v (.mov (.t 98)))⟩])
  (.seq (.reg [⟨(some 99), none, .o (.v (.mov (.t 2)))⟩,
    ⟨(some 100), none, .o (.v (.bin .eql (.t 99) (.c (.int .i64 (0)))))⟩,
    ⟨(some 101), none, .o (.v (.mov (.t 100)))⟩,
    ⟨(some 102), (some (101, true)), .o (.v (.mov (.t 5)))⟩,
    ⟨(some 103), (some (101, true)), .o (.v (.bin .eql (.t 102) (.c (.int .i64 (0)))))⟩,
    ⟨(some 104), none, .o (.v (.pick (.t 101) (.t 103) (.c (.lit (.bool false)))))⟩,
    ⟨(some 105), none, .o (.v (.mov (.t 104)))⟩,
    ⟨(some 106), (some (105, true)), .o (.v (.mov (.t 11)))⟩,
    ⟨(some 107), (some (105, true)), .o (.v (.bin .eql (.t 106) (.c (.int .i64 (-13)))))⟩,
    ⟨(some 108), none, .o (.v (.pick (.t 105) (.t 107) (.c (.lit (.bool false)))))⟩,
    ⟨(some 109), none, .o (.v (.mov (.t 108)))⟩,
    ⟨(some 110), (some (109, true)), .o (.v (.mov (.t 12)))⟩,
    ⟨(some 111), (some (109, true)), .o (.v (.bin .eql (.t 110) (.c (.int .i64 (1)))))⟩,
    ⟨(some 112), none, .o (.v (.pick (.t 109) (.t 111) (.c (.lit (.bool false)))))⟩,
    ⟨(some 0), none, .o (.v (.mov (.t 112)))⟩])
  .ret)))))))))
theorem h22 : FdOk Try.prog 22 ⟨g22, [.t 0], 113, []⟩ := .of Try.func22 (by simp [Try.f22]) (by kernel_rfl)
/-- octant/level.False -/
def g23 : RC :=
  (.seq (.reg [⟨(some 2), none, .o (.box 25 (.t 0))⟩,
    ⟨(some 4), none, .o (.v (.mov (.c (.lit (.slice none 0 0)))))⟩,
    ⟨(some 5), none, .o (.v (.mov (.c (.int .i64 (0)))))⟩])
  (.seq (.seq (.reg [⟨(some 8), none, .o (.v (.load (.t 2) (some 8)))⟩,
    ⟨(some 9), none, .o (.v (.mov (.t 1)))⟩,
    ⟨(some 10), none, .o (.call (.c (.fn 47 [])) [(.t 8), (.t 9)])⟩,
    ⟨(some 6), none, .o (.v (.mov (.t 10)))⟩])
  (.seq (.reg [⟨(some 11), none, .o (.v (.mov (.t 6)))⟩,
    ⟨(some 12), none, .o (.v (.bin .neq (.t 11) (.c (.int .i64 (0)))))⟩])
  (.cond (.t 12)
    (.seq (.reg [⟨(some 13), none, .o (.v (.mov (.t 6)))⟩,
      ⟨(some 4), none, .o (.v (.mov (.c (.lit (.slice none 0 0)))))⟩,
      ⟨(some 5), none, .o (.v (.mov (.t 13)))⟩])
    .ret)
    .skip)))
  (.seq (.reg [⟨(some 14), none, .o (.v (.load (.t 2) (some 8)))⟩,
    ⟨(some 15), none, .o (.bld [(.int .i64 (0)), (.int .i64 (0)), (.int .i64 (0)), (.int .i64 (0)), (.int .i64 (0)), (.int .i64 (0)), (.int .i64 (0)), (.int .i64 (0))] [(0, 8, (.t 14))])⟩,
    ⟨(some 16), none, .o (.v (.mov (.t 1)))⟩,
    ⟨(some 17), none, .o (.call (.c (.fn 59 [])) [(.t 15), (.t 16)])⟩,
    ⟨(some 18), none, .o (.call (.c (.fn 60 [])) [(.t 17)])⟩,
    ⟨(some 7), none, .o (.v (.mov (.t 18)))⟩])
  (.seq (.seq (.reg [⟨(some 19), none, .o (.v (.mov (.t 7)))⟩,
    ⟨(some 20), none, .o (.v (.len (.t 19)))⟩,
    ⟨(some 21), none, .o (.v (.bin .eql (.t 20) (.c (.int .i64 (0)))))⟩])
  (.cond (.t 21)
    (.seq (.reg [⟨(some 4), none, .o (.v (.mov (.c (.lit (.slice none 0 0)))))⟩,
      ⟨(some 5), none, .o (.v (.mov (.c (.int .i64 (4)))))⟩])
    .ret)
    .skip))
  (.seq (.reg [⟨(some 22), none, .o (.v (.mov (.t 7)))⟩,
    ⟨(some 4), none, .o (.v (.mov (.t 22)))⟩,
    ⟨(some 5), none, .o (.v (.mov (.c (.int .i64 (0)))))⟩])
  .ret)))))
theorem h23 : FdOk Try.prog 23 ⟨g23, [.t 4, .t 5], 23, []⟩ := .of Try.func23 (by simp [Try.f23]) (by kernel_rfl)
/-- octant/octantref00.Same -/
def g25 : RC :=
  (.seq (.reg [⟨(some 4), none, .o (.v (.mov (.c (.lit (.bool false)))))⟩])
  (.seq (.seq (.reg [⟨(some 6), none, .o (.v (.mov (.t 0)))⟩,
    ⟨(some 7), none, .o (.v (.len (.t 6)))⟩,
    ⟨(some 8), none, .o (.v (.mov (.t 1)))⟩,
    ⟨(some 9), none, .o (.v (.len (.t 8)))⟩,
    ⟨(some 10), none, .o (.v (.bin .neq (.t 7) (.t 9)))⟩])
  (.cond (.t 10)
    (.seq (.reg [⟨(some 4), none, .o (.v (.mov (.c (.lit (.bool false)))))⟩])
    .ret)
    .skip))
  (.seq (.seq (.reg [⟨(some 5), none, .o (.v (.mov (.c (.int .i64 (0)))))⟩])
  (.block 0 (.loop
    (.seq (.seq (.reg [⟨(some 11), none, .o (.v (.mov (.t 5)))⟩,
      ⟨(some 12), none, .o (.v (.mov (.t 0)))⟩,
      ⟨(some 13), none, .o (.v (.len (.t 12)))⟩,
      ⟨(some 14), none, .o (.v (.bin .lss (.t 11) (.t 13)))⟩])
    (.cond (.t 14)
      .skip
      (.exit 0)))
    (.seq (.block 1 (.seq (.drw [⟨[], 0, 0, [(⟨(some 17), none, .o (.v (.mov (.t 0)))⟩, .val 0 []),
      (⟨(some 18), none, .o (.v (.mov (.t 5)))⟩, .val 0 []),
      (⟨(some 19), none, .o (.v (.ixa (.t 17) (.t 18) 1))⟩, .val 0 []),
      (⟨(some 20), none, .o (.v (.load (.t 19) none))⟩, .val 0 []),
      (⟨(some 21), none, .o (.v (.mov (.t 1)))⟩, .val 0 []),
      (⟨(some 22), none, .o (.v (.mov (.t 5)))⟩, .val 0 []),
      (⟨(some 23), none, .o (.v (.ixa (.t 21) (.t 22) 1))⟩, .val 0 []),
      (⟨(some 24), none, .o (.v (.load (.t 23) none))⟩, .val 0 [])],
      [],
      [⟨(some 25), none, .o (.v (.bin .neq (.t 20) (.t 24)))⟩], none⟩])
    (.cond (.t 25)
      (.seq (.reg [⟨(some 4), none, .o (.v (.mov (.c (.lit (.bool false)))))⟩])
      .ret)
      .skip)))
    (.reg [⟨(some 15), none, .o (.v (.mov (.t 5)))⟩,
      ⟨(some 16), none, .o (.v (.bin .add (.t 15) (.c (.int .i64 (1)))))⟩,
      ⟨(some 5), none, .o (.v (.mov (.t 16)))⟩]))))))
  (.seq (.reg [⟨(some 4), none, .o (.v (.mov (.c (.lit (.bool true)))))⟩])
  .ret))))
theorem h25 : FdOk Try.prog 25 ⟨g25, [.t 4], 26, []⟩ := .of Try.func25 (by simp [Try.f25]) (by kernel_rfl)
/-- octant/level.Next -/
def g26 : RC :=
  (.seq (.reg [⟨(some 2), none, .o (.box 25 (.t 0))⟩,
    ⟨(some 4), none, .o (.v (.mov (.c (.lit (.bool false)))))⟩,
    ⟨(some 5), none, .o (.v (.mov (.c (.int .i64 (0)))))⟩,
    ⟨(some 6), none, .o (.v (.mov (.c (.int .i64 (0)))))⟩])
  (.seq (.seq (.reg [⟨(some 11), none, .o (.v (.load (.t 2) (some 8)))⟩,
    ⟨(some 12), none, .o (.v (.mov (.t 1)))⟩,
    ⟨(some 13), none, .o (.call (.c (.fn 47 [])) [(.t 11), (.t 12)])⟩,
    ⟨(some 7), none, .o (.v (.mov (.t 13)))⟩])
  (.seq (.reg [⟨(some 14), none, .o (.v (.mov (.t 7)))⟩,
    ⟨(some 15), none, .o (.v (.bin .neq (.t 14) (.c (.int .i64 (0)))))⟩])
  (.cond (.t 15)
    (.seq (.reg [⟨(some 16), none, .o (.v (.mov (.t 7)))⟩,
      ⟨(some 4), none, .o (.v (.mov (.c (.lit (.bool false)))))⟩,
      ⟨(some 5), none, .o (.v (.mov (.c (.int .i64 (0)))))⟩,
      ⟨(some 6), none, .o (.v (.mov (.t 16)))⟩])
    .ret)
    .skip)))
  (.seq (.seq (.reg [⟨(some 17), none, .o (.v (.mov (.t 1)))⟩,
    ⟨(some 18), none, .o (.v (.len (.t 17)))⟩,
    ⟨(some 19), none, .o (.v (.bin .eql (.t 18) (.c (.int .i64 (8)))))⟩])
  (.cond (.t 19)
    (.seq (.reg [⟨(some 4), none, .o (.v (.mov (.c (.lit (.bool false)))))⟩,
      ⟨(some 5), none, .o (.v (.mov (.c (.int .i64 (0)))))⟩,
      ⟨(some 6), none, .o (.v (.mov (.c (.int .i64 (6)))))⟩])
    .ret)
    .skip))
  (.seq (.reg [⟨(some 20), none, .o (.v (.load (.t 2) (some 8)))⟩,
    ⟨(some 21), none, .o (.bld [(.int .i64 (0)), (.int .i64 (0)), (.int .i64 (0)), (.int .i64 (0)), (.int .i64 (0)), (.int .i64 (0)), (.int .i64 (0)), (.int .i64 (0))] [(0, 8, (.t 20))])⟩,
    ⟨(some 8), none, .o (.new 78 [(.int .i64 (0)), (.int .i64 (0)), (.int .i64 (0)), (.int .i64 (0)), (.int .i64 (0)), (.int .i64 (0)), (.int .i64 (0)), (.int .i64 (0))])⟩,
    ⟨none, none, .o (.store 8 (.t 8) (.t 21))⟩])
  (.seq (.reg [⟨(some 22), none, .o (.v (.load (.t 8) (some 8)))⟩,
    ⟨(some 23), none, .o (.v (.mov (.t 1)))⟩,
    ⟨(some 24), none, .o (.call (.c (.fn 49 [])) [(.t 22), (.t 23)])⟩,
    ⟨(some 9), none, .o (.v (.mov (.t 24)))⟩])
  (.seq (.seq (.reg [⟨(some 25), none, .o (.v (.load (.t 8) (some 8)))⟩,
    ⟨(some 26), none, .o (.v (.mov (.t 9)))⟩,
    ⟨(some 27), none, .o (.call (.c (.fn 56 [])) [(.t 25), (.t 26)])⟩,
    ⟨(some 28), none, .o (.call (.c (.fn 57 [])) [])⟩,
    ⟨(some 29), none, .o (.v (.eqs [(some .i64), (some .i64), (some .i64), (some .i64)] false (.t 27) (.t 28)))⟩])
  (.cond (.t 29)
    (.seq (.reg [⟨(some 4), none, .o (.v (.mov (.c (.lit (.bool false)))))⟩,
      ⟨(some 5), none, .o (.v (.mov (.c (.int .i64 (0)))))⟩,
      ⟨(some 6), none, .o (.v (.mov (.c (.int .i64 (33)))))⟩])
    .ret)
    .skip))
  (.seq (.reg [⟨(some 30), none, .o (.v (.load (.t 8) (some 8)))⟩,
    ⟨(some 31), none, .o (.v (.mov (.t 9)))⟩,
    ⟨(some 32), none, .o (.call (.c (.fn 62 [])) [(.t 30), (.t 31)])⟩,
    ⟨(some 10), none, .o (.new 99 [(.lit (.bool false)), (.int .i64 (0))])⟩,
    ⟨none, none, .o (.store 2 (.t 10) (.t 32))⟩])
  (.seq (.drw [⟨[], 0, 0, [(⟨(some 33), none, .o (.v (.off (.t 10) 0))⟩, .val 0 []),
    (⟨(some 34), none, .o (.v (.load (.t 33) none))⟩, .val 0 []),
    (⟨(some 35), none, .o (.v (.off (.t 10) 1))⟩, .val 0 []),
    (⟨(some 36), none, .o (.v (.load (.t 35) none))⟩, .val 0 []),
    (⟨(some 4), none, .o (.v (.mov (.t 34)))⟩, .val 0 [])],
    [],
    [⟨(some 5), none, .o (.v (.mov (.t 36)))⟩,
    ⟨(some 6), none, .o (.v (.mov (.c (.int .i64 (0)))))⟩], none⟩])
  .ret))))))))
theorem h26 : FdOk Try.prog 26 ⟨g26, [.t 4, .t 5, .t 6], 37, []⟩ := .of Try.func26 (by simp [Try.f26]) (by kernel_rfl)
/-- octant/level.Clicks -/
def g28 : RC :=
  (.seq (.reg [⟨(some 3), none, .o (.box 23 (.t 0))⟩,
    ⟨(some 6), none, .o (.v (.mov (.c (.int .i64 (0)))))⟩,
    ⟨(some 7), none, .o (.v (.mov (.c (.int .i64 (0)))))⟩])
  (.seq (.seq (.reg [⟨(some 10), none, .o (.v (.load (.t 3) (some 2)))⟩,
    ⟨(some 11), none, .o (.call (.c (.fn 64 [])) [(.t 10), (.c (.int .i64 (-1000000))), (.c (.int .i64 (1000000)))])⟩,
    ⟨(some 12), none, .o (.v (.not (.t 11)))⟩,
    ⟨(some 13), none, .o (.v (.mov (.t 12)))⟩,
    ⟨(some 14), (some (13, false)), .o (.v (.mov (.t 1)))⟩,
    ⟨(some 15), (some (13, false)), .o (.call (.c (.fn 65 [])) [(.t 14), (.c (.int .i64 (1))), (.c (.int .i64 (100)))])⟩,
    ⟨(some 16), (some (13, false)), .o (.v (.not (.t 15)))⟩,
    ⟨(some 17), none, .o (.v (.pick (.t 13) (.c (.lit (.bool true))) (.t 16)))⟩,
    ⟨(some 18), none, .o (.v (.mov (.t 17)))⟩,
    ⟨(some 19), (some (18, false)), .o (.v (.mov (.t 2)))⟩,
    ⟨(some 20), (some (18, false)), .o (.call (.c (.fn 65 [])) [(.t 19), (.c (.int .i64 (0))), (.c (.int .i64 (1000000)))])⟩,
    ⟨(some 21), (some (18, false)), .o (.v (.not (.t 20)))⟩,
    ⟨(some 22), none, .o (.v (.pick (.t 18) (.c (.lit (.bool true))) (.t 21)))⟩])
  (.cond (.t 22)
    (.seq (.reg [⟨(some 6), none, .o (.v (.mov (.c (.int .i64 (0)))))⟩,
      ⟨(some 7), none, .o (.v (.mov (.c (.int .i64 (7)))))⟩])
    .ret)
    .skip))
  (.seq (.drw [⟨[], 0, 1, [(⟨(some 23), none, .o (.v (.mov (.t 2)))⟩, .val 0 []),
    (⟨(some 24), none, .o (.v (.neg (.t 23)))⟩, .val 0 []),
    (⟨(some 25), none, .o (.v (.off (.t 3) 0))⟩, .val 0 []),
    (⟨(some 26), none, .o (.v (.load (.t 25) none))⟩, .val 0 []),
    (⟨(some 27), none, .o (.v (.bin .sub (.t 24) (.t 26)))⟩, .val 0 []),
    (⟨(some 28), none, .o (.v (.mov (.t 1)))⟩, .val 0 []),
    (⟨(some 29), none, .o (.call (.c (.fn 66 [])) [(.t 27), (.t 28)])⟩, .eff 0 []),
    (⟨(some 30), none, .o (.v (.mov (.t 2)))⟩, .val 0 []),
    (⟨(some 31), none, .o (.v (.off (.t 3) 1))⟩, .val 0 []),
    (⟨(some 32), none, .o (.v (.load (.t 31) none))⟩, .val 0 []),
    (⟨(some 33), none, .o (.v (.bin .sub (.t 30) (.t 32)))⟩, .val 0 []),
    (⟨(some 34), none, .o (.v (.mov (.t 1)))⟩, .val 0 [])],
    [],
    [⟨(some 35), none, .o (.call (.c (.fn 67 [])) [(.t 33), (.t 34)])⟩,
    ⟨(some 8), none, .o (.v (.mov (.t 29)))⟩,
    ⟨(some 9), none, .o (.v (.mov (.t 35)))⟩], none⟩])
  (.seq (.seq (.reg [⟨(some 36), none, .o (.v (.mov (.t 8)))⟩,
    ⟨(some 37), none, .o (.v (.mov (.t 9)))⟩,
    ⟨(some 38), none, .o (.v (.bin .gtr (.t 36) (.t 37)))⟩])
  (.cond (.t 38)
    (.seq (.reg [⟨(some 6), none, .o (.v (.mov (.c (.int .i64 (0)))))⟩,
      ⟨(some 7), none, .o (.v (.mov (.c (.int .i64 (4)))))⟩])
    .ret)
    .skip))
  (.seq (.reg [⟨(some 39), none, .o (.v (.mov (.t 8)))⟩,
    ⟨(some 40), none, .o (.v (.max2 (.c (.int .i64 (0))) (.t 39)))⟩,
    ⟨(some 41), none, .o (.v (.mov (.t 9)))⟩,
    ⟨(some 42), none, .o (.v (.min2 (.t 40) (.t 41)))⟩,
    ⟨(some 6), none, .o (.v (.mov (.t 42)))⟩,
    ⟨(some 7), none, .o (.v (.mov (.c (.int .i64 (0)))))⟩])
  .ret)))))
theorem h28 : FdOk Try.prog 28 ⟨g28, [.t 6, .t 7], 43, []⟩ := .of Try.func28 (by simp [Try.f28]) (by kernel_rfl)
/-- octant/level.Choose -/
def g30 : RC :=
  (.seq (.reg [⟨(some 5), none, .o (.box 49 (.t 2))⟩,
    ⟨(some 6), none, .o (.v (.mov (.c (.int .i64 (0)))))⟩,
    ⟨(some 7), none, .o (.v (.mov (.c (.int .i64 (0)))))⟩])
  (.seq (.seq (.reg [⟨(some 9), none, .o (.v (.mov (.t 0)))⟩,
    ⟨(some 10), none, .o (.v (.mov (.t 1)))⟩,
    ⟨(some 11), none, .o (.call (.c (.fn 69 [])) [(.t 9), (.t 10)])⟩,
    ⟨(some 12), none, .o (.v (.not (.t 11)))⟩,
    ⟨(some 13), none, .o (.v (.mov (.t 12)))⟩,
    ⟨(some 14), (some (13, false)), .o (.v (.load (.t 5) (some 2)))⟩,
    ⟨(some 15), (some (13, false)), .o (.call (.c (.fn 70 [])) [(.t 14)])⟩,
    ⟨(some 16), (some (13, false)), .o (.v (.not (.t 15)))⟩,
    ⟨(some 17), none, .o (.v (.pick (.t 13) (.c (.lit (.bool true))) (.t 16)))⟩])
  (.cond (.t 17)
    (.seq (.reg [⟨(some 6), none, .o (.v (.mov (.c (.int .i64 (0)))))⟩,
      ⟨(some 7), none, .o (.v (.mov (.c (.int .i64 (34)))))⟩])
    .ret)
    .skip))
  (.seq (.reg [⟨(some 18), none, .o (.v (.mov (.t 0)))⟩,
    ⟨(some 19), none, .o (.v (.mov (.t 1)))⟩,
    ⟨(some 20), none, .o (.v (.load (.t 5) (some 2)))⟩,
    ⟨(some 21), none, .o (.call (.c (.fn 71 [])) [(.t 18), (.t 19), (.t 20)])⟩,
    ⟨(some 8), none, .o (.v (.mov (.t 21)))⟩])
  (.seq (.seq (.reg [⟨(some 22), none, .o (.v (.mov (.t 8)))⟩,
    ⟨(some 23), none, .o (.v (.len (.t 22)))⟩,
    ⟨(some 24), none, .o (.v (.bin .eql (.t 23) (.c (.int .i64 (0)))))⟩])
  (.cond (.t 24)
    (.seq (.reg [⟨(some 6), none, .o (.v (.mov (.c (.int .i64 (0)))))⟩,
      ⟨(some 7), none, .o (.v (.mov (.c (.int .i64 (4)))))⟩])
    .ret)
    .skip))
  (.seq (.drw [⟨[8, 25, 26, 28, 27, 29, 30, 31], 0, 0, [(⟨(some 25), none, .o (.v (.mov (.t 8)))⟩, .val 0 []),
    (⟨(some 26), none, .o (.v (.ixa (.t 25) (.c (.int .i64 (0))) 2))⟩, .val 0 []),
    (⟨(some 27), none, .o (.v (.load (.t 26) (some 2)))⟩, .val 0 []),
    (⟨(some 28), none, .o (.v (.mov (.t 8)))⟩, .val 0 []),
    (⟨(some 29), none, .o (.slc (.t 28) (some (.c (.int .i64 (1)))) none none 2)⟩, .val 0 [])],
    [],
    [⟨(some 30), none, .o (.call (.c (.fn 72 [])) [(.c (.fn 73 [])), (.t 27), (.t 29)])⟩,
    ⟨(some 31), none, .o (.v (.fld (.t 30) 0 none))⟩,
    ⟨(some 6), none, .o (.v (.mov (.t 31)))⟩,
    ⟨(some 7), none, .o (.v (.mov (.c (.int .i64 (0)))))⟩], none⟩])
  .ret)))))
theorem h30 : FdOk Try.prog 30 ⟨g30, [.t 6, .t 7], 32, []⟩ := .of Try.func30 (by simp [Try.f30]) (by kernel_rfl)
/-- octant/octantlaw03.vial -/
def g43 : RC :=
  (.seq (.reg [⟨(some 0), none, .o (.new 25 [(.int .i64 (0)), (.int .i64 (0)), (.int .i64 (0)), (.int .i64 (0)), (.int .i64 (0)), (.int .i64 (0)), (.int .i64 (0)), (.int .i64 (0))])⟩])
  (.seq (.reg [⟨(some 1), none, .o (.call (.c (.fn 44 [])) [(.c (.int .i64 (16))), (.c (.int .i64 (20)))])⟩,
    ⟨(some 2), none, .o (.call (.c (.fn 44 [])) [(.c (.int .i64 (50))), (.c (.int .i64 (52)))])⟩,
    ⟨(some 3), none, .o (.call (.c (.fn 44 [])) [(.c (.int .i64 (38))), (.c (.int .i64 (42)))])⟩,
    ⟨(some 4), none, .o (.bld [(.int .i64 (0)), (.int .i64 (0)), (.int .i64 (0)), (.int .i64 (0)), (.int .i64 (0)), (.int .i64 (0)), (.int .i64 (0)), (.int .i64 (0))] [(0, 1, (.c (.int .i64 (40)))), (1, 2, (.t 1)), (3, 2, (.t 2)), (5, 2, (.t 3)), (7, 1, (.c (.int .i64 (1))))])⟩,
    ⟨none, none, .o (.store 8 (.t 0) (.t 4))⟩])
  .ret))
theorem h43 : FdOk Try.prog 43 ⟨g43, [.c 0 (some 8)], 5, []⟩ := .of Try.func43 (by simp [Try.f43]) (by kernel_rfl)
/-- octant/octantlaw03.to -/
def g44 : RC :=
  (.seq (.reg [⟨(some 4), none, .o (.new 23 [(.int .i64 (0)), (.int .i64 (0))])⟩])
  (.seq (.reg [⟨(some 5), none, .o (.v (.mov (.t 0)))⟩,
    ⟨(some 6), none, .o (.v (.mov (.t 1)))⟩,
    ⟨(some 7), none, .o (.bld [(.int .i64 (0)), (.int .i64 (0))] [(0, 1, (.t 5)), (1, 1, (.t 6))])⟩,
    ⟨none, none, .o (.store 2 (.t 4) (.t 7))⟩])
  .ret))
theorem h44 : FdOk Try.prog 44 ⟨g44, [.c 4 (some 2)], 8, []⟩ := .of Try.func44 (by simp [Try.f44]) (by kernel_rfl)
/-- octant/octantlaw03.readings -/
def g45 : RC :=
  (.seq (.reg [⟨(some 0), none, .o (.v (.mov (.c (.lit (.slice none 0 0)))))⟩])
  (.seq (.reg [⟨(some 1), none, .o (.bld [(.int .i64 (0)), (.int .i64 (0)), (.lit (.bool false))] [(0, 1, (.c (.int .i64 (14)))), (1, 1, (.c (.int .i64 (32))))])⟩,
    ⟨(some 2), none, .o (.bld [(.int .i64 (0)), (.int .i64 (0)), (.lit (.bool false))] [(0, 1, (.c (.int .i64 (9)))), (1, 1, (.c (.int .i64 (27)))), (2, 1, (.c (.lit (.bool true))))])⟩,
    ⟨(some 3), none, .o (.bld [(.int .i64 (0)), (.int .i64 (0)), (.lit (.bool false))] [(0, 1, (.c (.int .i64 (5)))), (1, 1, (.c (.int .i64 (23)))), (2, 1, (.c (.lit (.bool true))))])⟩,
    ⟨(some 4), none, .o (.bsl 57 3 [(.int .i64 (0)), (.int .i64 (0)), (.lit (.bool false)), (.int .i64 (0)), (.int .i64 (0)), (.lit (.bool false)), (.int .i64 (0)), (.int .i64 (0)), (.lit (.bool false))] [(0, 3, (.t 1)), (3, 3, (.t 2)), (6, 3, (.t 3))])⟩,
    ⟨(some 0), none, .o (.v (.mov (.t 4)))⟩])
  .ret))
theorem h45 : FdOk Try.prog 45 ⟨g45, [.t 0], 5, []⟩ := .of Try.func45 (by simp [Try.f45]) (by kernel_rfl)
/-- octant/octantlaw03.other -/
def g46 : RC :=
  (.seq (.reg [⟨(some 0), none, .o (.new 25 [(.int .i64 (0)), (.int .i64 (0)), (.int .i64 (0)), (.int .i64 (0)), (.int .i64 (0)), (.int .i64 (0)), (.int .i64 (0)), (.int .i64 (0))])⟩])
  (.seq (.reg [⟨(some 1), none, .o (.call (.c (.fn 44 [])) [(.c (.int .i64 (20))), (.c (.int .i64 (24)))])⟩,
    ⟨(some 2), none, .o (.call (.c (.fn 44 [])) [(.c (.int .i64 (20))), (.c (.int .i64 (20)))])⟩,
    ⟨(some 3), none, .o (.call (.c (.fn 44 [])) [(.c (.int .i64 (58))), (.c (.int .i64 (62)))])⟩,
    ⟨(some 4), none, .o (.bld [(.int .i64 (0)), (.int .i64 (0)), (.int .i64 (0)), (.int .i64 (0)), (.int .i64 (0)), (.int .i64 (0)), (.int .i64 (0)), (.int .i64 (0))] [(0, 1, (.c (.int .i64 (60)))), (1, 2, (.t 1)), (3, 2, (.t 2)), (5, 2, (.t 3)), (7, 1, (.c (.int .i64 (1))))])⟩,
    ⟨none, none, .o (.store 8 (.t 0) (.t 4))⟩])
  .ret))
theorem h46 : FdOk Try.prog 46 ⟨g46, [.c 0 (some 8)], 5, []⟩ := .of Try.func46 (by simp [Try.f46]) (by kernel_rfl)
/-- octant/level.checkReadings -/
def g47 : RC :=
  (.seq (.reg [⟨(some 2), none, .o (.box 25 (.t 0))⟩,
    ⟨(some 4), none, .o (.v (.mov (.c (.int .i64 (0)))))⟩])
  (.seq (.seq (.reg [⟨(some 6), none, .o (.v (.load (.t 2) (some 8)))⟩,
    ⟨(some 7), none, .o (.call (.c (.fn 18 [])) [(.t 6)])⟩,
    ⟨(some 5), none, .o (.v (.mov (.t 7)))⟩])
  (.seq (.reg [⟨(some 8), none, .o (.v (.mov (.t 5)))⟩,
    ⟨(some 9), none, .o (.v (.bin .neq (.t 8) (.c (.int .i64 (0)))))⟩])
  (.cond (.t 9)
    (.seq (.reg [⟨(some 10), none, .o (.v (.mov (.t 5)))⟩,
      ⟨(some 4), none, .o (.v (.mov (.t 10)))⟩])
    .ret)
    .skip)))
  (.seq (.seq (.reg [⟨(some 11), none, .o (.v (.load (.t 2) (some 8)))⟩,
    ⟨(some 12), none, .o (.bld [(.int .i64 (0)), (.int .i64 (0)), (.int .i64 (0)), (.int .i64 (0)), (.int .i64 (0)), (.int .i64 (0)), (.int .i64 (0)), (.int .i64 (0))] [(0, 8, (.t 11))])⟩,
    ⟨(some 13), none, .o (.v (.mov (.t 1)))⟩,
    ⟨(some 14), none, .o (.call (.c (.fn 76 [])) [(.t 12), (.t 13)])⟩,
    ⟨(some 15), none, .o (.v (.not (.t 14)))⟩])
  (.cond (.t 15)
    (.seq (.reg [⟨(some 4), none, .o (.v (.mov (.c (.int .i64 (31)))))⟩])
    .ret)
    .skip))
  (.seq (.reg [⟨(some 4), none, .o (.v (.mov (.c (.int .i64 (0)))))⟩])
  .ret))))
theorem h47 : FdOk Try.prog 47 ⟨g47, [.t 4], 16, []⟩ := .of Try.func47 (by simp [Try.f47]) (by kernel_rfl)
/-- (octant/level.vial).haveTruth -/
def g48 : RC :=
  (.seq (.reg [⟨(some 2), none, .o (.box 78 (.t 0))⟩,
    ⟨(some 3), none, .o (.box 28 (.t 1))⟩,
    ⟨(some 4), none, .o (.v (.mov (.c (.lit (.bool false)))))⟩])
  (.seq (.reg [⟨(some 5), none, .o (.v (.off (.t 3) 0))⟩,
    ⟨(some 6), none, .o (.v (.load (.t 5) none))⟩,
    ⟨(some 7), none, .o (.v (.off (.t 2) 0))⟩,
    ⟨(some 8), none, .o (.v (.off (.t 7) 3))⟩,
    ⟨(some 9), none, .o (.v (.off (.t 8) 0))⟩,
    ⟨(some 10), none, .o (.v (.load (.t 9) none))⟩,
    ⟨(some 11), none, .o (.v (.off (.t 2) 0))⟩,
    ⟨(some 12), none, .o (.v (.off (.t 11) 3))⟩,
    ⟨(some 13), none, .o (.v (.off (.t 12) 1))⟩,
    ⟨(some 14), none, .o (.v (.load (.t 13) none))⟩,
    ⟨(some 15), none, .o (.call (.c (.fn 65 [])) [(.t 6), (.t 10), (.t 14)])⟩,
    ⟨(some 16), none, .o (.v (.mov (.t 15)))⟩,
    ⟨(some 17), (some (16, true)), .o (.v (.off (.t 3) 1))⟩,
    ⟨(some 18), (some (16, true)), .o (.v (.load (.t 17) none))⟩,
    ⟨(some 19), (some (16, true)), .o (.v (.off (.t 2) 0))⟩,
    ⟨(some 20), (some (16, true)), .o (.v (.off (.t 19) 5))⟩,
    ⟨(some 21), (some (16, true)), .o (.v (.off (.t 20) 0))⟩,
    ⟨(some 22), (some (16, true)), .o (.v (.load (.t 21) none))⟩,
    ⟨(some 23), (some (16, true)), .o (.v (.off (.t 2) 0))⟩,
    ⟨(some 24), (some (16, true)), .o (.v (.off (.t 23) 5))⟩,
    ⟨(some 25), (some (16, true)), .o (.v (.off (.t 24) 1))⟩,
    ⟨(some 26), (some (16, true)), .o (.v (.load (.t 25) none))⟩,
    ⟨(some 27), (some (16, true)), .o (.call (.c (.fn 65 [])) [(.t 18), (.t 22), (.t 26)])⟩,
    ⟨(some 28), none, .o (.v (.pick (.t 16) (.t 27) (.c (.lit (.bool false)))))⟩,
    ⟨(some 4), none, .o (.v (.mov (.t 28)))⟩])
  .ret))
theorem h48 : FdOk Try.prog 48 ⟨g48, [.t 4], 29, []⟩ := .of Try.func48 (by simp [Try.f48]) (by kernel_rfl)
/-- (octant/level.vial).middles -/
def g49 : RC :=
  (.seq (.reg [⟨(some 2), none, .o (.box 78 (.t 0))⟩,
    ⟨(some 4), none, .o (.v (.mov (.c (.lit (.map none)))))⟩])
  (.seq (.reg [⟨(some 8), none, .mkm⟩,
    ⟨(some 5), none, .o (.v (.mov (.t 8)))⟩])
  (.seq (.seq (.reg [⟨(some 9), none, .o (.v (.mov (.t 1)))⟩,
    ⟨(some 10), none, .o (.v (.len (.t 9)))⟩,
    ⟨(some 11), none, .o (.v (.mov (.c (.int .i64 (0)))))⟩])
  (.block 0 (.loop
    (.seq (.reg [⟨(some 12), none, .o (.v (.bin .lss (.t 11) (.t 10)))⟩])
    (.seq (.cond (.t 12)
      .skip
      (.exit 0))
    (.seq (.block 1 (.seq (.reg [⟨(some 13), none, .o (.v (.ixa (.t 9) (.t 11) 3))⟩,
      ⟨(some 14), none, .o (.v (.load (.t 13) (some 3)))⟩,
      ⟨(some 7), none, .o (.new 57 [(.int .i64 (0)), (.int .i64 (0)), (.lit (.bool false))])⟩,
      ⟨none, none, .o (.store 3 (.t 7) (.t 14))⟩])
    (.reg [⟨(some 15), none, .o (.v (.load (.t 2) (some 8)))⟩,
      ⟨(some 16), none, .o (.v (.mov (.t 5)))⟩,
      ⟨(some 17), none, .o (.v (.load (.t 7) (some 3)))⟩,
      ⟨(some 18), none, .o (.call (.c (.fn 77 [])) [(.t 15), (.t 16), (.t 17)])⟩,
      ⟨(some 5), none, .o (.v (.mov (.t 18)))⟩])))
    (.reg [⟨(some 19), none, .o (.v (.bin .add (.t 11) (.c (.int .i64 (1)))))⟩,
      ⟨(some 11), none, .o (.v (.mov (.t 19)))⟩])))))))
  (.seq (.reg [⟨(some 20), none, .o (.v (.mov (.t 5)))⟩,
    ⟨(some 4), none, .o (.v (.mov (.t 20)))⟩])
  .ret))))
theorem h49 : FdOk Try.prog 49 ⟨g49, [.t 4], 21, []⟩ := .of Try.func49 (by simp [Try.f49]) (by kernel_rfl)
/-- (octant/level.middles).agree -/
def g50 : RC :=
  (.seq (.reg [⟨(some 3), none, .o (.box 28 (.t 1))⟩,
    ⟨(some 4), none, .o (.v (.mov (.c (.lit (.bool false)))))⟩])
  (.seq (.seq (.reg [⟨(some 8), none, .o (.v (.mov (.t 0)))⟩,
    ⟨(some 9), none, .o (.call (.c (.fn 78 [])) [(.t 8)])⟩,
    ⟨(some 10), none, .o (.v (.len (.t 9)))⟩,
    ⟨(some 11), none, .o (.v (.mov (.c (.int .i64 (0)))))⟩])
  (.block 0 (.loop
    (.seq (.reg [⟨(some 12), none, .o (.v (.bin .lss (.t 11) (.t 10)))⟩])
    (.seq (.cond (.t 12)
      .skip
      (.exit 0))
    (.seq (.block 1 (.seq (.reg [⟨(some 13), none, .o (.v (.ixa (.t 9) (.t 11) 1))⟩,
      ⟨(some 14), none, .o (.v (.load (.t 13) none))⟩,
      ⟨(some 6), none, .o (.v (.mov (.t 14)))⟩])
    (.seq (.reg [⟨(some 15), none, .o (.v (.mov (.t 6)))⟩,
      ⟨(some 16), none, .o (.v (.off (.t 3) 1))⟩,
      ⟨(some 17), none, .o (.v (.load (.t 16) none))⟩,
      ⟨(some 18), none, .o (.inv [(145, 118), (146, 119)] (.t 15) [(.t 17)])⟩,
      ⟨(some 7), none, .o (.new 23 [(.int .i64 (0)), (.int .i64 (0))])⟩,
      ⟨none, none, .o (.store 2 (.t 7) (.t 18))⟩])
    (.seq (.reg [⟨(some 19), none, .o (.v (.off (.t 3) 2))⟩,
      ⟨(some 20), none, .o (.v (.load (.t 19) none))⟩,
      ⟨(some 21), none, .o (.v (.off (.t 3) 0))⟩,
      ⟨(some 22), none, .o (.v (.load (.t 21) none))⟩,
      ⟨(some 23), none, .o (.v (.off (.t 7) 0))⟩,
      ⟨(some 24), none, .o (.v (.load (.t 23) none))⟩,
      ⟨(some 25), none, .o (.v (.bin .mul (.t 22) (.t 24)))⟩,
      ⟨(some 26), none, .o (.v (.off (.t 3) 0))⟩,
      ⟨(some 27), none, .o (.v (.load (.t 26) none))⟩,
      ⟨(some 28), none, .o (.v (.off (.t 7) 1))⟩,
      ⟨(some 29), none, .o (.v (.load (.t 28) none))⟩,
      ⟨(some 30), none, .o (.v (.bin .mul (.t 27) (.t 29)))⟩,
      ⟨(some 31), none, .o (.call (.c (.fn 65 [])) [(.t 20), (.t 25), (.t 30)])⟩,
      ⟨(some 32), none, .o (.v (.not (.t 31)))⟩])
    (.cond (.t 32)
      (.seq (.reg [⟨(some 4), none, .o (.v (.mov (.c (.lit (.bool false)))))⟩])
      .ret)
      .skip)))))
    (.reg [⟨(some 33), none, .o (.v (.bin .add (.t 11) (.c (.int .i64 (1)))))⟩,
      ⟨(some 11), none, .o (.v (.mov (.t 33)))⟩])))))))
  (.seq (.reg [⟨(some 4), none, .o (.v (.mov (.c (.lit (.bool true)))))⟩])
  .ret)))
theorem h50 : FdOk Try.prog 50 ⟨g50, [.t 4], 34, []⟩ := .of Try.func50 (by simp [Try.f50]) (by kernel_rfl)
/-- (octant/level.vial).valid -/
def g54 : RC :=
  (.seq (.reg [⟨(some 1), none, .o (.box 78 (.t 0))⟩,
    ⟨(some 2), none, .o (.v (.mov (.c (.lit (.bool false)))))⟩])
  (.seq (.reg [⟨(some 3), none, .o (.v (.off (.t 1) 0))⟩,
    ⟨(some 4), none, .o (.v (.off (.t 3) 0))⟩,
    ⟨(some 5), none, .o (.v (.load (.t 4) none))⟩,
    ⟨(some 6), none, .o (.call (.c (.fn 65 [])) [(.t 5), (.c (.int .i64 (10))), (.c (.int .i64 (200)))])⟩,
    ⟨(some 7), none, .o (.v (.mov (.t 6)))⟩,
    ⟨(some 8), (some (7, true)), .o (.v (.off (.t 1) 0))⟩,
    ⟨(some 9), (some (7, true)), .o (.v (.off (.t 8) 1))⟩,
    ⟨(some 10), (some (7, true)), .o (.v (.load (.t 9) (some 2)))⟩,
    ⟨(some 11), (some (7, true)), .o (.v (.off (.t 1) 0))⟩,
    ⟨(some 12), (some (7, true)), .o (.v (.off (.t 11) 0))⟩,
    ⟨(some 13), (some (7, true)), .o (.v (.load (.t 12) none))⟩,
    ⟨(some 14), (some (7, true)), .o (.call (.c (.fn 64 [])) [(.t 10), (.c (.int .i64 (1))), (.t 13)])⟩,
    ⟨(some 15), none, .o (.v (.pick (.t 7) (.t 14) (.c (.lit (.bool false)))))⟩,
    ⟨(some 16), none, .o (.v (.mov (.t 15)))⟩,
    ⟨(some 17), (some (16, true)), .o (.v (.off (.t 1) 0))⟩,
    ⟨(some 18), (some (16, true)), .o (.v (.off (.t 17) 3))⟩,
    ⟨(some 19), (some (16, true)), .o (.v (.load (.t 18) (some 2)))⟩,
    ⟨(some 20), (some (16, true)), .o (.call (.c (.fn 64 [])) [(.t 19), (.c (.int .i64 (1))), (.c (.int .i64 (500)))])⟩,
    ⟨(some 21), none, .o (.v (.pick (.t 16) (.t 20) (.c (.lit (.bool false)))))⟩,
    ⟨(some 22), none, .o (.v (.mov (.t 21)))⟩,
    ⟨(some 23), (some (22, true)), .o (.v (.off (.t 1) 0))⟩,
    ⟨(some 24), (some (22, true)), .o (.v (.off (.t 23) 5))⟩,
    ⟨(some 25), (some (22, true)), .o (.v (.load (.t 24) (some 2)))⟩,
    ⟨(some 26), (some (22, true)), .o (.v (.off (.t 1) 0))⟩,
    ⟨(some 27), (some (22, true)), .o (.v (.off (.t 26) 0))⟩,
    ⟨(some 28), (some (22, true)), .o (.v (.load (.t 27) none))⟩,
    ⟨(some 29), (some (22, true)), .o (.v (.bin .mul (.c (.int .i64 (2))) (.t 28)))⟩,
    ⟨(some 30), (some (22, true)), .o (.call (.c (.fn 64 [])) [(.t 25), (.c (.int .i64 (0))), (.t 29)])⟩,
    ⟨(some 31), none, .o (.v (.pick (.t 22) (.t 30) (.c (.lit (.bool false)))))⟩,
    ⟨(some 32), none, .o (.v (.mov (.t 31)))⟩,
    ⟨(some 33), (some (32, true)), .o (.v (.off (.t 1) 0))⟩,
    ⟨(some 34), (some (32, true)), .o (.v (.off (.t 33) 7))⟩,
    ⟨(some 35), (some (32, true)), .o (.v (.load (.t 34) none))⟩,
    ⟨(some 36), (some (32, true)), .o (.call (.c (.fn 65 [])) [(.t 35), (.c (.int .i64 (0))), (.c (.int .i64 (8)))])⟩,
    ⟨(some 37), none, .o (.v (.pick (.t 32) (.t 36) (.c (.lit (.bool false)))))⟩,
    ⟨(some 2), none, .o (.v (.mov (.t 37)))⟩])
  .ret))
theorem h54 : FdOk Try.prog 54 ⟨g54, [.t 2], 38, []⟩ := .of Try.func54 (by simp [Try.f54]) (by kernel_rfl)
/-- (octant/level.vial).truths -/
def g56 : RC :=
  (.seq (.reg [⟨(some 2), none, .o (.box 78 (.t 0))⟩,
    ⟨(some 4), none, .o (.new 88 [(.int .i64 (0)), (.int .i64 (0)), (.int .i64 (0)), (.int .i64 (0))])⟩])
  (.scp (.seq (.reg [⟨(some 11), none, .o (.call (.c (.fn 57 [])) [])⟩,
    ⟨(some 12), none, .o (.v (.mov (.t 1)))⟩,
    ⟨(some 13), none, .o (.call (.c (.fn 78 [])) [(.t 12)])⟩,
    ⟨(some 5), none, .o (.new 88 [(.int .i64 (0)), (.int .i64 (0)), (.int .i64 (0)), (.int .i64 (0))])⟩,
    ⟨(some 6), none, .o (.new 115 [(.lit (.slice none 0 0))])⟩,
    ⟨none, none, .o (.store 4 (.t 5) (.t 11))⟩,
    ⟨none, none, .o (.store 1 (.t 6) (.t 13))⟩])
  (.seq .skip
  (.seq (.seq (.reg [⟨(some 14), none, .o (.v (.load (.t 2) (some 8)))⟩,
    ⟨(some 15), none, .o (.call (.c (.fn 80 [])) [(.t 14)])⟩])
  (.block 0 (.rng (.t 15) [16]
    (.reg [⟨(some 7), none, .o (.v (.mov (.t 16)))⟩])
    (.block 1 (.seq (.reg [⟨(some 17), none, .o (.bld [(.int .i64 (0)), (.int .i64 (0))] [(0, 1, (.c (.int .i64 (-9223372036854775808)))), (1, 1, (.c (.int .i64 (9223372036854775807))))])⟩,
      ⟨(some 8), none, .o (.new 23 [(.int .i64 (0)), (.int .i64 (0))])⟩,
      ⟨none, none, .o (.store 2 (.t 8) (.t 17))⟩])
    (.seq (.seq (.reg [⟨(some 18), none, .o (.v (.load (.t 6) none))⟩,
      ⟨(some 19), none, .o (.v (.len (.t 18)))⟩,
      ⟨(some 20), none, .o (.v (.mov (.c (.int .i64 (0)))))⟩])
    (.block 2 (.loop
      (.seq (.reg [⟨(some 21), none, .o (.v (.bin .lss (.t 20) (.t 19)))⟩])
      (.seq (.cond (.t 21)
        .skip
        (.exit 2))
      (.seq (.block 3 (.seq (.reg [⟨(some 22), none, .o (.v (.ixa (.t 18) (.t 20) 1))⟩,
        ⟨(some 23), none, .o (.v (.load (.t 22) none))⟩,
        ⟨(some 10), none, .o (.v (.mov (.t 23)))⟩])
      (.seq (.drw [⟨[], 0, 1, [(⟨(some 24), none, .o (.v (.load (.t 8) (some 2)))⟩, .val 0 []),
        (⟨(some 25), none, .o (.v (.mov (.t 10)))⟩, .val 0 []),
        (⟨(some 26), none, .o (.v (.mov (.t 7)))⟩, .val 0 []),
        (⟨(some 27), none, .o (.inv [(145, 118), (146, 119)] (.t 25) [(.t 26)])⟩, .eff 0 [])],
        [],
        [⟨(some 28), none, .o (.call (.c (.fn 81 [])) [(.t 24), (.t 27)])⟩,
        ⟨none, none, .o (.store 2 (.t 8) (.t 28))⟩], none⟩])
      (.seq (.drw [⟨[], 0, 1, [(⟨(some 29), none, .o (.v (.load (.t 8) (some 2)))⟩, .val 0 []),
        (⟨(some 30), none, .o (.call (.c (.fn 82 [])) [])⟩, .eff 0 [])],
        [],
        [⟨(some 31), none, .o (.v (.eqs [(some .i64), (some .i64)] false (.t 29) (.t 30)))⟩], none⟩])
      (.cond (.t 31)
        (.exit 1)
        .skip)))))
      (.reg [⟨(some 32), none, .o (.v (.bin .add (.t 20) (.c (.int .i64 (1)))))⟩,
        ⟨(some 20), none, .o (.v (.mov (.t 32)))⟩])))))))
    (.seq (.drw [⟨[], 0, 1, [(⟨(some 33), none, .o (.v (.off (.t 5) 0))⟩, .val 0 []),
      (⟨(some 34), none, .o (.v (.load (.t 33) (some 2)))⟩, .val 0 []),
      (⟨(some 35), none, .o (.v (.load (.t 2) (some 8)))⟩, .val 0 []),
      (⟨(some 36), none, .o (.v (.load (.t 8) (some 2)))⟩, .val 0 []),
      (⟨(some 37), none, .o (.call (.c (.fn 84 [])) [(.t 35), (.t 36)])⟩, .eff 0 [])],
      [],
      [⟨(some 38), none, .o (.call (.c (.fn 83 [])) [(.t 34), (.t 37)])⟩,
      ⟨(some 39), none, .o (.v (.off (.t 5) 0))⟩,
      ⟨none, none, .o (.store 2 (.t 39) (.t 38))⟩], none⟩])
    (.reg [⟨(some 40), none, .o (.v (.off (.t 5) 2))⟩,
      ⟨(some 41), none, .o (.v (.load (.t 40) (some 2)))⟩,
      ⟨(some 42), none, .o (.v (.mov (.t 7)))⟩,
      ⟨(some 43), none, .o (.v (.mov (.t 7)))⟩,
      ⟨(some 44), none, .o (.bld [(.int .i64 (0)), (.int .i64 (0))] [(0, 1, (.t 42)), (1, 1, (.t 43))])⟩,
      ⟨(some 45), none, .o (.call (.c (.fn 83 [])) [(.t 41), (.t 44)])⟩,
      ⟨(some 46), none, .o (.v (.off (.t 5) 2))⟩,
      ⟨none, none, .o (.store 2 (.t 46) (.t 45))⟩]))))))))
  (.seq (.reg [⟨(some 47), none, .o (.v (.load (.t 5) (some 4)))⟩,
    ⟨none, none, .o (.store 4 (.t 4) (.t 47))⟩])
  .ret))))))
theorem h56 : FdOk Try.prog 56 ⟨g56, [.c 4 (some 4)], 48, []⟩ := .of Try.func56 (by simp [Try.f56]) (by kernel_rfl)
/-- octant/level.nothing -/
def g57 : RC :=
  (.seq (.reg [⟨(some 0), none, .o (.new 88 [(.int .i64 (0)), (.int .i64 (0)), (.int .i64 (0)), (.int .i64 (0))])⟩])
  (.seq (.reg [⟨(some 1), none, .o (.call (.c (.fn 82 [])) [])⟩,
    ⟨(some 2), none, .o (.call (.c (.fn 82 [])) [])⟩,
    ⟨(some 3), none, .o (.bld [(.int .i64 (0)), (.int .i64 (0)), (.int .i64 (0)), (.int .i64 (0))] [(0, 2, (.t 1)), (2, 2, (.t 2))])⟩,
    ⟨none, none, .o (.store 4 (.t 0) (.t 3))⟩])
  .ret))
theorem h57 : FdOk Try.prog 57 ⟨g57, [.c 0 (some 4)], 4, []⟩ := .of Try.func57 (by simp [Try.f57]) (by kernel_rfl)
/-- (octant/level.vial).fewestFalse -/
def g59 : RC :=
  (.seq (.reg [⟨(some 2), none, .o (.box 78 (.t 0))⟩,
    ⟨(some 3), none, .o (.box 26 (.t 1))⟩,
    ⟨(some 4), none, .o (.new 94 [(.lit (.bool false)), (.lit (.bool false)), (.lit (.bool false)), (.lit (.bool false)), (.lit (.bool false)), (.lit (.bool false)), (.lit (.bool false)), (.lit (.bool false))])⟩])
  (.seq (.reg [⟨(some 5), none, .o (.new 129 [(.lit .nilFunc)])⟩])
  (.seq (.reg [⟨(some 8), none, .o (.v (.mkfn 86 [(.t 2), (.t 3), (.t 5)]))⟩,
    ⟨none, none, .o (.store 1 (.t 5) (.t 8))⟩])
  (.seq (.seq (.reg [⟨(some 9), none, .o (.v (.load (.t 3) none))⟩,
    ⟨(some 10), none, .o (.v (.len (.t 9)))⟩,
    ⟨(some 11), none, .o (.v (.mov (.c (.int .i64 (0)))))⟩])
  (.block 0 (.loop
    (.seq (.reg [⟨(some 12), none, .o (.v (.bin .lss (.t 11) (.t 10)))⟩])
    (.seq (.cond (.t 12)
      .skip
      (.exit 0))
    (.seq (.block 1 (.seq (.reg [⟨(some 13), none, .o (.v (.mov (.t 11)))⟩,
      ⟨(some 6), none, .o (.v (.mov (.t 13)))⟩])
    (.seq (.reg [⟨(some 14), none, .o (.v (.load (.t 5) none))⟩,
      ⟨(some 15), none, .o (.bld [(.lit (.bool false)), (.lit (.bool false)), (.lit (.bool false)), (.lit (.bool false)), (.lit (.bool false)), (.lit (.bool false)), (.lit (.bool false)), (.lit (.bool false))] [])⟩,
      ⟨(some 16), none, .mkm⟩,
      ⟨(some 17), none, .o (.v (.mov (.t 6)))⟩,
      ⟨(some 18), none, .o (.v (.bin .add (.t 17) (.c (.int .i64 (1)))))⟩,
      ⟨(some 19), none, .o (.call (.t 14) [(.t 15), (.t 16), (.c (.int .i64 (0))), (.t 18)])⟩,
      ⟨(some 7), none, .o (.new 94 [(.lit (.bool false)), (.lit (.bool false)), (.lit (.bool false)), (.lit (.bool false)), (.lit (.bool false)), (.lit (.bool false)), (.lit (.bool false)), (.lit (.bool false))])⟩,
      ⟨none, none, .o (.store 8 (.t 7) (.t 19))⟩])
    (.seq (.reg [⟨(some 20), none, .o (.v (.load (.t 7) (some 8)))⟩,
      ⟨(some 21), none, .o (.bld [(.lit (.bool false)), (.lit (.bool false)), (.lit (.bool false)), (.lit (.bool false)), (.lit (.bool false)), (.lit (.bool false)), (.lit (.bool false)), (.lit (.bool false))] [])⟩,
      ⟨(some 22), none, .o (.v (.eqs [none, none, none, none, none, none, none, none] true (.t 20) (.t 21)))⟩])
    (.cond (.t 22)
      (.seq (.reg [⟨(some 23), none, .o (.v (.load (.t 7) (some 8)))⟩,
        ⟨none, none, .o (.store 8 (.t 4) (.t 23))⟩])
      .ret)
      .skip)))))
    (.reg [⟨(some 24), none, .o (.v (.bin .add (.t 11) (.c (.int .i64 (1)))))⟩,
      ⟨(some 11), none, .o (.v (.mov (.t 24)))⟩])))))))
  (.seq (.reg [⟨(some 25), none, .o (.bld [(.lit (.bool false)), (.lit (.bool false)), (.lit (.bool false)), (.lit (.bool false)), (.lit (.bool false)), (.lit (.bool false)), (.lit (.bool false)), (.lit (.bool false))] [])⟩,
    ⟨none, none, .o (.store 8 (.t 4) (.t 25))⟩])
  .ret)))))
theorem h59 : FdOk Try.prog 59 ⟨g59, [.c 4 (some 8)], 26, []⟩ := .of Try.func59 (by simp [Try.f59]) (by kernel_rfl)
/-- (octant/level.taken).list -/
def g60 : RC :=
  (.seq (.reg [⟨(some 1), none, .o (.box 94 (.t 0))⟩,
    ⟨(some 2), none, .o (.v (.mov (.c (.lit (.slice none 0 0)))))⟩])
  (.seq (.reg [⟨(some 3), none, .o (.v (.mov (.c (.lit (.slice none 0 0)))))⟩])
  (.seq (.seq (.reg [⟨(some 6), none, .o (.v (.load (.t 1) (some 8)))⟩,
    ⟨(some 7), none, .o (.v (.mov (.c (.int .i64 (0)))))⟩])
  (.block 0 (.loop
    (.seq (.reg [⟨(some 8), none, .o (.v (.bin .lss (.t 7) (.c (.int .i64 (8)))))⟩])
    (.seq (.cond (.t 8)
      .skip
      (.exit 0))
    (.seq (.block 1 (.seq (.reg [⟨(some 9), none, .o (.v (.mov (.t 7)))⟩,
      ⟨(some 10), none, .o (.v (.ixv (.t 6) (.t 7) 8 1 none))⟩,
      ⟨(some 4), none, .o (.v (.mov (.t 9)))⟩,
      ⟨(some 5), none, .o (.v (.mov (.t 10)))⟩])
    (.seq (.reg [⟨(some 11), none, .o (.v (.mov (.t 5)))⟩])
    (.cond (.t 11)
      (.reg [⟨(some 12), none, .o (.v (.mov (.t 3)))⟩,
        ⟨(some 13), none, .o (.v (.mov (.t 4)))⟩,
        ⟨(some 14), none, .o (.bsl 3 1 [(.int .i64 (0))] [(0, 1, (.t 13))])⟩,
        ⟨(some 15), none, .o (.app 3 1 8 (.t 12) (.t 14))⟩,
        ⟨(some 3), none, .o (.v (.mov (.t 15)))⟩])
      .skip))))
    (.reg [⟨(some 16), none, .o (.v (.bin .add (.t 7) (.c (.int .i64 (1)))))⟩,
      ⟨(some 7), none, .o (.v (.mov (.t 16)))⟩])))))))
  (.seq (.reg [⟨(some 17), none, .o (.v (.mov (.t 3)))⟩,
    ⟨(some 2), none, .o (.v (.mov (.t 17)))⟩])
  .ret))))
theorem h60 : FdOk Try.prog 60 ⟨g60, [.t 2], 18, []⟩ := .of Try.func60 (by simp [Try.f60]) (by kernel_rfl)
/-- (octant/level.vial).next -/
def g62 : RC :=
  (.seq (.reg [⟨(some 2), none, .o (.box 78 (.t 0))⟩,
    ⟨(some 4), none, .o (.new 99 [(.lit (.bool false)), (.int .i64 (0))])⟩])
  (.seq (.reg [⟨(some 5), none, .o (.v (.mov (.c (.lit (.slice none 0 0)))))⟩])
  (.seq (.seq (.reg [⟨(some 10), none, .o (.call (.c (.fn 87 [])) [])⟩,
    ⟨(some 11), none, .o (.v (.mov (.c (.int .i64 (0)))))⟩])
  (.block 0 (.loop
    (.seq (.reg [⟨(some 12), none, .o (.v (.bin .lss (.t 11) (.c (.int .i64 (2)))))⟩])
    (.seq (.cond (.t 12)
      .skip
      (.exit 0))
    (.seq (.block 1 (.seq (.reg [⟨(some 13), none, .o (.v (.ixv (.t 10) (.t 11) 2 2 (some 2)))⟩,
      ⟨(some 7), none, .o (.new 133 [(.lit (.bool false)), (.lit .nilFunc)])⟩,
      ⟨none, none, .o (.store 2 (.t 7) (.t 13))⟩])
    (.seq (.reg [⟨(some 15), none, .o (.v (.load (.t 2) (some 8)))⟩,
      ⟨(some 16), none, .o (.v (.mov (.t 1)))⟩,
      ⟨(some 17), none, .o (.v (.off (.t 7) 0))⟩,
      ⟨(some 18), none, .o (.v (.load (.t 17) none))⟩,
      ⟨(some 19), none, .o (.call (.c (.fn 88 [])) [(.t 15), (.t 16), (.t 18)])⟩,
      ⟨(some 14), none, .o (.v (.mov (.t 19)))⟩,
      ⟨(some 20), none, .o (.v (.ext (.t 14) 0))⟩,
      ⟨(some 21), none, .o (.v (.ext (.t 14) 1))⟩,
      ⟨(some 8), none, .o (.v (.mov (.t 20)))⟩,
      ⟨(some 9), none, .o (.v (.mov (.t 21)))⟩])
    (.seq (.reg [⟨(some 22), none, .o (.v (.mov (.t 9)))⟩])
    (.cond (.t 22)
      (.reg [⟨(some 23), none, .o (.v (.mov (.t 5)))⟩,
        ⟨(some 24), none, .o (.v (.off (.t 7) 0))⟩,
        ⟨(some 25), none, .o (.v (.load (.t 24) none))⟩,
        ⟨(some 26), none, .o (.v (.mov (.t 8)))⟩,
        ⟨(some 27), none, .o (.bld [(.lit (.bool false)), (.int .i64 (0))] [(0, 1, (.t 25)), (1, 1, (.t 26))])⟩,
        ⟨(some 28), none, .o (.bsl 99 1 [(.lit (.bool false)), (.int .i64 (0))] [(0, 2, (.t 27))])⟩,
        ⟨(some 29), none, .o (.app 99 2 16 (.t 23) (.t 28))⟩,
        ⟨(some 5), none, .o (.v (.mov (.t 29)))⟩])
      .skip)))))
    (.reg [⟨(some 30), none, .o (.v (.bin .add (.t 11) (.c (.int .i64 (1)))))⟩,
      ⟨(some 11), none, .o (.v (.mov (.t 30)))⟩])))))))
  (.seq (.drw [⟨[5, 31, 32, 34, 33, 35, 4, 36], 0, 0, [(⟨(some 31), none, .o (.v (.mov (.t 5)))⟩, .val 0 []),
    (⟨(some 32), none, .o (.v (.ixa (.t 31) (.c (.int .i64 (0))) 2))⟩, .val 0 []),
    (⟨(some 33), none, .o (.v (.load (.t 32) (some 2)))⟩, .val 0 []),
    (⟨(some 34), none, .o (.v (.mov (.t 5)))⟩, .val 0 []),
    (⟨(some 35), none, .o (.slc (.t 34) (some (.c (.int .i64 (1)))) none none 2)⟩, .val 0 [])],
    [],
    [⟨(some 36), none, .o (.call (.c (.fn 89 [])) [(.c (.fn 90 [])), (.t 33), (.t 35)])⟩,
    ⟨none, none, .o (.store 2 (.t 4) (.t 36))⟩], none⟩])
  .ret))))
theorem h62 : FdOk Try.prog 62 ⟨g62, [.c 4 (some 2)], 37, []⟩ := .of Try.func62 (by simp [Try.f62]) (by kernel_rfl)
/-- octant/level.isSpan -/
def g64 : RC :=
  (.seq (.reg [⟨(some 3), none, .o (.box 23 (.t 0))⟩,
    ⟨(some 6), none, .o (.v (.mov (.c (.lit (.bool false)))))⟩])
  (.seq (.reg [⟨(some 7), none, .o (.v (.mov (.t 1)))⟩,
    ⟨(some 8), none, .o (.v (.off (.t 3) 0))⟩,
    ⟨(some 9), none, .o (.v (.load (.t 8) none))⟩,
    ⟨(some 10), none, .o (.v (.bin .leq (.t 7) (.t 9)))⟩,
    ⟨(some 11), none, .o (.v (.mov (.t 10)))⟩,
    ⟨(some 12), (some (11, true)), .o (.v (.off (.t 3) 0))⟩,
    ⟨(some 13), (some (11, true)), .o (.v (.load (.t 12) none))⟩,
    ⟨(some 14), (some (11, true)), .o (.v (.off (.t 3) 1))⟩,
    ⟨(some 15), (some (11, true)), .o (.v (.load (.t 14) none))⟩,
    ⟨(some 16), (some (11, true)), .o (.v (.bin .leq (.t 13) (.t 15)))⟩,
    ⟨(some 17), none, .o (.v (.pick (.t 11) (.t 16) (.c (.lit (.bool false)))))⟩,
    ⟨(some 18), none, .o (.v (.mov (.t 17)))⟩,
    ⟨(some 19), (some (18, true)), .o (.v (.off (.t 3) 1))⟩,
    ⟨(some 20), (some (18, true)), .o (.v (.load (.t 19) none))⟩,
    ⟨(some 21), (some (18, true)), .o (.v (.mov (.t 2)))⟩,
    ⟨(some 22), (some (18, true)), .o (.v (.bin .leq (.t 20) (.t 21)))⟩,
    ⟨(some 23), none, .o (.v (.pick (.t 18) (.t 22) (.c (.lit (.bool false)))))⟩,
    ⟨(some 6), none, .o (.v (.mov (.t 23)))⟩])
  .ret))
theorem h64 : FdOk Try.prog 64 ⟨g64, [.t 6], 24, []⟩ := .of Try.func64 (by simp [Try.f64]) (by kernel_rfl)
/-- octant/level.within -/
def g65 : RC :=
  (.seq (.reg [⟨(some 6), none, .o (.v (.mov (.c (.lit (.bool false)))))⟩])
  (.seq (.reg [⟨(some 7), none, .o (.v (.mov (.t 1)))⟩,
    ⟨(some 8), none, .o (.v (.mov (.t 0)))⟩,
    ⟨(some 9), none, .o (.v (.bin .leq (.t 7) (.t 8)))⟩,
    ⟨(some 10), none, .o (.v (.mov (.t 9)))⟩,
    ⟨(some 11), (some (10, true)), .o (.v (.mov (.t 0)))⟩,
    ⟨(some 12), (some (10, true)), .o (.v (.mov (.t 2)))⟩,
    ⟨(some 13), (some (10, true)), .o (.v (.bin .leq (.t 11) (.t 12)))⟩,
    ⟨(some 14), none, .o (.v (.pick (.t 10) (.t 13) (.c (.lit (.bool false)))))⟩,
    ⟨(some 6), none, .o (.v (.mov (.t 14)))⟩])
  .ret))
theorem h65 : FdOk Try.prog 65 ⟨g65, [.t 6], 15, []⟩ := .of Try.func65 (by simp [Try.f65]) (by kernel_rfl)
/-- octant/level.roundUp -/
def g66 : RC :=
  (.seq (.reg [⟨(some 4), none, .o (.v (.mov (.c (.int .i64 (0)))))⟩])
  (.seq (.reg [⟨(some 5), none, .o (.v (.mov (.t 0)))⟩,
    ⟨(some 6), none, .o (.v (.neg (.t 5)))⟩,
    ⟨(some 7), none, .o (.v (.mov (.t 1)))⟩,
    ⟨(some 8), none, .o (.call (.c (.fn 67 [])) [(.t 6), (.t 7)])⟩,
    ⟨(some 9), none, .o (.v (.neg (.t 8)))⟩,
    ⟨(some 4), none, .o (.v (.mov (.t 9)))⟩])
  .ret))
theorem h66 : FdOk Try.prog 66 ⟨g66, [.t 4], 10, []⟩ := .of Try.func66 (by simp [Try.f66]) (by kernel_rfl)
/-- octant/level.roundDown -/
def g67 : RC :=
  (.seq (.reg [⟨(some 4), none, .o (.v (.mov (.c (.int .i64 (0)))))⟩])
  (.seq (.reg [⟨(some 6), none, .o (.v (.mov (.t 0)))⟩,
    ⟨(some 7), none, .o (.v (.mov (.t 1)))⟩,
    ⟨(some 8), none, .o (.v (.bin .quo (.t 6) (.t 7)))⟩,
    ⟨(some 5), none, .o (.v (.mov (.t 8)))⟩])
  (.seq (.seq (.reg [⟨(some 9), none, .o (.v (.mov (.t 0)))⟩,
    ⟨(some 10), none, .o (.v (.mov (.t 1)))⟩,
    ⟨(some 11), none, .o (.v (.bin .rem (.t 9) (.t 10)))⟩,
    ⟨(some 12), none, .o (.v (.bin .lss (.t 11) (.c (.int .i64 (0)))))⟩])
  (.cond (.t 12)
    (.reg [⟨(some 13), none, .o (.v (.mov (.t 5)))⟩,
      ⟨(some 14), none, .o (.v (.bin .sub (.t 13) (.c (.int .i64 (1)))))⟩,
      ⟨(some 5), none, .o (.v (.mov (.t 14)))⟩])
    .skip))
  (.seq (.reg [⟨(some 15), none, .o (.v (.mov (.t 5)))⟩,
    ⟨(some 4), none, .o (.v (.mov (.t 15)))⟩])
  .ret))))
theorem h67 : FdOk Try.prog 67 ⟨g67, [.t 4], 16, []⟩ := .of Try.func67 (by simp [Try.f67]) (by kernel_rfl)
/-- octant/level.isStock -/
def g69 : RC :=
  (.seq (.reg [⟨(some 4), none, .o (.v (.mov (.c (.lit (.bool false)))))⟩])
  (.seq (.seq (.reg [⟨(some 7), none, .o (.v (.mov (.t 0)))⟩,
    ⟨(some 8), none, .o (.v (.len (.t 7)))⟩,
    ⟨(some 9), none, .o (.call (.c (.fn 65 [])) [(.t 8), (.c (.int .i64 (1))), (.c (.int .i64 (10)))])⟩,
    ⟨(some 10), none, .o (.v (.not (.t 9)))⟩,
    ⟨(some 11), none, .o (.v (.mov (.t 10)))⟩,
    ⟨(some 12), (some (11, false)), .o (.v (.mov (.t 1)))⟩,
    ⟨(some 13), (some (11, false)), .o (.v (.len (.t 12)))⟩,
    ⟨(some 14), (some (11, false)), .o (.v (.mov (.t 0)))⟩,
    ⟨(some 15), (some (11, false)), .o (.v (.len (.t 14)))⟩,
    ⟨(some 16), (some (11, false)), .o (.v (.bin .neq (.t 13) (.t 15)))⟩,
    ⟨(some 17), none, .o (.v (.pick (.t 11) (.c (.lit (.bool true))) (.t 16)))⟩])
  (.cond (.t 17)
    (.seq (.reg [⟨(some 4), none, .o (.v (.mov (.c (.lit (.bool false)))))⟩])
    .ret)
    .skip))
  (.seq (.seq (.reg [⟨(some 18), none, .o (.v (.mov (.t 0)))⟩,
    ⟨(some 19), none, .o (.v (.len (.t 18)))⟩,
    ⟨(some 20), none, .o (.v (.mov (.c (.int .i64 (0)))))⟩])
  (.block 0 (.loop
    (.seq (.reg [⟨(some 21), none, .o (.v (.bin .lss (.t 20) (.t 19)))⟩])
    (.seq (.cond (.t 21)
      .skip
      (.exit 0))
    (.seq (.block 1 (.seq (.reg [⟨(some 22), none, .o (.v (.mov (.t 20)))⟩,
      ⟨(some 23), none, .o (.v (.ixa (.t 18) (.t 20) 8))⟩,
      ⟨(some 24), none, .o (.v (.load (.t 23) (some 8)))⟩,
      ⟨(some 6), none, .o (.new 25 [(.int .i64 (0)), (.int .i64 (0)), (.int .i64 (0)), (.int .i64 (0)), (.int .i64 (0)), (.int .i64 (0)), (.int .i64 (0)), (.int .i64 (0))])⟩,
      ⟨(some 5), none, .o (.v (.mov (.t 22)))⟩,
      ⟨none, none, .o (.store 8 (.t 6) (.t 24))⟩])
    (.seq (.reg [⟨(some 25), none, .o (.v (.load (.t 6) (some 8)))⟩,
      ⟨(some 26), none, .o (.bld [(.int .i64 (0)), (.int .i64 (0)), (.int .i64 (0)), (.int .i64 (0)), (.int .i64 (0)), (.int .i64 (0)), (.int .i64 (0)), (.int .i64 (0))] [(0, 8, (.t 25))])⟩,
      ⟨(some 27), none, .o (.call (.c (.fn 54 [])) [(.t 26)])⟩,
      ⟨(some 28), none, .o (.v (.not (.t 27)))⟩,
      ⟨(some 29), none, .o (.v (.mov (.t 28)))⟩,
      ⟨(some 30), (some (29, false)), .o (.v (.mov (.t 1)))⟩,
      ⟨(some 31), (some (29, false)), .o (.v (.mov (.t 5)))⟩,
      ⟨(some 32), (some (29, false)), .o (.v (.ixa (.t 30) (.t 31) 1))⟩,
      ⟨(some 33), (some (29, false)), .o (.v (.load (.t 32) none))⟩,
      ⟨(some 34), (some (29, false)), .o (.call (.c (.fn 65 [])) [(.t 33), (.c (.int .i64 (0))), (.c (.int .i64 (1000)))])⟩,
      ⟨(some 35), (some (29, false)), .o (.v (.not (.t 34)))⟩,
      ⟨(some 36), none, .o (.v (.pick (.t 29) (.c (.lit (.bool true))) (.t 35)))⟩])
    (.cond (.t 36)
      (.seq (.reg [⟨(some 4), none, .o (.v (.mov (.c (.lit (.bool false)))))⟩])
      .ret)
      .skip))))
    (.reg [⟨(some 37), none, .o (.v (.bin .add (.t 20) (.c (.int .i64 (1)))))⟩,
      ⟨(some 20), none, .o (.v (.mov (.t 37)))⟩])))))))
  (.seq (.reg [⟨(some 4), none, .o (.v (.mov (.c (.lit (.bool true)))))⟩])
  .ret))))
theorem h69 : FdOk Try.prog 69 ⟨g69, [.t 4], 38, []⟩ := .of Try.func69 (by simp [Try.f69]) (by kernel_rfl)
/-- octant/level.isWish -/
def g70 : RC :=
  (.seq (.reg [⟨(some 1), none, .o (.box 49 (.t 0))⟩,
    ⟨(some 2), none, .o (.v (.mov (.c (.lit (.bool false)))))⟩])
  (.seq (.reg [⟨(some 3), none, .o (.v (.off (.t 1) 0))⟩,
    ⟨(some 4), none, .o (.v (.load (.t 3) none))⟩,
    ⟨(some 5), none, .o (.call (.c (.fn 65 [])) [(.t 4), (.c (.int .i64 (0))), (.c (.int .i64 (100000)))])⟩,
    ⟨(some 6), none, .o (.v (.mov (.t 5)))⟩,
    ⟨(some 7), (some (6, true)), .o (.v (.off (.t 1) 1))⟩,
    ⟨(some 8), (some (6, true)), .o (.v (.load (.t 7) none))⟩,
    ⟨(some 9), (some (6, true)), .o (.call (.c (.fn 65 [])) [(.t 8), (.c (.int .i64 (0))), (.c (.int .i64 (100000)))])⟩,
    ⟨(some 10), none, .o (.v (.pick (.t 6) (.t 9) (.c (.lit (.bool false)))))⟩,
    ⟨(some 2), none, .o (.v (.mov (.t 10)))⟩])
  .ret))
theorem h70 : FdOk Try.prog 70 ⟨g70, [.t 2], 11, []⟩ := .of Try.func70 (by simp [Try.f70]) (by kernel_rfl)
/-- octant/level.offersFor -/
def g71 : RC :=
  (.seq (.reg [⟨(some 5), none, .o (.box 49 (.t 2))⟩,
    ⟨(some 6), none, .o (.v (.mov (.c (.lit (.slice none 0 0)))))⟩])
  (.seq (.reg [⟨(some 7), none, .o (.v (.mov (.c (.lit (.slice none 0 0)))))⟩])
  (.seq (.seq (.reg [⟨(some 10), none, .o (.v (.mov (.t 0)))⟩,
    ⟨(some 11), none, .o (.v (.len (.t 10)))⟩,
    ⟨(some 12), none, .o (.v (.mov (.c (.int .i64 (0)))))⟩])
  (.block 0 (.loop
    (.seq (.reg [⟨(some 13), none, .o (.v (.bin .lss (.t 12) (.t 11)))⟩])
    (.seq (.cond (.t 13)
      .skip
      (.exit 0))
    (.seq (.block 1 (.seq (.reg [⟨(some 14), none, .o (.v (.mov (.t 12)))⟩,
      ⟨(some 15), none, .o (.v (.ixa (.t 10) (.t 12) 8))⟩,
      ⟨(some 16), none, .o (.v (.load (.t 15) (some 8)))⟩,
      ⟨(some 9), none, .o (.new 25 [(.int .i64 (0)), (.int .i64 (0)), (.int .i64 (0)), (.int .i64 (0)), (.int .i64 (0)), (.int .i64 (0)), (.int .i64 (0)), (.int .i64 (0))])⟩,
      ⟨(some 8), none, .o (.v (.mov (.t 14)))⟩,
      ⟨none, none, .o (.store 8 (.t 9) (.t 16))⟩])
    (.seq (.reg [⟨(some 17), none, .o (.v (.load (.t 9) (some 8)))⟩,
      ⟨(some 18), none, .o (.bld [(.int .i64 (0)), (.int .i64 (0)), (.int .i64 (0)), (.int .i64 (0)), (.int .i64 (0)), (.int .i64 (0)), (.int .i64 (0)), (.int .i64 (0))] [(0, 8, (.t 17))])⟩,
      ⟨(some 19), none, .o (.v (.load (.t 5) (some 2)))⟩,
      ⟨(some 20), none, .o (.call (.c (.fn 91 [])) [(.t 18), (.t 19)])⟩])
    (.cond (.t 20)
      (.reg [⟨(some 21), none, .o (.v (.mov (.t 7)))⟩,
        ⟨(some 22), none, .o (.v (.mov (.t 8)))⟩,
        ⟨(some 23), none, .o (.v (.mov (.t 1)))⟩,
        ⟨(some 24), none, .o (.v (.mov (.t 8)))⟩,
        ⟨(some 25), none, .o (.v (.ixa (.t 23) (.t 24) 1))⟩,
        ⟨(some 26), none, .o (.v (.load (.t 25) none))⟩,
        ⟨(some 27), none, .o (.bld [(.int .i64 (0)), (.int .i64 (0))] [(0, 1, (.t 22)), (1, 1, (.t 26))])⟩,
        ⟨(some 28), none, .o (.bsl 107 1 [(.int .i64 (0)), (.int .i64 (0))] [(0, 2, (.t 27))])⟩,
        ⟨(some 29), none, .o (.app 107 2 16 (.t 21) (.t 28))⟩,
        ⟨(some 7), none, .o (.v (.mov (.t 29)))⟩])
      .skip))))
    (.reg [⟨(some 30), none, .o (.v (.bin .add (.t 12) (.c (.int .i64 (1)))))⟩,
      ⟨(some 12), none, .o (.v (.mov (.t 30)))⟩])))))))
  (.seq (.reg [⟨(some 31), none, .o (.v (.mov (.t 7)))⟩,
    ⟨(some 6), none, .o (.v (.mov (.t 31)))⟩])
  .ret))))
theorem h71 : FdOk Try.prog 71 ⟨g71, [.t 6], 32, []⟩ := .of Try.func71 (by simp [Try.f71]) (by kernel_rfl)
/-- octant/level.best[octant/level.offer] -/
def g72 : RC :=
  (.seq (.reg [⟨(some 4), none, .o (.box 107 (.t 1))⟩,
    ⟨(some 6), none, .o (.new 107 [(.int .i64 (0)), (.int .i64 (0))])⟩])
  (.seq (.seq (.reg [⟨(some 9), none, .o (.v (.mov (.t 2)))⟩,
    ⟨(some 10), none, .o (.v (.len (.t 9)))⟩,
    ⟨(some 11), none, .o (.v (.mov (.c (.int .i64 (0)))))⟩])
  (.block 0 (.loop
    (.seq (.reg [⟨(some 12), none, .o (.v (.bin .lss (.t 11) (.t 10)))⟩])
    (.seq (.cond (.t 12)
      .skip
      (.exit 0))
    (.seq (.block 1 (.seq (.reg [⟨(some 13), none, .o (.v (.ixa (.t 9) (.t 11) 2))⟩,
      ⟨(some 14), none, .o (.v (.load (.t 13) (some 2)))⟩,
      ⟨(some 8), none, .o (.new 107 [(.int .i64 (0)), (.int .i64 (0))])⟩,
      ⟨none, none, .o (.store 2 (.t 8) (.t 14))⟩])
    (.seq (.reg [⟨(some 15), none, .o (.v (.mov (.t 0)))⟩,
      ⟨(some 16), none, .o (.v (.load (.t 8) (some 2)))⟩,
      ⟨(some 17), none, .o (.v (.load (.t 4) (some 2)))⟩,
      ⟨(some 18), none, .o (.call (.t 15) [(.t 16), (.t 17)])⟩])
    (.cond (.t 18)
      (.reg [⟨(some 19), none, .o (.v (.load (.t 8) (some 2)))⟩,
        ⟨none, none, .o (.store 2 (.t 4) (.t 19))⟩])
      .skip))))
    (.reg [⟨(some 20), none, .o (.v (.bin .add (.t 11) (.c (.int .i64 (1)))))⟩,
      ⟨(some 11), none, .o (.v (.mov (.t 20)))⟩])))))))
  (.seq (.reg [⟨(some 21), none, .o (.v (.load (.t 4) (some 2)))⟩,
    ⟨none, none, .o (.store 2 (.t 6) (.t 21))⟩])
  .ret)))
theorem h72 : FdOk Try.prog 72 ⟨g72, [.c 6 (some 2)], 22, []⟩ := .of Try.func72 (by simp [Try.f72]) (by kernel_rfl)
/-- (octant/level.offer).cheaper -/
def g73 : RC :=
  (.seq (.reg [⟨(some 2), none, .o (.box 107 (.t 0))⟩,
    ⟨(some 3), none, .o (.box 107 (.t 1))⟩,
    ⟨(some 4), none, .o (.v (.mov (.c (.lit (.bool false)))))⟩])
  (.seq (.reg [⟨(some 5), none, .o (.v (.off (.t 2) 1))⟩,
    ⟨(some 6), none, .o (.v (.load (.t 5) none))⟩,
    ⟨(some 7), none, .o (.v (.off (.t 3) 1))⟩,
    ⟨(some 8), none, .o (.v (.load (.t 7) none))⟩,
    ⟨(some 9), none, .o (.v (.bin .lss (.t 6) (.t 8)))⟩,
    ⟨(some 4), none, .o (.v (.mov (.t 9)))⟩])
  .ret))
theorem h73 : FdOk Try.prog 73 ⟨g73, [.t 4], 10, []⟩ := .of Try.func73 (by simp [Try.f73]) (by kernel_rfl)
/-- (octant/level.vial).haveReadings -/
def g76 : RC :=
  (.seq (.reg [⟨(some 2), none, .o (.box 78 (.t 0))⟩,
    ⟨(some 4), none, .o (.v (.mov (.c (.lit (.bool false)))))⟩])
  (.seq (.seq (.reg [⟨(some 7), none, .o (.v (.mov (.t 1)))⟩,
    ⟨(some 8), none, .o (.v (.len (.t 7)))⟩,
    ⟨(some 9), none, .o (.call (.c (.fn 65 [])) [(.t 8), (.c (.int .i64 (1))), (.c (.int .i64 (8)))])⟩,
    ⟨(some 10), none, .o (.v (.not (.t 9)))⟩])
  (.cond (.t 10)
    (.seq (.reg [⟨(some 4), none, .o (.v (.mov (.c (.lit (.bool false)))))⟩])
    .ret)
    .skip))
  (.seq (.seq (.reg [⟨(some 11), none, .o (.v (.mov (.t 1)))⟩,
    ⟨(some 12), none, .o (.v (.len (.t 11)))⟩,
    ⟨(some 13), none, .o (.v (.mov (.c (.int .i64 (0)))))⟩])
  (.block 0 (.loop
    (.seq (.reg [⟨(some 14), none, .o (.v (.bin .lss (.t 13) (.t 12)))⟩])
    (.seq (.cond (.t 14)
      .skip
      (.exit 0))
    (.seq (.block 1 (.seq (.reg [⟨(some 15), none, .o (.v (.ixa (.t 11) (.t 13) 3))⟩,
      ⟨(some 16), none, .o (.v (.load (.t 15) (some 3)))⟩,
      ⟨(some 6), none, .o (.new 57 [(.int .i64 (0)), (.int .i64 (0)), (.lit (.bool false))])⟩,
      ⟨none, none, .o (.store 3 (.t 6) (.t 16))⟩])
    (.seq (.seq (.reg [⟨(some 17), none, .o (.v (.off (.t 6) 0))⟩,
      ⟨(some 18), none, .o (.v (.load (.t 17) none))⟩,
      ⟨(some 19), none, .o (.v (.bin .lss (.t 18) (.c (.int .i64 (0)))))⟩,
      ⟨(some 20), none, .o (.v (.mov (.t 19)))⟩,
      ⟨(some 21), (some (20, false)), .o (.v (.off (.t 6) 1))⟩,
      ⟨(some 22), (some (20, false)), .o (.v (.load (.t 21) none))⟩,
      ⟨(some 23), (some (20, false)), .o (.v (.off (.t 6) 0))⟩,
      ⟨(some 24), (some (20, false)), .o (.v (.load (.t 23) none))⟩,
      ⟨(some 25), (some (20, false)), .o (.v (.bin .leq (.t 22) (.t 24)))⟩,
      ⟨(some 26), none, .o (.v (.pick (.t 20) (.c (.lit (.bool true))) (.t 25)))⟩,
      ⟨(some 27), none, .o (.v (.mov (.t 26)))⟩,
      ⟨(some 28), (some (27, false)), .o (.v (.off (.t 6) 1))⟩,
      ⟨(some 29), (some (27, false)), .o (.v (.load (.t 28) none))⟩,
      ⟨(some 30), (some (27, false)), .o (.v (.off (.t 2) 0))⟩,
      ⟨(some 31), (some (27, false)), .o (.v (.off (.t 30) 0))⟩,
      ⟨(some 32), (some (27, false)), .o (.v (.load (.t 31) none))⟩,
      ⟨(some 33), (some (27, false)), .o (.v (.bin .gtr (.t 29) (.t 32)))⟩,
      ⟨(some 34), none, .o (.v (.pick (.t 27) (.c (.lit (.bool true))) (.t 33)))⟩])
    (.cond (.t 34)
      (.seq (.reg [⟨(some 4), none, .o (.v (.mov (.c (.lit (.bool false)))))⟩])
      .ret)
      .skip))
    (.seq (.reg [⟨(some 35), none, .o (.v (.off (.t 6) 1))⟩,
      ⟨(some 36), none, .o (.v (.load (.t 35) none))⟩,
      ⟨(some 37), none, .o (.v (.off (.t 6) 0))⟩,
      ⟨(some 38), none, .o (.v (.load (.t 37) none))⟩,
      ⟨(some 39), none, .o (.v (.bin .sub (.t 36) (.t 38)))⟩,
      ⟨(some 40), none, .o (.v (.off (.t 2) 0))⟩,
      ⟨(some 41), none, .o (.v (.off (.t 40) 1))⟩,
      ⟨(some 42), none, .o (.v (.off (.t 41) 0))⟩,
      ⟨(some 43), none, .o (.v (.load (.t 42) none))⟩,
      ⟨(some 44), none, .o (.v (.off (.t 2) 0))⟩,
      ⟨(some 45), none, .o (.v (.off (.t 44) 7))⟩,
      ⟨(some 46), none, .o (.v (.load (.t 45) none))⟩,
      ⟨(some 47), none, .o (.v (.bin .sub (.t 43) (.t 46)))⟩,
      ⟨(some 48), none, .o (.v (.off (.t 2) 0))⟩,
      ⟨(some 49), none, .o (.v (.off (.t 48) 1))⟩,
      ⟨(some 50), none, .o (.v (.off (.t 49) 1))⟩,
      ⟨(some 51), none, .o (.v (.load (.t 50) none))⟩,
      ⟨(some 52), none, .o (.v (.off (.t 2) 0))⟩,
      ⟨(some 53), none, .o (.v (.off (.t 52) 7))⟩,
      ⟨(some 54), none, .o (.v (.load (.t 53) none))⟩,
      ⟨(some 55), none, .o (.v (.bin .add (.t 51) (.t 54)))⟩,
      ⟨(some 56), none, .o (.call (.c (.fn 65 [])) [(.t 39), (.t 47), (.t 55)])⟩,
      ⟨(some 57), none, .o (.v (.not (.t 56)))⟩])
    (.cond (.t 57)
      (.seq (.reg [⟨(some 4), none, .o (.v (.mov (.c (.lit (.bool false)))))⟩])
      .ret)
      .skip)))))
    (.reg [⟨(some 58), none, .o (.v (.bin .add (.t 13) (.c (.int .i64 (1)))))⟩,
      ⟨(some 13), none, .o (.v (.mov (.t 58)))⟩])))))))
  (.seq (.reg [⟨(some 4), none, .o (.v (.mov (.c (.lit (.bool true)))))⟩])
  .ret))))
theorem h76 : FdOk Try.prog 76 ⟨g76, [.t 4], 59, []⟩ := .of Try.func76 (by simp [Try.f76]) (by kernel_rfl)
/-- (octant/level.vial).read -/
def g77 : RC :=
  (.seq (.reg [⟨(some 3), none, .o (.box 78 (.t 0))⟩,
    ⟨(some 5), none, .o (.box 57 (.t 2))⟩,
    ⟨(some 6), none, .o (.v (.mov (.c (.lit (.map none)))))⟩])
  (.seq (.drw [⟨[], 0, 1, [(⟨(some 7), none, .o (.v (.mov (.t 1)))⟩, .val 0 []),
    (⟨(some 8), none, .o (.v (.off (.t 5) 2))⟩, .val 0 []),
    (⟨(some 9), none, .o (.v (.load (.t 8) none))⟩, .val 0 []),
    (⟨(some 10), none, .o (.v (.load (.t 3) (some 8)))⟩, .val 0 []),
    (⟨(some 11), none, .o (.v (.off (.t 5) 0))⟩, .val 0 []),
    (⟨(some 12), none, .o (.v (.load (.t 11) none))⟩, .val 0 []),
    (⟨(some 13), none, .o (.v (.off (.t 5) 1))⟩, .val 0 []),
    (⟨(some 14), none, .o (.v (.load (.t 13) none))⟩, .val 0 []),
    (⟨(some 15), none, .o (.v (.bin .add (.t 12) (.t 14)))⟩, .val 0 []),
    (⟨(some 16), none, .o (.call (.c (.fn 94 [])) [(.t 10), (.t 15)])⟩, .eff 0 [])],
    [],
    [⟨(some 17), none, .o (.call (.c (.fn 93 [])) [(.t 7), (.t 9), (.t 16)])⟩,
    ⟨(some 6), none, .o (.v (.mov (.t 17)))⟩], none⟩])
  .ret))
theorem h77 : FdOk Try.prog 77 ⟨g77, [.t 6], 18, []⟩ := .of Try.func77 (by simp [Try.f77]) (by kernel_rfl)
/-- (octant/level.middles).evidence -/
def g78 : RC :=
  (.seq (.reg [⟨(some 2), none, .o (.v (.mov (.c (.lit (.slice none 0 0)))))⟩])
  (.seq (.reg [⟨(some 3), none, .o (.v (.mov (.c (.lit (.slice none 0 0)))))⟩])
  (.seq (.seq (.reg [⟨(some 8), none, .o (.call (.c (.fn 87 [])) [])⟩,
    ⟨(some 9), none, .o (.v (.mov (.c (.int .i64 (0)))))⟩])
  (.block 0 (.loop
    (.seq (.reg [⟨(some 10), none, .o (.v (.bin .lss (.t 9) (.c (.int .i64 (2)))))⟩])
    (.seq (.cond (.t 10)
      .skip
      (.exit 0))
    (.seq (.block 1 (.seq (.reg [⟨(some 11), none, .o (.v (.ixv (.t 8) (.t 9) 2 2 (some 2)))⟩,
      ⟨(some 5), none, .o (.new 133 [(.lit (.bool false)), (.lit .nilFunc)])⟩,
      ⟨none, none, .o (.store 2 (.t 5) (.t 11))⟩])
    (.seq (.reg [⟨(some 13), none, .o (.v (.mov (.t 0)))⟩,
      ⟨(some 14), none, .o (.v (.off (.t 5) 0))⟩,
      ⟨(some 15), none, .o (.v (.load (.t 14) none))⟩,
      ⟨(some 16), none, .lku .b (.agg [(.int .i64 (0)), (.int .i64 (0))]) true (.t 13) (.t 15)⟩,
      ⟨(some 12), none, .o (.v (.mov (.t 16)))⟩,
      ⟨(some 17), none, .o (.v (.ext (.t 12) 0))⟩,
      ⟨(some 18), none, .o (.v (.ext (.t 12) 1))⟩,
      ⟨(some 6), none, .o (.new 23 [(.int .i64 (0)), (.int .i64 (0))])⟩,
      ⟨none, none, .o (.store 2 (.t 6) (.t 17))⟩,
      ⟨(some 7), none, .o (.v (.mov (.t 18)))⟩])
    (.seq (.reg [⟨(some 19), none, .o (.v (.mov (.t 7)))⟩])
    (.cond (.t 19)
      (.reg [⟨(some 20), none, .o (.v (.mov (.t 3)))⟩,
        ⟨(some 21), none, .o (.v (.off (.t 5) 1))⟩,
        ⟨(some 22), none, .o (.v (.load (.t 21) none))⟩,
        ⟨(some 23), none, .o (.v (.load (.t 6) (some 2)))⟩,
        ⟨(some 24), none, .o (.call (.t 22) [(.t 23)])⟩,
        ⟨(some 25), none, .o (.bsl 118 1 [(.lit .nilIface)] [(0, 1, (.t 24))])⟩,
        ⟨(some 26), none, .o (.app 118 1 16 (.t 20) (.t 25))⟩,
        ⟨(some 3), none, .o (.v (.mov (.t 26)))⟩])
      .skip)))))
    (.reg [⟨(some 27), none, .o (.v (.bin .add (.t 9) (.c (.int .i64 (1)))))⟩,
      ⟨(some 9), none, .o (.v (.mov (.t 27)))⟩])))))))
  (.seq (.reg [⟨(some 28), none, .o (.v (.mov (.t 3)))⟩,
    ⟨(some 2), none, .o (.v (.mov (.t 28)))⟩])
  .ret))))
theorem h78 : FdOk Try.prog 78 ⟨g78, [.t 2], 29, []⟩ := .of Try.func78 (by simp [Try.f78]) (by kernel_rfl)
/-- (octant/level.vial).zeros -/
def g80 : RC :=
  (.seq (.reg [⟨(some 1), none, .o (.box 78 (.t 0))⟩,
    ⟨(some 2), none, .o (.v (.mov (.c (.lit .nilFunc))))⟩])
  (.seq (.reg [⟨(some 3), none, .o (.v (.mkfn 95 [(.t 1)]))⟩,
    ⟨(some 2), none, .o (.v (.mov (.t 3)))⟩])
  .ret))
theorem h80 : FdOk Try.prog 80 ⟨g80, [.t 2], 4, []⟩ := .of Try.func80 (by simp [Try.f80]) (by kernel_rfl)
/-- octant/level.common -/
def g81 : RC :=
  (.seq (.reg [⟨(some 2), none, .o (.box 23 (.t 0))⟩,
    ⟨(some 3), none, .o (.box 23 (.t 1))⟩,
    ⟨(some 4), none, .o (.new 23 [(.int .i64 (0)), (.int .i64 (0))])⟩])
  (.seq (.reg [⟨(some 6), none, .o (.v (.off (.t 2) 0))⟩,
    ⟨(some 7), none, .o (.v (.load (.t 6) none))⟩,
    ⟨(some 8), none, .o (.v (.off (.t 3) 0))⟩,
    ⟨(some 9), none, .o (.v (.load (.t 8) none))⟩,
    ⟨(some 10), none, .o (.v (.max2 (.t 7) (.t 9)))⟩,
    ⟨(some 11), none, .o (.v (.off (.t 2) 1))⟩,
    ⟨(some 12), none, .o (.v (.load (.t 11) none))⟩,
    ⟨(some 13), none, .o (.v (.off (.t 3) 1))⟩,
    ⟨(some 14), none, .o (.v (.load (.t 13) none))⟩,
    ⟨(some 15), none, .o (.v (.min2 (.t 12) (.t 14)))⟩,
    ⟨(some 16), none, .o (.bld [(.int .i64 (0)), (.int .i64 (0))] [(0, 1, (.t 10)), (1, 1, (.t 15))])⟩,
    ⟨(some 5), none, .o (.new 23 [(.int .i64 (0)), (.int .i64 (0))])⟩,
    ⟨none, none, .o (.store 2 (.t 5) (.t 16))⟩])
  (.seq (.seq (.reg [⟨(some 17), none, .o (.v (.off (.t 5) 0))⟩,
    ⟨(some 18), none, .o (.v (.load (.t 17) none))⟩,
    ⟨(some 19), none, .o (.v (.off (.t 5) 1))⟩,
    ⟨(some 20), none, .o (.v (.load (.t 19) none))⟩,
    ⟨(some 21), none, .o (.v (.bin .gtr (.t 18) (.t 20)))⟩])
  (.cond (.t 21)
    (.seq (.reg [⟨(some 22), none, .o (.call (.c (.fn 82 [])) [])⟩,
      ⟨none, none, .o (.store 2 (.t 4) (.t 22))⟩])
    .ret)
    .skip))
  (.seq (.reg [⟨(some 23), none, .o (.v (.load (.t 5) (some 2)))⟩,
    ⟨none, none, .o (.store 2 (.t 4) (.t 23))⟩])
  .ret))))
theorem h81 : FdOk Try.prog 81 ⟨g81, [.c 4 (some 2)], 24, []⟩ := .of Try.func81 (by simp [Try.f81]) (by kernel_rfl)
/-- octant/level.noSpan -/
def g82 : RC :=
  (.seq (.reg [⟨(some 0), none, .o (.new 23 [(.int .i64 (0)), (.int .i64 (0))])⟩])
  (.seq (.reg [⟨(some 1), none, .o (.bld [(.int .i64 (0)), (.int .i64 (0))] [(0, 1, (.c (.int .i64 (1)))), (1, 1, (.c (.int .i64 (0))))])⟩,
    ⟨none, none, .o (.store 2 (.t 0) (.t 1))⟩])
  .ret))
theorem h82 : FdOk Try.prog 82 ⟨g82, [.c 0 (some 2)], 2, []⟩ := .of Try.func82 (by simp [Try.f82]) (by kernel_rfl)
/-- octant/level.around -/
def g83 : RC :=
  (.seq (.reg [⟨(some 2), none, .o (.box 23 (.t 0))⟩,
    ⟨(some 3), none, .o (.box 23 (.t 1))⟩,
    ⟨(some 4), none, .o (.new 23 [(.int .i64 (0)), (.int .i64 (0))])⟩])
  (.seq (.seq (.drw [⟨[], 0, 1, [(⟨(some 5), none, .o (.v (.load (.t 2) (some 2)))⟩, .val 0 []),
    (⟨(some 6), none, .o (.call (.c (.fn 82 [])) [])⟩, .eff 0 [])],
    [],
    [⟨(some 7), none, .o (.v (.eqs [(some .i64), (some .i64)] false (.t 5) (.t 6)))⟩], none⟩])
  (.cond (.t 7)
    (.seq (.reg [⟨(some 8), none, .o (.v (.load (.t 3) (some 2)))⟩,
      ⟨none, none, .o (.store 2 (.t 4) (.t 8))⟩])
    .ret)
    .skip))
  (.seq (.reg [⟨(some 9), none, .o (.v (.off (.t 2) 0))⟩,
    ⟨(some 10), none, .o (.v (.load (.t 9) none))⟩,
    ⟨(some 11), none, .o (.v (.off (.t 3) 0))⟩,
    ⟨(some 12), none, .o (.v (.load (.t 11) none))⟩,
    ⟨(some 13), none, .o (.v (.min2 (.t 10) (.t 12)))⟩,
    ⟨(some 14), none, .o (.v (.off (.t 2) 1))⟩,
    ⟨(some 15), none, .o (.v (.load (.t 14) none))⟩,
    ⟨(some 16), none, .o (.v (.off (.t 3) 1))⟩,
    ⟨(some 17), none, .o (.v (.load (.t 16) none))⟩,
    ⟨(some 18), none, .o (.v (.max2 (.t 15) (.t 17)))⟩,
    ⟨(some 19), none, .o (.bld [(.int .i64 (0)), (.int .i64 (0))] [(0, 1, (.t 13)), (1, 1, (.t 18))])⟩,
    ⟨none, none, .o (.store 2 (.t 4) (.t 19))⟩])
  .ret)))
theorem h83 : FdOk Try.prog 83 ⟨g83, [.c 4 (some 2)], 20, []⟩ := .of Try.func83 (by simp [Try.f83]) (by kernel_rfl)
/-- (octant/level.vial).tilts -/
def g84 : RC :=
  (.seq (.reg [⟨(some 2), none, .o (.box 78 (.t 0))⟩,
    ⟨(some 3), none, .o (.box 23 (.t 1))⟩,
    ⟨(some 4), none, .o (.new 23 [(.int .i64 (0)), (.int .i64 (0))])⟩])
  (.seq (.reg [⟨(some 5), none, .o (.v (.off (.t 2) 0))⟩,
    ⟨(some 6), none, .o (.v (.off (.t 5) 3))⟩,
    ⟨(some 7), none, .o (.v (.off (.t 6) 0))⟩,
    ⟨(some 8), none, .o (.v (.load (.t 7) none))⟩,
    ⟨(some 9), none, .o (.v (.off (.t 3) 0))⟩,
    ⟨(some 10), none, .o (.v (.load (.t 9) none))⟩,
    ⟨(some 11), none, .o (.v (.bin .mul (.t 8) (.t 10)))⟩,
    ⟨(some 12), none, .o (.v (.off (.t 2) 0))⟩,
    ⟨(some 13), none, .o (.v (.off (.t 12) 3))⟩,
    ⟨(some 14), none, .o (.v (.off (.t 13) 1))⟩,
    ⟨(some 15), none, .o (.v (.load (.t 14) none))⟩,
    ⟨(some 16), none, .o (.v (.off (.t 3) 0))⟩,
    ⟨(some 17), none, .o (.v (.load (.t 16) none))⟩,
    ⟨(some 18), none, .o (.v (.bin .mul (.t 15) (.t 17)))⟩,
    ⟨(some 19), none, .o (.v (.min2 (.t 11) (.t 18)))⟩,
    ⟨(some 20), none, .o (.v (.off (.t 2) 0))⟩,
    ⟨(some 21), none, .o (.v (.off (.t 20) 3))⟩,
    ⟨(some 22), none, .o (.v (.off (.t 21) 0))⟩,
    ⟨(some 23), none, .o (.v (.load (.t 22) none))⟩,
    ⟨(some 24), none, .o (.v (.off (.t 3) 1))⟩,
    ⟨(some 25), none, .o (.v (.load (.t 24) none))⟩,
    ⟨(some 26), none, .o (.v (.bin .mul (.t 23) (.t 25)))⟩,
    ⟨(some 27), none, .o (.v (.off (.t 2) 0))⟩,
    ⟨(some 28), none, .o (.v (.off (.t 27) 3))⟩,
    ⟨(some 29), none, .o (.v (.off (.t 28) 1))⟩,
    ⟨(some 30), none, .o (.v (.load (.t 29) none))⟩,
    ⟨(some 31), none, .o (.v (.off (.t 3) 1))⟩,
    ⟨(some 32), none, .o (.v (.load (.t 31) none))⟩,
    ⟨(some 33), none, .o (.v (.bin .mul (.t 30) (.t 32)))⟩,
    ⟨(some 34), none, .o (.v (.max2 (.t 26) (.t 33)))⟩,
    ⟨(some 35), none, .o (.bld [(.int .i64 (0)), (.int .i64 (0))] [(0, 1, (.t 19)), (1, 1, (.t 34))])⟩,
    ⟨none, none, .o (.store 2 (.t 4) (.t 35))⟩])
  .ret))
theorem h84 : FdOk Try.prog 84 ⟨g84, [.c 4 (some 2)], 36, []⟩ := .of Try.func84 (by simp [Try.f84]) (by kernel_rfl)
/-- (octant/level.vial).fewestFalse$1 -/
def g86 : RC :=
  (.seq (.reg [⟨(some 7), none, .o (.box 94 (.t 0))⟩,
    ⟨(some 11), none, .o (.new 94 [(.lit (.bool false)), (.lit (.bool false)), (.lit (.bool false)), (.lit (.bool false)), (.lit (.bool false)), (.lit (.bool false)), (.lit (.bool false)), (.lit (.bool false))])⟩])
  (.seq (.seq (.reg [⟨(some 15), none, .o (.v (.mov (.t 3)))⟩,
    ⟨(some 16), none, .o (.v (.bin .eql (.t 15) (.c (.int .i64 (0)))))⟩])
  (.cond (.t 16)
    (.seq (.seq (.reg [⟨(some 17), none, .o (.v (.load (.t 4) (some 8)))⟩,
      ⟨(some 18), none, .o (.v (.mov (.t 1)))⟩,
      ⟨(some 19), none, .o (.call (.c (.fn 56 [])) [(.t 17), (.t 18)])⟩,
      ⟨(some 20), none, .o (.call (.c (.fn 57 [])) [])⟩,
      ⟨(some 21), none, .o (.v (.eqs [(some .i64), (some .i64), (some .i64), (some .i64)] false (.t 19) (.t 20)))⟩])
    (.cond (.t 21)
      (.seq (.reg [⟨(some 22), none, .o (.v (.load (.t 7) (some 8)))⟩,
        ⟨none, none, .o (.store 8 (.t 11) (.t 22))⟩])
      .ret)
      .skip))
    (.seq (.reg [⟨(some 23), none, .o (.bld [(.lit (.bool false)), (.lit (.bool false)), (.lit (.bool false)), (.lit (.bool false)), (.lit (.bool false)), (.lit (.bool false)), (.lit (.bool false)), (.lit (.bool false))] [])⟩,
      ⟨none, none, .o (.store 8 (.t 11) (.t 23))⟩])
    .ret))
    .skip))
  (.seq (.seq (.reg [⟨(some 24), none, .o (.v (.mov (.t 2)))⟩,
    ⟨(some 12), none, .o (.v (.mov (.t 24)))⟩])
  (.block 0 (.loop
    (.seq (.seq (.reg [⟨(some 25), none, .o (.v (.mov (.t 12)))⟩,
      ⟨(some 26), none, .o (.v (.load (.t 5) none))⟩,
      ⟨(some 27), none, .o (.v (.len (.t 26)))⟩,
      ⟨(some 28), none, .o (.v (.bin .lss (.t 25) (.t 27)))⟩])
    (.cond (.t 28)
      .skip
      (.exit 0)))
    (.seq (.block 1 (.seq (.reg [⟨(some 31), none, .o (.v (.load (.t 7) (some 8)))⟩,
      ⟨(some 13), none, .o (.new 94 [(.lit (.bool false)), (.lit (.bool false)), (.lit (.bool false)), (.lit (.bool false)), (.lit (.bool false)), (.lit (.bool false)), (.lit (.bool false)), (.lit (.bool false))])⟩,
      ⟨none, none, .o (.store 8 (.t 13) (.t 31))⟩])
    (.seq (.reg [⟨(some 32), none, .o (.v (.mov (.t 12)))⟩,
      ⟨(some 33), none, .o (.v (.ixarr (.t 13) (.t 32) 8 1))⟩,
      ⟨none, none, .o (.store 1 (.t 33) (.c (.lit (.bool true))))⟩])
    (.seq (.drw [⟨[], 0, 2, [(⟨(some 34), none, .o (.v (.load (.t 6) none))⟩, .val 0 []),
      (⟨(some 35), none, .o (.v (.load (.t 13) (some 8)))⟩, .val 0 []),
      (⟨(some 36), none, .o (.v (.load (.t 4) (some 8)))⟩, .val 0 []),
      (⟨(some 37), none, .o (.v (.mov (.t 1)))⟩, .val 0 []),
      (⟨(some 38), none, .o (.v (.load (.t 5) none))⟩, .val 0 []),
      (⟨(some 39), none, .o (.v (.mov (.t 12)))⟩, .val 0 []),
      (⟨(some 40), none, .o (.v (.ixa (.t 38) (.t 39) 3))⟩, .val 0 []),
      (⟨(some 41), none, .o (.v (.load (.t 40) (some 3)))⟩, .val 0 []),
      (⟨(some 42), none, .o (.call (.c (.fn 77 [])) [(.t 36), (.t 37), (.t 41)])⟩, .eff 0 []),
      (⟨(some 43), none, .o (.v (.mov (.t 12)))⟩, .val 0 []),
      (⟨(some 44), none, .o (.v (.bin .add (.t 43) (.c (.int .i64 (1)))))⟩, .val 0 []),
      (⟨(some 45), none, .o (.v (.mov (.t 3)))⟩, .val 0 []),
      (⟨(some 46), none, .o (.v (.bin .sub (.t 45) (.c (.int .i64 (1)))))⟩, .val 0 []),
      (⟨(some 47), none, .o (.call (.t 34) [(.t 35), (.t 42), (.t 44), (.t 46)])⟩, .eff 1 [])],
      [],
      [⟨(some 14), none, .o (.new 94 [(.lit (.bool false)), (.lit (.bool false)), (.lit (.bool false)), (.lit (.bool false)), (.lit (.bool false)), (.lit (.bool false)), (.lit (.bool false)), (.lit (.bool false))])⟩,
      ⟨none, none, .o (.store 8 (.t 14) (.t 47))⟩], (some 14)⟩,
      ⟨[6, 13, 4, 1, 5, 12, 38, 39, 40, 36, 37, 41, 43, 3, 45, 34, 35, 42, 44, 46, 14, 47], 1, 0, [(⟨(some 34), none, .o (.v (.load (.t 6) none))⟩, .val 0 []),
      (⟨(some 35), none, .o (.v (.load (.t 13) (some 8)))⟩, .val 0 []),
      (⟨(some 36), none, .o (.v (.load (.t 4) (some 8)))⟩, .val 0 []),
      (⟨(some 37), none, .o (.v (.mov (.t 1)))⟩, .val 0 []),
      (⟨(some 38), none, .o (.v (.load (.t 5) none))⟩, .val 0 []),
      (⟨(some 39), none, .o (.v (.mov (.t 12)))⟩, .val 0 []),
      (⟨(some 40), none, .o (.v (.ixa (.t 38) (.t 39) 3))⟩, .val 0 []),
      (⟨(some 41), none, .o (.v (.load (.t 40) (some 3)))⟩, .val 0 []),
      (⟨(some 42), none, .o (.call (.c (.fn 77 [])) [(.t 36), (.t 37), (.t 41)])⟩, .val 0 []),
      (⟨(some 43), none, .o (.v (.mov (.t 12)))⟩, .val 0 []),
      (⟨(some 44), none, .o (.v (.bin .add (.t 43) (.c (.int .i64 (1)))))⟩, .val 0 []),
      (⟨(some 45), none, .o (.v (.mov (.t 3)))⟩, .val 0 []),
      (⟨(some 46), none, .o (.v (.bin .sub (.t 45) (.c (.int .i64 (1)))))⟩, .val 0 []),
      (⟨(some 47), none, .o (.call (.t 34) [(.t 35), (.t 42), (.t 44), (.t 46)])⟩, .val 0 []),
      (⟨(some 14), none, .o (.new 94 [(.lit (.bool false)), (.lit (.bool false)), (.lit (.bool false)), (.lit (.bool false)), (.lit (.bool false)), (.lit (.bool false)), (.lit (.bool false)), (.lit (.bool false))])⟩, .cre 0)],
      [0],
      [⟨none, none, .o (.store 8 (.t 14) (.t 47))⟩], none⟩])
    (.seq (.reg [⟨(some 48), none, .o (.v (.load (.t 14) (some 8)))⟩,
      ⟨(some 49), none, .o (.bld [(.lit (.bool false)), (.lit (.bool false)), (.lit (.bool false)), (.lit (.bool false)), (.lit (.bool false)), (.lit (.bool false)), (.lit (.bool false)), (.lit (.bool false))] [])⟩,
      ⟨(some 50), none, .o (.v (.eqs [none, none, none, none, none, none, none, none] true (.t 48) (.t 49)))⟩])
    (.cond (.t 50)
      (.seq (.reg [⟨(some 51), none, .o (.v (.load (.t 14) (some 8)))⟩,
        ⟨none, none, .o (.store 8 (.t 11) (.t 51))⟩])
      .ret)
      .skip))))))
    (.reg [⟨(some 29), none, .o (.v (.mov (.t 12)))⟩,
      ⟨(some 30), none, .o (.v (.bin .add (.t 29) (.c (.int .i64 (1)))))⟩,
      ⟨(some 12), none, .o (.v (.mov (.t 30)))⟩]))))))
  (.seq (.reg [⟨(some 52), none, .o (.bld [(.lit (.bool false)), (.lit (.bool false)), (.lit (.bool false)), (.lit (.bool false)), (.lit (.bool false)), (.lit (.bool false)), (.lit (.bool false)), (.lit (.bool false))] [])⟩,
    ⟨none, none, .o (.store 8 (.t 11) (.t 52))⟩])
  .ret))))
theorem h86 : FdOk Try.prog 86 ⟨g86, [.c 11 (some 8)], 53, []⟩ := .of Try.func86 (by simp [Try.f86]) (by kernel_rfl)
/-- octant/level.kinds -/
def g87 : RC :=
  (.seq (.reg [⟨(some 0), none, .o (.new 134 [(.lit (.bool false)), (.lit .nilFunc), (.lit (.bool false)), (.lit .nilFunc)])⟩])
  (.seq (.reg [⟨(some 1), none, .o (.bld [(.lit (.bool false)), (.lit .nilFunc)] [(0, 1, (.c (.lit (.bool false)))), (1, 1, (.c (.fn 96 [])))])⟩,
    ⟨(some 2), none, .o (.bld [(.lit (.bool false)), (.lit .nilFunc)] [(0, 1, (.c (.lit (.bool true)))), (1, 1, (.c (.fn 97 [])))])⟩,
    ⟨(some 3), none, .o (.bld [(.lit (.bool false)), (.lit .nilFunc), (.lit (.bool false)), (.lit .nilFunc)] [(0, 2, (.t 1)), (2, 2, (.t 2))])⟩,
    ⟨none, none, .o (.store 4 (.t 0) (.t 3))⟩])
  .ret))
theorem h87 : FdOk Try.prog 87 ⟨g87, [.c 0 (some 4)], 4, []⟩ := .of Try.func87 (by simp [Try.f87]) (by kernel_rfl)
/-- (octant/level.vial).gain -/
def g88 : RC :=
  (.seq (.reg [⟨(some 3), none, .o (.box 78 (.t 0))⟩,
    ⟨(some 6), none, .o (.v (.mov (.c (.int .i64 (0)))))⟩,
    ⟨(some 7), none, .o (.v (.mov (.c (.lit (.bool false)))))⟩])
  (.seq (.seq (.reg [⟨(some 10), none, .o (.v (.off (.t 3) 0))⟩,
    ⟨(some 11), none, .o (.v (.off (.t 10) 0))⟩,
    ⟨(some 12), none, .o (.v (.load (.t 11) none))⟩,
    ⟨(some 13), none, .o (.v (.bin .mul (.c (.int .i64 (2))) (.t 12)))⟩,
    ⟨(some 14), none, .o (.v (.bin .add (.t 13) (.c (.int .i64 (1)))))⟩,
    ⟨(some 15), none, .o (.v (.mov (.c (.int .i64 (0)))))⟩])
  (.block 0 (.loop
    (.seq (.reg [⟨(some 16), none, .o (.v (.bin .lss (.t 15) (.t 14)))⟩])
    (.seq (.cond (.t 16)
      .skip
      (.exit 0))
    (.seq (.block 1 (.seq (.reg [⟨(some 17), none, .o (.v (.mov (.t 15)))⟩,
      ⟨(some 8), none, .o (.v (.mov (.t 17)))⟩])
    (.seq (.drw [⟨[], 0, 3, [(⟨(some 18), none, .o (.v (.load (.t 3) (some 8)))⟩, .val 0 []),
      (⟨(some 19), none, .o (.v (.mov (.t 1)))⟩, .val 0 []),
      (⟨(some 20), none, .o (.v (.mov (.t 2)))⟩, .val 0 []),
      (⟨(some 21), none, .o (.v (.load (.t 3) (some 8)))⟩, .val 0 []),
      (⟨(some 22), none, .o (.v (.mov (.t 8)))⟩, .val 0 []),
      (⟨(some 23), none, .o (.call (.c (.fn 94 [])) [(.t 21), (.t 22)])⟩, .eff 0 []),
      (⟨(some 24), none, .o (.call (.c (.fn 93 [])) [(.t 19), (.t 20), (.t 23)])⟩, .eff 1 []),
      (⟨(some 25), none, .o (.call (.c (.fn 56 [])) [(.t 18), (.t 24)])⟩, .eff 2 [])],
      [],
      [⟨(some 9), none, .o (.new 88 [(.int .i64 (0)), (.int .i64 (0)), (.int .i64 (0)), (.int .i64 (0))])⟩,
      ⟨none, none, .o (.store 4 (.t 9) (.t 25))⟩], (some 9)⟩,
      ⟨[3, 1, 2, 8, 21, 22, 19, 20, 23, 18, 24, 9, 25], 1, 0, [(⟨(some 18), none, .o (.v (.load (.t 3) (some 8)))⟩, .val 0 []),
      (⟨(some 19), none, .o (.v (.mov (.t 1)))⟩, .val 0 []),
      (⟨(some 20), none, .o (.v (.mov (.t 2)))⟩, .val 0 []),
      (⟨(some 21), none, .o (.v (.load (.t 3) (some 8)))⟩, .val 0 []),
      (⟨(some 22), none, .o (.v (.mov (.t 8)))⟩, .val 0 []),
      (⟨(some 23), none, .o (.call (.c (.fn 94 [])) [(.t 21), (.t 22)])⟩, .val 0 []),
      (⟨(some 24), none, .o (.call (.c (.fn 93 [])) [(.t 19), (.t 20), (.t 23)])⟩, .val 0 []),
      (⟨(some 25), none, .o (.call (.c (.fn 56 [])) [(.t 18), (.t 24)])⟩, .val 0 []),
      (⟨(some 9), none, .o (.new 88 [(.int .i64 (0)), (.int .i64 (0)), (.int .i64 (0)), (.int .i64 (0))])⟩, .cre 0)],
      [0],
      [⟨none, none, .o (.store 4 (.t 9) (.t 25))⟩], none⟩])
    (.seq (.drw [⟨[], 0, 1, [(⟨(some 26), none, .o (.v (.load (.t 9) (some 4)))⟩, .val 0 []),
      (⟨(some 27), none, .o (.call (.c (.fn 57 [])) [])⟩, .eff 0 [])],
      [],
      [⟨(some 28), none, .o (.v (.eqs [(some .i64), (some .i64), (some .i64), (some .i64)] true (.t 26) (.t 27)))⟩], none⟩])
    (.cond (.t 28)
      (.reg [⟨(some 29), none, .o (.v (.mov (.t 6)))⟩,
        ⟨(some 30), none, .o (.v (.off (.t 9) 0))⟩,
        ⟨(some 31), none, .o (.v (.load (.t 30) (some 2)))⟩,
        ⟨(some 32), none, .o (.call (.c (.fn 98 [])) [(.t 31)])⟩,
        ⟨(some 33), none, .o (.v (.max2 (.t 29) (.t 32)))⟩,
        ⟨(some 6), none, .o (.v (.mov (.t 33)))⟩,
        ⟨(some 7), none, .o (.v (.mov (.c (.lit (.bool true)))))⟩])
      .skip)))))
    (.reg [⟨(some 34), none, .o (.v (.bin .add (.t 15) (.c (.int .i64 (1)))))⟩,
      ⟨(some 15), none, .o (.v (.mov (.t 34)))⟩])))))))
  (.seq (.reg [⟨(some 35), none, .o (.v (.mov (.t 6)))⟩,
    ⟨(some 36), none, .o (.v (.mov (.t 7)))⟩,
    ⟨(some 6), none, .o (.v (.mov (.t 35)))⟩,
    ⟨(some 7), none, .o (.v (.mov (.t 36)))⟩])
  .ret)))
theorem h88 : FdOk Try.prog 88 ⟨g88, [.t 6, .t 7], 37, []⟩ := .of Try.func88 (by simp [Try.f88]) (by kernel_rfl)
/-- octant/level.best[octant/level.further] -/
def g89 : RC :=
  (.seq (.reg [⟨(some 4), none, .o (.box 99 (.t 1))⟩,
    ⟨(some 6), none, .o (.new 99 [(.lit (.bool false)), (.int .i64 (0))])⟩])
  (.seq (.seq (.reg [⟨(some 9), none, .o (.v (.mov (.t 2)))⟩,
    ⟨(some 10), none, .o (.v (.len (.t 9)))⟩,
    ⟨(some 11), none, .o (.v (.mov (.c (.int .i64 (0)))))⟩])
  (.block 0 (.loop
    (.seq (.reg [⟨(some 12), none, .o (.v (.bin .lss (.t 11) (.t 10)))⟩])
    (.seq (.cond (.t 12)
      .skip
      (.exit 0))
    (.seq (.block 1 (.seq (.reg [⟨(some 13), none, .o (.v (.ixa (.t 9) (.t 11) 2))⟩,
      ⟨(some 14), none, .o (.v (.load (.t 13) (some 2)))⟩,
      ⟨(some 8), none, .o (.new 99 [(.lit (.bool false)), (.int .i64 (0))])⟩,
      ⟨none, none, .o (.store 2 (.t 8) (.t 14))⟩])
    (.seq (.reg [⟨(some 15), none, .o (.v (.mov (.t 0)))⟩,
      ⟨(some 16), none, .o (.v (.load (.t 8) (some 2)))⟩,
      ⟨(some 17), none, .o (.v (.load (.t 4) (some 2)))⟩,
      ⟨(some 18), none, .o (.call (.t 15) [(.t 16), (.t 17)])⟩])
    (.cond (.t 18)
      (.reg [⟨(some 19), none, .o (.v (.load (.t 8) (some 2)))⟩,
        ⟨none, none, .o (.store 2 (.t 4) (.t 19))⟩])
      .skip))))
    (.reg [⟨(some 20), none, .o (.v (.bin .add (.t 11) (.c (.int .i64 (1)))))⟩,
      ⟨(some 11), none, .o (.v (.mov (.t 20)))⟩])))))))
  (.seq (.reg [⟨(some 21), none, .o (.v (.load (.t 4) (some 2)))⟩,
    ⟨none, none, .o (.store 2 (.t 6) (.t 21))⟩])
  .ret)))
theorem h89 : FdOk Try.prog 89 ⟨g89, [.c 6 (some 2)], 22, []⟩ := .of Try.func89 (by simp [Try.f89]) (by kernel_rfl)
/-- (octant/level.further).tighter -/
def g90 : RC :=
  (.seq (.reg [⟨(some 2), none, .o (.box 99 (.t 0))⟩,
    ⟨(some 3), none, .o (.box 99 (.t 1))⟩,
    ⟨(some 4), none, .o (.v (.mov (.c (.lit (.bool false)))))⟩])
  (.seq (.reg [⟨(some 5), none, .o (.v (.off (.t 2) 1))⟩,
    ⟨(some 6), none, .o (.v (.load (.t 5) none))⟩,
    ⟨(some 7), none, .o (.v (.off (.t 3) 1))⟩,
    ⟨(some 8), none, .o (.v (.load (.t 7) none))⟩,
    ⟨(some 9), none, .o (.v (.bin .lss (.t 6) (.t 8)))⟩,
    ⟨(some 4), none, .o (.v (.mov (.t 9)))⟩])
  .ret))
theorem h90 : FdOk Try.prog 90 ⟨g90, [.t 4], 10, []⟩ := .of Try.func90 (by simp [Try.f90]) (by kernel_rfl)
/-- (octant/level.vial).does -/
def g91 : RC :=
  (.seq (.reg [⟨(some 2), none, .o (.box 78 (.t 0))⟩,
    ⟨(some 3), none, .o (.box 49 (.t 1))⟩,
    ⟨(some 4), none, .o (.v (.mov (.c (.lit (.bool false)))))⟩])
  (.seq (.drw [⟨[], 0, 2, [(⟨(some 5), none, .o (.v (.load (.t 2) (some 8)))⟩, .val 0 []),
    (⟨(some 6), none, .o (.v (.off (.t 3) 0))⟩, .val 0 []),
    (⟨(some 7), none, .o (.v (.load (.t 6) none))⟩, .val 0 []),
    (⟨(some 8), none, .o (.call (.c (.fn 99 [])) [(.t 5), (.t 7)])⟩, .eff 0 []),
    (⟨(some 9), none, .o (.v (.mov (.t 8)))⟩, .val 1 []),
    (⟨(some 10), (some (9, true)), .o (.v (.load (.t 2) (some 8)))⟩, .val 1 []),
    (⟨(some 11), (some (9, true)), .o (.call (.c (.fn 100 [])) [(.t 10)])⟩, .eff 1 []),
    (⟨(some 12), (some (9, true)), .o (.v (.off (.t 3) 1))⟩, .val 1 []),
    (⟨(some 13), (some (9, true)), .o (.v (.load (.t 12) none))⟩, .val 1 [])],
    [],
    [⟨(some 14), (some (9, true)), .o (.v (.bin .leq (.t 11) (.t 13)))⟩,
    ⟨(some 15), none, .o (.v (.pick (.t 9) (.t 14) (.c (.lit (.bool false)))))⟩,
    ⟨(some 4), none, .o (.v (.mov (.t 15)))⟩], none⟩])
  .ret))
theorem h91 : FdOk Try.prog 91 ⟨g91, [.t 4], 16, []⟩ := .of Try.func91 (by simp [Try.f91]) (by kernel_rfl)
/-- (octant/level.middles).with -/
def g93 : RC :=
  (.seq (.reg [⟨(some 5), none, .o (.box 23 (.t 2))⟩,
    ⟨(some 6), none, .o (.v (.mov (.c (.lit (.map none)))))⟩])
  (.seq (.reg [⟨(some 10), none, .o (.v (.mov (.t 0)))⟩,
    ⟨(some 11), none, .o (.call (.c (.fn 101 [])) [(.t 10)])⟩,
    ⟨(some 7), none, .o (.v (.mov (.t 11)))⟩])
  (.seq (.seq (.reg [⟨(some 13), none, .o (.v (.mov (.t 0)))⟩,
    ⟨(some 14), none, .o (.v (.mov (.t 1)))⟩,
    ⟨(some 15), none, .lku .b (.agg [(.int .i64 (0)), (.int .i64 (0))]) true (.t 13) (.t 14)⟩,
    ⟨(some 12), none, .o (.v (.mov (.t 15)))⟩,
    ⟨(some 16), none, .o (.v (.ext (.t 12) 0))⟩,
    ⟨(some 17), none, .o (.v (.ext (.t 12) 1))⟩,
    ⟨(some 8), none, .o (.new 23 [(.int .i64 (0)), (.int .i64 (0))])⟩,
    ⟨none, none, .o (.store 2 (.t 8) (.t 16))⟩,
    ⟨(some 9), none, .o (.v (.mov (.t 17)))⟩])
  (.seq (.reg [⟨(some 18), none, .o (.v (.mov (.t 9)))⟩])
  (.cond (.t 18)
    (.reg [⟨(some 19), none, .o (.v (.load (.t 8) (some 2)))⟩,
      ⟨(some 20), none, .o (.v (.load (.t 5) (some 2)))⟩,
      ⟨(some 21), none, .o (.call (.c (.fn 81 [])) [(.t 19), (.t 20)])⟩,
      ⟨none, none, .o (.store 2 (.t 5) (.t 21))⟩])
    .skip)))
  (.seq (.reg [⟨(some 22), none, .o (.v (.mov (.t 7)))⟩,
    ⟨(some 23), none, .o (.v (.mov (.t 1)))⟩,
    ⟨(some 24), none, .o (.v (.load (.t 5) (some 2)))⟩,
    ⟨none, none, .upd .b (.t 22) (.t 23) (.t 24)⟩])
  (.seq (.reg [⟨(some 25), none, .o (.v (.mov (.t 7)))⟩,
    ⟨(some 6), none, .o (.v (.mov (.t 25)))⟩])
  .ret)))))
theorem h93 : FdOk Try.prog 93 ⟨g93, [.t 6], 26, []⟩ := .of Try.func93 (by simp [Try.f93]) (by kernel_rfl)
/-- (octant/level.vial).near -/
def g94 : RC :=
  (.seq (.reg [⟨(some 2), none, .o (.box 78 (.t 0))⟩,
    ⟨(some 4), none, .o (.new 23 [(.int .i64 (0)), (.int .i64 (0))])⟩])
  (.seq (.reg [⟨(some 5), none, .o (.v (.mov (.t 1)))⟩,
    ⟨(some 6), none, .o (.v (.off (.t 2) 0))⟩,
    ⟨(some 7), none, .o (.v (.off (.t 6) 7))⟩,
    ⟨(some 8), none, .o (.v (.load (.t 7) none))⟩,
    ⟨(some 9), none, .o (.v (.bin .sub (.t 5) (.t 8)))⟩,
    ⟨(some 10), none, .o (.v (.mov (.t 1)))⟩,
    ⟨(some 11), none, .o (.v (.off (.t 2) 0))⟩,
    ⟨(some 12), none, .o (.v (.off (.t 11) 7))⟩,
    ⟨(some 13), none, .o (.v (.load (.t 12) none))⟩,
    ⟨(some 14), none, .o (.v (.bin .add (.t 10) (.t 13)))⟩,
    ⟨(some 15), none, .o (.bld [(.int .i64 (0)), (.int .i64 (0))] [(0, 1, (.t 9)), (1, 1, (.t 14))])⟩,
    ⟨none, none, .o (.store 2 (.t 4) (.t 15))⟩])
  .ret))
theorem h94 : FdOk Try.prog 94 ⟨g94, [.c 4 (some 2)], 16, []⟩ := .of Try.func94 (by simp [Try.f94]) (by kernel_rfl)
/-- (octant/level.vial).zeros$1 -/
def g95 : RC :=
  (.seq (.reg [⟨(some 4), none, .o (.v (.off (.t 1) 0))⟩,
    ⟨(some 5), none, .o (.v (.off (.t 4) 5))⟩,
    ⟨(some 6), none, .o (.v (.off (.t 5) 0))⟩,
    ⟨(some 7), none, .o (.v (.load (.t 6) none))⟩,
    ⟨(some 3), none, .o (.v (.mov (.t 7)))⟩])
  (.block 0 (.loop
    (.seq (.seq (.reg [⟨(some 8), none, .o (.v (.mov (.t 3)))⟩,
      ⟨(some 9), none, .o (.v (.off (.t 1) 0))⟩,
      ⟨(some 10), none, .o (.v (.off (.t 9) 5))⟩,
      ⟨(some 11), none, .o (.v (.off (.t 10) 1))⟩,
      ⟨(some 12), none, .o (.v (.load (.t 11) none))⟩,
      ⟨(some 13), none, .o (.v (.bin .leq (.t 8) (.t 12)))⟩])
    (.cond (.t 13)
      .skip
      (.exit 0)))
    (.seq (.block 1 (.seq (.reg [⟨(some 16), none, .o (.v (.mov (.t 0)))⟩,
      ⟨(some 17), none, .o (.v (.mov (.t 3)))⟩,
      ⟨(some 18), none, .o (.call (.t 16) [(.t 17)])⟩,
      ⟨(some 19), none, .o (.v (.not (.t 18)))⟩])
    (.cond (.t 19)
      .ret
      .skip)))
    (.reg [⟨(some 14), none, .o (.v (.mov (.t 3)))⟩,
      ⟨(some 15), none, .o (.v (.bin .add (.t 14) (.c (.int .i64 (1)))))⟩,
      ⟨(some 3), none, .o (.v (.mov (.t 15)))⟩]))))))
theorem h95 : FdOk Try.prog 95 ⟨g95, [], 20, []⟩ := .of Try.func95 (by simp [Try.f95]) (by kernel_rfl)
/-- octant/level.kinds$1 -/
def g96 : RC :=
  (.seq (.reg [⟨(some 1), none, .o (.box 23 (.t 0))⟩,
    ⟨(some 2), none, .o (.v (.mov (.c (.lit .nilIface))))⟩])
  (.seq (.reg [⟨(some 3), none, .o (.v (.load (.t 1) (some 2)))⟩,
    ⟨(some 4), none, .o (.v (.ifc 145 (.t 3)))⟩,
    ⟨(some 2), none, .o (.v (.mov (.t 4)))⟩])
  .ret))
theorem h96 : FdOk Try.prog 96 ⟨g96, [.t 2], 5, []⟩ := .of Try.func96 (by simp [Try.f96]) (by kernel_rfl)
/-- octant/level.kinds$2 -/
def g97 : RC :=
  (.seq (.reg [⟨(some 1), none, .o (.box 23 (.t 0))⟩,
    ⟨(some 2), none, .o (.v (.mov (.c (.lit .nilIface))))⟩])
  (.seq (.reg [⟨(some 3), none, .o (.v (.load (.t 1) (some 2)))⟩,
    ⟨(some 4), none, .o (.v (.ifc 146 (.t 3)))⟩,
    ⟨(some 2), none, .o (.v (.mov (.t 4)))⟩])
  .ret))
theorem h97 : FdOk Try.prog 97 ⟨g97, [.t 2], 5, []⟩ := .of Try.func97 (by simp [Try.f97]) (by kernel_rfl)
/-- octant/level.width -/
def g98 : RC :=
  (.seq (.reg [⟨(some 1), none, .o (.box 23 (.t 0))⟩,
    ⟨(some 2), none, .o (.v (.mov (.c (.int .i64 (0)))))⟩])
  (.seq (.reg [⟨(some 3), none, .o (.v (.off (.t 1) 1))⟩,
    ⟨(some 4), none, .o (.v (.load (.t 3) none))⟩,
    ⟨(some 5), none, .o (.v (.off (.t 1) 0))⟩,
    ⟨(some 6), none, .o (.v (.load (.t 5) none))⟩,
    ⟨(some 7), none, .o (.v (.bin .sub (.t 4) (.t 6)))⟩,
    ⟨(some 2), none, .o (.v (.mov (.t 7)))⟩])
  .ret))
theorem h98 : FdOk Try.prog 98 ⟨g98, [.t 2], 8, []⟩ := .of Try.func98 (by simp [Try.f98]) (by kernel_rfl)
/-- (octant/level.vial).reaches -/
def g99 : RC :=
  (.seq (.reg [⟨(some 2), none, .o (.box 78 (.t 0))⟩,
    ⟨(some 4), none, .o (.v (.mov (.c (.lit (.bool false)))))⟩])
  (.seq (.drw [⟨[], 0, 0, [(⟨(some 7), none, .o (.v (.off (.t 2) 0))⟩, .val 0 []),
    (⟨(some 8), none, .o (.v (.off (.t 7) 5))⟩, .val 0 []),
    (⟨(some 9), none, .o (.v (.off (.t 8) 0))⟩, .val 0 []),
    (⟨(some 10), none, .o (.v (.load (.t 9) none))⟩, .val 0 []),
    (⟨(some 11), none, .o (.v (.off (.t 2) 0))⟩, .val 0 []),
    (⟨(some 12), none, .o (.v (.off (.t 11) 1))⟩, .val 0 []),
    (⟨(some 13), none, .o (.v (.off (.t 12) 1))⟩, .val 0 []),
    (⟨(some 14), none, .o (.v (.load (.t 13) none))⟩, .val 0 []),
    (⟨(some 15), none, .o (.v (.bin .sub (.t 10) (.t 14)))⟩, .val 0 []),
    (⟨(some 16), none, .o (.v (.off (.t 2) 0))⟩, .val 0 []),
    (⟨(some 17), none, .o (.v (.off (.t 16) 0))⟩, .val 0 []),
    (⟨(some 18), none, .o (.v (.load (.t 17) none))⟩, .val 0 []),
    (⟨(some 19), none, .o (.v (.bin .mul (.c (.int .i64 (2))) (.t 18)))⟩, .val 0 []),
    (⟨(some 20), none, .o (.v (.off (.t 2) 0))⟩, .val 0 []),
    (⟨(some 21), none, .o (.v (.off (.t 20) 1))⟩, .val 0 []),
    (⟨(some 22), none, .o (.v (.off (.t 21) 1))⟩, .val 0 []),
    (⟨(some 23), none, .o (.v (.load (.t 22) none))⟩, .val 0 []),
    (⟨(some 24), none, .o (.v (.bin .sub (.t 19) (.t 23)))⟩, .val 0 []),
    (⟨(some 25), none, .o (.v (.off (.t 2) 0))⟩, .val 0 []),
    (⟨(some 26), none, .o (.v (.off (.t 25) 5))⟩, .val 0 []),
    (⟨(some 27), none, .o (.v (.off (.t 26) 1))⟩, .val 0 []),
    (⟨(some 28), none, .o (.v (.load (.t 27) none))⟩, .val 0 []),
    (⟨(some 29), none, .o (.v (.bin .sub (.t 24) (.t 28)))⟩, .val 0 []),
    (⟨(some 5), none, .o (.v (.mov (.t 15)))⟩, .val 0 [])],
    [],
    [⟨(some 6), none, .o (.v (.mov (.t 29)))⟩], none⟩])
  (.seq (.reg [⟨(some 30), none, .o (.v (.mov (.t 1)))⟩,
    ⟨(some 31), none, .o (.v (.off (.t 2) 0))⟩,
    ⟨(some 32), none, .o (.v (.off (.t 31) 3))⟩,
    ⟨(some 33), none, .o (.v (.off (.t 32) 0))⟩,
    ⟨(some 34), none, .o (.v (.load (.t 33) none))⟩,
    ⟨(some 35), none, .o (.v (.mov (.t 5)))⟩,
    ⟨(some 36), none, .o (.v (.mov (.t 6)))⟩,
    ⟨(some 37), none, .o (.v (.min2 (.t 35) (.t 36)))⟩,
    ⟨(some 38), none, .o (.v (.bin .mul (.t 34) (.t 37)))⟩,
    ⟨(some 39), none, .o (.v (.bin .leq (.t 30) (.t 38)))⟩,
    ⟨(some 4), none, .o (.v (.mov (.t 39)))⟩])
  .ret)))
theorem h99 : FdOk Try.prog 99 ⟨g99, [.t 4], 40, []⟩ := .of Try.func99 (by simp [Try.f99]) (by kernel_rfl)
/-- (octant/level.vial).fault -/
def g100 : RC :=
  (.seq (.reg [⟨(some 1), none, .o (.box 78 (.t 0))⟩,
    ⟨(some 2), none, .o (.v (.mov (.c (.int .i64 (0)))))⟩])
  (.seq (.reg [⟨(some 3), none, .o (.v (.mov (.c (.int .i64 (0)))))⟩])
  (.seq (.seq (.reg [⟨(some 6), none, .o (.v (.off (.t 1) 0))⟩,
    ⟨(some 7), none, .o (.v (.off (.t 6) 0))⟩,
    ⟨(some 8), none, .o (.v (.load (.t 7) none))⟩,
    ⟨(some 9), none, .o (.v (.bin .mul (.c (.int .i64 (2))) (.t 8)))⟩,
    ⟨(some 10), none, .o (.v (.off (.t 1) 0))⟩,
    ⟨(some 11), none, .o (.v (.off (.t 10) 1))⟩,
    ⟨(some 12), none, .o (.v (.off (.t 11) 1))⟩,
    ⟨(some 13), none, .o (.v (.load (.t 12) none))⟩,
    ⟨(some 14), none, .o (.v (.bin .mul (.c (.int .i64 (2))) (.t 13)))⟩,
    ⟨(some 15), none, .o (.v (.bin .sub (.t 9) (.t 14)))⟩,
    ⟨(some 16), none, .o (.v (.bin .add (.t 15) (.c (.int .i64 (1)))))⟩,
    ⟨(some 17), none, .o (.v (.mov (.c (.int .i64 (0)))))⟩])
  (.block 0 (.loop
    (.seq (.reg [⟨(some 18), none, .o (.v (.bin .lss (.t 17) (.t 16)))⟩])
    (.seq (.cond (.t 18)
      .skip
      (.exit 0))
    (.seq (.block 1 (.seq (.reg [⟨(some 19), none, .o (.v (.mov (.t 17)))⟩,
      ⟨(some 4), none, .o (.v (.mov (.t 19)))⟩])
    (.seq (.drw [⟨[1, 23, 24, 25, 4, 26, 27, 22, 28, 21, 29, 20, 30, 5, 31], 1, 0, [(⟨(some 20), none, .o (.v (.load (.t 1) (some 8)))⟩, .val 0 []),
      (⟨(some 21), none, .mkm⟩, .val 0 []),
      (⟨(some 22), none, .o (.v (.load (.t 1) (some 8)))⟩, .val 0 []),
      (⟨(some 23), none, .o (.v (.off (.t 1) 0))⟩, .val 0 []),
      (⟨(some 24), none, .o (.v (.off (.t 23) 1))⟩, .val 0 []),
      (⟨(some 25), none, .o (.v (.off (.t 24) 1))⟩, .val 0 []),
      (⟨(some 26), none, .o (.v (.load (.t 25) none))⟩, .val 0 []),
      (⟨(some 27), none, .o (.v (.mov (.t 4)))⟩, .val 0 []),
      (⟨(some 28), none, .o (.v (.bin .add (.t 26) (.t 27)))⟩, .val 0 []),
      (⟨(some 29), none, .o (.call (.c (.fn 94 [])) [(.t 22), (.t 28)])⟩, .val 0 []),
      (⟨(some 30), none, .o (.call (.c (.fn 93 [])) [(.t 21), (.c (.lit (.bool false))), (.t 29)])⟩, .val 0 []),
      (⟨(some 31), none, .o (.call (.c (.fn 56 [])) [(.t 20), (.t 30)])⟩, .val 0 []),
      (⟨(some 5), none, .o (.new 88 [(.int .i64 (0)), (.int .i64 (0)), (.int .i64 (0)), (.int .i64 (0))])⟩, .cre 0)],
      [0],
      [⟨none, none, .o (.store 4 (.t 5) (.t 31))⟩], none⟩])
    (.reg [⟨(some 32), none, .o (.v (.mov (.t 3)))⟩,
      ⟨(some 33), none, .o (.v (.off (.t 5) 0))⟩,
      ⟨(some 34), none, .o (.v (.load (.t 33) (some 2)))⟩,
      ⟨(some 35), none, .o (.call (.c (.fn 98 [])) [(.t 34)])⟩,
      ⟨(some 36), none, .o (.v (.max2 (.t 32) (.t 35)))⟩,
      ⟨(some 3), none, .o (.v (.mov (.t 36)))⟩]))))
    (.reg [⟨(some 37), none, .o (.v (.bin .add (.t 17) (.c (.int .i64 (1)))))⟩,
      ⟨(some 17), none, .o (.v (.mov (.t 37)))⟩])))))))
  (.seq (.reg [⟨(some 38), none, .o (.v (.mov (.t 3)))⟩,
    ⟨(some 2), none, .o (.v (.mov (.t 38)))⟩])
  .ret))))
theorem h100 : FdOk Try.prog 100 ⟨g100, [.t 2], 39, []⟩ := .of Try.func100 (by simp [Try.f100]) (by kernel_rfl)
/-- maps.Clone[octant/level.middles,bool,octant/api.Span] -/
def g101 : RC :=
  (.seq (.reg [⟨(some 2), none, .o (.v (.mov (.c (.lit (.map none)))))⟩])
  (.seq (.seq (.reg [⟨(some 3), none, .o (.v (.mov (.t 0)))⟩,
    ⟨(some 4), none, .e1 (.mnil false) (.t 3)⟩])
  (.cond (.t 4)
    (.seq (.reg [⟨(some 2), none, .o (.v (.mov (.c (.lit (.map none)))))⟩])
    .ret)
    .skip))
  (.seq (.reg [⟨(some 5), none, .o (.v (.mov (.t 0)))⟩,
    ⟨(some 6), none, .o (.v (.ifc 81 (.t 5)))⟩,
    ⟨(some 7), none, .e1 .cln (.t 6)⟩,
    ⟨(some 8), none, .e1 (.tas 81) (.t 7)⟩,
    ⟨(some 2), none, .o (.v (.mov (.t 8)))⟩])
  .ret)))
theorem h101 : FdOk Try.prog 101 ⟨g101, [.t 2], 9, []⟩ := .of Try.func101 (by simp [Try.f101]) (by kernel_rfl)
/-- (octant/level.direct).moved -/
def g118 : RC :=
  (.seq (.reg [⟨(some 2), none, .o (.box 145 (.t 0))⟩,
    ⟨(some 4), none, .o (.new 23 [(.int .i64 (0)), (.int .i64 (0))])⟩])
  (.seq (.reg [⟨(some 5), none, .o (.v (.off (.t 2) 0))⟩,
    ⟨(some 6), none, .o (.v (.load (.t 5) none))⟩,
    ⟨(some 7), none, .o (.v (.mov (.t 1)))⟩,
    ⟨(some 8), none, .o (.v (.bin .sub (.t 6) (.t 7)))⟩,
    ⟨(some 9), none, .o (.v (.off (.t 2) 1))⟩,
    ⟨(some 10), none, .o (.v (.load (.t 9) none))⟩,
    ⟨(some 11), none, .o (.v (.mov (.t 1)))⟩,
    ⟨(some 12), none, .o (.v (.bin .sub (.t 10) (.t 11)))⟩,
    ⟨(some 13), none, .o (.bld [(.int .i64 (0)), (.int .i64 (0))] [(0, 1, (.t 8)), (1, 1, (.t 12))])⟩,
    ⟨none, none, .o (.store 2 (.t 4) (.t 13))⟩])
  .ret))
theorem h118 : FdOk Try.prog 118 ⟨g118, [.c 4 (some 2)], 14, []⟩ := .of Try.func118 (by simp [Try.f118]) (by kernel_rfl)
/-- (octant/level.reversed).moved -/
def g119 : RC :=
  (.seq (.reg [⟨(some 2), none, .o (.box 146 (.t 0))⟩,
    ⟨(some 4), none, .o (.new 23 [(.int .i64 (0)), (.int .i64 (0))])⟩])
  (.seq (.reg [⟨(some 5), none, .o (.v (.mov (.t 1)))⟩,
    ⟨(some 6), none, .o (.v (.off (.t 2) 1))⟩,
    ⟨(some 7), none, .o (.v (.load (.t 6) none))⟩,
    ⟨(some 8), none, .o (.v (.bin .sub (.t 5) (.t 7)))⟩,
    ⟨(some 9), none, .o (.v (.mov (.t 1)))⟩,
    ⟨(some 10), none, .o (.v (.off (.t 2) 0))⟩,
    ⟨(some 11), none, .o (.v (.load (.t 10) none))⟩,
    ⟨(some 12), none, .o (.v (.bin .sub (.t 9) (.t 11)))⟩,
    ⟨(some 13), none, .o (.bld [(.int .i64 (0)), (.int .i64 (0))] [(0, 1, (.t 8)), (1, 1, (.t 12))])⟩,
    ⟨none, none, .o (.store 2 (.t 4) (.t 13))⟩])
  .ret))
theorem h119 : FdOk Try.prog 119 ⟨g119, [.c 4 (some 2)], 14, []⟩ := .of Try.func119 (by simp [Try.f119]) (by kernel_rfl)

end Go.Proofs.Ytgdihdiadlmjiaa
