/- Rounds: RoundsTurned, given works(). -/
import Derived.Test.YtgfoakilompbdaaVgF2
namespace Go.Proofs.Ytgfoakilompbdaa
open Go Go.Vg
set_option linter.unusedSimpArgs false
set_option linter.unusedVariables false
set_option maxRecDepth 10000
/- 7: octant/octantlaw06.RoundsTurned -/
def s7 : SC :=
  (.seq (.reg [⟨(some 3), none, .box 27 (.t 0)⟩,
    ⟨(some 4), none, .box 56 (.t 1)⟩,
    ⟨(some 5), none, .box 56 (.t 2)⟩,
    ⟨(some 6), none, .v (.mov (.c (.lit (.bool false))))⟩])
  (.seq (.drw [(0, ⟨(some 18), none, .v (.off (.t 3) 2)⟩, false),
    (1, ⟨(some 19), none, .v (.load (.t 18) none)⟩, false),
    (2, ⟨(some 20), none, .call (.c (.fn 33 [])) [(.t 19), (.c (.int .i64 (10001)))]⟩, false),
    (3, ⟨(some 21), none, .v (.off (.t 3) 3)⟩, false),
    (4, ⟨(some 22), none, .v (.load (.t 21) none)⟩, false)]
    none
    [⟨(some 23), none, .call (.c (.fn 33 [])) [(.t 22), (.c (.int .i64 (100001)))]⟩,
    ⟨(some 7), none, .v (.mov (.t 20))⟩,
    ⟨(some 8), none, .v (.mov (.t 23))⟩])
  (.seq (.drw [(0, ⟨(some 24), none, .v (.ixarr (.t 4) (.c (.int .i64 (0))) 2 1)⟩, false),
    (1, ⟨(some 25), none, .v (.load (.t 24) none)⟩, false),
    (2, ⟨(some 26), none, .call (.c (.fn 33 [])) [(.t 25), (.c (.int .i64 (1296000)))]⟩, false),
    (3, ⟨(some 27), none, .v (.ixarr (.t 4) (.c (.int .i64 (1))) 2 1)⟩, false),
    (4, ⟨(some 28), none, .v (.load (.t 27) none)⟩, false),
    (5, ⟨(some 29), none, .v (.mov (.t 8))⟩, false),
    (6, ⟨(some 30), none, .v (.bin .mul (.c (.int .i64 (2))) (.t 29))⟩, false),
    (7, ⟨(some 31), none, .v (.bin .add (.t 30) (.c (.int .i64 (1))))⟩, false),
    (8, ⟨(some 32), none, .call (.c (.fn 33 [])) [(.t 28), (.t 31)]⟩, false),
    (9, ⟨(some 33), none, .v (.mov (.t 8))⟩, false),
    (10, ⟨(some 34), none, .v (.bin .sub (.t 32) (.t 33))⟩, false),
    (11, ⟨(some 9), none, .v (.mov (.t 26))⟩, false)]
    none
    [⟨(some 10), none, .v (.mov (.t 34))⟩])
  (.seq (.drw [(0, ⟨(some 35), none, .v (.mov (.t 9))⟩, false),
    (1, ⟨(some 36), none, .v (.mov (.t 10))⟩, false),
    (2, ⟨(some 37), none, .v (.bin .add (.t 35) (.t 36))⟩, false),
    (3, ⟨(some 38), none, .v (.ixarr (.t 5) (.c (.int .i64 (0))) 2 1)⟩, false),
    (4, ⟨(some 39), none, .v (.load (.t 38) none)⟩, false),
    (5, ⟨(some 40), none, .v (.mov (.t 7))⟩, false),
    (6, ⟨(some 41), none, .v (.bin .mul (.c (.int .i64 (2))) (.t 40))⟩, false),
    (7, ⟨(some 42), none, .v (.bin .add (.t 41) (.c (.int .i64 (1))))⟩, false),
    (8, ⟨(some 43), none, .call (.c (.fn 33 [])) [(.t 39), (.t 42)]⟩, false),
    (9, ⟨(some 44), none, .v (.bin .add (.t 37) (.t 43))⟩, false),
    (10, ⟨(some 45), none, .v (.mov (.t 7))⟩, false),
    (11, ⟨(some 46), none, .v (.bin .sub (.t 44) (.t 45))⟩, false),
    (12, ⟨(some 47), none, .call (.c (.fn 33 [])) [(.t 46), (.c (.int .i64 (1296000)))]⟩, false),
    (13, ⟨(some 48), none, .v (.mov (.t 9))⟩, false),
    (14, ⟨(some 49), none, .v (.bin .add (.t 48) (.c (.int .i64 (648000))))⟩, false),
    (15, ⟨(some 50), none, .v (.mov (.t 10))⟩, false),
    (16, ⟨(some 51), none, .v (.bin .sub (.t 49) (.t 50))⟩, false),
    (17, ⟨(some 52), none, .v (.ixarr (.t 5) (.c (.int .i64 (1))) 2 1)⟩, false),
    (18, ⟨(some 53), none, .v (.load (.t 52) none)⟩, false),
    (19, ⟨(some 54), none, .v (.mov (.t 7))⟩, false),
    (20, ⟨(some 55), none, .v (.bin .mul (.c (.int .i64 (2))) (.t 54))⟩, false),
    (21, ⟨(some 56), none, .v (.bin .add (.t 55) (.c (.int .i64 (1))))⟩, false),
    (22, ⟨(some 57), none, .call (.c (.fn 33 [])) [(.t 53), (.t 56)]⟩, false),
    (23, ⟨(some 58), none, .v (.bin .add (.t 51) (.t 57))⟩, false),
    (24, ⟨(some 59), none, .v (.mov (.t 7))⟩, false),
    (25, ⟨(some 60), none, .v (.bin .sub (.t 58) (.t 59))⟩, false),
    (26, ⟨(some 61), none, .call (.c (.fn 33 [])) [(.t 60), (.c (.int .i64 (1296000)))]⟩, false),
    (27, ⟨(some 62), none, .v (.mov (.t 7))⟩, false),
    (28, ⟨(some 63), none, .v (.mov (.t 8))⟩, false),
    (29, ⟨(some 64), none, .bld [(.int .i64 (0)), (.int .i64 (0)), (.int .i64 (0)), (.int .i64 (0))] [(0, 1, (.t 47)), (1, 1, (.t 61)), (2, 1, (.t 62)), (3, 1, (.t 63))]⟩, false)]
    (some ⟨(some 11), none, .new 27 [(.int .i64 (0)), (.int .i64 (0)), (.int .i64 (0)), (.int .i64 (0))]⟩)
    [⟨none, none, .store 4 (.t 11) (.t 64)⟩])
  (.seq (.reg [⟨(some 66), none, .v (.load (.t 11) (some 4))⟩,
    ⟨(some 67), none, .call (.c (.fn 17 [])) [(.t 66)]⟩,
    ⟨(some 65), none, .v (.mov (.t 67))⟩,
    ⟨(some 68), none, .v (.ext (.t 65) 0)⟩,
    ⟨(some 69), none, .v (.ext (.t 65) 1)⟩,
    ⟨(some 70), none, .v (.ext (.t 65) 2)⟩,
    ⟨(some 12), none, .new 23 [(.int .i64 (0)), (.int .i64 (0))]⟩,
    ⟨(some 13), none, .new 23 [(.int .i64 (0)), (.int .i64 (0))]⟩,
    ⟨none, none, .store 2 (.t 12) (.t 68)⟩,
    ⟨none, none, .store 2 (.t 13) (.t 69)⟩,
    ⟨(some 14), none, .v (.mov (.t 70))⟩])
  (.seq (.seq (.reg [⟨(some 71), none, .v (.mov (.t 14))⟩,
    ⟨(some 72), none, .v (.bin .neq (.t 71) (.c (.int .i64 (0))))⟩,
    ⟨(some 73), none, .v (.mov (.t 72))⟩,
    ⟨(some 74), (some (73, false)), .v (.off (.t 12) 1)⟩,
    ⟨(some 75), (some (73, false)), .v (.load (.t 74) none)⟩,
    ⟨(some 76), (some (73, false)), .v (.off (.t 12) 0)⟩,
    ⟨(some 77), (some (73, false)), .v (.load (.t 76) none)⟩,
    ⟨(some 78), (some (73, false)), .v (.bin .sub (.t 75) (.t 77))⟩,
    ⟨(some 79), (some (73, false)), .v (.mov (.t 7))⟩,
    ⟨(some 80), (some (73, false)), .v (.bin .mul (.c (.int .i64 (2))) (.t 79))⟩,
    ⟨(some 81), (some (73, false)), .v (.bin .gtr (.t 78) (.t 80))⟩,
    ⟨(some 82), none, .v (.pick (.t 73) (.c (.lit (.bool true))) (.t 81))⟩,
    ⟨(some 83), none, .v (.mov (.t 82))⟩,
    ⟨(some 84), (some (83, false)), .v (.off (.t 12) 0)⟩,
    ⟨(some 85), (some (83, false)), .v (.load (.t 84) none)⟩,
    ⟨(some 86), (some (83, false)), .v (.off (.t 12) 1)⟩,
    ⟨(some 87), (some (83, false)), .v (.load (.t 86) none)⟩,
    ⟨(some 88), (some (83, false)), .v (.bin .gtr (.t 85) (.t 87))⟩,
    ⟨(some 89), none, .v (.pick (.t 83) (.c (.lit (.bool true))) (.t 88))⟩,
    ⟨(some 90), none, .v (.mov (.t 89))⟩,
    ⟨(some 91), (some (90, false)), .v (.off (.t 13) 0)⟩,
    ⟨(some 92), (some (90, false)), .v (.load (.t 91) none)⟩,
    ⟨(some 93), (some (90, false)), .v (.off (.t 13) 1)⟩,
    ⟨(some 94), (some (90, false)), .v (.load (.t 93) none)⟩,
    ⟨(some 95), (some (90, false)), .v (.bin .gtr (.t 92) (.t 94))⟩,
    ⟨(some 96), none, .v (.pick (.t 90) (.c (.lit (.bool true))) (.t 95))⟩,
    ⟨(some 97), none, .v (.mov (.t 96))⟩,
    ⟨(some 98), (some (97, false)), .v (.off (.t 13) 0)⟩,
    ⟨(some 99), (some (97, false)), .v (.load (.t 98) none)⟩,
    ⟨(some 100), (some (97, false)), .v (.mov (.t 8))⟩,
    ⟨(some 101), (some (97, false)), .v (.neg (.t 100))⟩,
    ⟨(some 102), (some (97, false)), .v (.bin .lss (.t 99) (.t 101))⟩,
    ⟨(some 103), none, .v (.pick (.t 97) (.c (.lit (.bool true))) (.t 102))⟩,
    ⟨(some 104), none, .v (.mov (.t 103))⟩,
    ⟨(some 105), (some (104, false)), .v (.off (.t 13) 1)⟩,
    ⟨(some 106), (some (104, false)), .v (.load (.t 105) none)⟩,
    ⟨(some 107), (some (104, false)), .v (.mov (.t 8))⟩,
    ⟨(some 108), (some (104, false)), .v (.bin .gtr (.t 106) (.t 107))⟩,
    ⟨(some 109), none, .v (.pick (.t 104) (.c (.lit (.bool true))) (.t 108))⟩,
    ⟨(some 110), none, .v (.mov (.t 109))⟩,
    ⟨(some 111), (some (110, false)), .v (.load (.t 13) (some 2))⟩,
    ⟨(some 112), (some (110, false)), .v (.mov (.t 10))⟩,
    ⟨(some 113), (some (110, false)), .call (.c (.fn 35 [])) [(.t 111), (.t 112)]⟩,
    ⟨(some 114), (some (110, false)), .v (.not (.t 113))⟩,
    ⟨(some 115), none, .v (.pick (.t 110) (.c (.lit (.bool true))) (.t 114))⟩,
    ⟨(some 116), none, .v (.mov (.t 115))⟩,
    ⟨(some 117), (some (116, false)), .v (.off (.t 12) 0)⟩,
    ⟨(some 118), (some (116, false)), .v (.load (.t 117) none)⟩,
    ⟨(some 119), (some (116, false)), .v (.off (.t 11) 0)⟩,
    ⟨(some 120), (some (116, false)), .v (.load (.t 119) none)⟩,
    ⟨(some 121), (some (116, false)), .v (.bin .sub (.t 118) (.t 120))⟩,
    ⟨(some 122), (some (116, false)), .call (.c (.fn 36 [])) [(.t 121)]⟩,
    ⟨(some 123), (some (116, false)), .v (.mov (.t 8))⟩,
    ⟨(some 124), (some (116, false)), .v (.mov (.t 7))⟩,
    ⟨(some 125), (some (116, false)), .v (.bin .add (.t 123) (.t 124))⟩,
    ⟨(some 126), (some (116, false)), .v (.bin .gtr (.t 122) (.t 125))⟩,
    ⟨(some 127), none, .v (.pick (.t 116) (.c (.lit (.bool true))) (.t 126))⟩,
    ⟨(some 128), none, .v (.mov (.t 127))⟩,
    ⟨(some 129), (some (128, false)), .v (.off (.t 12) 1)⟩,
    ⟨(some 130), (some (128, false)), .v (.load (.t 129) none)⟩,
    ⟨(some 131), (some (128, false)), .v (.off (.t 11) 0)⟩,
    ⟨(some 132), (some (128, false)), .v (.load (.t 131) none)⟩,
    ⟨(some 133), (some (128, false)), .v (.bin .sub (.t 130) (.t 132))⟩,
    ⟨(some 134), (some (128, false)), .call (.c (.fn 36 [])) [(.t 133)]⟩,
    ⟨(some 135), (some (128, false)), .v (.mov (.t 8))⟩,
    ⟨(some 136), (some (128, false)), .v (.mov (.t 7))⟩,
    ⟨(some 137), (some (128, false)), .v (.bin .add (.t 135) (.t 136))⟩,
    ⟨(some 138), (some (128, false)), .v (.bin .gtr (.t 134) (.t 137))⟩,
    ⟨(some 139), none, .v (.pick (.t 128) (.c (.lit (.bool true))) (.t 138))⟩])
  (.cond (.t 139)
    (.seq (.reg [⟨(some 6), none, .v (.mov (.c (.lit (.bool false))))⟩])
    .ret)
    .skip))
  (.seq (.seq (.reg [⟨(some 140), none, .v (.load (.t 12) (some 2))⟩,
    ⟨(some 141), none, .v (.mov (.t 9))⟩,
    ⟨(some 142), none, .call (.c (.fn 35 [])) [(.t 140), (.t 141)]⟩,
    ⟨(some 143), none, .v (.not (.t 142))⟩,
    ⟨(some 144), none, .v (.mov (.t 143))⟩,
    ⟨(some 145), (some (144, true)), .v (.load (.t 12) (some 2))⟩,
    ⟨(some 146), (some (144, true)), .v (.mov (.t 9))⟩,
    ⟨(some 147), (some (144, true)), .v (.bin .add (.t 146) (.c (.int .i64 (1296000))))⟩,
    ⟨(some 148), (some (144, true)), .call (.c (.fn 35 [])) [(.t 145), (.t 147)]⟩,
    ⟨(some 149), (some (144, true)), .v (.not (.t 148))⟩,
    ⟨(some 150), none, .v (.pick (.t 144) (.t 149) (.c (.lit (.bool false))))⟩,
    ⟨(some 151), none, .v (.mov (.t 150))⟩,
    ⟨(some 152), (some (151, true)), .v (.load (.t 12) (some 2))⟩,
    ⟨(some 153), (some (151, true)), .v (.mov (.t 9))⟩,
    ⟨(some 154), (some (151, true)), .v (.bin .sub (.t 153) (.c (.int .i64 (1296000))))⟩,
    ⟨(some 155), (some (151, true)), .call (.c (.fn 35 [])) [(.t 152), (.t 154)]⟩,
    ⟨(some 156), (some (151, true)), .v (.not (.t 155))⟩,
    ⟨(some 157), none, .v (.pick (.t 151) (.t 156) (.c (.lit (.bool false))))⟩])
  (.cond (.t 157)
    (.seq (.reg [⟨(some 6), none, .v (.mov (.c (.lit (.bool false))))⟩])
    .ret)
    .skip))
  (.seq (.reg [⟨(some 15), none, .v (.mov (.c (.int .i64 (648000))))⟩])
  (.seq (.tre (.op ⟨(some 159), none, .v (.off (.t 11) 1)⟩ (.op ⟨(some 160), none, .v (.load (.t 159) none)⟩ (.op ⟨(some 161), none, .v (.mov (.t 15))⟩ (.op ⟨(some 162), none, .v (.bin .add (.t 160) (.t 161))⟩ (.op ⟨(some 164), none, .v (.off (.t 11) 0)⟩ (.op ⟨(some 166), none, .v (.mov (.t 15))⟩ (.op ⟨(some 169), none, .v (.mov (.t 7))⟩ (.op ⟨(some 170), none, .v (.mov (.t 8))⟩ (.op ⟨(some 163), none, .call (.c (.fn 33 [])) [(.t 162), (.c (.int .i64 (1296000)))]⟩ (.op ⟨(some 165), none, .v (.load (.t 164) none)⟩ (.op ⟨(some 167), none, .v (.bin .add (.t 165) (.t 166))⟩ (.op ⟨(some 168), none, .call (.c (.fn 33 [])) [(.t 167), (.c (.int .i64 (1296000)))]⟩ (.op ⟨(some 171), none, .bld [(.int .i64 (0)), (.int .i64 (0)), (.int .i64 (0)), (.int .i64 (0))] [(0, 1, (.t 163)), (1, 1, (.t 168)), (2, 1, (.t 169)), (3, 1, (.t 170))]⟩ (.op ⟨(some 172), none, .call (.c (.fn 17 [])) [(.t 171)]⟩ (.op ⟨(some 158), none, .v (.mov (.t 172))⟩ (.op ⟨(some 173), none, .v (.ext (.t 158) 0)⟩ (.op ⟨(some 174), none, .v (.ext (.t 158) 1)⟩ (.op ⟨(some 175), none, .v (.ext (.t 158) 2)⟩ (.op ⟨(some 16), none, .new 23 [(.int .i64 (0)), (.int .i64 (0))]⟩ (.op ⟨(some 17), none, .new 23 [(.int .i64 (0)), (.int .i64 (0))]⟩ (.op ⟨none, none, .store 2 (.t 16) (.t 173)⟩ (.op ⟨none, none, .store 2 (.t 17) (.t 174)⟩ (.op ⟨(some 14), none, .v (.mov (.t 175))⟩ .leaf
    .stop)
    .stop)
    .stop)
    .stop)
    (.op ⟨(some 17), none, .new 23 [(.int .i64 (0)), (.int .i64 (0))]⟩ (.op ⟨(some 16), none, .new 23 [(.int .i64 (0)), (.int .i64 (0))]⟩ (.op ⟨none, none, .store 2 (.t 16) (.t 173)⟩ (.op ⟨none, none, .store 2 (.t 17) (.t 174)⟩ (.op ⟨(some 14), none, .v (.mov (.t 175))⟩ .leaf
    .stop)
    .stop)
    .stop)
    .stop)
    .stop))
    .stop)
    .stop)
    .stop)
    .stop)
    (.op ⟨(some 16), none, .new 23 [(.int .i64 (0)), (.int .i64 (0))]⟩ (.op ⟨(some 172), none, .call (.c (.fn 17 [])) [(.t 171)]⟩ (.op ⟨(some 158), none, .v (.mov (.t 172))⟩ (.op ⟨(some 173), none, .v (.ext (.t 158) 0)⟩ (.op ⟨(some 174), none, .v (.ext (.t 158) 1)⟩ (.op ⟨(some 175), none, .v (.ext (.t 158) 2)⟩ (.op ⟨(some 17), none, .new 23 [(.int .i64 (0)), (.int .i64 (0))]⟩ (.op ⟨none, none, .store 2 (.t 16) (.t 173)⟩ (.op ⟨none, none, .store 2 (.t 17) (.t 174)⟩ (.op ⟨(some 14), none, .v (.mov (.t 175))⟩ .leaf
    .stop)
    .stop)
    .stop)
    .stop)
    .stop)
    .stop)
    .stop)
    .stop)
    (.op ⟨(some 17), none, .new 23 [(.int .i64 (0)), (.int .i64 (0))]⟩ (.op ⟨(some 172), none, .call (.c (.fn 17 [])) [(.t 171)]⟩ (.op ⟨(some 158), none, .v (.mov (.t 172))⟩ (.op ⟨(some 173), none, .v (.ext (.t 158) 0)⟩ (.op ⟨(some 174), none, .v (.ext (.t 158) 1)⟩ (.op ⟨(some 175), none, .v (.ext (.t 158) 2)⟩ (.op ⟨none, none, .store 2 (.t 16) (.t 173)⟩ (.op ⟨none, none, .store 2 (.t 17) (.t 174)⟩ (.op ⟨(some 14), none, .v (.mov (.t 175))⟩ .leaf
    .stop)
    .stop)
    .stop)
    .stop)
    .stop)
    .stop)
    .stop)
    .stop)
    .stop))
    (.op ⟨(some 17), none, .new 23 [(.int .i64 (0)), (.int .i64 (0))]⟩ (.op ⟨(some 172), none, .call (.c (.fn 17 [])) [(.t 171)]⟩ (.op ⟨(some 158), none, .v (.mov (.t 172))⟩ (.op ⟨(some 173), none, .v (.ext (.t 158) 0)⟩ (.op ⟨(some 174), none, .v (.ext (.t 158) 1)⟩ (.op ⟨(some 175), none, .v (.ext (.t 158) 2)⟩ (.op ⟨(some 16), none, .new 23 [(.int .i64 (0)), (.int .i64 (0))]⟩ (.op ⟨none, none, .store 2 (.t 16) (.t 173)⟩ (.op ⟨none, none, .store 2 (.t 17) (.t 174)⟩ (.op ⟨(some 14), none, .v (.mov (.t 175))⟩ .leaf
    .stop)
    .stop)
    .stop)
    .stop)
    .stop)
    .stop)
    .stop)
    .stop)
    (.op ⟨(some 16), none, .new 23 [(.int .i64 (0)), (.int .i64 (0))]⟩ (.op ⟨(some 172), none, .call (.c (.fn 17 [])) [(.t 171)]⟩ (.op ⟨(some 158), none, .v (.mov (.t 172))⟩ (.op ⟨(some 173), none, .v (.ext (.t 158) 0)⟩ (.op ⟨(some 174), none, .v (.ext (.t 158) 1)⟩ (.op ⟨(some 175), none, .v (.ext (.t 158) 2)⟩ (.op ⟨none, none, .store 2 (.t 16) (.t 173)⟩ (.op ⟨none, none, .store 2 (.t 17) (.t 174)⟩ (.op ⟨(some 14), none, .v (.mov (.t 175))⟩ .leaf
    .stop)
    .stop)
    .stop)
    .stop)
    .stop)
    .stop)
    .stop)
    .stop)
    .stop))
    .stop)))
    .stop)
    (.op ⟨(some 16), none, .new 23 [(.int .i64 (0)), (.int .i64 (0))]⟩ (.op ⟨(some 168), none, .call (.c (.fn 33 [])) [(.t 167), (.c (.int .i64 (1296000)))]⟩ (.op ⟨(some 171), none, .bld [(.int .i64 (0)), (.int .i64 (0)), (.int .i64 (0)), (.int .i64 (0))] [(0, 1, (.t 163)), (1, 1, (.t 168)), (2, 1, (.t 169)), (3, 1, (.t 170))]⟩ (.op ⟨(some 172), none, .call (.c (.fn 17 [])) [(.t 171)]⟩ (.op ⟨(some 158), none, .v (.mov (.t 172))⟩ (.op ⟨(some 173), none, .v (.ext (.t 158) 0)⟩ (.op ⟨(some 174), none, .v (.ext (.t 158) 1)⟩ (.op ⟨(some 175), none, .v (.ext (.t 158) 2)⟩ (.op ⟨(some 17), none, .new 23 [(.int .i64 (0)), (.int .i64 (0))]⟩ (.op ⟨none, none, .store 2 (.t 16) (.t 173)⟩ (.op ⟨none, none, .store 2 (.t 17) (.t 174)⟩ (.op ⟨(some 14), none, .v (.mov (.t 175))⟩ .leaf
    .stop)
    .stop)
    .stop)
    .stop)
    .stop)
    .stop)
    .stop)
    .stop)
    (.op ⟨(some 17), none, .new 23 [(.int .i64 (0)), (.int .i64 (0))]⟩ (.op ⟨(some 172), none, .call (.c (.fn 17 [])) [(.t 171)]⟩ (.op ⟨(some 158), none, .v (.mov (.t 172))⟩ (.op ⟨(some 173), none, .v (.ext (.t 158) 0)⟩ (.op ⟨(some 174), none, .v (.ext (.t 158) 1)⟩ (.op ⟨(some 175), none, .v (.ext (.t 158) 2)⟩ (.op ⟨none, none, .store 2 (.t 16) (.t 173)⟩ (.op ⟨none, none, .store 2 (.t 17) (.t 174)⟩ (.op ⟨(some 14), none, .v (.mov (.t 175))⟩ .leaf
    .stop)
    .stop)
    .stop)
    .stop)
    .stop)
    .stop)
    .stop)
    .stop)
    .stop))
    .stop)
    (.op ⟨(some 17), none, .new 23 [(.int .i64 (0)), (.int .i64 (0))]⟩ (.op ⟨(some 168), none, .call (.c (.fn 33 [])) [(.t 167), (.c (.int .i64 (1296000)))]⟩ (.op ⟨(some 171), none, .bld [(.int .i64 (0)), (.int .i64 (0)), (.int .i64 (0)), (.int .i64 (0))] [(0, 1, (.t 163)), (1, 1, (.t 168)), (2, 1, (.t 169)), (3, 1, (.t 170))]⟩ (.op ⟨(some 172), none, .call (.c (.fn 17 [])) [(.t 171)]⟩ (.op ⟨(some 158), none, .v (.mov (.t 172))⟩ (.op ⟨(some 173), none, .v (.ext (.t 158) 0)⟩ (.op ⟨(some 174), none, .v (.ext (.t 158) 1)⟩ (.op ⟨(some 175), none, .v (.ext (.t 158) 2)⟩ (.op ⟨none, none, .store 2 (.t 16) (.t 173)⟩ (.op ⟨none, none, .store 2 (.t 17) (.t 174)⟩ (.op ⟨(some 14), none, .v (.mov (.t 175))⟩ .leaf
    .stop)
    .stop)
    .stop)
    .stop)
    .stop)
    .stop)
    .stop)
    .stop)
    .stop)
    .stop)
    .stop))
    (.op ⟨(some 17), none, .new 23 [(.int .i64 (0)), (.int .i64 (0))]⟩ (.op ⟨(some 168), none, .call (.c (.fn 33 [])) [(.t 167), (.c (.int .i64 (1296000)))]⟩ (.op ⟨(some 171), none, .bld [(.int .i64 (0)), (.int .i64 (0)), (.int .i64 (0)), (.int .i64 (0))] [(0, 1, (.t 163)), (1, 1, (.t 168)), (2, 1, (.t 169)), (3, 1, (.t 170))]⟩ (.op ⟨(some 172), none, .call (.c (.fn 17 [])) [(.t 171)]⟩ (.op ⟨(some 158), none, .v (.mov (.t 172))⟩ (.op ⟨(some 173), none, .v (.ext (.t 158) 0)⟩ (.op ⟨(some 174), none, .v (.ext (.t 158) 1)⟩ (.op ⟨(some 175), none, .v (.ext (.t 158) 2)⟩ (.op ⟨(some 16), none, .new 23 [(.int .i64 (0)), (.int .i64 (0))]⟩ (.op ⟨none, none, .store 2 (.t 16) (.t 173)⟩ (.op ⟨none, none, .store 2 (.t 17) (.t 174)⟩ (.op ⟨(some 14), none, .v (.mov (.t 175))⟩ .leaf
    .stop)
    .stop)
    .stop)
    .stop)
    .stop)
    .stop)
    .stop)
    .stop)
    (.op ⟨(some 16), none, .new 23 [(.int .i64 (0)), (.int .i64 (0))]⟩ (.op ⟨(some 172), none, .call (.c (.fn 17 [])) [(.t 171)]⟩ (.op ⟨(some 158), none, .v (.mov (.t 172))⟩ (.op ⟨(some 173), none, .v (.ext (.t 158) 0)⟩ (.op ⟨(some 174), none, .v (.ext (.t 158) 1)⟩ (.op ⟨(some 175), none, .v (.ext (.t 158) 2)⟩ (.op ⟨none, none, .store 2 (.t 16) (.t 173)⟩ (.op ⟨none, none, .store 2 (.t 17) (.t 174)⟩ (.op ⟨(some 14), none, .v (.mov (.t 175))⟩ .leaf
    .stop)
    .stop)
    .stop)
    .stop)
    .stop)
    .stop)
    .stop)
    .stop)
    .stop))
    .stop)
    (.op ⟨(some 16), none, .new 23 [(.int .i64 (0)), (.int .i64 (0))]⟩ (.op ⟨(some 168), none, .call (.c (.fn 33 [])) [(.t 167), (.c (.int .i64 (1296000)))]⟩ (.op ⟨(some 171), none, .bld [(.int .i64 (0)), (.int .i64 (0)), (.int .i64 (0)), (.int .i64 (0))] [(0, 1, (.t 163)), (1, 1, (.t 168)), (2, 1, (.t 169)), (3, 1, (.t 170))]⟩ (.op ⟨(some 172), none, .call (.c (.fn 17 [])) [(.t 171)]⟩ (.op ⟨(some 158), none, .v (.mov (.t 172))⟩ (.op ⟨(some 173), none, .v (.ext (.t 158) 0)⟩ (.op ⟨(some 174), none, .v (.ext (.t 158) 1)⟩ (.op ⟨(some 175), none, .v (.ext (.t 158) 2)⟩ (.op ⟨none, none, .store 2 (.t 16) (.t 173)⟩ (.op ⟨none, none, .store 2 (.t 17) (.t 174)⟩ (.op ⟨(some 14), none, .v (.mov (.t 175))⟩ .leaf
    .stop)
    .stop)
    .stop)
    .stop)
    .stop)
    .stop)
    .stop)
    .stop)
    .stop)
    .stop)
    .stop))
    .stop)))
    .stop)
    (.op ⟨(some 16), none, .new 23 [(.int .i64 (0)), (.int .i64 (0))]⟩ (.op ⟨(some 165), none, .v (.load (.t 164) none)⟩ (.op ⟨(some 167), none, .v (.bin .add (.t 165) (.t 166))⟩ (.op ⟨(some 168), none, .call (.c (.fn 33 [])) [(.t 167), (.c (.int .i64 (1296000)))]⟩ (.op ⟨(some 171), none, .bld [(.int .i64 (0)), (.int .i64 (0)), (.int .i64 (0)), (.int .i64 (0))] [(0, 1, (.t 163)), (1, 1, (.t 168)), (2, 1, (.t 169)), (3, 1, (.t 170))]⟩ (.op ⟨(some 172), none, .call (.c (.fn 17 [])) [(.t 171)]⟩ (.op ⟨(some 158), none, .v (.mov (.t 172))⟩ (.op ⟨(some 173), none, .v (.ext (.t 158) 0)⟩ (.op ⟨(some 174), none, .v (.ext (.t 158) 1)⟩ (.op ⟨(some 175), none, .v (.ext (.t 158) 2)⟩ (.op ⟨(some 17), none, .new 23 [(.int .i64 (0)), (.int .i64 (0))]⟩ (.op ⟨none, none, .store 2 (.t 16) (.t 173)⟩ (.op ⟨none, none, .store 2 (.t 17) (.t 174)⟩ (.op ⟨(some 14), none, .v (.mov (.t 175))⟩ .leaf
    .stop)
    .stop)
    .stop)
    .stop)
    .stop)
    .stop)
    .stop)
    .stop)
    (.op ⟨(some 17), none, .new 23 [(.int .i64 (0)), (.int .i64 (0))]⟩ (.op ⟨(some 172), none, .call (.c (.fn 17 [])) [(.t 171)]⟩ (.op ⟨(some 158), none, .v (.mov (.t 172))⟩ (.op ⟨(some 173), none, .v (.ext (.t 158) 0)⟩ (.op ⟨(some 174), none, .v (.ext (.t 158) 1)⟩ (.op ⟨(some 175), none, .v (.ext (.t 158) 2)⟩ (.op ⟨none, none, .store 2 (.t 16) (.t 173)⟩ (.op ⟨none, none, .store 2 (.t 17) (.t 174)⟩ (.op ⟨(some 14), none, .v (.mov (.t 175))⟩ .leaf
    .stop)
    .stop)
    .stop)
    .stop)
    .stop)
    .stop)
    .stop)
    .stop)
    .stop))
    .stop)
    (.op ⟨(some 17), none, .new 23 [(.int .i64 (0)), (.int .i64 (0))]⟩ (.op ⟨(some 168), none, .call (.c (.fn 33 [])) [(.t 167), (.c (.int .i64 (1296000)))]⟩ (.op ⟨(some 171), none, .bld [(.int .i64 (0)), (.int .i64 (0)), (.int .i64 (0)), (.int .i64 (0))] [(0, 1, (.t 163)), (1, 1, (.t 168)), (2, 1, (.t 169)), (3, 1, (.t 170))]⟩ (.op ⟨(some 172), none, .call (.c (.fn 17 [])) [(.t 171)]⟩ (.op ⟨(some 158), none, .v (.mov (.t 172))⟩ (.op ⟨(some 173), none, .v (.ext (.t 158) 0)⟩ (.op ⟨(some 174), none, .v (.ext (.t 158) 1)⟩ (.op ⟨(some 175), none, .v (.ext (.t 158) 2)⟩ (.op ⟨none, none, .store 2 (.t 16) (.t 173)⟩ (.op ⟨none, none, .store 2 (.t 17) (.t 174)⟩ (.op ⟨(some 14), none, .v (.mov (.t 175))⟩ .leaf
    .stop)
    .stop)
    .stop)
    .stop)
    .stop)
    .stop)
    .stop)
    .stop)
    .stop)
    .stop)
    .stop))
    .stop)
    (.op ⟨(some 17), none, .new 23 [(.int .i64 (0)), (.int .i64 (0))]⟩ (.op ⟨(some 165), none, .v (.load (.t 164) none)⟩ (.op ⟨(some 167), none, .v (.bin .add (.t 165) (.t 166))⟩ (.op ⟨(some 168), none, .call (.c (.fn 33 [])) [(.t 167), (.c (.int .i64 (1296000)))]⟩ (.op ⟨(some 171), none, .bld [(.int .i64 (0)), (.int .i64 (0)), (.int .i64 (0)), (.int .i64 (0))] [(0, 1, (.t 163)), (1, 1, (.t 168)), (2, 1, (.t 169)), (3, 1, (.t 170))]⟩ (.op ⟨(some 172), none, .call (.c (.fn 17 [])) [(.t 171)]⟩ (.op ⟨(some 158), none, .v (.mov (.t 172))⟩ (.op ⟨(some 173), none, .v (.ext (.t 158) 0)⟩ (.op ⟨(some 174), none, .v (.ext (.t 158) 1)⟩ (.op ⟨(some 175), none, .v (.ext (.t 158) 2)⟩ (.op ⟨none, none, .store 2 (.t 16) (.t 173)⟩ (.op ⟨none, none, .store 2 (.t 17) (.t 174)⟩ (.op ⟨(some 14), none, .v (.mov (.t 175))⟩ .leaf
    .stop)
    .stop)
    .stop)
    .stop)
    .stop)
    .stop)
    .stop)
    .stop)
    .stop)
    .stop)
    .stop)
    .stop)
    .stop))
    (.op ⟨(some 17), none, .new 23 [(.int .i64 (0)), (.int .i64 (0))]⟩ (.op ⟨(some 165), none, .v (.load (.t 164) none)⟩ (.op ⟨(some 167), none, .v (.bin .add (.t 165) (.t 166))⟩ (.op ⟨(some 168), none, .call (.c (.fn 33 [])) [(.t 167), (.c (.int .i64 (1296000)))]⟩ (.op ⟨(some 171), none, .bld [(.int .i64 (0)), (.int .i64 (0)), (.int .i64 (0)), (.int .i64 (0))] [(0, 1, (.t 163)), (1, 1, (.t 168)), (2, 1, (.t 169)), (3, 1, (.t 170))]⟩ (.op ⟨(some 172), none, .call (.c (.fn 17 [])) [(.t 171)]⟩ (.op ⟨(some 158), none, .v (.mov (.t 172))⟩ (.op ⟨(some 173), none, .v (.ext (.t 158) 0)⟩ (.op ⟨(some 174), none, .v (.ext (.t 158) 1)⟩ (.op ⟨(some 175), none, .v (.ext (.t 158) 2)⟩ (.op ⟨(some 16), none, .new 23 [(.int .i64 (0)), (.int .i64 (0))]⟩ (.op ⟨none, none, .store 2 (.t 16) (.t 173)⟩ (.op ⟨none, none, .store 2 (.t 17) (.t 174)⟩ (.op ⟨(some 14), none, .v (.mov (.t 175))⟩ .leaf
    .stop)
    .stop)
    .stop)
    .stop)
    .stop)
    .stop)
    .stop)
    .stop)
    (.op ⟨(some 16), none, .new 23 [(.int .i64 (0)), (.int .i64 (0))]⟩ (.op ⟨(some 172), none, .call (.c (.fn 17 [])) [(.t 171)]⟩ (.op ⟨(some 158), none, .v (.mov (.t 172))⟩ (.op ⟨(some 173), none, .v (.ext (.t 158) 0)⟩ (.op ⟨(some 174), none, .v (.ext (.t 158) 1)⟩ (.op ⟨(some 175), none, .v (.ext (.t 158) 2)⟩ (.op ⟨none, none, .store 2 (.t 16) (.t 173)⟩ (.op ⟨none, none, .store 2 (.t 17) (.t 174)⟩ (.op ⟨(some 14), none, .v (.mov (.t 175))⟩ .leaf
    .stop)
    .stop)
    .stop)
    .stop)
    .stop)
    .stop)
    .stop)
    .stop)
    .stop))
    .stop)
    (.op ⟨(some 16), none, .new 23 [(.int .i64 (0)), (.int .i64 (0))]⟩ (.op ⟨(some 168), none, .call (.c (.fn 33 [])) [(.t 167), (.c (.int .i64 (1296000)))]⟩ (.op ⟨(some 171), none, .bld [(.int .i64 (0)), (.int .i64 (0)), (.int .i64 (0)), (.int .i64 (0))] [(0, 1, (.t 163)), (1, 1, (.t 168)), (2, 1, (.t 169)), (3, 1, (.t 170))]⟩ (.op ⟨(some 172), none, .call (.c (.fn 17 [])) [(.t 171)]⟩ (.op ⟨(some 158), none, .v (.mov (.t 172))⟩ (.op ⟨(some 173), none, .v (.ext (.t 158) 0)⟩ (.op ⟨(some 174), none, .v (.ext (.t 158) 1)⟩ (.op ⟨(some 175), none, .v (.ext (.t 158) 2)⟩ (.op ⟨none, none, .store 2 (.t 16) (.t 173)⟩ (.op ⟨none, none, .store 2 (.t 17) (.t 174)⟩ (.op ⟨(some 14), none, .v (.mov (.t 175))⟩ .leaf
    .stop)
    .stop)
    .stop)
    .stop)
    .stop)
    .stop)
    .stop)
    .stop)
    .stop)
    .stop)
    .stop))
    .stop)
    (.op ⟨(some 16), none, .new 23 [(.int .i64 (0)), (.int .i64 (0))]⟩ (.op ⟨(some 165), none, .v (.load (.t 164) none)⟩ (.op ⟨(some 167), none, .v (.bin .add (.t 165) (.t 166))⟩ (.op ⟨(some 168), none, .call (.c (.fn 33 [])) [(.t 167), (.c (.int .i64 (1296000)))]⟩ (.op ⟨(some 171), none, .bld [(.int .i64 (0)), (.int .i64 (0)), (.int .i64 (0)), (.int .i64 (0))] [(0, 1, (.t 163)), (1, 1, (.t 168)), (2, 1, (.t 169)), (3, 1, (.t 170))]⟩ (.op ⟨(some 172), none, .call (.c (.fn 17 [])) [(.t 171)]⟩ (.op ⟨(some 158), none, .v (.mov (.t 172))⟩ (.op ⟨(some 173), none, .v (.ext (.t 158) 0)⟩ (.op ⟨(some 174), none, .v (.ext (.t 158) 1)⟩ (.op ⟨(some 175), none, .v (.ext (.t 158) 2)⟩ (.op ⟨none, none, .store 2 (.t 16) (.t 173)⟩ (.op ⟨none, none, .store 2 (.t 17) (.t 174)⟩ (.op ⟨(some 14), none, .v (.mov (.t 175))⟩ .leaf
    .stop)
    .stop)
    .stop)
    .stop)
    .stop)
    .stop)
    .stop)
    .stop)
    .stop)
    .stop)
    .stop)
    .stop)
    .stop))
    .stop)))
    (.op ⟨(some 165), none, .v (.load (.t 164) none)⟩ (.op ⟨(some 167), none, .v (.bin .add (.t 165) (.t 166))⟩ (.op ⟨(some 163), none, .call (.c (.fn 33 [])) [(.t 162), (.c (.int .i64 (1296000)))]⟩ (.op ⟨(some 168), none, .call (.c (.fn 33 [])) [(.t 167), (.c (.int .i64 (1296000)))]⟩ (.op ⟨(some 171), none, .bld [(.int .i64 (0)), (.int .i64 (0)), (.int .i64 (0)), (.int .i64 (0))] [(0, 1, (.t 163)), (1, 1, (.t 168)), (2, 1, (.t 169)), (3, 1, (.t 170))]⟩ (.op ⟨(some 172), none, .call (.c (.fn 17 [])) [(.t 171)]⟩ (.op ⟨(some 158), none, .v (.mov (.t 172))⟩ (.op ⟨(some 173), none, .v (.ext (.t 158) 0)⟩ (.op ⟨(some 174), none, .v (.ext (.t 158) 1)⟩ (.op ⟨(some 175), none, .v (.ext (.t 158) 2)⟩ (.op ⟨(some 16), none, .new 23 [(.int .i64 (0)), (.int .i64 (0))]⟩ (.op ⟨(some 17), none, .new 23 [(.int .i64 (0)), (.int .i64 (0))]⟩ (.op ⟨none, none, .store 2 (.t 16) (.t 173)⟩ (.op ⟨none, none, .store 2 (.t 17) (.t 174)⟩ (.op ⟨(some 14), none, .v (.mov (.t 175))⟩ .leaf
    .stop)
    .stop)
    .stop)
    .stop)
    (.op ⟨(some 17), none, .new 23 [(.int .i64 (0)), (.int .i64 (0))]⟩ (.op ⟨(some 16), none, .new 23 [(.int .i64 (0)), (.int .i64 (0))]⟩ (.op ⟨none, none, .store 2 (.t 16) (.t 173)⟩ (.op ⟨none, none, .store 2 (.t 17) (.t 174)⟩ (.op ⟨(some 14), none, .v (.mov (.t 175))⟩ .leaf
    .stop)
    .stop)
    .stop)
    .stop)
    .stop))
    .stop)
    .stop)
    .stop)
    .stop)
    (.op ⟨(some 16), none, .new 23 [(.int .i64 (0)), (.int .i64 (0))]⟩ (.op ⟨(some 172), none, .call (.c (.fn 17 [])) [(.t 171)]⟩ (.op ⟨(some 158), none, .v (.mov (.t 172))⟩ (.op ⟨(some 173), none, .v (.ext (.t 158) 0)⟩ (.op ⟨(some 174), none, .v (.ext (.t 158) 1)⟩ (.op ⟨(some 175), none, .v (.ext (.t 158) 2)⟩ (.op ⟨(some 17), none, .new 23 [(.int .i64 (0)), (.int .i64 (0))]⟩ (.op ⟨none, none, .store 2 (.t 16) (.t 173)⟩ (.op ⟨none, none, .store 2 (.t 17) (.t 174)⟩ (.op ⟨(some 14), none, .v (.mov (.t 175))⟩ .leaf
    .stop)
    .stop)
    .stop)
    .stop)
    .stop)
    .stop)
    .stop)
    .stop)
    (.op ⟨(some 17), none, .new 23 [(.int .i64 (0)), (.int .i64 (0))]⟩ (.op ⟨(some 172), none, .call (.c (.fn 17 [])) [(.t 171)]⟩ (.op ⟨(some 158), none, .v (.mov (.t 172))⟩ (.op ⟨(some 173), none, .v (.ext (.t 158) 0)⟩ (.op ⟨(some 174), none, .v (.ext (.t 158) 1)⟩ (.op ⟨(some 175), none, .v (.ext (.t 158) 2)⟩ (.op ⟨none, none, .store 2 (.t 16) (.t 173)⟩ (.op ⟨none, none, .store 2 (.t 17) (.t 174)⟩ (.op ⟨(some 14), none, .v (.mov (.t 175))⟩ .leaf
    .stop)
    .stop)
    .stop)
    .stop)
    .stop)
    .stop)
    .stop)
    .stop)
    .stop))
    (.op ⟨(some 17), none, .new 23 [(.int .i64 (0)), (.int .i64 (0))]⟩ (.op ⟨(some 172), none, .call (.c (.fn 17 [])) [(.t 171)]⟩ (.op ⟨(some 158), none, .v (.mov (.t 172))⟩ (.op ⟨(some 173), none, .v (.ext (.t 158) 0)⟩ (.op ⟨(some 174), none, .v (.ext (.t 158) 1)⟩ (.op ⟨(some 175), none, .v (.ext (.t 158) 2)⟩ (.op ⟨(some 16), none, .new 23 [(.int .i64 (0)), (.int .i64 (0))]⟩ (.op ⟨none, none, .store 2 (.t 16) (.t 173)⟩ (.op ⟨none, none, .store 2 (.t 17) (.t 174)⟩ (.op ⟨(some 14), none, .v (.mov (.t 175))⟩ .leaf
    .stop)
    .stop)
    .stop)
    .stop)
    .stop)
    .stop)
    .stop)
    .stop)
    (.op ⟨(some 16), none, .new 23 [(.int .i64 (0)), (.int .i64 (0))]⟩ (.op ⟨(some 172), none, .call (.c (.fn 17 [])) [(.t 171)]⟩ (.op ⟨(some 158), none, .v (.mov (.t 172))⟩ (.op ⟨(some 173), none, .v (.ext (.t 158) 0)⟩ (.op ⟨(some 174), none, .v (.ext (.t 158) 1)⟩ (.op ⟨(some 175), none, .v (.ext (.t 158) 2)⟩ (.op ⟨none, none, .store 2 (.t 16) (.t 173)⟩ (.op ⟨none, none, .store 2 (.t 17) (.t 174)⟩ (.op ⟨(some 14), none, .v (.mov (.t 175))⟩ .leaf
    .stop)
    .stop)
    .stop)
    .stop)
    .stop)
    .stop)
    .stop)
    .stop)
    .stop))
    .stop)))
    .stop)
    (.op ⟨(some 16), none, .new 23 [(.int .i64 (0)), (.int .i64 (0))]⟩ (.op ⟨(some 168), none, .call (.c (.fn 33 [])) [(.t 167), (.c (.int .i64 (1296000)))]⟩ (.op ⟨(some 171), none, .bld [(.int .i64 (0)), (.int .i64 (0)), (.int .i64 (0)), (.int .i64 (0))] [(0, 1, (.t 163)), (1, 1, (.t 168)), (2, 1, (.t 169)), (3, 1, (.t 170))]⟩ (.op ⟨(some 172), none, .call (.c (.fn 17 [])) [(.t 171)]⟩ (.op ⟨(some 158), none, .v (.mov (.t 172))⟩ (.op ⟨(some 173), none, .v (.ext (.t 158) 0)⟩ (.op ⟨(some 174), none, .v (.ext (.t 158) 1)⟩ (.op ⟨(some 175), none, .v (.ext (.t 158) 2)⟩ (.op ⟨(some 17), none, .new 23 [(.int .i64 (0)), (.int .i64 (0))]⟩ (.op ⟨none, none, .store 2 (.t 16) (.t 173)⟩ (.op ⟨none, none, .store 2 (.t 17) (.t 174)⟩ (.op ⟨(some 14), none, .v (.mov (.t 175))⟩ .leaf
    .stop)
    .stop)
    .stop)
    .stop)
    .stop)
    .stop)
    .stop)
    .stop)
    (.op ⟨(some 17), none, .new 23 [(.int .i64 (0)), (.int .i64 (0))]⟩ (.op ⟨(some 172), none, .call (.c (.fn 17 [])) [(.t 171)]⟩ (.op ⟨(some 158), none, .v (.mov (.t 172))⟩ (.op ⟨(some 173), none, .v (.ext (.t 158) 0)⟩ (.op ⟨(some 174), none, .v (.ext (.t 158) 1)⟩ (.op ⟨(some 175), none, .v (.ext (.t 158) 2)⟩ (.op ⟨none, none, .store 2 (.t 16) (.t 173)⟩ (.op ⟨none, none, .store 2 (.t 17) (.t 174)⟩ (.op ⟨(some 14), none, .v (.mov (.t 175))⟩ .leaf
    .stop)
    .stop)
    .stop)
    .stop)
    .stop)
    .stop)
    .stop)
    .stop)
    .stop))
    .stop)
    (.op ⟨(some 17), none, .new 23 [(.int .i64 (0)), (.int .i64 (0))]⟩ (.op ⟨(some 168), none, .call (.c (.fn 33 [])) [(.t 167), (.c (.int .i64 (1296000)))]⟩ (.op ⟨(some 171), none, .bld [(.int .i64 (0)), (.int .i64 (0)), (.int .i64 (0)), (.int .i64 (0))] [(0, 1, (.t 163)), (1, 1, (.t 168)), (2, 1, (.t 169)), (3, 1, (.t 170))]⟩ (.op ⟨(some 172), none, .call (.c (.fn 17 [])) [(.t 171)]⟩ (.op ⟨(some 158), none, .v (.mov (.t 172))⟩ (.op ⟨(some 173), none, .v (.ext (.t 158) 0)⟩ (.op ⟨(some 174), none, .v (.ext (.t 158) 1)⟩ (.op ⟨(some 175), none, .v (.ext (.t 158) 2)⟩ (.op ⟨none, none, .store 2 (.t 16) (.t 173)⟩ (.op ⟨none, none, .store 2 (.t 17) (.t 174)⟩ (.op ⟨(some 14), none, .v (.mov (.t 175))⟩ .leaf
    .stop)
    .stop)
    .stop)
    .stop)
    .stop)
    .stop)
    .stop)
    .stop)
    .stop)
    .stop)
    .stop))
    (.op ⟨(some 17), none, .new 23 [(.int .i64 (0)), (.int .i64 (0))]⟩ (.op ⟨(some 168), none, .call (.c (.fn 33 [])) [(.t 167), (.c (.int .i64 (1296000)))]⟩ (.op ⟨(some 171), none, .bld [(.int .i64 (0)), (.int .i64 (0)), (.int .i64 (0)), (.int .i64 (0))] [(0, 1, (.t 163)), (1, 1, (.t 168)), (2, 1, (.t 169)), (3, 1, (.t 170))]⟩ (.op ⟨(some 172), none, .call (.c (.fn 17 [])) [(.t 171)]⟩ (.op ⟨(some 158), none, .v (.mov (.t 172))⟩ (.op ⟨(some 173), none, .v (.ext (.t 158) 0)⟩ (.op ⟨(some 174), none, .v (.ext (.t 158) 1)⟩ (.op ⟨(some 175), none, .v (.ext (.t 158) 2)⟩ (.op ⟨(some 16), none, .new 23 [(.int .i64 (0)), (.int .i64 (0))]⟩ (.op ⟨none, none, .store 2 (.t 16) (.t 173)⟩ (.op ⟨none, none, .store 2 (.t 17) (.t 174)⟩ (.op ⟨(some 14), none, .v (.mov (.t 175))⟩ .leaf
    .stop)
    .stop)
    .stop)
    .stop)
    .stop)
    .stop)
    .stop)
    .stop)
    (.op ⟨(some 16), none, .new 23 [(.int .i64 (0)), (.int .i64 (0))]⟩ (.op ⟨(some 172), none, .call (.c (.fn 17 [])) [(.t 171)]⟩ (.op ⟨(some 158), none, .v (.mov (.t 172))⟩ (.op ⟨(some 173), none, .v (.ext (.t 158) 0)⟩ (.op ⟨(some 174), none, .v (.ext (.t 158) 1)⟩ (.op ⟨(some 175), none, .v (.ext (.t 158) 2)⟩ (.op ⟨none, none, .store 2 (.t 16) (.t 173)⟩ (.op ⟨none, none, .store 2 (.t 17) (.t 174)⟩ (.op ⟨(some 14), none, .v (.mov (.t 175))⟩ .leaf
    .stop)
    .stop)
    .stop)
    .stop)
    .stop)
    .stop)
    .stop)
    .stop)
    .stop))
    .stop)
    (.op ⟨(some 16), none, .new 23 [(.int .i64 (0)), (.int .i64 (0))]⟩ (.op ⟨(some 168), none, .call (.c (.fn 33 [])) [(.t 167), (.c (.int .i64 (1296000)))]⟩ (.op ⟨(some 171), none, .bld [(.int .i64 (0)), (.int .i64 (0)), (.int .i64 (0)), (.int .i64 (0))] [(0, 1, (.t 163)), (1, 1, (.t 168)), (2, 1, (.t 169)), (3, 1, (.t 170))]⟩ (.op ⟨(some 172), none, .call (.c (.fn 17 [])) [(.t 171)]⟩ (.op ⟨(some 158), none, .v (.mov (.t 172))⟩ (.op ⟨(some 173), none, .v (.ext (.t 158) 0)⟩ (.op ⟨(some 174), none, .v (.ext (.t 158) 1)⟩ (.op ⟨(some 175), none, .v (.ext (.t 158) 2)⟩ (.op ⟨none, none, .store 2 (.t 16) (.t 173)⟩ (.op ⟨none, none, .store 2 (.t 17) (.t 174)⟩ (.op ⟨(some 14), none, .v (.mov (.t 175))⟩ .leaf
    .stop)
    .stop)
    .stop)
    .stop)
    .stop)
    .stop)
    .stop)
    .stop)
    .stop)
    .stop)
    .stop))
    .stop)))
    (.op ⟨(some 16), none, .new 23 [(.int .i64 (0)), (.int .i64 (0))]⟩ (.op ⟨(some 163), none, .call (.c (.fn 33 [])) [(.t 162), (.c (.int .i64 (1296000)))]⟩ (.op ⟨(some 168), none, .call (.c (.fn 33 [])) [(.t 167), (.c (.int .i64 (1296000)))]⟩ (.op ⟨(some 171), none, .bld [(.int .i64 (0)), (.int .i64 (0)), (.int .i64 (0)), (.int .i64 (0))] [(0, 1, (.t 163)), (1, 1, (.t 168)), (2, 1, (.t 169)), (3, 1, (.t 170))]⟩ (.op ⟨(some 172), none, .call (.c (.fn 17 [])) [(.t 171)]⟩ (.op ⟨(some 158), none, .v (.mov (.t 172))⟩ (.op ⟨(some 173), none, .v (.ext (.t 158) 0)⟩ (.op ⟨(some 174), none, .v (.ext (.t 158) 1)⟩ (.op ⟨(some 175), none, .v (.ext (.t 158) 2)⟩ (.op ⟨(some 17), none, .new 23 [(.int .i64 (0)), (.int .i64 (0))]⟩ (.op ⟨none, none, .store 2 (.t 16) (.t 173)⟩ (.op ⟨none, none, .store 2 (.t 17) (.t 174)⟩ (.op ⟨(some 14), none, .v (.mov (.t 175))⟩ .leaf
    .stop)
    .stop)
    .stop)
    .stop)
    .stop)
    .stop)
    .stop)
    .stop)
    (.op ⟨(some 17), none, .new 23 [(.int .i64 (0)), (.int .i64 (0))]⟩ (.op ⟨(some 172), none, .call (.c (.fn 17 [])) [(.t 171)]⟩ (.op ⟨(some 158), none, .v (.mov (.t 172))⟩ (.op ⟨(some 173), none, .v (.ext (.t 158) 0)⟩ (.op ⟨(some 174), none, .v (.ext (.t 158) 1)⟩ (.op ⟨(some 175), none, .v (.ext (.t 158) 2)⟩ (.op ⟨none, none, .store 2 (.t 16) (.t 173)⟩ (.op ⟨none, none, .store 2 (.t 17) (.t 174)⟩ (.op ⟨(some 14), none, .v (.mov (.t 175))⟩ .leaf
    .stop)
    .stop)
    .stop)
    .stop)
    .stop)
    .stop)
    .stop)
    .stop)
    .stop))
    .stop)
    (.op ⟨(some 17), none, .new 23 [(.int .i64 (0)), (.int .i64 (0))]⟩ (.op ⟨(some 168), none, .call (.c (.fn 33 [])) [(.t 167), (.c (.int .i64 (1296000)))]⟩ (.op ⟨(some 171), none, .bld [(.int .i64 (0)), (.int .i64 (0)), (.int .i64 (0)), (.int .i64 (0))] [(0, 1, (.t 163)), (1, 1, (.t 168)), (2, 1, (.t 169)), (3, 1, (.t 170))]⟩ (.op ⟨(some 172), none, .call (.c (.fn 17 [])) [(.t 171)]⟩ (.op ⟨(some 158), none, .v (.mov (.t 172))⟩ (.op ⟨(some 173), none, .v (.ext (.t 158) 0)⟩ (.op ⟨(some 174), none, .v (.ext (.t 158) 1)⟩ (.op ⟨(some 175), none, .v (.ext (.t 158) 2)⟩ (.op ⟨none, none, .store 2 (.t 16) (.t 173)⟩ (.op ⟨none, none, .store 2 (.t 17) (.t 174)⟩ (.op ⟨(some 14), none, .v (.mov (.t 175))⟩ .leaf
    .stop)
    .stop)
    .stop)
    .stop)
    .stop)
    .stop)
    .stop)
    .stop)
    .stop)
    .stop)
    .stop))
    (.op ⟨(some 17), none, .new 23 [(.int .i64 (0)), (.int .i64 (0))]⟩ (.op ⟨(some 163), none, .call (.c (.fn 33 [])) [(.t 162), (.c (.int .i64 (1296000)))]⟩ (.op ⟨(some 168), none, .call (.c (.fn 33 [])) [(.t 167), (.c (.int .i64 (1296000)))]⟩ (.op ⟨(some 171), none, .bld [(.int .i64 (0)), (.int .i64 (0)), (.int .i64 (0)), (.int .i64 (0))] [(0, 1, (.t 163)), (1, 1, (.t 168)), (2, 1, (.t 169)), (3, 1, (.t 170))]⟩ (.op ⟨(some 172), none, .call (.c (.fn 17 [])) [(.t 171)]⟩ (.op ⟨(some 158), none, .v (.mov (.t 172))⟩ (.op ⟨(some 173), none, .v (.ext (.t 158) 0)⟩ (.op ⟨(some 174), none, .v (.ext (.t 158) 1)⟩ (.op ⟨(some 175), none, .v (.ext (.t 158) 2)⟩ (.op ⟨none, none, .store 2 (.t 16) (.t 173)⟩ (.op ⟨none, none, .store 2 (.t 17) (.t 174)⟩ (.op ⟨(some 14), none, .v (.mov (.t 175))⟩ .leaf
    .stop)
    .stop)
    .stop)
    .stop)
    .stop)
    .stop)
    .stop)
    .stop)
    .stop)
    .stop)
    .stop)
    .stop))
    (.op ⟨(some 17), none, .new 23 [(.int .i64 (0)), (.int .i64 (0))]⟩ (.op ⟨(some 163), none, .call (.c (.fn 33 [])) [(.t 162), (.c (.int .i64 (1296000)))]⟩ (.op ⟨(some 168), none, .call (.c (.fn 33 [])) [(.t 167), (.c (.int .i64 (1296000)))]⟩ (.op ⟨(some 171), none, .bld [(.int .i64 (0)), (.int .i64 (0)), (.int .i64 (0)), (.int .i64 (0))] [(0, 1, (.t 163)), (1, 1, (.t 168)), (2, 1, (.t 169)), (3, 1, (.t 170))]⟩ (.op ⟨(some 172), none, .call (.c (.fn 17 [])) [(.t 171)]⟩ (.op ⟨(some 158), none, .v (.mov (.t 172))⟩ (.op ⟨(some 173), none, .v (.ext (.t 158) 0)⟩ (.op ⟨(some 174), none, .v (.ext (.t 158) 1)⟩ (.op ⟨(some 175), none, .v (.ext (.t 158) 2)⟩ (.op ⟨(some 16), none, .new 23 [(.int .i64 (0)), (.int .i64 (0))]⟩ (.op ⟨none, none, .store 2 (.t 16) (.t 173)⟩ (.op ⟨none, none, .store 2 (.t 17) (.t 174)⟩ (.op ⟨(some 14), none, .v (.mov (.t 175))⟩ .leaf
    .stop)
    .stop)
    .stop)
    .stop)
    .stop)
    .stop)
    .stop)
    .stop)
    (.op ⟨(some 16), none, .new 23 [(.int .i64 (0)), (.int .i64 (0))]⟩ (.op ⟨(some 172), none, .call (.c (.fn 17 [])) [(.t 171)]⟩ (.op ⟨(some 158), none, .v (.mov (.t 172))⟩ (.op ⟨(some 173), none, .v (.ext (.t 158) 0)⟩ (.op ⟨(some 174), none, .v (.ext (.t 158) 1)⟩ (.op ⟨(some 175), none, .v (.ext (.t 158) 2)⟩ (.op ⟨none, none, .store 2 (.t 16) (.t 173)⟩ (.op ⟨none, none, .store 2 (.t 17) (.t 174)⟩ (.op ⟨(some 14), none, .v (.mov (.t 175))⟩ .leaf
    .stop)
    .stop)
    .stop)
    .stop)
    .stop)
    .stop)
    .stop)
    .stop)
    .stop))
    .stop)
    (.op ⟨(some 16), none, .new 23 [(.int .i64 (0)), (.int .i64 (0))]⟩ (.op ⟨(some 168), none, .call (.c (.fn 33 [])) [(.t 167), (.c (.int .i64 (1296000)))]⟩ (.op ⟨(some 171), none, .bld [(.int .i64 (0)), (.int .i64 (0)), (.int .i64 (0)), (.int .i64 (0))] [(0, 1, (.t 163)), (1, 1, (.t 168)), (2, 1, (.t 169)), (3, 1, (.t 170))]⟩ (.op ⟨(some 172), none, .call (.c (.fn 17 [])) [(.t 171)]⟩ (.op ⟨(some 158), none, .v (.mov (.t 172))⟩ (.op ⟨(some 173), none, .v (.ext (.t 158) 0)⟩ (.op ⟨(some 174), none, .v (.ext (.t 158) 1)⟩ (.op ⟨(some 175), none, .v (.ext (.t 158) 2)⟩ (.op ⟨none, none, .store 2 (.t 16) (.t 173)⟩ (.op ⟨none, none, .store 2 (.t 17) (.t 174)⟩ (.op ⟨(some 14), none, .v (.mov (.t 175))⟩ .leaf
    .stop)
    .stop)
    .stop)
    .stop)
    .stop)
    .stop)
    .stop)
    .stop)
    .stop)
    .stop)
    .stop))
    (.op ⟨(some 16), none, .new 23 [(.int .i64 (0)), (.int .i64 (0))]⟩ (.op ⟨(some 163), none, .call (.c (.fn 33 [])) [(.t 162), (.c (.int .i64 (1296000)))]⟩ (.op ⟨(some 168), none, .call (.c (.fn 33 [])) [(.t 167), (.c (.int .i64 (1296000)))]⟩ (.op ⟨(some 171), none, .bld [(.int .i64 (0)), (.int .i64 (0)), (.int .i64 (0)), (.int .i64 (0))] [(0, 1, (.t 163)), (1, 1, (.t 168)), (2, 1, (.t 169)), (3, 1, (.t 170))]⟩ (.op ⟨(some 172), none, .call (.c (.fn 17 [])) [(.t 171)]⟩ (.op ⟨(some 158), none, .v (.mov (.t 172))⟩ (.op ⟨(some 173), none, .v (.ext (.t 158) 0)⟩ (.op ⟨(some 174), none, .v (.ext (.t 158) 1)⟩ (.op ⟨(some 175), none, .v (.ext (.t 158) 2)⟩ (.op ⟨none, none, .store 2 (.t 16) (.t 173)⟩ (.op ⟨none, none, .store 2 (.t 17) (.t 174)⟩ (.op ⟨(some 14), none, .v (.mov (.t 175))⟩ .leaf
    .stop)
    .stop)
    .stop)
    .stop)
    .stop)
    .stop)
    .stop)
    .stop)
    .stop)
    .stop)
    .stop)
    .stop))
    .stop)))
    .stop)
    (.op ⟨(some 16), none, .new 23 [(.int .i64 (0)), (.int .i64 (0))]⟩ (.op ⟨(some 163), none, .call (.c (.fn 33 [])) [(.t 162), (.c (.int .i64 (1296000)))]⟩ (.op ⟨(some 165), none, .v (.load (.t 164) none)⟩ (.op ⟨(some 167), none, .v (.bin .add (.t 165) (.t 166))⟩ (.op ⟨(some 168), none, .call (.c (.fn 33 [])) [(.t 167), (.c (.int .i64 (1296000)))]⟩ (.op ⟨(some 171), none, .bld [(.int .i64 (0)), (.int .i64 (0)), (.int .i64 (0)), (.int .i64 (0))] [(0, 1, (.t 163)), (1, 1, (.t 168)), (2, 1, (.t 169)), (3, 1, (.t 170))]⟩ (.op ⟨(some 172), none, .call (.c (.fn 17 [])) [(.t 171)]⟩ (.op ⟨(some 158), none, .v (.mov (.t 172))⟩ (.op ⟨(some 173), none, .v (.ext (.t 158) 0)⟩ (.op ⟨(some 174), none, .v (.ext (.t 158) 1)⟩ (.op ⟨(some 175), none, .v (.ext (.t 158) 2)⟩ (.op ⟨(some 17), none, .new 23 [(.int .i64 (0)), (.int .i64 (0))]⟩ (.op ⟨none, none, .store 2 (.t 16) (.t 173)⟩ (.op ⟨none, none, .store 2 (.t 17) (.t 174)⟩ (.op ⟨(some 14), none, .v (.mov (.t 175))⟩ .leaf
    .stop)
    .stop)
    .stop)
    .stop)
    .stop)
    .stop)
    .stop)
    .stop)
    (.op ⟨(some 17), none, .new 23 [(.int .i64 (0)), (.int .i64 (0))]⟩ (.op ⟨(some 172), none, .call (.c (.fn 17 [])) [(.t 171)]⟩ (.op ⟨(some 158), none, .v (.mov (.t 172))⟩ (.op ⟨(some 173), none, .v (.ext (.t 158) 0)⟩ (.op ⟨(some 174), none, .v (.ext (.t 158) 1)⟩ (.op ⟨(some 175), none, .v (.ext (.t 158) 2)⟩ (.op ⟨none, none, .store 2 (.t 16) (.t 173)⟩ (.op ⟨none, none, .store 2 (.t 17) (.t 174)⟩ (.op ⟨(some 14), none, .v (.mov (.t 175))⟩ .leaf
    .stop)
    .stop)
    .stop)
    .stop)
    .stop)
    .stop)
    .stop)
    .stop)
    .stop))
    .stop)
    (.op ⟨(some 17), none, .new 23 [(.int .i64 (0)), (.int .i64 (0))]⟩ (.op ⟨(some 168), none, .call (.c (.fn 33 [])) [(.t 167), (.c (.int .i64 (1296000)))]⟩ (.op ⟨(some 171), none, .bld [(.int .i64 (0)), (.int .i64 (0)), (.int .i64 (0)), (.int .i64 (0))] [(0, 1, (.t 163)), (1, 1, (.t 168)), (2, 1, (.t 169)), (3, 1, (.t 170))]⟩ (.op ⟨(some 172), none, .call (.c (.fn 17 [])) [(.t 171)]⟩ (.op ⟨(some 158), none, .v (.mov (.t 172))⟩ (.op ⟨(some 173), none, .v (.ext (.t 158) 0)⟩ (.op ⟨(some 174), none, .v (.ext (.t 158) 1)⟩ (.op ⟨(some 175), none, .v (.ext (.t 158) 2)⟩ (.op ⟨none, none, .store 2 (.t 16) (.t 173)⟩ (.op ⟨none, none, .store 2 (.t 17) (.t 174)⟩ (.op ⟨(some 14), none, .v (.mov (.t 175))⟩ .leaf
    .stop)
    .stop)
    .stop)
    .stop)
    .stop)
    .stop)
    .stop)
    .stop)
    .stop)
    .stop)
    .stop))
    .stop)
    (.op ⟨(some 17), none, .new 23 [(.int .i64 (0)), (.int .i64 (0))]⟩ (.op ⟨(some 165), none, .v (.load (.t 164) none)⟩ (.op ⟨(some 167), none, .v (.bin .add (.t 165) (.t 166))⟩ (.op ⟨(some 168), none, .call (.c (.fn 33 [])) [(.t 167), (.c (.int .i64 (1296000)))]⟩ (.op ⟨(some 171), none, .bld [(.int .i64 (0)), (.int .i64 (0)), (.int .i64 (0)), (.int .i64 (0))] [(0, 1, (.t 163)), (1, 1, (.t 168)), (2, 1, (.t 169)), (3, 1, (.t 170))]⟩ (.op ⟨(some 172), none, .call (.c (.fn 17 [])) [(.t 171)]⟩ (.op ⟨(some 158), none, .v (.mov (.t 172))⟩ (.op ⟨(some 173), none, .v (.ext (.t 158) 0)⟩ (.op ⟨(some 174), none, .v (.ext (.t 158) 1)⟩ (.op ⟨(some 175), none, .v (.ext (.t 158) 2)⟩ (.op ⟨none, none, .store 2 (.t 16) (.t 173)⟩ (.op ⟨none, none, .store 2 (.t 17) (.t 174)⟩ (.op ⟨(some 14), none, .v (.mov (.t 175))⟩ .leaf
    .stop)
    .stop)
    .stop)
    .stop)
    .stop)
    .stop)
    .stop)
    .stop)
    .stop)
    .stop)
    .stop)
    .stop)
    .stop))
    (.op ⟨(some 165), none, .v (.load (.t 164) none)⟩ (.op ⟨(some 167), none, .v (.bin .add (.t 165) (.t 166))⟩ (.op ⟨(some 163), none, .call (.c (.fn 33 [])) [(.t 162), (.c (.int .i64 (1296000)))]⟩ (.op ⟨(some 168), none, .call (.c (.fn 33 [])) [(.t 167), (.c (.int .i64 (1296000)))]⟩ (.op ⟨(some 171), none, .bld [(.int .i64 (0)), (.int .i64 (0)), (.int .i64 (0)), (.int .i64 (0))] [(0, 1, (.t 163)), (1, 1, (.t 168)), (2, 1, (.t 169)), (3, 1, (.t 170))]⟩ (.op ⟨(some 172), none, .call (.c (.fn 17 [])) [(.t 171)]⟩ (.op ⟨(some 158), none, .v (.mov (.t 172))⟩ (.op ⟨(some 173), none, .v (.ext (.t 158) 0)⟩ (.op ⟨(some 174), none, .v (.ext (.t 158) 1)⟩ (.op ⟨(some 175), none, .v (.ext (.t 158) 2)⟩ (.op ⟨(some 17), none, .new 23 [(.int .i64 (0)), (.int .i64 (0))]⟩ (.op ⟨none, none, .store 2 (.t 16) (.t 173)⟩ (.op ⟨none, none, .store 2 (.t 17) (.t 174)⟩ (.op ⟨(some 14), none, .v (.mov (.t 175))⟩ .leaf
    .stop)
    .stop)
    .stop)
    .stop)
    .stop)
    .stop)
    .stop)
    .stop)
    (.op ⟨(some 17), none, .new 23 [(.int .i64 (0)), (.int .i64 (0))]⟩ (.op ⟨(some 172), none, .call (.c (.fn 17 [])) [(.t 171)]⟩ (.op ⟨(some 158), none, .v (.mov (.t 172))⟩ (.op ⟨(some 173), none, .v (.ext (.t 158) 0)⟩ (.op ⟨(some 174), none, .v (.ext (.t 158) 1)⟩ (.op ⟨(some 175), none, .v (.ext (.t 158) 2)⟩ (.op ⟨none, none, .store 2 (.t 16) (.t 173)⟩ (.op ⟨none, none, .store 2 (.t 17) (.t 174)⟩ (.op ⟨(some 14), none, .v (.mov (.t 175))⟩ .leaf
    .stop)
    .stop)
    .stop)
    .stop)
    .stop)
    .stop)
    .stop)
    .stop)
    .stop))
    .stop)
    (.op ⟨(some 17), none, .new 23 [(.int .i64 (0)), (.int .i64 (0))]⟩ (.op ⟨(some 168), none, .call (.c (.fn 33 [])) [(.t 167), (.c (.int .i64 (1296000)))]⟩ (.op ⟨(some 171), none, .bld [(.int .i64 (0)), (.int .i64 (0)), (.int .i64 (0)), (.int .i64 (0))] [(0, 1, (.t 163)), (1, 1, (.t 168)), (2, 1, (.t 169)), (3, 1, (.t 170))]⟩ (.op ⟨(some 172), none, .call (.c (.fn 17 [])) [(.t 171)]⟩ (.op ⟨(some 158), none, .v (.mov (.t 172))⟩ (.op ⟨(some 173), none, .v (.ext (.t 158) 0)⟩ (.op ⟨(some 174), none, .v (.ext (.t 158) 1)⟩ (.op ⟨(some 175), none, .v (.ext (.t 158) 2)⟩ (.op ⟨none, none, .store 2 (.t 16) (.t 173)⟩ (.op ⟨none, none, .store 2 (.t 17) (.t 174)⟩ (.op ⟨(some 14), none, .v (.mov (.t 175))⟩ .leaf
    .stop)
    .stop)
    .stop)
    .stop)
    .stop)
    .stop)
    .stop)
    .stop)
    .stop)
    .stop)
    .stop))
    (.op ⟨(some 17), none, .new 23 [(.int .i64 (0)), (.int .i64 (0))]⟩ (.op ⟨(some 163), none, .call (.c (.fn 33 [])) [(.t 162), (.c (.int .i64 (1296000)))]⟩ (.op ⟨(some 168), none, .call (.c (.fn 33 [])) [(.t 167), (.c (.int .i64 (1296000)))]⟩ (.op ⟨(some 171), none, .bld [(.int .i64 (0)), (.int .i64 (0)), (.int .i64 (0)), (.int .i64 (0))] [(0, 1, (.t 163)), (1, 1, (.t 168)), (2, 1, (.t 169)), (3, 1, (.t 170))]⟩ (.op ⟨(some 172), none, .call (.c (.fn 17 [])) [(.t 171)]⟩ (.op ⟨(some 158), none, .v (.mov (.t 172))⟩ (.op ⟨(some 173), none, .v (.ext (.t 158) 0)⟩ (.op ⟨(some 174), none, .v (.ext (.t 158) 1)⟩ (.op ⟨(some 175), none, .v (.ext (.t 158) 2)⟩ (.op ⟨none, none, .store 2 (.t 16) (.t 173)⟩ (.op ⟨none, none, .store 2 (.t 17) (.t 174)⟩ (.op ⟨(some 14), none, .v (.mov (.t 175))⟩ .leaf
    .stop)
    .stop)
    .stop)
    .stop)
    .stop)
    .stop)
    .stop)
    .stop)
    .stop)
    .stop)
    .stop)
    .stop))
    .stop)
    (.op ⟨(some 17), none, .new 23 [(.int .i64 (0)), (.int .i64 (0))]⟩ (.op ⟨(some 163), none, .call (.c (.fn 33 [])) [(.t 162), (.c (.int .i64 (1296000)))]⟩ (.op ⟨(some 165), none, .v (.load (.t 164) none)⟩ (.op ⟨(some 167), none, .v (.bin .add (.t 165) (.t 166))⟩ (.op ⟨(some 168), none, .call (.c (.fn 33 [])) [(.t 167), (.c (.int .i64 (1296000)))]⟩ (.op ⟨(some 171), none, .bld [(.int .i64 (0)), (.int .i64 (0)), (.int .i64 (0)), (.int .i64 (0))] [(0, 1, (.t 163)), (1, 1, (.t 168)), (2, 1, (.t 169)), (3, 1, (.t 170))]⟩ (.op ⟨(some 172), none, .call (.c (.fn 17 [])) [(.t 171)]⟩ (.op ⟨(some 158), none, .v (.mov (.t 172))⟩ (.op ⟨(some 173), none, .v (.ext (.t 158) 0)⟩ (.op ⟨(some 174), none, .v (.ext (.t 158) 1)⟩ (.op ⟨(some 175), none, .v (.ext (.t 158) 2)⟩ (.op ⟨none, none, .store 2 (.t 16) (.t 173)⟩ (.op ⟨none, none, .store 2 (.t 17) (.t 174)⟩ (.op ⟨(some 14), none, .v (.mov (.t 175))⟩ .leaf
    .stop)
    .stop)
    .stop)
    .stop)
    .stop)
    .stop)
    .stop)
    .stop)
    .stop)
    .stop)
    .stop)
    .stop)
    (.op ⟨(some 165), none, .v (.load (.t 164) none)⟩ (.op ⟨(some 167), none, .v (.bin .add (.t 165) (.t 166))⟩ (.op ⟨(some 163), none, .call (.c (.fn 33 [])) [(.t 162), (.c (.int .i64 (1296000)))]⟩ (.op ⟨(some 168), none, .call (.c (.fn 33 [])) [(.t 167), (.c (.int .i64 (1296000)))]⟩ (.op ⟨(some 171), none, .bld [(.int .i64 (0)), (.int .i64 (0)), (.int .i64 (0)), (.int .i64 (0))] [(0, 1, (.t 163)), (1, 1, (.t 168)), (2, 1, (.t 169)), (3, 1, (.t 170))]⟩ (.op ⟨(some 172), none, .call (.c (.fn 17 [])) [(.t 171)]⟩ (.op ⟨(some 158), none, .v (.mov (.t 172))⟩ (.op ⟨(some 173), none, .v (.ext (.t 158) 0)⟩ (.op ⟨(some 174), none, .v (.ext (.t 158) 1)⟩ (.op ⟨(some 175), none, .v (.ext (.t 158) 2)⟩ (.op ⟨none, none, .store 2 (.t 16) (.t 173)⟩ (.op ⟨none, none, .store 2 (.t 17) (.t 174)⟩ (.op ⟨(some 14), none, .v (.mov (.t 175))⟩ .leaf
    .stop)
    .stop)
    .stop)
    .stop)
    .stop)
    .stop)
    .stop)
    .stop)
    .stop)
    .stop)
    .stop)
    .stop)
    .stop))
    .stop)))
    (.op ⟨(some 17), none, .new 23 [(.int .i64 (0)), (.int .i64 (0))]⟩ (.op ⟨(some 163), none, .call (.c (.fn 33 [])) [(.t 162), (.c (.int .i64 (1296000)))]⟩ (.op ⟨(some 165), none, .v (.load (.t 164) none)⟩ (.op ⟨(some 167), none, .v (.bin .add (.t 165) (.t 166))⟩ (.op ⟨(some 168), none, .call (.c (.fn 33 [])) [(.t 167), (.c (.int .i64 (1296000)))]⟩ (.op ⟨(some 171), none, .bld [(.int .i64 (0)), (.int .i64 (0)), (.int .i64 (0)), (.int .i64 (0))] [(0, 1, (.t 163)), (1, 1, (.t 168)), (2, 1, (.t 169)), (3, 1, (.t 170))]⟩ (.op ⟨(some 172), none, .call (.c (.fn 17 [])) [(.t 171)]⟩ (.op ⟨(some 158), none, .v (.mov (.t 172))⟩ (.op ⟨(some 173), none, .v (.ext (.t 158) 0)⟩ (.op ⟨(some 174), none, .v (.ext (.t 158) 1)⟩ (.op ⟨(some 175), none, .v (.ext (.t 158) 2)⟩ (.op ⟨(some 16), none, .new 23 [(.int .i64 (0)), (.int .i64 (0))]⟩ (.op ⟨none, none, .store 2 (.t 16) (.t 173)⟩ (.op ⟨none, none, .store 2 (.t 17) (.t 174)⟩ (.op ⟨(some 14), none, .v (.mov (.t 175))⟩ .leaf
    .stop)
    .stop)
    .stop)
    .stop)
    .stop)
    .stop)
    .stop)
    .stop)
    (.op ⟨(some 16), none, .new 23 [(.int .i64 (0)), (.int .i64 (0))]⟩ (.op ⟨(some 172), none, .call (.c (.fn 17 [])) [(.t 171)]⟩ (.op ⟨(some 158), none, .v (.mov (.t 172))⟩ (.op ⟨(some 173), none, .v (.ext (.t 158) 0)⟩ (.op ⟨(some 174), none, .v (.ext (.t 158) 1)⟩ (.op ⟨(some 175), none, .v (.ext (.t 158) 2)⟩ (.op ⟨none, none, .store 2 (.t 16) (.t 173)⟩ (.op ⟨none, none, .store 2 (.t 17) (.t 174)⟩ (.op ⟨(some 14), none, .v (.mov (.t 175))⟩ .leaf
    .stop)
    .stop)
    .stop)
    .stop)
    .stop)
    .stop)
    .stop)
    .stop)
    .stop))
    .stop)
    (.op ⟨(some 16), none, .new 23 [(.int .i64 (0)), (.int .i64 (0))]⟩ (.op ⟨(some 168), none, .call (.c (.fn 33 [])) [(.t 167), (.c (.int .i64 (1296000)))]⟩ (.op ⟨(some 171), none, .bld [(.int .i64 (0)), (.int .i64 (0)), (.int .i64 (0)), (.int .i64 (0))] [(0, 1, (.t 163)), (1, 1, (.t 168)), (2, 1, (.t 169)), (3, 1, (.t 170))]⟩ (.op ⟨(some 172), none, .call (.c (.fn 17 [])) [(.t 171)]⟩ (.op ⟨(some 158), none, .v (.mov (.t 172))⟩ (.op ⟨(some 173), none, .v (.ext (.t 158) 0)⟩ (.op ⟨(some 174), none, .v (.ext (.t 158) 1)⟩ (.op ⟨(some 175), none, .v (.ext (.t 158) 2)⟩ (.op ⟨none, none, .store 2 (.t 16) (.t 173)⟩ (.op ⟨none, none, .store 2 (.t 17) (.t 174)⟩ (.op ⟨(some 14), none, .v (.mov (.t 175))⟩ .leaf
    .stop)
    .stop)
    .stop)
    .stop)
    .stop)
    .stop)
    .stop)
    .stop)
    .stop)
    .stop)
    .stop))
    .stop)
    (.op ⟨(some 16), none, .new 23 [(.int .i64 (0)), (.int .i64 (0))]⟩ (.op ⟨(some 165), none, .v (.load (.t 164) none)⟩ (.op ⟨(some 167), none, .v (.bin .add (.t 165) (.t 166))⟩ (.op ⟨(some 168), none, .call (.c (.fn 33 [])) [(.t 167), (.c (.int .i64 (1296000)))]⟩ (.op ⟨(some 171), none, .bld [(.int .i64 (0)), (.int .i64 (0)), (.int .i64 (0)), (.int .i64 (0))] [(0, 1, (.t 163)), (1, 1, (.t 168)), (2, 1, (.t 169)), (3, 1, (.t 170))]⟩ (.op ⟨(some 172), none, .call (.c (.fn 17 [])) [(.t 171)]⟩ (.op ⟨(some 158), none, .v (.mov (.t 172))⟩ (.op ⟨(some 173), none, .v (.ext (.t 158) 0)⟩ (.op ⟨(some 174), none, .v (.ext (.t 158) 1)⟩ (.op ⟨(some 175), none, .v (.ext (.t 158) 2)⟩ (.op ⟨none, none, .store 2 (.t 16) (.t 173)⟩ (.op ⟨none, none, .store 2 (.t 17) (.t 174)⟩ (.op ⟨(some 14), none, .v (.mov (.t 175))⟩ .leaf
    .stop)
    .stop)
    .stop)
    .stop)
    .stop)
    .stop)
    .stop)
    .stop)
    .stop)
    .stop)
    .stop)
    .stop)
    .stop))
    (.op ⟨(some 165), none, .v (.load (.t 164) none)⟩ (.op ⟨(some 167), none, .v (.bin .add (.t 165) (.t 166))⟩ (.op ⟨(some 163), none, .call (.c (.fn 33 [])) [(.t 162), (.c (.int .i64 (1296000)))]⟩ (.op ⟨(some 168), none, .call (.c (.fn 33 [])) [(.t 167), (.c (.int .i64 (1296000)))]⟩ (.op ⟨(some 171), none, .bld [(.int .i64 (0)), (.int .i64 (0)), (.int .i64 (0)), (.int .i64 (0))] [(0, 1, (.t 163)), (1, 1, (.t 168)), (2, 1, (.t 169)), (3, 1, (.t 170))]⟩ (.op ⟨(some 172), none, .call (.c (.fn 17 [])) [(.t 171)]⟩ (.op ⟨(some 158), none, .v (.mov (.t 172))⟩ (.op ⟨(some 173), none, .v (.ext (.t 158) 0)⟩ (.op ⟨(some 174), none, .v (.ext (.t 158) 1)⟩ (.op ⟨(some 175), none, .v (.ext (.t 158) 2)⟩ (.op ⟨(some 16), none, .new 23 [(.int .i64 (0)), (.int .i64 (0))]⟩ (.op ⟨none, none, .store 2 (.t 16) (.t 173)⟩ (.op ⟨none, none, .store 2 (.t 17) (.t 174)⟩ (.op ⟨(some 14), none, .v (.mov (.t 175))⟩ .leaf
    .stop)
    .stop)
    .stop)
    .stop)
    .stop)
    .stop)
    .stop)
    .stop)
    (.op ⟨(some 16), none, .new 23 [(.int .i64 (0)), (.int .i64 (0))]⟩ (.op ⟨(some 172), none, .call (.c (.fn 17 [])) [(.t 171)]⟩ (.op ⟨(some 158), none, .v (.mov (.t 172))⟩ (.op ⟨(some 173), none, .v (.ext (.t 158) 0)⟩ (.op ⟨(some 174), none, .v (.ext (.t 158) 1)⟩ (.op ⟨(some 175), none, .v (.ext (.t 158) 2)⟩ (.op ⟨none, none, .store 2 (.t 16) (.t 173)⟩ (.op ⟨none, none, .store 2 (.t 17) (.t 174)⟩ (.op ⟨(some 14), none, .v (.mov (.t 175))⟩ .leaf
    .stop)
    .stop)
    .stop)
    .stop)
    .stop)
    .stop)
    .stop)
    .stop)
    .stop))
    .stop)
    (.op ⟨(some 16), none, .new 23 [(.int .i64 (0)), (.int .i64 (0))]⟩ (.op ⟨(some 168), none, .call (.c (.fn 33 [])) [(.t 167), (.c (.int .i64 (1296000)))]⟩ (.op ⟨(some 171), none, .bld [(.int .i64 (0)), (.int .i64 (0)), (.int .i64 (0)), (.int .i64 (0))] [(0, 1, (.t 163)), (1, 1, (.t 168)), (2, 1, (.t 169)), (3, 1, (.t 170))]⟩ (.op ⟨(some 172), none, .call (.c (.fn 17 [])) [(.t 171)]⟩ (.op ⟨(some 158), none, .v (.mov (.t 172))⟩ (.op ⟨(some 173), none, .v (.ext (.t 158) 0)⟩ (.op ⟨(some 174), none, .v (.ext (.t 158) 1)⟩ (.op ⟨(some 175), none, .v (.ext (.t 158) 2)⟩ (.op ⟨none, none, .store 2 (.t 16) (.t 173)⟩ (.op ⟨none, none, .store 2 (.t 17) (.t 174)⟩ (.op ⟨(some 14), none, .v (.mov (.t 175))⟩ .leaf
    .stop)
    .stop)
    .stop)
    .stop)
    .stop)
    .stop)
    .stop)
    .stop)
    .stop)
    .stop)
    .stop))
    (.op ⟨(some 16), none, .new 23 [(.int .i64 (0)), (.int .i64 (0))]⟩ (.op ⟨(some 163), none, .call (.c (.fn 33 [])) [(.t 162), (.c (.int .i64 (1296000)))]⟩ (.op ⟨(some 168), none, .call (.c (.fn 33 [])) [(.t 167), (.c (.int .i64 (1296000)))]⟩ (.op ⟨(some 171), none, .bld [(.int .i64 (0)), (.int .i64 (0)), (.int .i64 (0)), (.int .i64 (0))] [(0, 1, (.t 163)), (1, 1, (.t 168)), (2, 1, (.t 169)), (3, 1, (.t 170))]⟩ (.op ⟨(some 172), none, .call (.c (.fn 17 [])) [(.t 171)]⟩ (.op ⟨(some 158), none, .v (.mov (.t 172))⟩ (.op ⟨(some 173), none, .v (.ext (.t 158) 0)⟩ (.op ⟨(some 174), none, .v (.ext (.t 158) 1)⟩ (.op ⟨(some 175), none, .v (.ext (.t 158) 2)⟩ (.op ⟨none, none, .store 2 (.t 16) (.t 173)⟩ (.op ⟨none, none, .store 2 (.t 17) (.t 174)⟩ (.op ⟨(some 14), none, .v (.mov (.t 175))⟩ .leaf
    .stop)
    .stop)
    .stop)
    .stop)
    .stop)
    .stop)
    .stop)
    .stop)
    .stop)
    .stop)
    .stop)
    .stop))
    .stop)
    (.op ⟨(some 16), none, .new 23 [(.int .i64 (0)), (.int .i64 (0))]⟩ (.op ⟨(some 163), none, .call (.c (.fn 33 [])) [(.t 162), (.c (.int .i64 (1296000)))]⟩ (.op ⟨(some 165), none, .v (.load (.t 164) none)⟩ (.op ⟨(some 167), none, .v (.bin .add (.t 165) (.t 166))⟩ (.op ⟨(some 168), none, .call (.c (.fn 33 [])) [(.t 167), (.c (.int .i64 (1296000)))]⟩ (.op ⟨(some 171), none, .bld [(.int .i64 (0)), (.int .i64 (0)), (.int .i64 (0)), (.int .i64 (0))] [(0, 1, (.t 163)), (1, 1, (.t 168)), (2, 1, (.t 169)), (3, 1, (.t 170))]⟩ (.op ⟨(some 172), none, .call (.c (.fn 17 [])) [(.t 171)]⟩ (.op ⟨(some 158), none, .v (.mov (.t 172))⟩ (.op ⟨(some 173), none, .v (.ext (.t 158) 0)⟩ (.op ⟨(some 174), none, .v (.ext (.t 158) 1)⟩ (.op ⟨(some 175), none, .v (.ext (.t 158) 2)⟩ (.op ⟨none, none, .store 2 (.t 16) (.t 173)⟩ (.op ⟨none, none, .store 2 (.t 17) (.t 174)⟩ (.op ⟨(some 14), none, .v (.mov (.t 175))⟩ .leaf
    .stop)
    .stop)
    .stop)
    .stop)
    .stop)
    .stop)
    .stop)
    .stop)
    .stop)
    .stop)
    .stop)
    .stop)
    (.op ⟨(some 165), none, .v (.load (.t 164) none)⟩ (.op ⟨(some 167), none, .v (.bin .add (.t 165) (.t 166))⟩ (.op ⟨(some 163), none, .call (.c (.fn 33 [])) [(.t 162), (.c (.int .i64 (1296000)))]⟩ (.op ⟨(some 168), none, .call (.c (.fn 33 [])) [(.t 167), (.c (.int .i64 (1296000)))]⟩ (.op ⟨(some 171), none, .bld [(.int .i64 (0)), (.int .i64 (0)), (.int .i64 (0)), (.int .i64 (0))] [(0, 1, (.t 163)), (1, 1, (.t 168)), (2, 1, (.t 169)), (3, 1, (.t 170))]⟩ (.op ⟨(some 172), none, .call (.c (.fn 17 [])) [(.t 171)]⟩ (.op ⟨(some 158), none, .v (.mov (.t 172))⟩ (.op ⟨(some 173), none, .v (.ext (.t 158) 0)⟩ (.op ⟨(some 174), none, .v (.ext (.t 158) 1)⟩ (.op ⟨(some 175), none, .v (.ext (.t 158) 2)⟩ (.op ⟨none, none, .store 2 (.t 16) (.t 173)⟩ (.op ⟨none, none, .store 2 (.t 17) (.t 174)⟩ (.op ⟨(some 14), none, .v (.mov (.t 175))⟩ .leaf
    .stop)
    .stop)
    .stop)
    .stop)
    .stop)
    .stop)
    .stop)
    .stop)
    .stop)
    .stop)
    .stop)
    .stop)
    .stop))
    .stop)))
    .stop))))
    .stop)
    .stop)
    .stop)
    .stop)
    .stop)
    .stop)
    .stop)
    .stop))
  (.seq (.drw [(0, ⟨(some 176), none, .v (.mov (.t 14))⟩, false),
    (1, ⟨(some 177), none, .v (.bin .eql (.t 176) (.c (.int .i64 (0))))⟩, false),
    (2, ⟨(some 178), none, .v (.mov (.t 177))⟩, true),
    (3, ⟨(some 179), (some (178, true)), .v (.load (.t 17) (some 2))⟩, false),
    (4, ⟨(some 180), (some (178, true)), .v (.off (.t 13) 1)⟩, false),
    (5, ⟨(some 181), (some (178, true)), .v (.load (.t 180) none)⟩, false),
    (6, ⟨(some 182), (some (178, true)), .v (.neg (.t 181))⟩, false),
    (7, ⟨(some 183), (some (178, true)), .v (.off (.t 13) 0)⟩, false),
    (8, ⟨(some 184), (some (178, true)), .v (.load (.t 183) none)⟩, false),
    (9, ⟨(some 185), (some (178, true)), .v (.neg (.t 184))⟩, false),
    (10, ⟨(some 186), (some (178, true)), .call (.c (.fn 34 [])) [(.t 182), (.t 185)]⟩, false),
    (11, ⟨(some 187), (some (178, true)), .v (.eqs [(some .i64), (some .i64)] false (.t 179) (.t 186))⟩, false),
    (12, ⟨(some 188), none, .v (.pick (.t 178) (.t 187) (.c (.lit (.bool false))))⟩, false),
    (13, ⟨(some 189), none, .v (.mov (.t 188))⟩, true),
    (14, ⟨(some 190), (some (189, true)), .v (.off (.t 16) 1)⟩, false),
    (15, ⟨(some 191), (some (189, true)), .v (.load (.t 190) none)⟩, false),
    (16, ⟨(some 192), (some (189, true)), .v (.off (.t 16) 0)⟩, false),
    (17, ⟨(some 193), (some (189, true)), .v (.load (.t 192) none)⟩, false),
    (18, ⟨(some 194), (some (189, true)), .v (.bin .sub (.t 191) (.t 193))⟩, false),
    (19, ⟨(some 195), (some (189, true)), .v (.off (.t 12) 1)⟩, false),
    (20, ⟨(some 196), (some (189, true)), .v (.load (.t 195) none)⟩, false),
    (21, ⟨(some 197), (some (189, true)), .v (.off (.t 12) 0)⟩, false),
    (22, ⟨(some 198), (some (189, true)), .v (.load (.t 197) none)⟩, false),
    (23, ⟨(some 199), (some (189, true)), .v (.bin .sub (.t 196) (.t 198))⟩, false),
    (24, ⟨(some 200), (some (189, true)), .v (.bin .eql (.t 194) (.t 199))⟩, false),
    (25, ⟨(some 201), none, .v (.pick (.t 189) (.t 200) (.c (.lit (.bool false))))⟩, false),
    (26, ⟨(some 202), none, .v (.mov (.t 201))⟩, true),
    (27, ⟨(some 203), (some (202, true)), .v (.off (.t 16) 0)⟩, false),
    (28, ⟨(some 204), (some (202, true)), .v (.load (.t 203) none)⟩, false),
    (29, ⟨(some 205), (some (202, true)), .v (.off (.t 12) 0)⟩, false),
    (30, ⟨(some 206), (some (202, true)), .v (.load (.t 205) none)⟩, false)]
    none
    [⟨(some 207), (some (202, true)), .v (.bin .sub (.t 204) (.t 206))⟩,
    ⟨(some 208), (some (202, true)), .call (.c (.fn 33 [])) [(.t 207), (.c (.int .i64 (1296000)))]⟩,
    ⟨(some 209), (some (202, true)), .v (.bin .eql (.t 208) (.c (.int .i64 (0))))⟩,
    ⟨(some 210), none, .v (.pick (.t 202) (.t 209) (.c (.lit (.bool false))))⟩,
    ⟨(some 211), none, .v (.mov (.t 210))⟩,
    ⟨(some 212), (some (211, true)), .call (.c (.fn 19 [])) []⟩,
    ⟨(some 213), none, .v (.pick (.t 211) (.t 212) (.c (.lit (.bool false))))⟩,
    ⟨(some 6), none, .v (.mov (.t 213))⟩])
  .ret))))))))))
def r7 : List RV := [.t 6]
def n7 : Nat := 214
theorem k7 : (Try.f7.body.bind (cC Try.prog), cR Try.prog Try.f7.results.toList, Try.f7.ntmps) = (some s7, some r7, 214) := by kernel_rfl
theorem q7 : Known Try.prog 7 := ⟨_, Try.func7, by decide, by simp [Try.f7]⟩



theorem Fc.DB (v : Fc) : (-1000000000 ≤ v.D.1 ∧ v.D.1 ≤ 1000000000) ∧ (-1000000000 ≤ v.D.2 ∧ v.D.2 ≤ 1000000000) ∧ (-1000000000 ≤ v.L.1 ∧ v.L.1 ≤ 1000000000) ∧ (-1000000000 ≤ v.L.2 ∧ v.L.2 ≤ 1000000000) := by
  unfold Fc.D Fc.L
  by_cases h : v.ok ∧ v.lo ≤ v.hi
  · rw [if_pos h, if_pos h]
    obtain ⟨h1, h2⟩ := h
    have h3 := v.aB
    unfold Fc.ok at h1
    have hb : -100000 ≤ v.lo ∧ v.hi ≤ 100000 := by unfold Fc.lo Fc.hi; omega
    have hc : -100000 ≤ v.cl v.hi ∧ v.cl v.hi ≤ 100000 := by unfold Fc.cl; omega
    unfold Fc.d1 Fc.d2
    simp only
    omega
  · rw [if_neg h, if_neg h]; simp
def F19 : FC := fun args => match args with
  | [] => some (True, .lit (.bool true))
  | _ => none
/-- Faces of a direction and a lean: what is found of them. -/
structure Turn (y : Fc) (dir lean : Int) : Prop where
  ok : y.ok
  a : -220000 ≤ y.a ∧ y.a ≤ 220000
  lo : -y.n ≤ y.lo ∧ y.lo ≤ lean
  hi : lean ≤ y.hi ∧ y.hi ≤ y.n
  d : y.d1 y.hi ≤ y.d2 y.hi ∧ y.d2 y.hi - y.d1 y.hi ≤ 2 * y.w
  l : -(y.n + y.w) ≤ y.d1 y.hi - y.l ∧ y.d2 y.hi - y.l ≤ y.n + y.w
  dir : (y.d1 y.hi ≤ dir ∧ dir ≤ y.d2 y.hi) ∨ (y.d1 y.hi ≤ dir + 1296000 ∧ dir + 1296000 ≤ y.d2 y.hi) ∨ (y.d1 y.hi ≤ dir - 1296000 ∧ dir - 1296000 ≤ y.d2 y.hi)
theorem clampT {a p q lean e1 e2 w c : Int} (ha : a = -2 * lean + e2 - e1) (hp : p ≤ lean) (hq : lean ≤ q) (h1 : -w ≤ e1 ∧ e1 ≤ w) (h2 : -w ≤ e2 ∧ e2 ≤ w) (hc : c = min (max (-a / 2) p) q) :
    (-c - w ≤ -lean - e1 ∧ a + c - w ≤ -lean - e1) ∧ (-lean - e1 ≤ -c + w ∧ -lean - e1 ≤ a + c + w) := by
  rcases (show c = -a / 2 ∨ (c = p ∧ -a / 2 ≤ p) ∨ (c = q ∧ q ≤ -a / 2) by omega) with h | h | h <;> clear hc <;> omega
theorem Fc.turn {y : Fc} {dir lean e1 e2 : Int} (hw : 0 ≤ y.w ∧ y.w ≤ 10000) (hn : 0 ≤ y.n ∧ y.n ≤ 100000) (hd : 0 ≤ dir ∧ dir < 1296000) (hl : -y.n ≤ lean ∧ lean ≤ y.n)
    (h1 : -y.w ≤ e1 ∧ e1 ≤ y.w) (h2 : -y.w ≤ e2 ∧ e2 ≤ y.w) (hL : y.l = (dir + lean + e1) % 1296000) (hR : y.r = (dir + 648000 - lean + e2) % 1296000) : Turn y dir lean := by
  have ha : y.a = -2 * lean + e2 - e1 := by unfold Fc.a; omega
  have ho : y.ok := by unfold Fc.ok; omega
  have hlo : -y.n ≤ y.lo ∧ y.lo ≤ lean := by unfold Fc.lo; omega
  have hhi : lean ≤ y.hi ∧ y.hi ≤ y.n := by unfold Fc.hi Fc.B; omega
  obtain ⟨⟨m1, m2⟩, m3, m4⟩ := clampT ha hlo.2 hhi.1 h1 h2 (show y.cl y.hi = min (max (-y.a / 2) y.lo) y.hi from rfl)
  have hc : y.lo ≤ y.cl y.hi ∧ y.cl y.hi ≤ y.hi := by unfold Fc.cl; omega
  have hk : y.l = dir + lean + e1 ∨ y.l = dir + lean + e1 + 1296000 ∨ y.l = dir + lean + e1 - 1296000 := by omega
  clear hL hR
  refine ⟨ho, by omega, hlo, hhi, ?_, ?_, ?_⟩ <;> unfold Fc.d1 Fc.d2
  · omega
  · clear hk; omega
  · rcases hk with h | h | h
    · exact .inl (by omega)
    · exact .inr (.inl (by omega))
    · exact .inr (.inr (by omega))
/-- The faces exchanged. -/
def Fc.x (y : Fc) : Fc := ⟨(y.r + 648000) % 1296000, (y.l + 648000) % 1296000, y.w, y.n⟩
structure Xch (y : Fc) : Prop where
  ok : y.x.ok
  lo : y.x.lo = -y.hi
  hi : y.x.hi = -y.lo
  d : y.x.d2 (-y.lo) - y.x.d1 (-y.lo) = y.d2 y.hi - y.d1 y.hi
  l : (y.x.d1 (-y.lo) - y.d1 y.hi) % 1296000 = 0
theorem Fc.xch {y : Fc} (ho : y.ok) (ha : -220000 ≤ y.a ∧ y.a ≤ 220000) (hlh : y.lo ≤ y.hi) : Xch y := by
  have e0 : y.a = (y.r - y.l) % 1296000 - 648000 := rfl
  have ha' : y.x.a = -y.a := by rw [e0] at ha ⊢; unfold Fc.a Fc.x; simp only; omega
  have ho' : y.x.ok := by unfold Fc.ok Fc.x; unfold Fc.ok at ho; simp only; omega
  have xn : y.x.n = y.n := rfl
  have xw : y.x.w = y.w := rfl
  have xl : y.x.l = (y.r + 648000) % 1296000 := rfl
  have hlo : y.x.lo = -y.hi := by unfold Fc.lo Fc.hi Fc.B; rw [ha', xn, xw]; omega
  have hhi : y.x.hi = -y.lo := by unfold Fc.lo Fc.hi Fc.B; rw [ha', xn, xw]; omega
  have hc : y.cl y.hi = min (max (-y.a / 2) y.lo) y.hi := rfl
  have hc' : y.x.cl (-y.lo) = min (max (y.a / 2) (-y.hi)) (-y.lo) := by unfold Fc.cl; rw [hlo, ha', Int.neg_neg]
  unfold Fc.ok at ho
  refine ⟨ho', hlo, hhi, ?_, ?_⟩
  · unfold Fc.d1 Fc.d2; rw [hc, hc', xw, ha']; omega
  · have hk : ∃ k : Int, y.x.l - y.l = y.a + 1296000 * k := ⟨1 + (y.r - y.l) / 1296000 - (y.r + 648000) / 1296000, by rw [e0, xl]; omega⟩
    obtain ⟨k, hk⟩ := hk
    have hm : max (-y.x.cl (-y.lo) - y.w) (-y.a + y.x.cl (-y.lo) - y.w) - max (-y.cl y.hi - y.w) (y.a + y.cl y.hi - y.w) = -y.a := by rw [hc, hc']; omega
    unfold Fc.d1; rw [xw, ha']; omega
def C7 : PC := fun args K => ∃ (l r w n n0 n1 o0 o1 : Int), args = [.agg [.int .i64 l, .int .i64 r, .int .i64 w, .int .i64 n], .agg [.int .i64 n0, .int .i64 n1], .agg [.int .i64 o0, .int .i64 o1]] ∧ K (.lit (.bool true))
set_option maxHeartbeats 2000000 in
theorem p7 (p19 : PureOk Try.prog 19 (fcC F19)) (q19 : Known Try.prog 19) : PureOk Try.prog 7 C7 := by
  refine pure_of (T := [(17, .fc F17), (33, .fc Fmod), (34, .fc Fto), (35, .fc Fhol), (36, .fc Fabs), (19, .fc F19)]) ⟨⟨p17, q17⟩, ⟨p33, q33⟩, ⟨p34, q34⟩, ⟨p35, q35⟩, ⟨p36, q36⟩, ⟨p19, q19⟩, trivial⟩ Try.func7 k7 ?_
  rintro args K ⟨l, r, w, n, n0, n1, o0, o1, rfl, hK⟩
  have hW : 0 ≤ w % 10001 ∧ w % 10001 ≤ 10000 := by omega
  have hN : 0 ≤ n % 100001 ∧ n % 100001 ≤ 100000 := by omega
  have hD : 0 ≤ n0 % 1296000 ∧ n0 % 1296000 < 1296000 := by omega
  have m1 := Int.emod_nonneg n1 (show 2 * (n % 100001) + 1 ≠ 0 by omega)
  have m2 := Int.emod_lt_of_pos n1 (show 0 < 2 * (n % 100001) + 1 by omega)
  have m3 := Int.emod_nonneg o0 (show 2 * (w % 10001) + 1 ≠ 0 by omega)
  have m4 := Int.emod_lt_of_pos o0 (show 0 < 2 * (w % 10001) + 1 by omega)
  have m5 := Int.emod_nonneg o1 (show 2 * (w % 10001) + 1 ≠ 0 by omega)
  have m6 := Int.emod_lt_of_pos o1 (show 0 < 2 * (w % 10001) + 1 by omega)
  simp (maxSteps := 3000000) only [inr64, ↓reduceIte, e_reg, and_self, e_drw, e_seq, o_nil, o_cons, gd_none, putK_e, runK_e, vK_e, boxK_e, storeK3_e, storeK2_e, storeK_e, conK_e, callK_e, evh_v, evh_box, evh_store, evh_call, dX_e, dG_t, d_nil, d_cons, creK_e, tlK_n, tlK_s, evc_e, seqK_n, gam_e, gamK_f, gamq_e, gamqK_f, pc_e, pcK_e, fcC_e, fcK_e, evp, bin, gt, gq, st, putf, X.get, gets, getp, ap, mkfr, rep, clV, clL, clS, clo, clo.clos, ld, lda, tk, dr, sp, sp.spl, lay, ll, cs1, one, allOne, gb, sb, pb, ln, lk, evq, gdl, crv, undef, Bool.and_true, Nat.reduceSub, Nat.reduceAdd, Nat.reduceMul, Nat.reduceBEq, beq_self_eq_true, true_and, s7, r7, Fmod, gq, Int.reduceToNat]
  generalize n1 % (2 * (n % 100001) + 1) = le at m1 m2 ⊢
  generalize o0 % (2 * (w % 10001) + 1) = e1 at m3 m4 ⊢
  generalize o1 % (2 * (w % 10001) + 1) = e2 at m5 m6 ⊢
  generalize n0 % 1296000 = dir at hD ⊢
  generalize n % 100001 = N at hN m1 m2 ⊢
  generalize w % 10001 = W at hW m3 m4 m5 m6 ⊢
  refine ⟨by omega, by omega, by omega, by omega, by omega, by omega, by omega, by omega, by omega, by omega, by omega, by omega, by omega, by omega, by omega, by omega, by omega, by omega, by omega, by omega, by omega, by omega, by omega, by omega, by omega, by omega, ?_⟩
  generalize hL : (dir + (le - N) + e1 - W) % 1296000 = L
  generalize hR : (dir + 648000 - (le - N) + e2 - W) % 1296000 = R
  generalize hle : le - N = lean at hL hR ⊢
  obtain ⟨ho, ha, hlo, hhi, hd, hl, hdir⟩ := Fc.turn (y := ⟨L, R, W, N⟩) (dir := dir) (lean := lean) (e1 := e1 - W) (e2 := e2 - W) hW hN hD (by simp only; omega) (by simp only; omega) (by simp only; omega) (by simp only; omega) (by simp only; omega)
  have hx := Fc.xch ho ha (by omega)
  obtain ⟨xo, xlo, xhi, xd, xl⟩ := hx
  have hn : (Fc.mk L R W N).n = N := rfl
  have hw : (Fc.mk L R W N).w = W := rfl
  have hl0 : (Fc.mk L R W N).l = L := rfl
  have hlh : (Fc.mk L R W N).lo ≤ (Fc.mk L R W N).hi := by omega
  have hlh' : (Fc.mk L R W N).x.lo ≤ (Fc.mk L R W N).x.hi := by omega
  have hF : F17 [.agg [.int .i64 L, .int .i64 R, .int .i64 W, .int .i64 N]] = some (True, .tup [.agg [.int .i64 ((Fc.mk L R W N).d1 (Fc.mk L R W N).hi), .int .i64 ((Fc.mk L R W N).d2 (Fc.mk L R W N).hi)], .agg [.int .i64 (Fc.mk L R W N).lo, .int .i64 (Fc.mk L R W N).hi], .int .i64 0]) := by
    simp only [F17, Fc.D, Fc.L, Fc.e, ho, hlh, and_self, if_true]
  have hF' : F17 [.agg [.int .i64 ((R + 648000) % 1296000), .int .i64 ((L + 648000) % 1296000), .int .i64 W, .int .i64 N]] = some (True, .tup [.agg [.int .i64 ((Fc.mk L R W N).x.d1 (-(Fc.mk L R W N).lo)), .int .i64 ((Fc.mk L R W N).x.d2 (-(Fc.mk L R W N).lo))], .agg [.int .i64 (-(Fc.mk L R W N).hi), .int .i64 (-(Fc.mk L R W N).lo)], .int .i64 0]) := by
    have e : (⟨(R + 648000) % 1296000, (L + 648000) % 1296000, W, N⟩ : Fc) = (Fc.mk L R W N).x := rfl
    simp only [F17, e, Fc.D, Fc.L, Fc.e, xo, hlh', and_self, if_true]
    simp only [xlo, xhi]
  have hb' : (-1000000000 ≤ (Fc.mk L R W N).x.d1 (-(Fc.mk L R W N).lo) ∧ (Fc.mk L R W N).x.d1 (-(Fc.mk L R W N).lo) ≤ 1000000000) ∧ (-1000000000 ≤ (Fc.mk L R W N).x.d2 (-(Fc.mk L R W N).lo) ∧ (Fc.mk L R W N).x.d2 (-(Fc.mk L R W N).lo) ≤ 1000000000) := by
    have h := (Fc.mk L R W N).x.DB
    simp only [Fc.D, xo, xhi] at h
    simp only [if_pos (show True ∧ (Fc.mk L R W N).x.lo ≤ -(Fc.mk L R W N).lo from ⟨trivial, by omega⟩)] at h
    exact ⟨h.1, h.2.1⟩
  have hRb : 0 ≤ R ∧ R < 1296000 := by omega
  have hLb : 0 ≤ L ∧ L < 1296000 := by omega
  rw [hn] at hlo hhi hl
  rw [hw] at hd hl
  rw [hl0] at hl
  generalize (Fc.mk L R W N).lo = lo at *
  generalize (Fc.mk L R W N).hi = hi at *
  generalize (Fc.mk L R W N).d1 hi = p at *
  generalize (Fc.mk L R W N).d2 hi = q at *
  generalize (Fc.mk L R W N).x.d1 (-lo) = p' at *
  generalize (Fc.mk L R W N).x.d2 (-lo) = q' at *
  have n2 : (2 * W < q - p) = False := by simp; omega
  have n3 : (q < p) = False := by simp; omega
  have n4 : (hi < lo) = False := by simp; omega
  have n5 : (lo < -N) = False := by simp; omega
  have n6 : (N < hi) = False := by simp; omega
  have n7 : (lo ≤ lean ∧ lean ≤ hi) = True := by simp; omega
  have n8 : (N + W < max (p - L) (-(p - L))) = False := by simp only [eq_iff_iff, iff_false]; omega
  have n9 : (N + W < max (q - L) (-(q - L))) = False := by simp only [eq_iff_iff, iff_false]; omega
  have hb : -2000000 ≤ p ∧ q ≤ 2000000 := by omega
  have fin : ∃ r', K r' ∧ leR 4 (.lit (.bool true)) r' := res hK (by simp [leR])
  have xd2 : (q' - p' = q - p) = True := by rw [xd]; simp
  have xl2 : ((p' - p) % 1296000 = 0) = True := by rw [xl]; simp
  by_cases c1 : p ≤ dir ∧ dir ≤ q
  · have d1 : (p ≤ dir ∧ dir ≤ q) = True := by simp [c1]
    simp (maxSteps := 3000000) only [dX_bt, gdK_btt, gdK_btf, gdK_bff, condK_bf, decide_true, decide_false, inr64, ↓reduceIte, e_skip, e_reg, e_tre, t_leaf, t_stop, t_op, and_self, e_drw, e_seq, e_cond, e_ret, o_nil, o_cons, gd_none, gd_some, gdK_tt, gdK_ft, gdK_ff, putK_e, runK_e, skipK_e, vK_e, bldK_e, storeK3_e, storeK2_e, storeK_e, conK_e, callK_e, evh_v, evh_new, evh_bld, evh_store, evh_call, dX_e, dG_t, d_nil, d_cons, tlK_n, seqK_n, condK_f, ends_r, endK1_e, endK2_e, gam_e, gamK_f, gamq_e, gamqK_f, pc_e, pcK_e, fcC_e, fcK_e, evp, fit, InQ, bin, gt, gq, st, putf, X.get, gets, getp, ap, rdR, tupled, clV, clL, clS, clo, clo.clos, ld, lda, tk, dr, sp, sp.spl, lay, ll, cs1, one, allOne, gb, sb, pb, ln, lk, evq, gdl, Value.oneCell', undef, Bool.and_true, Bool.not_true, cond_false, Nat.reduceAdd, Nat.reduceBEq, beq_self_eq_true, true_and, and_true, hF, hF', Fhol, Fabs, Fmod, Fto, F19, n2, n3, n4, n5, n6, n7, n8, n9, xd2, xl2, d1]
    clear hF hF' hdir hL hR n2 n3 n4 n5 n6 n7 n8 n9 xd2 xl2 ho ha xo hn hw hl0 hlh'
    repeat' (first | exact fin | refine And.intro ?_ ?_)
    all_goals omega
  have d1 : (p ≤ dir ∧ dir ≤ q) = False := by simp only [c1]
  by_cases c2 : p ≤ dir + 1296000 ∧ dir + 1296000 ≤ q
  · have d2 : (p ≤ dir + 1296000 ∧ dir + 1296000 ≤ q) = True := by simp [c2]
    simp (maxSteps := 3000000) only [dX_bt, gdK_btt, gdK_btf, gdK_bff, condK_bf, decide_true, decide_false, inr64, ↓reduceIte, e_skip, e_reg, e_tre, t_leaf, t_stop, t_op, and_self, e_drw, e_seq, e_cond, e_ret, o_nil, o_cons, gd_none, gd_some, gdK_tt, gdK_ft, gdK_ff, putK_e, runK_e, skipK_e, vK_e, bldK_e, storeK3_e, storeK2_e, storeK_e, conK_e, callK_e, evh_v, evh_new, evh_bld, evh_store, evh_call, dX_e, dG_t, d_nil, d_cons, tlK_n, seqK_n, condK_f, ends_r, endK1_e, endK2_e, gam_e, gamK_f, gamq_e, gamqK_f, pc_e, pcK_e, fcC_e, fcK_e, evp, fit, InQ, bin, gt, gq, st, putf, X.get, gets, getp, ap, rdR, tupled, clV, clL, clS, clo, clo.clos, ld, lda, tk, dr, sp, sp.spl, lay, ll, cs1, one, allOne, gb, sb, pb, ln, lk, evq, gdl, Value.oneCell', undef, Bool.and_true, Bool.not_true, Bool.not_false, cond_false, Nat.reduceAdd, Nat.reduceBEq, beq_self_eq_true, true_and, and_true, hF, hF', Fhol, Fabs, Fmod, Fto, F19, n2, n3, n4, n5, n6, n7, n8, n9, xd2, xl2, d1, d2]
    clear hF hF' hdir hL hR n2 n3 n4 n5 n6 n7 n8 n9 xd2 xl2 ho ha xo hn hw hl0 hlh'
    repeat' (first | exact fin | refine And.intro ?_ ?_)
    all_goals omega
  · have d2 : (p ≤ dir + 1296000 ∧ dir + 1296000 ≤ q) = False := by simp only [c2]
    have d3 : (p ≤ dir - 1296000 ∧ dir - 1296000 ≤ q) = True := by
      rcases hdir with h | h | h
      · exact absurd h c1
      · exact absurd h c2
      · simp [h]
    simp (maxSteps := 3000000) only [dX_bt, gdK_btt, gdK_bff, condK_bf, decide_true, decide_false, inr64, ↓reduceIte, e_skip, e_reg, e_tre, t_leaf, t_stop, t_op, and_self, e_drw, e_seq, e_cond, e_ret, o_nil, o_cons, gd_none, gd_some, gdK_tt, gdK_ff, putK_e, runK_e, vK_e, bldK_e, storeK3_e, storeK2_e, storeK_e, conK_e, callK_e, evh_v, evh_new, evh_bld, evh_store, evh_call, dX_e, dG_t, d_nil, d_cons, tlK_n, seqK_n, ends_r, endK1_e, endK2_e, gam_e, gamK_f, gamq_e, gamqK_f, pc_e, pcK_e, fcC_e, fcK_e, evp, fit, InQ, bin, gt, gq, st, putf, X.get, gets, getp, ap, rdR, tupled, clV, clL, clS, clo, clo.clos, ld, lda, tk, dr, sp, sp.spl, lay, ll, cs1, one, allOne, gb, sb, pb, ln, lk, evq, gdl, Value.oneCell', Bool.and_true, Bool.not_true, Bool.not_false, cond_false, Nat.reduceAdd, Nat.reduceBEq, beq_self_eq_true, true_and, and_true, hF, hF', Fhol, Fabs, Fmod, Fto, F19, n2, n3, n4, n5, n6, n7, n8, n9, xd2, xl2, d1, d2, d3]
    clear hF hF' hdir hL hR n2 n3 n4 n5 n6 n7 n8 n9 xd2 xl2 ho ha xo hn hw hl0 hlh'
    repeat' (first | exact fin | refine And.intro ?_ ?_)
    all_goals omega
end Go.Proofs.Ytgfoakilompbdaa
