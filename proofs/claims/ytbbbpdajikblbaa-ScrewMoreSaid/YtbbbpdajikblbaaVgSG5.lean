import Derived.Test.YtbbbpdajikblbaaVgSG4
namespace Go.Proofs.Ytbbbpdajikblbaa
open Go Go.Vg
set_option linter.unusedSimpArgs false
set_option linter.unusedVariables false
set_option maxRecDepth 10000
def s9t2 : SC :=
 (.seq (.reg [⟨(some 144), none, .v (.mov (.t 9))⟩,
  ⟨(some 145), none, .v (.bin .eql (.t 144) (.c (.int .i64 (0))))⟩,
  ⟨(some 146), none, .v (.mov (.t 145))⟩,
  ⟨(some 147), (some (146, true)), .v (.mov (.t 10))⟩,
  ⟨(some 148), (some (146, true)), .v (.mov (.t 14))⟩,
  ⟨(some 149), (some (146, true)), .call (.c (.fn 45 [])) [(.t 147), (.t 148)]⟩,
  ⟨(some 150), none, .v (.pick (.t 146) (.t 149) (.c (.lit (.bool false))))⟩,
  ⟨(some 151), none, .v (.mov (.t 150))⟩,
  ⟨(some 152), (some (151, true)), .call (.c (.fn 24 [])) []⟩,
  ⟨(some 153), none, .v (.pick (.t 151) (.t 152) (.c (.lit (.bool false))))⟩,
  ⟨(some 6), none, .v (.mov (.t 153))⟩])
 .ret)
def s9t1 : SC :=
 (.seq (.reg [⟨(some 26), none, .v (.load (.t 3) (some 2))⟩,
  ⟨(some 27), none, .v (.mov (.t 1))⟩,
  ⟨(some 28), none, .call (.c (.fn 27 [])) [(.t 26), (.t 27)]⟩,
  ⟨(some 25), none, .v (.mov (.t 28))⟩,
  ⟨(some 29), none, .v (.ext (.t 25) 0)⟩,
  ⟨(some 30), none, .v (.ext (.t 25) 1)⟩,
  ⟨(some 8), none, .v (.mov (.t 29))⟩,
  ⟨(some 9), none, .v (.mov (.t 30))⟩])
 (.seq (.reg [⟨(some 32), none, .v (.load (.t 3) (some 2))⟩,
  ⟨(some 33), none, .v (.mov (.t 7))⟩,
  ⟨(some 34), none, .call (.c (.fn 27 [])) [(.t 32), (.t 33)]⟩,
  ⟨(some 31), none, .v (.mov (.t 34))⟩,
  ⟨(some 35), none, .v (.ext (.t 31) 0)⟩,
  ⟨(some 36), none, .v (.ext (.t 31) 1)⟩,
  ⟨(some 10), none, .v (.mov (.t 35))⟩,
  ⟨(some 11), none, .v (.mov (.t 36))⟩])
 (.seq (.seq (.reg [⟨(some 37), none, .v (.mov (.t 11))⟩,
  ⟨(some 38), none, .v (.bin .neq (.t 37) (.c (.int .i64 (0))))⟩])
 (.cond (.t 38)
  (.seq (.reg [⟨(some 39), none, .v (.mov (.t 10))⟩,
   ⟨(some 40), none, .v (.len (.t 39))⟩,
   ⟨(some 41), none, .v (.bin .eql (.t 40) (.c (.int .i64 (0))))⟩,
   ⟨(some 42), none, .v (.mov (.t 41))⟩,
   ⟨(some 43), (some (42, true)), .v (.mov (.t 9))⟩,
   ⟨(some 44), (some (42, true)), .v (.bin .eql (.t 43) (.c (.int .i64 (0))))⟩,
   ⟨(some 45), (some (42, true)), .v (.mov (.t 44))⟩,
   ⟨(some 46), (some (45, false)), .v (.mov (.t 9))⟩,
   ⟨(some 47), (some (45, false)), .v (.mov (.t 11))⟩,
   ⟨(some 48), (some (45, false)), .v (.bin .eql (.t 46) (.t 47))⟩,
   ⟨(some 49), (some (42, true)), .v (.pick (.t 45) (.c (.lit (.bool true))) (.t 48))⟩,
   ⟨(some 50), (some (42, true)), .v (.mov (.t 49))⟩,
   ⟨(some 51), (some (50, false)), .v (.mov (.t 11))⟩,
   ⟨(some 52), (some (50, false)), .v (.bin .eql (.t 51) (.c (.int .i64 (24))))⟩,
   ⟨(some 53), (some (42, true)), .v (.pick (.t 50) (.c (.lit (.bool true))) (.t 52))⟩,
   ⟨(some 54), none, .v (.pick (.t 42) (.t 53) (.c (.lit (.bool false))))⟩,
   ⟨(some 55), none, .v (.mov (.t 54))⟩,
   ⟨(some 56), (some (55, true)), .call (.c (.fn 24 [])) []⟩,
   ⟨(some 57), none, .v (.pick (.t 55) (.t 56) (.c (.lit (.bool false))))⟩,
   ⟨(some 6), none, .v (.mov (.t 57))⟩])
  .ret)
  .skip))
 (.seq (.seq (.reg [⟨(some 58), none, .v (.mov (.t 9))⟩,
  ⟨(some 59), none, .v (.bin .neq (.t 58) (.c (.int .i64 (0))))⟩,
  ⟨(some 60), none, .v (.mov (.t 59))⟩,
  ⟨(some 61), (some (60, false)), .v (.mov (.t 8))⟩,
  ⟨(some 62), (some (60, false)), .v (.len (.t 61))⟩,
  ⟨(some 63), (some (60, false)), .v (.mov (.t 10))⟩,
  ⟨(some 64), (some (60, false)), .v (.len (.t 63))⟩,
  ⟨(some 65), (some (60, false)), .v (.bin .neq (.t 62) (.t 64))⟩,
  ⟨(some 66), none, .v (.pick (.t 60) (.c (.lit (.bool true))) (.t 65))⟩])
 (.cond (.t 66)
  (.seq (.reg [⟨(some 6), none, .v (.mov (.c (.lit (.bool false))))⟩])
  .ret)
  .skip))
 (.seq (.seq (.reg [⟨(some 12), none, .v (.mov (.c (.int .i64 (0))))⟩])
 (.block 0 (.loop
  (.seq (.seq (.reg [⟨(some 67), none, .v (.mov (.t 12))⟩,
   ⟨(some 68), none, .v (.mov (.t 8))⟩,
   ⟨(some 69), none, .v (.len (.t 68))⟩,
   ⟨(some 70), none, .v (.bin .lss (.t 67) (.t 69))⟩])
  (.cond (.t 70)
   .skip
   (.exit 0)))
  (.seq (.block 1 (.seq (.seq (.drw [(0, ⟨(some 73), none, .v (.mov (.t 8))⟩, false),
   (1, ⟨(some 74), none, .v (.mov (.t 12))⟩, false),
   (2, ⟨(some 75), none, .v (.ixa (.t 73) (.t 74) 1)⟩, false),
   (3, ⟨(some 76), none, .v (.load (.t 75) none)⟩, false),
   (4, ⟨(some 77), none, .v (.len (.t 76))⟩, false),
   (5, ⟨(some 78), none, .v (.mov (.t 10))⟩, false),
   (6, ⟨(some 79), none, .v (.mov (.t 12))⟩, false),
   (7, ⟨(some 80), none, .v (.ixa (.t 78) (.t 79) 1)⟩, false),
   (8, ⟨(some 81), none, .v (.load (.t 80) none)⟩, false),
   (9, ⟨(some 82), none, .v (.len (.t 81))⟩, false)]
   none
   [⟨(some 83), none, .v (.bin .neq (.t 77) (.t 82))⟩])
  (.cond (.t 83)
   (.seq (.reg [⟨(some 6), none, .v (.mov (.c (.lit (.bool false))))⟩])
   .ret)
   .skip))
  (.seq (.reg [⟨(some 13), none, .v (.mov (.c (.int .i64 (0))))⟩])
  (.block 2 (.loop
   (.seq (.seq (.reg [⟨(some 84), none, .v (.mov (.t 13))⟩,
    ⟨(some 85), none, .v (.mov (.t 8))⟩,
    ⟨(some 86), none, .v (.mov (.t 12))⟩,
    ⟨(some 87), none, .v (.ixa (.t 85) (.t 86) 1)⟩,
    ⟨(some 88), none, .v (.load (.t 87) none)⟩,
    ⟨(some 89), none, .v (.len (.t 88))⟩,
    ⟨(some 90), none, .v (.bin .lss (.t 84) (.t 89))⟩])
   (.cond (.t 90)
    .skip
    (.exit 2)))
   (.seq (.block 3 (.seq (.drw [(0, ⟨(some 93), none, .v (.mov (.t 10))⟩, false),
    (1, ⟨(some 94), none, .v (.mov (.t 12))⟩, false),
    (2, ⟨(some 95), none, .v (.ixa (.t 93) (.t 94) 1)⟩, false),
    (3, ⟨(some 96), none, .v (.load (.t 95) none)⟩, false),
    (4, ⟨(some 97), none, .v (.mov (.t 13))⟩, false),
    (5, ⟨(some 98), none, .v (.ixa (.t 96) (.t 97) 2)⟩, false),
    (6, ⟨(some 99), none, .v (.off (.t 98) 0)⟩, false),
    (7, ⟨(some 100), none, .v (.load (.t 99) none)⟩, false),
    (8, ⟨(some 101), none, .v (.mov (.t 8))⟩, false),
    (9, ⟨(some 102), none, .v (.mov (.t 12))⟩, false),
    (10, ⟨(some 103), none, .v (.ixa (.t 101) (.t 102) 1)⟩, false),
    (11, ⟨(some 104), none, .v (.load (.t 103) none)⟩, false),
    (12, ⟨(some 105), none, .v (.mov (.t 13))⟩, false),
    (13, ⟨(some 106), none, .v (.ixa (.t 104) (.t 105) 2)⟩, false),
    (14, ⟨(some 107), none, .v (.off (.t 106) 0)⟩, false),
    (15, ⟨(some 108), none, .v (.load (.t 107) none)⟩, false),
    (16, ⟨(some 109), none, .v (.bin .lss (.t 100) (.t 108))⟩, false),
    (17, ⟨(some 110), none, .v (.mov (.t 109))⟩, true),
    (18, ⟨(some 111), (some (110, false)), .v (.mov (.t 10))⟩, false),
    (19, ⟨(some 112), (some (110, false)), .v (.mov (.t 12))⟩, false),
    (20, ⟨(some 113), (some (110, false)), .v (.ixa (.t 111) (.t 112) 1)⟩, false),
    (21, ⟨(some 114), (some (110, false)), .v (.load (.t 113) none)⟩, false),
    (22, ⟨(some 115), (some (110, false)), .v (.mov (.t 13))⟩, false),
    (23, ⟨(some 116), (some (110, false)), .v (.ixa (.t 114) (.t 115) 2)⟩, false),
    (24, ⟨(some 117), (some (110, false)), .v (.off (.t 116) 1)⟩, false),
    (25, ⟨(some 118), (some (110, false)), .v (.load (.t 117) none)⟩, false),
    (26, ⟨(some 119), (some (110, false)), .v (.mov (.t 8))⟩, false),
    (27, ⟨(some 120), (some (110, false)), .v (.mov (.t 12))⟩, false),
    (28, ⟨(some 121), (some (110, false)), .v (.ixa (.t 119) (.t 120) 1)⟩, false),
    (29, ⟨(some 122), (some (110, false)), .v (.load (.t 121) none)⟩, false),
    (30, ⟨(some 123), (some (110, false)), .v (.mov (.t 13))⟩, false),
    (31, ⟨(some 124), (some (110, false)), .v (.ixa (.t 122) (.t 123) 2)⟩, false),
    (32, ⟨(some 125), (some (110, false)), .v (.off (.t 124) 1)⟩, false),
    (33, ⟨(some 126), (some (110, false)), .v (.load (.t 125) none)⟩, false)]
    none
    [⟨(some 127), (some (110, false)), .v (.bin .gtr (.t 118) (.t 126))⟩,
    ⟨(some 128), none, .v (.pick (.t 110) (.c (.lit (.bool true))) (.t 127))⟩])
   (.cond (.t 128)
    (.seq (.reg [⟨(some 6), none, .v (.mov (.c (.lit (.bool false))))⟩])
    .ret)
    .skip)))
   (.reg [⟨(some 91), none, .v (.mov (.t 13))⟩,
    ⟨(some 92), none, .v (.bin .add (.t 91) (.c (.int .i64 (1))))⟩,
    ⟨(some 13), none, .v (.mov (.t 92))⟩]))))))))
  (.reg [⟨(some 71), none, .v (.mov (.t 12))⟩,
   ⟨(some 72), none, .v (.bin .add (.t 71) (.c (.int .i64 (1))))⟩,
   ⟨(some 12), none, .v (.mov (.t 72))⟩]))))))
 (.seq (.seq (.reg [⟨(some 129), none, .v (.mov (.t 7))⟩,
  ⟨(some 130), none, .v (.len (.t 129))⟩,
  ⟨(some 131), none, .v (.bin .eql (.t 130) (.c (.int .i64 (24))))⟩])
 (.cond (.t 131)
  (.seq (.reg [⟨(some 132), none, .call (.c (.fn 24 [])) []⟩,
   ⟨(some 6), none, .v (.mov (.t 132))⟩])
  .ret)
  .skip))
 (.seq (.tre (.op ⟨(some 136), none, .v (.mov (.t 7))⟩ (.op ⟨(some 134), none, .v (.load (.t 3) (some 2))⟩ (.op ⟨(some 135), none, .emp 6⟩ (.op ⟨(some 137), none, .app 65 6 48 (.t 135) (.t 136)⟩ (.op ⟨(some 138), none, .v (.load (.t 5) (some 6))⟩ (.op ⟨(some 139), none, .bsl 65 1 [(.int .i64 (0)), (.int .i64 (0)), (.int .i64 (0)), (.int .i64 (0)), (.int .i64 (0)), (.int .i64 (0))] [(0, 6, (.t 138))]⟩ (.op ⟨(some 140), none, .app 65 6 48 (.t 137) (.t 139)⟩ (.op ⟨(some 141), none, .call (.c (.fn 27 [])) [(.t 134), (.t 140)]⟩ (.op ⟨(some 133), none, .v (.mov (.t 141))⟩ (.op ⟨(some 142), none, .v (.ext (.t 133) 0)⟩ (.op ⟨(some 143), none, .v (.ext (.t 133) 1)⟩ (.op ⟨(some 14), none, .v (.mov (.t 142))⟩ (.op ⟨(some 9), none, .v (.mov (.t 143))⟩ .leaf
  .stop)
  .stop)
  .stop)
  .stop)
  .stop)
  .stop)
  .stop)
  .stop)
  .stop)
  (.op ⟨(some 138), none, .v (.load (.t 5) (some 6))⟩ (.op ⟨(some 137), none, .app 65 6 48 (.t 135) (.t 136)⟩ (.op ⟨(some 139), none, .bsl 65 1 [(.int .i64 (0)), (.int .i64 (0)), (.int .i64 (0)), (.int .i64 (0)), (.int .i64 (0)), (.int .i64 (0))] [(0, 6, (.t 138))]⟩ (.op ⟨(some 140), none, .app 65 6 48 (.t 137) (.t 139)⟩ (.op ⟨(some 141), none, .call (.c (.fn 27 [])) [(.t 134), (.t 140)]⟩ (.op ⟨(some 133), none, .v (.mov (.t 141))⟩ (.op ⟨(some 142), none, .v (.ext (.t 133) 0)⟩ (.op ⟨(some 143), none, .v (.ext (.t 133) 1)⟩ (.op ⟨(some 14), none, .v (.mov (.t 142))⟩ (.op ⟨(some 9), none, .v (.mov (.t 143))⟩ .leaf
  .stop)
  .stop)
  .stop)
  .stop)
  .stop)
  .stop)
  .stop)
  .stop)
  (.op ⟨(some 139), none, .bsl 65 1 [(.int .i64 (0)), (.int .i64 (0)), (.int .i64 (0)), (.int .i64 (0)), (.int .i64 (0)), (.int .i64 (0))] [(0, 6, (.t 138))]⟩ (.op ⟨(some 137), none, .app 65 6 48 (.t 135) (.t 136)⟩ (.op ⟨(some 140), none, .app 65 6 48 (.t 137) (.t 139)⟩ (.op ⟨(some 141), none, .call (.c (.fn 27 [])) [(.t 134), (.t 140)]⟩ (.op ⟨(some 133), none, .v (.mov (.t 141))⟩ (.op ⟨(some 142), none, .v (.ext (.t 133) 0)⟩ (.op ⟨(some 143), none, .v (.ext (.t 133) 1)⟩ (.op ⟨(some 14), none, .v (.mov (.t 142))⟩ (.op ⟨(some 9), none, .v (.mov (.t 143))⟩ .leaf
  .stop)
  .stop)
  .stop)
  .stop)
  .stop)
  .stop)
  .stop)
  .stop)
  .stop))
  .stop))
  (.op ⟨(some 138), none, .v (.load (.t 5) (some 6))⟩ (.op ⟨(some 135), none, .emp 6⟩ (.op ⟨(some 137), none, .app 65 6 48 (.t 135) (.t 136)⟩ (.op ⟨(some 139), none, .bsl 65 1 [(.int .i64 (0)), (.int .i64 (0)), (.int .i64 (0)), (.int .i64 (0)), (.int .i64 (0)), (.int .i64 (0))] [(0, 6, (.t 138))]⟩ (.op ⟨(some 140), none, .app 65 6 48 (.t 137) (.t 139)⟩ (.op ⟨(some 141), none, .call (.c (.fn 27 [])) [(.t 134), (.t 140)]⟩ (.op ⟨(some 133), none, .v (.mov (.t 141))⟩ (.op ⟨(some 142), none, .v (.ext (.t 133) 0)⟩ (.op ⟨(some 143), none, .v (.ext (.t 133) 1)⟩ (.op ⟨(some 14), none, .v (.mov (.t 142))⟩ (.op ⟨(some 9), none, .v (.mov (.t 143))⟩ .leaf
  .stop)
  .stop)
  .stop)
  .stop)
  .stop)
  .stop)
  .stop)
  .stop)
  (.op ⟨(some 139), none, .bsl 65 1 [(.int .i64 (0)), (.int .i64 (0)), (.int .i64 (0)), (.int .i64 (0)), (.int .i64 (0)), (.int .i64 (0))] [(0, 6, (.t 138))]⟩ (.op ⟨(some 137), none, .app 65 6 48 (.t 135) (.t 136)⟩ (.op ⟨(some 140), none, .app 65 6 48 (.t 137) (.t 139)⟩ (.op ⟨(some 141), none, .call (.c (.fn 27 [])) [(.t 134), (.t 140)]⟩ (.op ⟨(some 133), none, .v (.mov (.t 141))⟩ (.op ⟨(some 142), none, .v (.ext (.t 133) 0)⟩ (.op ⟨(some 143), none, .v (.ext (.t 133) 1)⟩ (.op ⟨(some 14), none, .v (.mov (.t 142))⟩ (.op ⟨(some 9), none, .v (.mov (.t 143))⟩ .leaf
  .stop)
  .stop)
  .stop)
  .stop)
  .stop)
  .stop)
  .stop)
  .stop)
  .stop))
  (.op ⟨(some 139), none, .bsl 65 1 [(.int .i64 (0)), (.int .i64 (0)), (.int .i64 (0)), (.int .i64 (0)), (.int .i64 (0)), (.int .i64 (0))] [(0, 6, (.t 138))]⟩ (.op ⟨(some 135), none, .emp 6⟩ (.op ⟨(some 137), none, .app 65 6 48 (.t 135) (.t 136)⟩ (.op ⟨(some 140), none, .app 65 6 48 (.t 137) (.t 139)⟩ (.op ⟨(some 141), none, .call (.c (.fn 27 [])) [(.t 134), (.t 140)]⟩ (.op ⟨(some 133), none, .v (.mov (.t 141))⟩ (.op ⟨(some 142), none, .v (.ext (.t 133) 0)⟩ (.op ⟨(some 143), none, .v (.ext (.t 133) 1)⟩ (.op ⟨(some 14), none, .v (.mov (.t 142))⟩ (.op ⟨(some 9), none, .v (.mov (.t 143))⟩ .leaf
  .stop)
  .stop)
  .stop)
  .stop)
  .stop)
  .stop)
  .stop)
  .stop)
  .stop)
  .stop))
  .stop))
  (.op ⟨(some 135), none, .emp 6⟩ (.op ⟨(some 134), none, .v (.load (.t 3) (some 2))⟩ (.op ⟨(some 137), none, .app 65 6 48 (.t 135) (.t 136)⟩ (.op ⟨(some 138), none, .v (.load (.t 5) (some 6))⟩ (.op ⟨(some 139), none, .bsl 65 1 [(.int .i64 (0)), (.int .i64 (0)), (.int .i64 (0)), (.int .i64 (0)), (.int .i64 (0)), (.int .i64 (0))] [(0, 6, (.t 138))]⟩ (.op ⟨(some 140), none, .app 65 6 48 (.t 137) (.t 139)⟩ (.op ⟨(some 141), none, .call (.c (.fn 27 [])) [(.t 134), (.t 140)]⟩ (.op ⟨(some 133), none, .v (.mov (.t 141))⟩ (.op ⟨(some 142), none, .v (.ext (.t 133) 0)⟩ (.op ⟨(some 143), none, .v (.ext (.t 133) 1)⟩ (.op ⟨(some 14), none, .v (.mov (.t 142))⟩ (.op ⟨(some 9), none, .v (.mov (.t 143))⟩ .leaf
  .stop)
  .stop)
  .stop)
  .stop)
  .stop)
  .stop)
  .stop)
  .stop)
  .stop)
  (.op ⟨(some 138), none, .v (.load (.t 5) (some 6))⟩ (.op ⟨(some 137), none, .app 65 6 48 (.t 135) (.t 136)⟩ (.op ⟨(some 139), none, .bsl 65 1 [(.int .i64 (0)), (.int .i64 (0)), (.int .i64 (0)), (.int .i64 (0)), (.int .i64 (0)), (.int .i64 (0))] [(0, 6, (.t 138))]⟩ (.op ⟨(some 140), none, .app 65 6 48 (.t 137) (.t 139)⟩ (.op ⟨(some 141), none, .call (.c (.fn 27 [])) [(.t 134), (.t 140)]⟩ (.op ⟨(some 133), none, .v (.mov (.t 141))⟩ (.op ⟨(some 142), none, .v (.ext (.t 133) 0)⟩ (.op ⟨(some 143), none, .v (.ext (.t 133) 1)⟩ (.op ⟨(some 14), none, .v (.mov (.t 142))⟩ (.op ⟨(some 9), none, .v (.mov (.t 143))⟩ .leaf
  .stop)
  .stop)
  .stop)
  .stop)
  .stop)
  .stop)
  .stop)
  .stop)
  (.op ⟨(some 139), none, .bsl 65 1 [(.int .i64 (0)), (.int .i64 (0)), (.int .i64 (0)), (.int .i64 (0)), (.int .i64 (0)), (.int .i64 (0))] [(0, 6, (.t 138))]⟩ (.op ⟨(some 137), none, .app 65 6 48 (.t 135) (.t 136)⟩ (.op ⟨(some 140), none, .app 65 6 48 (.t 137) (.t 139)⟩ (.op ⟨(some 141), none, .call (.c (.fn 27 [])) [(.t 134), (.t 140)]⟩ (.op ⟨(some 133), none, .v (.mov (.t 141))⟩ (.op ⟨(some 142), none, .v (.ext (.t 133) 0)⟩ (.op ⟨(some 143), none, .v (.ext (.t 133) 1)⟩ (.op ⟨(some 14), none, .v (.mov (.t 142))⟩ (.op ⟨(some 9), none, .v (.mov (.t 143))⟩ .leaf
  .stop)
  .stop)
  .stop)
  .stop)
  .stop)
  .stop)
  .stop)
  .stop)
  .stop))
  .stop))
  (.op ⟨(some 137), none, .app 65 6 48 (.t 135) (.t 136)⟩ (.op ⟨(some 134), none, .v (.load (.t 3) (some 2))⟩ (.op ⟨(some 138), none, .v (.load (.t 5) (some 6))⟩ (.op ⟨(some 139), none, .bsl 65 1 [(.int .i64 (0)), (.int .i64 (0)), (.int .i64 (0)), (.int .i64 (0)), (.int .i64 (0)), (.int .i64 (0))] [(0, 6, (.t 138))]⟩ (.op ⟨(some 140), none, .app 65 6 48 (.t 137) (.t 139)⟩ (.op ⟨(some 141), none, .call (.c (.fn 27 [])) [(.t 134), (.t 140)]⟩ (.op ⟨(some 133), none, .v (.mov (.t 141))⟩ (.op ⟨(some 142), none, .v (.ext (.t 133) 0)⟩ (.op ⟨(some 143), none, .v (.ext (.t 133) 1)⟩ (.op ⟨(some 14), none, .v (.mov (.t 142))⟩ (.op ⟨(some 9), none, .v (.mov (.t 143))⟩ .leaf
  .stop)
  .stop)
  .stop)
  .stop)
  .stop)
  .stop)
  .stop)
  .stop)
  .stop)
  (.op ⟨(some 138), none, .v (.load (.t 5) (some 6))⟩ (.op ⟨(some 134), none, .v (.load (.t 3) (some 2))⟩ (.op ⟨(some 139), none, .bsl 65 1 [(.int .i64 (0)), (.int .i64 (0)), (.int .i64 (0)), (.int .i64 (0)), (.int .i64 (0)), (.int .i64 (0))] [(0, 6, (.t 138))]⟩ (.op ⟨(some 140), none, .app 65 6 48 (.t 137) (.t 139)⟩ (.op ⟨(some 141), none, .call (.c (.fn 27 [])) [(.t 134), (.t 140)]⟩ (.op ⟨(some 133), none, .v (.mov (.t 141))⟩ (.op ⟨(some 142), none, .v (.ext (.t 133) 0)⟩ (.op ⟨(some 143), none, .v (.ext (.t 133) 1)⟩ (.op ⟨(some 14), none, .v (.mov (.t 142))⟩ (.op ⟨(some 9), none, .v (.mov (.t 143))⟩ .leaf
  .stop)
  .stop)
  .stop)
  .stop)
  .stop)
  .stop)
  .stop)
  .stop)
  (.op ⟨(some 139), none, .bsl 65 1 [(.int .i64 (0)), (.int .i64 (0)), (.int .i64 (0)), (.int .i64 (0)), (.int .i64 (0)), (.int .i64 (0))] [(0, 6, (.t 138))]⟩ (.op ⟨(some 134), none, .v (.load (.t 3) (some 2))⟩ (.op ⟨(some 140), none, .app 65 6 48 (.t 137) (.t 139)⟩ (.op ⟨(some 141), none, .call (.c (.fn 27 [])) [(.t 134), (.t 140)]⟩ (.op ⟨(some 133), none, .v (.mov (.t 141))⟩ (.op ⟨(some 142), none, .v (.ext (.t 133) 0)⟩ (.op ⟨(some 143), none, .v (.ext (.t 133) 1)⟩ (.op ⟨(some 14), none, .v (.mov (.t 142))⟩ (.op ⟨(some 9), none, .v (.mov (.t 143))⟩ .leaf
  .stop)
  .stop)
  .stop)
  .stop)
  .stop)
  .stop)
  .stop)
  (.op ⟨(some 140), none, .app 65 6 48 (.t 137) (.t 139)⟩ (.op ⟨(some 134), none, .v (.load (.t 3) (some 2))⟩ (.op ⟨(some 141), none, .call (.c (.fn 27 [])) [(.t 134), (.t 140)]⟩ (.op ⟨(some 133), none, .v (.mov (.t 141))⟩ (.op ⟨(some 142), none, .v (.ext (.t 133) 0)⟩ (.op ⟨(some 143), none, .v (.ext (.t 133) 1)⟩ (.op ⟨(some 14), none, .v (.mov (.t 142))⟩ (.op ⟨(some 9), none, .v (.mov (.t 143))⟩ .leaf
  .stop)
  .stop)
  .stop)
  .stop)
  .stop)
  .stop)
  .stop)
  .stop))
  .stop))
  .stop))
  (.op ⟨(some 138), none, .v (.load (.t 5) (some 6))⟩ (.op ⟨(some 134), none, .v (.load (.t 3) (some 2))⟩ (.op ⟨(some 137), none, .app 65 6 48 (.t 135) (.t 136)⟩ (.op ⟨(some 139), none, .bsl 65 1 [(.int .i64 (0)), (.int .i64 (0)), (.int .i64 (0)), (.int .i64 (0)), (.int .i64 (0)), (.int .i64 (0))] [(0, 6, (.t 138))]⟩ (.op ⟨(some 140), none, .app 65 6 48 (.t 137) (.t 139)⟩ (.op ⟨(some 141), none, .call (.c (.fn 27 [])) [(.t 134), (.t 140)]⟩ (.op ⟨(some 133), none, .v (.mov (.t 141))⟩ (.op ⟨(some 142), none, .v (.ext (.t 133) 0)⟩ (.op ⟨(some 143), none, .v (.ext (.t 133) 1)⟩ (.op ⟨(some 14), none, .v (.mov (.t 142))⟩ (.op ⟨(some 9), none, .v (.mov (.t 143))⟩ .leaf
  .stop)
  .stop)
  .stop)
  .stop)
  .stop)
  .stop)
  .stop)
  .stop)
  (.op ⟨(some 139), none, .bsl 65 1 [(.int .i64 (0)), (.int .i64 (0)), (.int .i64 (0)), (.int .i64 (0)), (.int .i64 (0)), (.int .i64 (0))] [(0, 6, (.t 138))]⟩ (.op ⟨(some 137), none, .app 65 6 48 (.t 135) (.t 136)⟩ (.op ⟨(some 140), none, .app 65 6 48 (.t 137) (.t 139)⟩ (.op ⟨(some 141), none, .call (.c (.fn 27 [])) [(.t 134), (.t 140)]⟩ (.op ⟨(some 133), none, .v (.mov (.t 141))⟩ (.op ⟨(some 142), none, .v (.ext (.t 133) 0)⟩ (.op ⟨(some 143), none, .v (.ext (.t 133) 1)⟩ (.op ⟨(some 14), none, .v (.mov (.t 142))⟩ (.op ⟨(some 9), none, .v (.mov (.t 143))⟩ .leaf
  .stop)
  .stop)
  .stop)
  .stop)
  .stop)
  .stop)
  .stop)
  .stop)
  .stop))
  (.op ⟨(some 137), none, .app 65 6 48 (.t 135) (.t 136)⟩ (.op ⟨(some 134), none, .v (.load (.t 3) (some 2))⟩ (.op ⟨(some 139), none, .bsl 65 1 [(.int .i64 (0)), (.int .i64 (0)), (.int .i64 (0)), (.int .i64 (0)), (.int .i64 (0)), (.int .i64 (0))] [(0, 6, (.t 138))]⟩ (.op ⟨(some 140), none, .app 65 6 48 (.t 137) (.t 139)⟩ (.op ⟨(some 141), none, .call (.c (.fn 27 [])) [(.t 134), (.t 140)]⟩ (.op ⟨(some 133), none, .v (.mov (.t 141))⟩ (.op ⟨(some 142), none, .v (.ext (.t 133) 0)⟩ (.op ⟨(some 143), none, .v (.ext (.t 133) 1)⟩ (.op ⟨(some 14), none, .v (.mov (.t 142))⟩ (.op ⟨(some 9), none, .v (.mov (.t 143))⟩ .leaf
  .stop)
  .stop)
  .stop)
  .stop)
  .stop)
  .stop)
  .stop)
  .stop)
  (.op ⟨(some 139), none, .bsl 65 1 [(.int .i64 (0)), (.int .i64 (0)), (.int .i64 (0)), (.int .i64 (0)), (.int .i64 (0)), (.int .i64 (0))] [(0, 6, (.t 138))]⟩ (.op ⟨(some 134), none, .v (.load (.t 3) (some 2))⟩ (.op ⟨(some 140), none, .app 65 6 48 (.t 137) (.t 139)⟩ (.op ⟨(some 141), none, .call (.c (.fn 27 [])) [(.t 134), (.t 140)]⟩ (.op ⟨(some 133), none, .v (.mov (.t 141))⟩ (.op ⟨(some 142), none, .v (.ext (.t 133) 0)⟩ (.op ⟨(some 143), none, .v (.ext (.t 133) 1)⟩ (.op ⟨(some 14), none, .v (.mov (.t 142))⟩ (.op ⟨(some 9), none, .v (.mov (.t 143))⟩ .leaf
  .stop)
  .stop)
  .stop)
  .stop)
  .stop)
  .stop)
  .stop)
  (.op ⟨(some 140), none, .app 65 6 48 (.t 137) (.t 139)⟩ (.op ⟨(some 134), none, .v (.load (.t 3) (some 2))⟩ (.op ⟨(some 141), none, .call (.c (.fn 27 [])) [(.t 134), (.t 140)]⟩ (.op ⟨(some 133), none, .v (.mov (.t 141))⟩ (.op ⟨(some 142), none, .v (.ext (.t 133) 0)⟩ (.op ⟨(some 143), none, .v (.ext (.t 133) 1)⟩ (.op ⟨(some 14), none, .v (.mov (.t 142))⟩ (.op ⟨(some 9), none, .v (.mov (.t 143))⟩ .leaf
  .stop)
  .stop)
  .stop)
  .stop)
  .stop)
  .stop)
  .stop)
  .stop))
  .stop))
  (.op ⟨(some 139), none, .bsl 65 1 [(.int .i64 (0)), (.int .i64 (0)), (.int .i64 (0)), (.int .i64 (0)), (.int .i64 (0)), (.int .i64 (0))] [(0, 6, (.t 138))]⟩ (.op ⟨(some 134), none, .v (.load (.t 3) (some 2))⟩ (.op ⟨(some 137), none, .app 65 6 48 (.t 135) (.t 136)⟩ (.op ⟨(some 140), none, .app 65 6 48 (.t 137) (.t 139)⟩ (.op ⟨(some 141), none, .call (.c (.fn 27 [])) [(.t 134), (.t 140)]⟩ (.op ⟨(some 133), none, .v (.mov (.t 141))⟩ (.op ⟨(some 142), none, .v (.ext (.t 133) 0)⟩ (.op ⟨(some 143), none, .v (.ext (.t 133) 1)⟩ (.op ⟨(some 14), none, .v (.mov (.t 142))⟩ (.op ⟨(some 9), none, .v (.mov (.t 143))⟩ .leaf
  .stop)
  .stop)
  .stop)
  .stop)
  .stop)
  .stop)
  .stop)
  .stop)
  (.op ⟨(some 137), none, .app 65 6 48 (.t 135) (.t 136)⟩ (.op ⟨(some 134), none, .v (.load (.t 3) (some 2))⟩ (.op ⟨(some 140), none, .app 65 6 48 (.t 137) (.t 139)⟩ (.op ⟨(some 141), none, .call (.c (.fn 27 [])) [(.t 134), (.t 140)]⟩ (.op ⟨(some 133), none, .v (.mov (.t 141))⟩ (.op ⟨(some 142), none, .v (.ext (.t 133) 0)⟩ (.op ⟨(some 143), none, .v (.ext (.t 133) 1)⟩ (.op ⟨(some 14), none, .v (.mov (.t 142))⟩ (.op ⟨(some 9), none, .v (.mov (.t 143))⟩ .leaf
  .stop)
  .stop)
  .stop)
  .stop)
  .stop)
  .stop)
  .stop)
  (.op ⟨(some 140), none, .app 65 6 48 (.t 137) (.t 139)⟩ (.op ⟨(some 134), none, .v (.load (.t 3) (some 2))⟩ (.op ⟨(some 141), none, .call (.c (.fn 27 [])) [(.t 134), (.t 140)]⟩ (.op ⟨(some 133), none, .v (.mov (.t 141))⟩ (.op ⟨(some 142), none, .v (.ext (.t 133) 0)⟩ (.op ⟨(some 143), none, .v (.ext (.t 133) 1)⟩ (.op ⟨(some 14), none, .v (.mov (.t 142))⟩ (.op ⟨(some 9), none, .v (.mov (.t 143))⟩ .leaf
  .stop)
  .stop)
  .stop)
  .stop)
  .stop)
  .stop)
  .stop)
  .stop))
  .stop))
  .stop)))
  .stop)))
  (.op ⟨(some 138), none, .v (.load (.t 5) (some 6))⟩ (.op ⟨(some 134), none, .v (.load (.t 3) (some 2))⟩ (.op ⟨(some 135), none, .emp 6⟩ (.op ⟨(some 137), none, .app 65 6 48 (.t 135) (.t 136)⟩ (.op ⟨(some 139), none, .bsl 65 1 [(.int .i64 (0)), (.int .i64 (0)), (.int .i64 (0)), (.int .i64 (0)), (.int .i64 (0)), (.int .i64 (0))] [(0, 6, (.t 138))]⟩ (.op ⟨(some 140), none, .app 65 6 48 (.t 137) (.t 139)⟩ (.op ⟨(some 141), none, .call (.c (.fn 27 [])) [(.t 134), (.t 140)]⟩ (.op ⟨(some 133), none, .v (.mov (.t 141))⟩ (.op ⟨(some 142), none, .v (.ext (.t 133) 0)⟩ (.op ⟨(some 143), none, .v (.ext (.t 133) 1)⟩ (.op ⟨(some 14), none, .v (.mov (.t 142))⟩ (.op ⟨(some 9), none, .v (.mov (.t 143))⟩ .leaf
  .stop)
  .stop)
  .stop)
  .stop)
  .stop)
  .stop)
  .stop)
  .stop)
  (.op ⟨(some 139), none, .bsl 65 1 [(.int .i64 (0)), (.int .i64 (0)), (.int .i64 (0)), (.int .i64 (0)), (.int .i64 (0)), (.int .i64 (0))] [(0, 6, (.t 138))]⟩ (.op ⟨(some 137), none, .app 65 6 48 (.t 135) (.t 136)⟩ (.op ⟨(some 140), none, .app 65 6 48 (.t 137) (.t 139)⟩ (.op ⟨(some 141), none, .call (.c (.fn 27 [])) [(.t 134), (.t 140)]⟩ (.op ⟨(some 133), none, .v (.mov (.t 141))⟩ (.op ⟨(some 142), none, .v (.ext (.t 133) 0)⟩ (.op ⟨(some 143), none, .v (.ext (.t 133) 1)⟩ (.op ⟨(some 14), none, .v (.mov (.t 142))⟩ (.op ⟨(some 9), none, .v (.mov (.t 143))⟩ .leaf
  .stop)
  .stop)
  .stop)
  .stop)
  .stop)
  .stop)
  .stop)
  .stop)
  .stop))
  (.op ⟨(some 139), none, .bsl 65 1 [(.int .i64 (0)), (.int .i64 (0)), (.int .i64 (0)), (.int .i64 (0)), (.int .i64 (0)), (.int .i64 (0))] [(0, 6, (.t 138))]⟩ (.op ⟨(some 135), none, .emp 6⟩ (.op ⟨(some 137), none, .app 65 6 48 (.t 135) (.t 136)⟩ (.op ⟨(some 140), none, .app 65 6 48 (.t 137) (.t 139)⟩ (.op ⟨(some 141), none, .call (.c (.fn 27 [])) [(.t 134), (.t 140)]⟩ (.op ⟨(some 133), none, .v (.mov (.t 141))⟩ (.op ⟨(some 142), none, .v (.ext (.t 133) 0)⟩ (.op ⟨(some 143), none, .v (.ext (.t 133) 1)⟩ (.op ⟨(some 14), none, .v (.mov (.t 142))⟩ (.op ⟨(some 9), none, .v (.mov (.t 143))⟩ .leaf
  .stop)
  .stop)
  .stop)
  .stop)
  .stop)
  .stop)
  .stop)
  .stop)
  .stop)
  .stop))
  (.op ⟨(some 135), none, .emp 6⟩ (.op ⟨(some 134), none, .v (.load (.t 3) (some 2))⟩ (.op ⟨(some 137), none, .app 65 6 48 (.t 135) (.t 136)⟩ (.op ⟨(some 139), none, .bsl 65 1 [(.int .i64 (0)), (.int .i64 (0)), (.int .i64 (0)), (.int .i64 (0)), (.int .i64 (0)), (.int .i64 (0))] [(0, 6, (.t 138))]⟩ (.op ⟨(some 140), none, .app 65 6 48 (.t 137) (.t 139)⟩ (.op ⟨(some 141), none, .call (.c (.fn 27 [])) [(.t 134), (.t 140)]⟩ (.op ⟨(some 133), none, .v (.mov (.t 141))⟩ (.op ⟨(some 142), none, .v (.ext (.t 133) 0)⟩ (.op ⟨(some 143), none, .v (.ext (.t 133) 1)⟩ (.op ⟨(some 14), none, .v (.mov (.t 142))⟩ (.op ⟨(some 9), none, .v (.mov (.t 143))⟩ .leaf
  .stop)
  .stop)
  .stop)
  .stop)
  .stop)
  .stop)
  .stop)
  .stop)
  (.op ⟨(some 139), none, .bsl 65 1 [(.int .i64 (0)), (.int .i64 (0)), (.int .i64 (0)), (.int .i64 (0)), (.int .i64 (0)), (.int .i64 (0))] [(0, 6, (.t 138))]⟩ (.op ⟨(some 137), none, .app 65 6 48 (.t 135) (.t 136)⟩ (.op ⟨(some 140), none, .app 65 6 48 (.t 137) (.t 139)⟩ (.op ⟨(some 141), none, .call (.c (.fn 27 [])) [(.t 134), (.t 140)]⟩ (.op ⟨(some 133), none, .v (.mov (.t 141))⟩ (.op ⟨(some 142), none, .v (.ext (.t 133) 0)⟩ (.op ⟨(some 143), none, .v (.ext (.t 133) 1)⟩ (.op ⟨(some 14), none, .v (.mov (.t 142))⟩ (.op ⟨(some 9), none, .v (.mov (.t 143))⟩ .leaf
  .stop)
  .stop)
  .stop)
  .stop)
  .stop)
  .stop)
  .stop)
  .stop)
  .stop))
  (.op ⟨(some 137), none, .app 65 6 48 (.t 135) (.t 136)⟩ (.op ⟨(some 134), none, .v (.load (.t 3) (some 2))⟩ (.op ⟨(some 139), none, .bsl 65 1 [(.int .i64 (0)), (.int .i64 (0)), (.int .i64 (0)), (.int .i64 (0)), (.int .i64 (0)), (.int .i64 (0))] [(0, 6, (.t 138))]⟩ (.op ⟨(some 140), none, .app 65 6 48 (.t 137) (.t 139)⟩ (.op ⟨(some 141), none, .call (.c (.fn 27 [])) [(.t 134), (.t 140)]⟩ (.op ⟨(some 133), none, .v (.mov (.t 141))⟩ (.op ⟨(some 142), none, .v (.ext (.t 133) 0)⟩ (.op ⟨(some 143), none, .v (.ext (.t 133) 1)⟩ (.op ⟨(some 14), none, .v (.mov (.t 142))⟩ (.op ⟨(some 9), none, .v (.mov (.t 143))⟩ .leaf
  .stop)
  .stop)
  .stop)
  .stop)
  .stop)
  .stop)
  .stop)
  .stop)
  (.op ⟨(some 139), none, .bsl 65 1 [(.int .i64 (0)), (.int .i64 (0)), (.int .i64 (0)), (.int .i64 (0)), (.int .i64 (0)), (.int .i64 (0))] [(0, 6, (.t 138))]⟩ (.op ⟨(some 134), none, .v (.load (.t 3) (some 2))⟩ (.op ⟨(some 140), none, .app 65 6 48 (.t 137) (.t 139)⟩ (.op ⟨(some 141), none, .call (.c (.fn 27 [])) [(.t 134), (.t 140)]⟩ (.op ⟨(some 133), none, .v (.mov (.t 141))⟩ (.op ⟨(some 142), none, .v (.ext (.t 133) 0)⟩ (.op ⟨(some 143), none, .v (.ext (.t 133) 1)⟩ (.op ⟨(some 14), none, .v (.mov (.t 142))⟩ (.op ⟨(some 9), none, .v (.mov (.t 143))⟩ .leaf
  .stop)
  .stop)
  .stop)
  .stop)
  .stop)
  .stop)
  .stop)
  (.op ⟨(some 140), none, .app 65 6 48 (.t 137) (.t 139)⟩ (.op ⟨(some 134), none, .v (.load (.t 3) (some 2))⟩ (.op ⟨(some 141), none, .call (.c (.fn 27 [])) [(.t 134), (.t 140)]⟩ (.op ⟨(some 133), none, .v (.mov (.t 141))⟩ (.op ⟨(some 142), none, .v (.ext (.t 133) 0)⟩ (.op ⟨(some 143), none, .v (.ext (.t 133) 1)⟩ (.op ⟨(some 14), none, .v (.mov (.t 142))⟩ (.op ⟨(some 9), none, .v (.mov (.t 143))⟩ .leaf
  .stop)
  .stop)
  .stop)
  .stop)
  .stop)
  .stop)
  .stop)
  .stop))
  .stop))
  (.op ⟨(some 139), none, .bsl 65 1 [(.int .i64 (0)), (.int .i64 (0)), (.int .i64 (0)), (.int .i64 (0)), (.int .i64 (0)), (.int .i64 (0))] [(0, 6, (.t 138))]⟩ (.op ⟨(some 134), none, .v (.load (.t 3) (some 2))⟩ (.op ⟨(some 137), none, .app 65 6 48 (.t 135) (.t 136)⟩ (.op ⟨(some 140), none, .app 65 6 48 (.t 137) (.t 139)⟩ (.op ⟨(some 141), none, .call (.c (.fn 27 [])) [(.t 134), (.t 140)]⟩ (.op ⟨(some 133), none, .v (.mov (.t 141))⟩ (.op ⟨(some 142), none, .v (.ext (.t 133) 0)⟩ (.op ⟨(some 143), none, .v (.ext (.t 133) 1)⟩ (.op ⟨(some 14), none, .v (.mov (.t 142))⟩ (.op ⟨(some 9), none, .v (.mov (.t 143))⟩ .leaf
  .stop)
  .stop)
  .stop)
  .stop)
  .stop)
  .stop)
  .stop)
  .stop)
  (.op ⟨(some 137), none, .app 65 6 48 (.t 135) (.t 136)⟩ (.op ⟨(some 134), none, .v (.load (.t 3) (some 2))⟩ (.op ⟨(some 140), none, .app 65 6 48 (.t 137) (.t 139)⟩ (.op ⟨(some 141), none, .call (.c (.fn 27 [])) [(.t 134), (.t 140)]⟩ (.op ⟨(some 133), none, .v (.mov (.t 141))⟩ (.op ⟨(some 142), none, .v (.ext (.t 133) 0)⟩ (.op ⟨(some 143), none, .v (.ext (.t 133) 1)⟩ (.op ⟨(some 14), none, .v (.mov (.t 142))⟩ (.op ⟨(some 9), none, .v (.mov (.t 143))⟩ .leaf
  .stop)
  .stop)
  .stop)
  .stop)
  .stop)
  .stop)
  .stop)
  (.op ⟨(some 140), none, .app 65 6 48 (.t 137) (.t 139)⟩ (.op ⟨(some 134), none, .v (.load (.t 3) (some 2))⟩ (.op ⟨(some 141), none, .call (.c (.fn 27 [])) [(.t 134), (.t 140)]⟩ (.op ⟨(some 133), none, .v (.mov (.t 141))⟩ (.op ⟨(some 142), none, .v (.ext (.t 133) 0)⟩ (.op ⟨(some 143), none, .v (.ext (.t 133) 1)⟩ (.op ⟨(some 14), none, .v (.mov (.t 142))⟩ (.op ⟨(some 9), none, .v (.mov (.t 143))⟩ .leaf
  .stop)
  .stop)
  .stop)
  .stop)
  .stop)
  .stop)
  .stop)
  .stop))
  .stop))
  .stop)))
  (.op ⟨(some 139), none, .bsl 65 1 [(.int .i64 (0)), (.int .i64 (0)), (.int .i64 (0)), (.int .i64 (0)), (.int .i64 (0)), (.int .i64 (0))] [(0, 6, (.t 138))]⟩ (.op ⟨(some 134), none, .v (.load (.t 3) (some 2))⟩ (.op ⟨(some 135), none, .emp 6⟩ (.op ⟨(some 137), none, .app 65 6 48 (.t 135) (.t 136)⟩ (.op ⟨(some 140), none, .app 65 6 48 (.t 137) (.t 139)⟩ (.op ⟨(some 141), none, .call (.c (.fn 27 [])) [(.t 134), (.t 140)]⟩ (.op ⟨(some 133), none, .v (.mov (.t 141))⟩ (.op ⟨(some 142), none, .v (.ext (.t 133) 0)⟩ (.op ⟨(some 143), none, .v (.ext (.t 133) 1)⟩ (.op ⟨(some 14), none, .v (.mov (.t 142))⟩ (.op ⟨(some 9), none, .v (.mov (.t 143))⟩ .leaf
  .stop)
  .stop)
  .stop)
  .stop)
  .stop)
  .stop)
  .stop)
  .stop)
  .stop)
  (.op ⟨(some 135), none, .emp 6⟩ (.op ⟨(some 134), none, .v (.load (.t 3) (some 2))⟩ (.op ⟨(some 137), none, .app 65 6 48 (.t 135) (.t 136)⟩ (.op ⟨(some 140), none, .app 65 6 48 (.t 137) (.t 139)⟩ (.op ⟨(some 141), none, .call (.c (.fn 27 [])) [(.t 134), (.t 140)]⟩ (.op ⟨(some 133), none, .v (.mov (.t 141))⟩ (.op ⟨(some 142), none, .v (.ext (.t 133) 0)⟩ (.op ⟨(some 143), none, .v (.ext (.t 133) 1)⟩ (.op ⟨(some 14), none, .v (.mov (.t 142))⟩ (.op ⟨(some 9), none, .v (.mov (.t 143))⟩ .leaf
  .stop)
  .stop)
  .stop)
  .stop)
  .stop)
  .stop)
  .stop)
  .stop)
  (.op ⟨(some 137), none, .app 65 6 48 (.t 135) (.t 136)⟩ (.op ⟨(some 134), none, .v (.load (.t 3) (some 2))⟩ (.op ⟨(some 140), none, .app 65 6 48 (.t 137) (.t 139)⟩ (.op ⟨(some 141), none, .call (.c (.fn 27 [])) [(.t 134), (.t 140)]⟩ (.op ⟨(some 133), none, .v (.mov (.t 141))⟩ (.op ⟨(some 142), none, .v (.ext (.t 133) 0)⟩ (.op ⟨(some 143), none, .v (.ext (.t 133) 1)⟩ (.op ⟨(some 14), none, .v (.mov (.t 142))⟩ (.op ⟨(some 9), none, .v (.mov (.t 143))⟩ .leaf
  .stop)
  .stop)
  .stop)
  .stop)
  .stop)
  .stop)
  .stop)
  (.op ⟨(some 140), none, .app 65 6 48 (.t 137) (.t 139)⟩ (.op ⟨(some 134), none, .v (.load (.t 3) (some 2))⟩ (.op ⟨(some 141), none, .call (.c (.fn 27 [])) [(.t 134), (.t 140)]⟩ (.op ⟨(some 133), none, .v (.mov (.t 141))⟩ (.op ⟨(some 142), none, .v (.ext (.t 133) 0)⟩ (.op ⟨(some 143), none, .v (.ext (.t 133) 1)⟩ (.op ⟨(some 14), none, .v (.mov (.t 142))⟩ (.op ⟨(some 9), none, .v (.mov (.t 143))⟩ .leaf
  .stop)
  .stop)
  .stop)
  .stop)
  .stop)
  .stop)
  .stop)
  .stop))
  .stop))
  .stop))
  .stop)))
  .stop)))
  .stop))
 s9t2)))))))
def s9 : SC :=
 (.seq (.reg [⟨(some 3), none, .box 36 (.t 0)⟩,
  ⟨(some 5), none, .box 65 (.t 2)⟩,
  ⟨(some 6), none, .v (.mov (.c (.lit (.bool false))))⟩])
 (.seq (.seq (.reg [⟨(some 15), none, .v (.mov (.t 1))⟩,
  ⟨(some 16), none, .v (.len (.t 15))⟩,
  ⟨(some 17), none, .v (.bin .geq (.t 16) (.c (.int .i64 (24))))⟩])
 (.cond (.t 17)
  (.seq (.reg [⟨(some 18), none, .call (.c (.fn 24 [])) []⟩,
   ⟨(some 6), none, .v (.mov (.t 18))⟩])
  .ret)
  .skip))
 (.seq (.tre (.op ⟨(some 20), none, .v (.mov (.t 1))⟩ (.op ⟨(some 19), none, .emp 6⟩ (.op ⟨(some 21), none, .app 65 6 48 (.t 19) (.t 20)⟩ (.op ⟨(some 22), none, .v (.load (.t 5) (some 6))⟩ (.op ⟨(some 23), none, .bsl 65 1 [(.int .i64 (0)), (.int .i64 (0)), (.int .i64 (0)), (.int .i64 (0)), (.int .i64 (0)), (.int .i64 (0))] [(0, 6, (.t 22))]⟩ (.op ⟨(some 24), none, .app 65 6 48 (.t 21) (.t 23)⟩ (.op ⟨(some 7), none, .v (.mov (.t 24))⟩ .leaf
  .stop)
  .stop)
  .stop)
  .stop)
  (.op ⟨(some 22), none, .v (.load (.t 5) (some 6))⟩ (.op ⟨(some 21), none, .app 65 6 48 (.t 19) (.t 20)⟩ (.op ⟨(some 23), none, .bsl 65 1 [(.int .i64 (0)), (.int .i64 (0)), (.int .i64 (0)), (.int .i64 (0)), (.int .i64 (0)), (.int .i64 (0))] [(0, 6, (.t 22))]⟩ (.op ⟨(some 24), none, .app 65 6 48 (.t 21) (.t 23)⟩ (.op ⟨(some 7), none, .v (.mov (.t 24))⟩ .leaf
  .stop)
  .stop)
  .stop)
  (.op ⟨(some 23), none, .bsl 65 1 [(.int .i64 (0)), (.int .i64 (0)), (.int .i64 (0)), (.int .i64 (0)), (.int .i64 (0)), (.int .i64 (0))] [(0, 6, (.t 22))]⟩ (.op ⟨(some 21), none, .app 65 6 48 (.t 19) (.t 20)⟩ (.op ⟨(some 24), none, .app 65 6 48 (.t 21) (.t 23)⟩ (.op ⟨(some 7), none, .v (.mov (.t 24))⟩ .leaf
  .stop)
  .stop)
  .stop)
  .stop))
  .stop))
  (.op ⟨(some 22), none, .v (.load (.t 5) (some 6))⟩ (.op ⟨(some 19), none, .emp 6⟩ (.op ⟨(some 21), none, .app 65 6 48 (.t 19) (.t 20)⟩ (.op ⟨(some 23), none, .bsl 65 1 [(.int .i64 (0)), (.int .i64 (0)), (.int .i64 (0)), (.int .i64 (0)), (.int .i64 (0)), (.int .i64 (0))] [(0, 6, (.t 22))]⟩ (.op ⟨(some 24), none, .app 65 6 48 (.t 21) (.t 23)⟩ (.op ⟨(some 7), none, .v (.mov (.t 24))⟩ .leaf
  .stop)
  .stop)
  .stop)
  (.op ⟨(some 23), none, .bsl 65 1 [(.int .i64 (0)), (.int .i64 (0)), (.int .i64 (0)), (.int .i64 (0)), (.int .i64 (0)), (.int .i64 (0))] [(0, 6, (.t 22))]⟩ (.op ⟨(some 21), none, .app 65 6 48 (.t 19) (.t 20)⟩ (.op ⟨(some 24), none, .app 65 6 48 (.t 21) (.t 23)⟩ (.op ⟨(some 7), none, .v (.mov (.t 24))⟩ .leaf
  .stop)
  .stop)
  .stop)
  .stop))
  (.op ⟨(some 23), none, .bsl 65 1 [(.int .i64 (0)), (.int .i64 (0)), (.int .i64 (0)), (.int .i64 (0)), (.int .i64 (0)), (.int .i64 (0))] [(0, 6, (.t 22))]⟩ (.op ⟨(some 19), none, .emp 6⟩ (.op ⟨(some 21), none, .app 65 6 48 (.t 19) (.t 20)⟩ (.op ⟨(some 24), none, .app 65 6 48 (.t 21) (.t 23)⟩ (.op ⟨(some 7), none, .v (.mov (.t 24))⟩ .leaf
  .stop)
  .stop)
  .stop)
  .stop)
  .stop))
  .stop))
  .stop))
 s9t1)))
def r9 : List RV := [.t 6]
theorem k9 : (Try.f9.body.bind (cC Try.prog), cR Try.prog Try.f9.results.toList, Try.f9.ntmps) = (some s9, some r9, 154) := by kernel_rfl
theorem row_snoc2 (L : List Rdg) (x : Rdg) (i : Nat) (hi : i < ((L ++ [x]) ++ [x]).length) : (if i < L.length + 1 then (if i < L.length then rgR L i else x.row) else x.row) = rgR ((L ++ [x]) ++ [x]) i := by
 have h := row_snoc (L ++ [x]) x i hi
 have e : (L ++ [x]).length = L.length + 1 := by simp
 rw [e] at h
 rw [← h]
 by_cases h1 : i < L.length + 1
 ·rw [if_pos h1, if_pos h1]
  exact row_snoc L x i (by omega)
 ·rw [if_neg h1, if_neg h1]
def C9 : PC := fun args K => ∃ (T : List Int) (m : Int) (L : List Rdg) (x : Rdg), args = [.agg [.ints .i64 T, .int .i64 m], .rd 6 L.length (rgR L), .agg x.row] ∧ L.length ≤ 9223372036854775807 ∧ K (.lit (.bool true))
abbrev T9 : List (Nat × Sg) := [(24, .fc F24), (27, .pc C27g), (45, .pc C45)]
theorem row_one {L : List Rdg} (h0 : L = []) (x : Rdg) (i : Nat) (hi : i < (L ++ [x]).length) : (if i < 0 then ([] : List SV) else x.row) = rgR (L ++ [x]) i := by
 subst h0
 simp only [List.nil_append, List.length_cons, List.length_nil, Nat.zero_add] at hi
 have : i = 0 := by omega
 subst this
 rfl
theorem row_one2 {L : List Rdg} (h0 : L = []) (x : Rdg) (i : Nat) (hi : i < ((L ++ [x]) ++ [x]).length) : (if i < 1 then (if i < 0 then ([] : List SV) else x.row) else x.row) = rgR ((L ++ [x]) ++ [x]) i := by
 subst h0
 simp only [List.nil_append, List.length_append, List.length_cons, List.length_nil, Nat.zero_add] at hi
 have : i = 0 ∨ i = 1 := by omega
 rcases this with rfl | rfl <;> rfl
set_option maxHeartbeats 4000000 in
theorem tail9_4 {T : List Int} {m : Int} {L : List Rdg} {x : Rdg} {K : SV → Prop} (hl : L.length < 24) (hK : K (.lit (.bool true))) (v19 v20 v21 v22 v23 v24 : SV) (x2 x3 : Blk) :
    exec 0 (gam Try.prog T9) (gamq T9) s9t1 (ends r9 K) ⟨sts (mkfr [.agg [.ints .i64 T, .int .i64 m], .rd 6 L.length (rgR L), .agg [.int .i64 x.A, .int .i64 x.I, .int .i64 x.B, .int .i64 x.J, .int .i64 x.V, .int .i64 x.W]] 154)
      [(3, .ptr 0 0), (5, .ptr 1 0), (6, .lit (.bool false)), (7, .own 4), (15, .rd 6 L.length (rgR L)), (16, .int .i64 L.length), (17, .bool false), (19, v19), (20, v20), (21, v21), (22, v22), (23, v23), (24, v24)],
      [.box 36 [.ints .i64 T, .int .i64 m], .box 65 [.int .i64 x.A, .int .i64 x.I, .int .i64 x.B, .int .i64 x.J, .int .i64 x.V, .int .i64 x.W], x2, x3,
        .orw 65 6 (L.length + 1) (fun i => if i < L.length then rgR L i else [.int .i64 x.A, .int .i64 x.I, .int .i64 x.B, .int .i64 x.J, .int .i64 x.V, .int .i64 x.W])]⟩ := by
  have e1 : ∀ x : Int, (x = x) = True := fun x => eq_self x
  have f00 : (((0 : Nat) : Int) = 0) = True := by simp
  simp only [e_reg, e_seq, o_cons, gd_none, putK_e, runK_e, vK_e, conK_e, callK_e, evh_v, evh_call, gam_e, gamK_p, pc_e, pcK_e, evp, gt, st, putf, X.get, gets, ap, mkfr, rep, clV, clL, clS, clo, ld, lda, tk, dr, gb, lk, undef, Nat.reduceSub, Nat.reduceBEq, beq_self_eq_true, true_and, sts, s9t1, r9]
  refine ⟨T, m, L, _, rfl, fun _ _ => rfl, ?_⟩
  rcases more_cases (T := T) (m := m) (x := x) hl with ⟨y, e, f, hR, hR', hf, hc⟩ | ⟨d, d', hs, hbd, hbd', hsub, hR, hR', hR2⟩
  · have tf := eq_false hf
    have hc' : (e = 0) ∨ (e ≠ 0 ∧ e = f) ∨ (e ≠ 0 ∧ e ≠ f ∧ f = 24) := by
      by_cases h1 : e = 0
      · exact .inl h1
      · by_cases h2 : e = f
        · exact .inr (.inl ⟨h1, h2⟩)
        · exact .inr (.inr ⟨h1, h2, (hc.resolve_left h1).resolve_left h2⟩)
    rw [hR]
    simp only [e_reg, e_seq, o_nil, o_cons, gd_none, putK_e, runK_e, vK_e, conK_e, callK_e, evh_v, evh_call, seqK_n, gam_e, gamK_p, pc_e, pcK_e, evp, gt, gq, st, putf, X.get, gets, ap, clV, clL, clS, clo, ld, lda, tk, dr, gb, sb, lk, Nat.reduceBEq, beq_self_eq_true, true_and]
    refine ⟨T, m, L ++ [x], _, by rw [List.length_append]; rfl, fun i hi => row_snoc L x i hi, ?_⟩
    rw [hR']
    rcases hc' with h1 | ⟨h1, h2⟩ | ⟨h1, h2, h3⟩
    · have u1 := eq_true h1
      simp only [gdK_btt, gdK_bft, condK_bt, decide_true, decide_false, e_reg, e_seq, e_cond, e_ret, o_nil, o_cons, gd_none, gd_some, gdK_tt, gdK_tf, putK_e, runK_e, skipK_e, vK_e, conK_e, callK_e, evh_v, evh_call, seqK_n, seqK_r, ends_r, endK1_e, endK2_e, gam_e, gamK_f, pc_e, pcK_e, fcC_e, fcK_e, evp, bin, gt, gq, st, putf, X.get, gets, ap, rdR, tupled, clV, clL, clS, clo, lens, lk, undef, Bool.not_false, beq_self_eq_true, true_and, tf, f00, u1, F24]
      exact res hK (by simp [leR])
    · have u1 := eq_false h1
      have u2 := eq_true h2
      simp only [gdK_btt, gdK_bft, gdK_bff, condK_bt, decide_true, decide_false, e_reg, e_seq, e_cond, e_ret, o_nil, o_cons, gd_none, gd_some, gdK_tt, gdK_tf, gdK_ff, putK_e, runK_e, skipK_e, vK_e, conK_e, callK_e, evh_v, evh_call, seqK_n, seqK_r, ends_r, endK1_e, endK2_e, gam_e, gamK_f, pc_e, pcK_e, fcC_e, fcK_e, evp, bin, gt, gq, st, putf, X.get, gets, ap, rdR, tupled, clV, clL, clS, clo, lens, lk, undef, Bool.not_false, beq_self_eq_true, true_and, tf, f00, u1, u2, F24]
      exact res hK (by simp [leR])
    · have u1 := eq_false h1
      have u2 := eq_false h2
      have u3 := eq_true h3
      simp only [gdK_btt, gdK_bff, condK_bt, decide_true, decide_false, e_reg, e_seq, e_cond, e_ret, o_nil, o_cons, gd_none, gd_some, gdK_tt, gdK_ff, putK_e, runK_e, vK_e, conK_e, callK_e, evh_v, evh_call, seqK_n, seqK_r, ends_r, endK1_e, endK2_e, gam_e, gamK_f, pc_e, pcK_e, fcC_e, fcK_e, evp, bin, gt, gq, st, putf, X.get, gets, ap, rdR, tupled, clV, clL, clS, clo, lens, lk, Bool.not_false, beq_self_eq_true, true_and, tf, f00, u1, u2, u3, F24]
      exact res hK (by simp [leR])
  · rw [hR]
    simp only [e_reg, e_seq, o_nil, o_cons, gd_none, putK_e, runK_e, vK_e, conK_e, callK_e, evh_v, evh_call, seqK_n, gam_e, gamK_p, pc_e, pcK_e, evp, gt, gq, st, putf, X.get, gets, ap, clV, clL, clS, clo, ld, lda, tk, dr, gb, sb, lk, Nat.reduceBEq, beq_self_eq_true, true_and]
    refine ⟨T, m, L ++ [x], _, by rw [List.length_append]; rfl, fun i hi => row_snoc L x i hi, ?_⟩
    rw [hR']
    have hl' := okS_len hs
    have hT : ∀ i, i < T.length → 1 ≤ T.getD i 0 ∧ T.getD i 0 ≤ 8 := fun i hi => by
      simp only [okS, Bool.and_eq_true] at hs
      exact of_decide_eq_true (allI_get hi hs.2.2)
    simp only [gdK_bff, condK_bf, decide_true, e_skip, e_reg, e_seq, e_cond, e_block, e_loop, o_nil, o_cons, gd_none, gd_some, gdK_ff, putK_e, runK_e, vK_e, evh_v, seqK_n, evp, bin, gt, gq, st, putf, X.get, lens, Bool.not_true, true_and]
    refine loop_atc (G := Nat) (fun i => [(12, .int .i64 i)]) (fun i => i ≤ T.length) (fun i => T.length - i) 0 (Nat.zero_le _) ?_
    (intro fr1 hf1; simp only [forget, dstC, dstO, dstD, dst1, st] at hf1; subst hf1)
    refine ⟨?_, ?_⟩
    · refine Lw_fr ?_
      simp only [frW, sts, st, Int.natCast_zero, true_or, or_true, and_self, reduceCtorEq, eq_self]
    · intro i hi1
      by_cases hi2 : i < T.length
      · have n0 : ((i : Int) < (T.length : Int)) = True := eq_true (by omega)
        have ht := hT i hi2
        have hsp : spN T i ≤ 9 := by unfold spN; omega
        simp only [condK_bt, condK_bf, decide_true, e_skip, e_reg, e_drw, e_seq, e_cond, e_block, e_loop, o_nil, o_cons, gd_none, putK_e, runK_e, vK_e, evh_v, dX_e, dG_t, d_nil, d_cons, tlK_n, seqK_n, evp, bin, gt, gq, st, putf, X.get, ld, lda, lens, ixs, evq, gdl, Bool.not_true, true_and, and_true, sts, n0, Int.toNat_natCast, spW]
        repeat' (first | omega | refine And.intro ?_ ?_)
        refine loop_atc (G := Nat) (fun j => [(13, .int .i64 j)]) (fun j => j ≤ spN T i) (fun j => spN T i - j) 0 (Nat.zero_le _) ?_
        (intro fr1 hf1; simp only [forget, dstC, dstO, dstD, dst1, st] at hf1; subst hf1)
        refine ⟨?_, ?_⟩
        · refine Lw_fr ?_
          simp only [frW, sts, st, Int.natCast_zero, or_true, and_self, reduceCtorEq, eq_self]
        · intro j hj1
          by_cases hj2 : j < spN T i
          · have m0 : ((j : Int) < ((spN T i : Nat) : Int)) = True := eq_true (by omega)
            have hsb := hsub (i * 9 + j)
            have w1 : ((d' (i * 9 + j)).1 < (d (i * 9 + j)).1) = False := eq_false (by omega)
            have w2 : ((d' (i * 9 + j)).2 > (d (i * 9 + j)).2) = False := eq_false (by omega)
            simp only [dX_bf, condK_bt, condK_bf, decide_true, decide_false, inr64, e_skip, e_reg, e_drw, e_seq, e_cond, e_block, o_nil, o_cons, gd_none, gd_some, gdK_ff, putK_e, runK_e, vK_e, evh_v, dX_e, dG_t, d_nil, d_cons, tlK_n, loopK_n, seqK_n, blockK_n, evp, bin, gt, gq, st, putf, X.get, ld, lda, lens, ixs, evq, gdl, Bool.not_false, Nat.reduceAdd, true_and, and_true, sts, m0, Int.toNat_natCast, spW, spC, w1, w2]
            repeat' (first | omega | refine And.intro ?_ ?_)
            refine Nx.mk (j + 1) (by show j + 1 ≤ spN T i; omega) (by show spN T i - (j + 1) < spN T i - j; omega) (Lw_fr ?_)
            simp only [frW, Int.natCast_add, Int.natCast_one, true_or, or_true, and_self, reduceCtorEq, eq_self]
          · have m0 : ((j : Int) < ((spN T i : Nat) : Int)) = False := eq_false (by omega)
            simp only [condK_bf, decide_false, inr64, e_reg, e_seq, e_cond, e_exit, o_nil, o_cons, gd_none, putK_e, runK_e, vK_e, evh_v, loopK_n, loopK_x, seqK_n, seqK_x, exitK_t, blockK_x, blockK_n, evp, bin, gt, gq, st, putf, X.get, ld, lda, lens, ixs, beq_self_eq_true, true_and, sts, m0, Int.toNat_natCast, spW]
            repeat' (first | omega | refine And.intro ?_ ?_)
            refine Nx.mk (i + 1) (by show i + 1 ≤ T.length; omega) (by show T.length - (i + 1) < T.length - i; omega) (Lw_fr ?_)
            simp only [frW, Int.natCast_add, Int.natCast_one, true_or, or_true, and_self, reduceCtorEq, eq_self]
      · have n0 : ((i : Int) < (T.length : Int)) = False := eq_false (by omega)
        by_cases hm24 : ((L.length + 1 : Nat) : Int) = 24
        · have w := eq_true hm24
          simp only [condK_bt, condK_bf, decide_true, decide_false, e_reg, e_seq, e_cond, e_exit, e_ret, o_nil, o_cons, gd_none, putK_e, runK_e, vK_e, conK_e, callK_e, evh_v, evh_call, loopK_x, seqK_n, seqK_x, seqK_r, exitK_t, blockK_x, ends_r, endK1_e, endK2_e, gam_e, gamK_f, pc_e, pcK_e, fcC_e, fcK_e, evp, bin, gt, st, putf, X.get, gets, ap, rdR, tupled, clV, clL, clS, clo, lens, gb, lk, beq_self_eq_true, true_and, sts, n0, w, F24]
          exact res hK (by simp [leR])
        · have w := eq_false hm24
          have k0 : (L.length + 1 = 0) = False := eq_false (by omega)
          have k1 : (0 < L.length + 1) = True := eq_true (by omega)
          simp only [condK_bf, decide_false, e_skip, e_reg, e_tre, t_stop, t_op, and_self, e_seq, e_cond, e_exit, o_nil, o_cons, gd_none, putK_e, runK_e, vK_e, bslK_e, appK2_or, appK_e, conK_e, callK_e, evh_v, evh_bsl, evh_app, evh_emp, evh_call, appK_ce, appE_b, appK_z, appZ_r, appY_e, loopK_x, seqK_n, seqK_x, exitK_t, blockK_x, gam_e, gamK_p, pc_e, pcK_e, evp, bin, gt, st, putf, X.get, gets, getp, ap, clV, clL, clS, clo, clo.clos, ld, lda, lens, tk, dr, sp, sp.spl, lay, ll, cs1, one, allOne, gb, sb, pb, ln, lk, Bool.and_true, Nat.reduceAdd, Nat.reduceMul, Nat.reduceBEq, beq_self_eq_true, true_and, and_true, sts, n0, w, k0, k1, false_implies, true_implies]
          repeat' (first | (with_reducible exact True.intro) | omega | (with_reducible refine And.intro ?_ ?_))
          all_goals first
            | (refine ⟨T, m, (L ++ [x]) ++ [x], _, by rw [List.length_append, List.length_append]; rfl, fun i hi => row_snoc2 L x i hi, ?_⟩
               rw [hR2 (by omega)]
               simp only [gdK_btt, decide_true, e_reg, t_leaf, t_stop, t_op, e_seq, o_nil, o_cons, gd_none, gd_some, gdK_tt, putK_e, runK_e, vK_e, conK_e, callK_e, evh_v, evh_call, seqK_n, gam_e, gamK_p, pc_e, pcK_e, evp, bin, gt, gq, st, putf, X.get, gets, ap, clV, clL, clS, clo, lk, Nat.reduceBEq, beq_self_eq_true, true_and, and_true, s9t2]
               refine ⟨T, m, d', rfl, hs, hbd', ?_⟩
               simp only [gdK_btt, e_ret, o_nil, o_cons, gd_none, putK_e, runK_e, vK_e, conK_e, callK_e, evh_v, evh_call, seqK_n, ends_r, endK1_e, endK2_e, gam_e, gamK_f, pc_e, pcK_e, fcC_e, fcK_e, evp, gt, st, putf, X.get, gets, ap, rdR, tupled, clV, clL, clS, clo, lk, beq_self_eq_true, true_and, F24]
               exact res hK (by simp [leR]))
set_option maxHeartbeats 4000000 in
theorem tail9_3 {T : List Int} {m : Int} {L : List Rdg} {x : Rdg} {K : SV → Prop} (hL0 : L = []) (hK : K (.lit (.bool true))) (v19 v20 v21 v22 v23 v24 : SV) (x2 : Blk) :
    exec 0 (gam Try.prog T9) (gamq T9) s9t1 (ends r9 K) ⟨sts (mkfr [.agg [.ints .i64 T, .int .i64 m], .rd 6 L.length (rgR L), .agg [.int .i64 x.A, .int .i64 x.I, .int .i64 x.B, .int .i64 x.J, .int .i64 x.V, .int .i64 x.W]] 154)
      [(3, .ptr 0 0), (5, .ptr 1 0), (6, .lit (.bool false)), (7, .own 3), (15, .rd 6 L.length (rgR L)), (16, .int .i64 L.length), (17, .bool false), (19, v19), (20, v20), (21, v21), (22, v22), (23, v23), (24, v24)],
      [.box 36 [.ints .i64 T, .int .i64 m], .box 65 [.int .i64 x.A, .int .i64 x.I, .int .i64 x.B, .int .i64 x.J, .int .i64 x.V, .int .i64 x.W], x2,
        .orw 65 6 1 (fun i => if i < 0 then [] else [.int .i64 x.A, .int .i64 x.I, .int .i64 x.B, .int .i64 x.J, .int .i64 x.V, .int .i64 x.W])]⟩ := by
  have hl : L.length < 24 := by rw [hL0]; decide
  have hl0 : L.length = 0 := by rw [hL0]; rfl
  have e1 : ∀ x : Int, (x = x) = True := fun x => eq_self x
  have f00 : (((0 : Nat) : Int) = 0) = True := by simp
  simp only [e_reg, e_seq, o_cons, gd_none, putK_e, runK_e, vK_e, conK_e, callK_e, evh_v, evh_call, gam_e, gamK_p, pc_e, pcK_e, evp, gt, st, putf, X.get, gets, ap, mkfr, rep, clV, clL, clS, clo, ld, lda, tk, dr, gb, lk, undef, Nat.reduceSub, Nat.reduceBEq, beq_self_eq_true, true_and, sts, s9t1, r9]
  refine ⟨T, m, L, _, rfl, fun _ _ => rfl, ?_⟩
  rcases more_cases (T := T) (m := m) (x := x) hl with ⟨y, e, f, hR, hR', hf, hc⟩ | ⟨d, d', hs, hbd, hbd', hsub, hR, hR', hR2⟩
  · have tf := eq_false hf
    have hc' : (e = 0) ∨ (e ≠ 0 ∧ e = f) ∨ (e ≠ 0 ∧ e ≠ f ∧ f = 24) := by
      by_cases h1 : e = 0
      · exact .inl h1
      · by_cases h2 : e = f
        · exact .inr (.inl ⟨h1, h2⟩)
        · exact .inr (.inr ⟨h1, h2, (hc.resolve_left h1).resolve_left h2⟩)
    rw [hR]
    simp only [e_reg, e_seq, o_nil, o_cons, gd_none, putK_e, runK_e, vK_e, conK_e, callK_e, evh_v, evh_call, seqK_n, gam_e, gamK_p, pc_e, pcK_e, evp, gt, gq, st, putf, X.get, gets, ap, clV, clL, clS, clo, ld, lda, tk, dr, gb, sb, lk, Nat.reduceBEq, beq_self_eq_true, true_and]
    refine ⟨T, m, L ++ [x], _, by rw [List.length_append, hl0]; rfl, fun i hi => row_one hL0 x i hi, ?_⟩
    rw [hR']
    rcases hc' with h1 | ⟨h1, h2⟩ | ⟨h1, h2, h3⟩
    · have u1 := eq_true h1
      simp only [gdK_btt, gdK_bft, condK_bt, decide_true, decide_false, e_reg, e_seq, e_cond, e_ret, o_nil, o_cons, gd_none, gd_some, gdK_tt, gdK_tf, putK_e, runK_e, skipK_e, vK_e, conK_e, callK_e, evh_v, evh_call, seqK_n, seqK_r, ends_r, endK1_e, endK2_e, gam_e, gamK_f, pc_e, pcK_e, fcC_e, fcK_e, evp, bin, gt, gq, st, putf, X.get, gets, ap, rdR, tupled, clV, clL, clS, clo, lens, lk, undef, Bool.not_false, beq_self_eq_true, true_and, tf, f00, u1, F24]
      exact res hK (by simp [leR])
    · have u1 := eq_false h1
      have u2 := eq_true h2
      simp only [gdK_btt, gdK_bft, gdK_bff, condK_bt, decide_true, decide_false, e_reg, e_seq, e_cond, e_ret, o_nil, o_cons, gd_none, gd_some, gdK_tt, gdK_tf, gdK_ff, putK_e, runK_e, skipK_e, vK_e, conK_e, callK_e, evh_v, evh_call, seqK_n, seqK_r, ends_r, endK1_e, endK2_e, gam_e, gamK_f, pc_e, pcK_e, fcC_e, fcK_e, evp, bin, gt, gq, st, putf, X.get, gets, ap, rdR, tupled, clV, clL, clS, clo, lens, lk, undef, Bool.not_false, beq_self_eq_true, true_and, tf, f00, u1, u2, F24]
      exact res hK (by simp [leR])
    · have u1 := eq_false h1
      have u2 := eq_false h2
      have u3 := eq_true h3
      simp only [gdK_btt, gdK_bff, condK_bt, decide_true, decide_false, e_reg, e_seq, e_cond, e_ret, o_nil, o_cons, gd_none, gd_some, gdK_tt, gdK_ff, putK_e, runK_e, vK_e, conK_e, callK_e, evh_v, evh_call, seqK_n, seqK_r, ends_r, endK1_e, endK2_e, gam_e, gamK_f, pc_e, pcK_e, fcC_e, fcK_e, evp, bin, gt, gq, st, putf, X.get, gets, ap, rdR, tupled, clV, clL, clS, clo, lens, lk, Bool.not_false, beq_self_eq_true, true_and, tf, f00, u1, u2, u3, F24]
      exact res hK (by simp [leR])
  · rw [hR]
    simp only [e_reg, e_seq, o_nil, o_cons, gd_none, putK_e, runK_e, vK_e, conK_e, callK_e, evh_v, evh_call, seqK_n, gam_e, gamK_p, pc_e, pcK_e, evp, gt, gq, st, putf, X.get, gets, ap, clV, clL, clS, clo, ld, lda, tk, dr, gb, sb, lk, Nat.reduceBEq, beq_self_eq_true, true_and]
    refine ⟨T, m, L ++ [x], _, by rw [List.length_append, hl0]; rfl, fun i hi => row_one hL0 x i hi, ?_⟩
    rw [hR']
    have hl' := okS_len hs
    have hT : ∀ i, i < T.length → 1 ≤ T.getD i 0 ∧ T.getD i 0 ≤ 8 := fun i hi => by
      simp only [okS, Bool.and_eq_true] at hs
      exact of_decide_eq_true (allI_get hi hs.2.2)
    simp only [gdK_bff, condK_bf, decide_true, e_skip, e_reg, e_seq, e_cond, e_block, e_loop, o_nil, o_cons, gd_none, gd_some, gdK_ff, putK_e, runK_e, vK_e, evh_v, seqK_n, evp, bin, gt, gq, st, putf, X.get, lens, Bool.not_true, true_and]
    refine loop_atc (G := Nat) (fun i => [(12, .int .i64 i)]) (fun i => i ≤ T.length) (fun i => T.length - i) 0 (Nat.zero_le _) ?_
    (intro fr1 hf1; simp only [forget, dstC, dstO, dstD, dst1, st] at hf1; subst hf1)
    refine ⟨?_, ?_⟩
    · refine Lw_fr ?_
      simp only [frW, sts, st, Int.natCast_zero, true_or, or_true, and_self, reduceCtorEq, eq_self]
    · intro i hi1
      by_cases hi2 : i < T.length
      · have n0 : ((i : Int) < (T.length : Int)) = True := eq_true (by omega)
        have ht := hT i hi2
        have hsp : spN T i ≤ 9 := by unfold spN; omega
        simp only [condK_bt, condK_bf, decide_true, e_skip, e_reg, e_drw, e_seq, e_cond, e_block, e_loop, o_nil, o_cons, gd_none, putK_e, runK_e, vK_e, evh_v, dX_e, dG_t, d_nil, d_cons, tlK_n, seqK_n, evp, bin, gt, gq, st, putf, X.get, ld, lda, lens, ixs, evq, gdl, Bool.not_true, true_and, and_true, sts, n0, Int.toNat_natCast, spW]
        repeat' (first | omega | refine And.intro ?_ ?_)
        refine loop_atc (G := Nat) (fun j => [(13, .int .i64 j)]) (fun j => j ≤ spN T i) (fun j => spN T i - j) 0 (Nat.zero_le _) ?_
        (intro fr1 hf1; simp only [forget, dstC, dstO, dstD, dst1, st] at hf1; subst hf1)
        refine ⟨?_, ?_⟩
        · refine Lw_fr ?_
          simp only [frW, sts, st, Int.natCast_zero, or_true, and_self, reduceCtorEq, eq_self]
        · intro j hj1
          by_cases hj2 : j < spN T i
          · have m0 : ((j : Int) < ((spN T i : Nat) : Int)) = True := eq_true (by omega)
            have hsb := hsub (i * 9 + j)
            have w1 : ((d' (i * 9 + j)).1 < (d (i * 9 + j)).1) = False := eq_false (by omega)
            have w2 : ((d' (i * 9 + j)).2 > (d (i * 9 + j)).2) = False := eq_false (by omega)
            simp only [dX_bf, condK_bt, condK_bf, decide_true, decide_false, inr64, e_skip, e_reg, e_drw, e_seq, e_cond, e_block, o_nil, o_cons, gd_none, gd_some, gdK_ff, putK_e, runK_e, vK_e, evh_v, dX_e, dG_t, d_nil, d_cons, tlK_n, loopK_n, seqK_n, blockK_n, evp, bin, gt, gq, st, putf, X.get, ld, lda, lens, ixs, evq, gdl, Bool.not_false, Nat.reduceAdd, true_and, and_true, sts, m0, Int.toNat_natCast, spW, spC, w1, w2]
            repeat' (first | omega | refine And.intro ?_ ?_)
            refine Nx.mk (j + 1) (by show j + 1 ≤ spN T i; omega) (by show spN T i - (j + 1) < spN T i - j; omega) (Lw_fr ?_)
            simp only [frW, Int.natCast_add, Int.natCast_one, true_or, or_true, and_self, reduceCtorEq, eq_self]
          · have m0 : ((j : Int) < ((spN T i : Nat) : Int)) = False := eq_false (by omega)
            simp only [condK_bf, decide_false, inr64, e_reg, e_seq, e_cond, e_exit, o_nil, o_cons, gd_none, putK_e, runK_e, vK_e, evh_v, loopK_n, loopK_x, seqK_n, seqK_x, exitK_t, blockK_x, blockK_n, evp, bin, gt, gq, st, putf, X.get, ld, lda, lens, ixs, beq_self_eq_true, true_and, sts, m0, Int.toNat_natCast, spW]
            repeat' (first | omega | refine And.intro ?_ ?_)
            refine Nx.mk (i + 1) (by show i + 1 ≤ T.length; omega) (by show T.length - (i + 1) < T.length - i; omega) (Lw_fr ?_)
            simp only [frW, Int.natCast_add, Int.natCast_one, true_or, or_true, and_self, reduceCtorEq, eq_self]
      · have n0 : ((i : Int) < (T.length : Int)) = False := eq_false (by omega)
        by_cases hm24 : ((1 : Nat) : Int) = 24
        · have w := eq_true hm24
          simp only [condK_bt, condK_bf, decide_true, decide_false, e_reg, e_seq, e_cond, e_exit, e_ret, o_nil, o_cons, gd_none, putK_e, runK_e, vK_e, conK_e, callK_e, evh_v, evh_call, loopK_x, seqK_n, seqK_x, seqK_r, exitK_t, blockK_x, ends_r, endK1_e, endK2_e, gam_e, gamK_f, pc_e, pcK_e, fcC_e, fcK_e, evp, bin, gt, st, putf, X.get, gets, ap, rdR, tupled, clV, clL, clS, clo, lens, gb, lk, beq_self_eq_true, true_and, sts, n0, w, F24]
          exact res hK (by simp [leR])
        · have w := eq_false hm24
          have k0 : (1 = 0) = False := eq_false (by omega)
          have k1 : (0 < 1) = True := eq_true (by omega)
          simp only [condK_bf, decide_false, e_skip, e_reg, e_tre, t_stop, t_op, and_self, e_seq, e_cond, e_exit, o_nil, o_cons, gd_none, putK_e, runK_e, vK_e, bslK_e, appK2_or, appK_e, conK_e, callK_e, evh_v, evh_bsl, evh_app, evh_emp, evh_call, appK_ce, appE_b, appK_z, appZ_r, appY_e, loopK_x, seqK_n, seqK_x, exitK_t, blockK_x, gam_e, gamK_p, pc_e, pcK_e, evp, bin, gt, st, putf, X.get, gets, getp, ap, clV, clL, clS, clo, clo.clos, ld, lda, lens, tk, dr, sp, sp.spl, lay, ll, cs1, one, allOne, gb, sb, pb, ln, lk, Bool.and_true, Nat.reduceAdd, Nat.reduceMul, Nat.reduceBEq, beq_self_eq_true, true_and, and_true, sts, n0, w, k0, k1, false_implies, true_implies]
          repeat' (first | (with_reducible exact True.intro) | omega | (with_reducible refine And.intro ?_ ?_))
          all_goals first
            | (refine ⟨T, m, (L ++ [x]) ++ [x], _, by rw [List.length_append, List.length_append, hl0]; rfl, fun i hi => row_one2 hL0 x i hi, ?_⟩
               rw [hR2 (by omega)]
               simp only [gdK_btt, decide_true, e_reg, t_leaf, t_stop, t_op, e_seq, o_nil, o_cons, gd_none, gd_some, gdK_tt, putK_e, runK_e, vK_e, conK_e, callK_e, evh_v, evh_call, seqK_n, gam_e, gamK_p, pc_e, pcK_e, evp, bin, gt, gq, st, putf, X.get, gets, ap, clV, clL, clS, clo, lk, Nat.reduceBEq, beq_self_eq_true, true_and, and_true, s9t2]
               refine ⟨T, m, d', rfl, hs, hbd', ?_⟩
               simp only [gdK_btt, e_ret, o_nil, o_cons, gd_none, putK_e, runK_e, vK_e, conK_e, callK_e, evh_v, evh_call, seqK_n, ends_r, endK1_e, endK2_e, gam_e, gamK_f, pc_e, pcK_e, fcC_e, fcK_e, evp, gt, st, putf, X.get, gets, ap, rdR, tupled, clV, clL, clS, clo, lk, beq_self_eq_true, true_and, F24]
               exact res hK (by simp [leR]))
set_option maxHeartbeats 1000000 in
theorem p9 (p24 : PureOk Try.prog 24 (fcC F24)) (q24 : Known Try.prog 24) : PureOk Try.prog 9 C9 := by
 refine pure_of (T := T9) ⟨⟨p24, q24⟩, ⟨p27g, q27⟩, ⟨p45, q45⟩, trivial⟩ Try.func9 k9 ?_
 rintro args K ⟨T, m, L, x, rfl, hlen, hK⟩
 by_cases h24 : (L.length : Int) ≥ 24
 ·have t := eq_true h24
  simp only [condK_bt, decide_true, e_reg, e_seq, e_cond, e_ret, o_nil, o_cons, gd_none, putK_e, runK_e, vK_e, boxK_e, conK_e, callK_e, evh_v, evh_box, evh_call, seqK_n, seqK_r, ends_r, endK1_e, endK2_e, gam_e, gamK_f, pc_e, pcK_e, fcC_e, fcK_e, evp, bin, gt, st, putf, X.get, gets, ap, mkfr, rep, rdR, tupled, clV, clL, clS, clo, lens, cs1, pb, ln, lk, undef, Nat.reduceSub, Nat.reduceAdd, beq_self_eq_true, true_and, s9, r9, Rdg.row, t, F24]
  exact res hK (by simp [leR])
 ·have t := eq_false h24
  by_cases hl0 : 0 < L.length
  ·have l0 : (L.length = 0) = False := eq_false (by omega)
   have l1 : (0 < L.length) = True := eq_true hl0
   have h := @tail9_4 T m L x K (by omega) hK
   simp only [mkfr, rep, sts, st, Nat.reduceSub, undef] at h
   simp only [condK_bf, decide_false, e_skip, e_reg, e_tre, t_leaf, t_stop, t_op, e_seq, e_cond, o_nil, o_cons, gd_none, putK_e, runK_e, vK_e, boxK_e, bslK_e, appK2_or, appK_e, evh_v, evh_box, evh_bsl, evh_app, evh_emp, appK_ce, appE_b, appK_y, appY_e, seqK_n, evp, bin, gt, st, putf, X.get, getp, mkfr, rep, clo, clo.clos, ld, lda, lens, tk, dr, sp, sp.spl, lay, ll, cs1, one, allOne, gb, sb, pb, ln, undef, Bool.and_true, Nat.reduceSub, Nat.reduceAdd, Nat.reduceMul, beq_self_eq_true, true_and, and_true, s9, Rdg.row, t, l0, l1, false_implies, true_implies]
   repeat' (first | (with_reducible exact True.intro) | omega | (with_reducible refine And.intro ?_ ?_))
   all_goals exact h _ _ _ _ _ _ _ _
  ·have l0 : (L.length = 0) = True := eq_true (by omega)
   have l1 : (0 < L.length) = False := eq_false (by omega)
   have h := @tail9_3 T m L x K (List.length_eq_zero_iff.1 (by omega)) hK
   simp only [mkfr, rep, sts, st, Nat.reduceSub, undef] at h
   simp only [condK_bf, decide_false, e_skip, e_reg, e_tre, t_leaf, t_stop, t_op, and_self, e_seq, e_cond, o_nil, o_cons, gd_none, putK_e, runK_e, vK_e, boxK_e, bslK_e, appK2_or, appK_e, evh_v, evh_box, evh_bsl, evh_app, evh_emp, appK_ce, appE_b, appK_y, appY_e, seqK_n, evp, bin, gt, st, putf, X.get, getp, mkfr, rep, clo, clo.clos, ld, lda, lens, tk, dr, sp, sp.spl, lay, ll, cs1, one, allOne, gb, sb, pb, ln, undef, Bool.and_true, Nat.reduceSub, Nat.reduceAdd, Nat.reduceMul, beq_self_eq_true, true_and, and_true, s9, Rdg.row, t, l0, l1, false_implies, true_implies]
   repeat' (first | (with_reducible exact True.intro) | omega | (with_reducible refine And.intro ?_ ?_))
   all_goals first | exact .inl True.intro | exact h _ _ _ _ _ _ _
end Go.Proofs.Ytbbbpdajikblbaa
