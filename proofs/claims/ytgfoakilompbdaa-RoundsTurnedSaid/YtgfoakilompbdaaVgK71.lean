/- The code of the program's functions, as code that is run, and that it is theirs. -/
import Derived.Test.YtgfoakilompbdaaVgR18
import Derived.Test.YtgfoakilompbdaaChecked
import Derived.KernelRfl
namespace Go.Proofs.Ytgfoakilompbdaa
open Go Go.Vg
set_option maxRecDepth 100000
set_option maxHeartbeats 4000000
def ki (n : Int) : SV := .int .i64 n
def kz : SV := .int .i64 0
def km (d n : Nat) : Opq := ⟨some d, none, .o (.v (.mov (.t n)))⟩
def kl (d n : Nat) : Opq := ⟨some d, none, .o (.v (.load (.t n) none))⟩
def kf (d n k : Nat) : Opq := ⟨some d, none, .o (.v (.off (.t n) k))⟩
def kn (d n : Nat) : Opq := ⟨some d, none, .nck (.t n)⟩
def kv (d : Nat) (v : VOp) : Opq := ⟨some d, none, .o (.v v)⟩
def kc (d : Nat) (f : X) (l : List X) : Opq := ⟨some d, none, .o (.call f l)⟩
def ko (d : Nat) (o : Op1) : Opq := ⟨some d, none, .o o⟩
def ku : Kd := .val 0 []
def kb0 : SV := .lit (.bool false)
def kb1 : SV := .lit (.bool true)
def g14 : RC :=
 (.seq (.reg [ko 1 (.box 25 (.t 0)),
 kv 2 (.mov (.c (.lit (.slice none 0 0)))),
 kv 3 (.mov (.c kz))])
 (.seq (.reg [kv 6 (.load (.t 1) (some 6)),
 ko 7 (.bld [kz, kz, kz, kz, kz, kz] [(0, 6, (.t 6))]),
 ko 4 (.new 82 [kz, kz, kz, kz, kz, kz]),
 ⟨none, none, .o (.store 6 (.t 4) (.t 7))⟩])
 (.seq (.seq (.reg [kv 8 (.load (.t 4) (some 6)),
 kc 9 (.c (.fn 46 [])) [(.t 8)],
 kv 10 (.not (.t 9))])
 (.cond (.t 10)
 (.seq (.reg [kv 2 (.mov (.c (.lit (.slice none 0 0)))),
 kv 3 (.mov (.c (ki 62)))])
 .ret)
 .skip))
 (.seq (.reg [kv 11 (.load (.t 4) (some 6)),
 kc 12 (.c (.fn 47 [])) [(.t 11)],
 km 5 12])
 (.seq (.seq (.reg [km 13 5,
 kv 14 (.len (.t 13)),
 kv 15 (.bin .eql (.t 14) (.c kz))])
 (.cond (.t 15)
 (.seq (.reg [kv 2 (.mov (.c (.lit (.slice none 0 0)))),
 kv 3 (.mov (.c (ki 4)))])
 .ret)
 .skip))
 (.seq (.reg [km 16 5,
 km 2 16,
 kv 3 (.mov (.c kz))])
 .ret))))))
theorem h14 : FdOk Try.prog 14 ⟨g14, [.t 2, .t 3], 17, [], false⟩ := .of Try.func14 (by simp [Try.f14]) (by kernel_rfl)
def g16 : RC :=
 (.seq (.reg [kv 4 (.mov (.c (.lit (.bool false))))])
 (.seq (.seq (.reg [km 6 0,
 kv 7 (.len (.t 6)),
 km 8 1,
 kv 9 (.len (.t 8)),
 kv 10 (.bin .neq (.t 7) (.t 9))])
 (.cond (.t 10)
 (.seq (.reg [kv 4 (.mov (.c (.lit (.bool false))))])
 .ret)
 .skip))
 (.seq (.seq (.reg [kv 5 (.mov (.c kz))])
 (.block 0 (.loop
 (.seq (.seq (.reg [km 11 5,
 km 12 0,
 kv 13 (.len (.t 12)),
 kv 14 (.bin .lss (.t 11) (.t 13))])
 (.cond (.t 14)
 .skip
 (.exit 0)))
 (.seq (.block 1 (.seq (.drw [⟨[], 0, 0, [(km 17 0, ku),
 (km 18 5, ku),
 (kv 19 (.ixa (.t 17) (.t 18) 2), ku),
 (kv 20 (.load (.t 19) (some 2)), ku),
 (km 21 1, ku),
 (km 22 5, ku),
 (kv 23 (.ixa (.t 21) (.t 22) 2), ku),
 (kv 24 (.load (.t 23) (some 2)), ku)],
 [],
 [kv 25 (.eqs [(some .i64), (some .i64)] true (.t 20) (.t 24))], none⟩])
 (.cond (.t 25)
 (.seq (.reg [kv 4 (.mov (.c (.lit (.bool false))))])
 .ret)
 .skip)))
 (.reg [km 15 5,
 kv 16 (.bin .add (.t 15) (.c (ki 1))),
 km 5 16]))))))
 (.seq (.reg [kv 4 (.mov (.c (.lit (.bool true))))])
 .ret))))
theorem h16 : FdOk Try.prog 16 ⟨g16, [.t 4], 26, [], false⟩ := .of Try.func16 (by simp [Try.f16]) (by kernel_rfl)
def g17 : RC :=
 (.seq (.reg [ko 1 (.box 27 (.t 0)),
 ko 2 (.new 23 [kz, kz]),
 ko 3 (.new 23 [kz, kz]),
 kv 4 (.mov (.c kz))])
 (.seq (.reg [kv 6 (.load (.t 1) (some 4)),
 ko 7 (.bld [kz, kz, kz, kz] [(0, 4, (.t 6))]),
 ko 5 (.new 87 [kz, kz, kz, kz]),
 ⟨none, none, .o (.store 4 (.t 5) (.t 7))⟩])
 (.seq (.seq (.reg [kv 8 (.load (.t 5) (some 4)),
 kc 9 (.c (.fn 52 [])) [(.t 8)],
 kv 10 (.not (.t 9))])
 (.cond (.t 10)
 (.seq (.reg [ko 11 (.bld [kz, kz] []),
 ko 12 (.bld [kz, kz] []),
 ⟨none, none, .o (.store 2 (.t 2) (.t 11))⟩,
 ⟨none, none, .o (.store 2 (.t 3) (.t 12))⟩,
 kv 4 (.mov (.c (ki 62)))])
 .ret)
 .skip))
 (.seq (.reg [kv 13 (.load (.t 5) (some 4)),
 kc 14 (.c (.fn 53 [])) [(.t 13)],
 ⟨none, none, .o (.store 2 (.t 3) (.t 14))⟩])
 (.seq (.seq (.drw [⟨[], 0, 1, [(kv 15 (.load (.t 3) (some 2)), ku),
 (kc 16 (.c (.fn 54 [])) [], .eff 0 [])],
 [],
 [kv 17 (.eqs [(some .i64), (some .i64)] false (.t 15) (.t 16))], none⟩])
 (.cond (.t 17)
 (.seq (.reg [ko 18 (.bld [kz, kz] []),
 ko 19 (.bld [kz, kz] []),
 ⟨none, none, .o (.store 2 (.t 2) (.t 18))⟩,
 ⟨none, none, .o (.store 2 (.t 3) (.t 19))⟩,
 kv 4 (.mov (.c (ki 4)))])
 .ret)
 .skip))
 (.seq (.drw [⟨[], 0, 2, [(kv 20 (.load (.t 5) (some 4)), ku),
 (kv 21 (.load (.t 3) (some 2)), ku),
 (kc 22 (.c (.fn 55 [])) [(.t 20), (.t 21)], .efs 0 [] []),
 (kv 23 (.load (.t 3) (some 2)), .pur),
 (⟨none, none, .o (.store 2 (.t 2) (.t 22))⟩, .efs 1 [] [])],
 [],
 [⟨none, none, .o (.store 2 (.t 3) (.t 23))⟩,
 kv 4 (.mov (.c kz))], none⟩,
 ⟨[5, 3, 2], 0, 1, [(kv 20 (.load (.t 5) (some 4)), ku),
 (kv 21 (.load (.t 3) (some 2)), ku),
 (kc 22 (.c (.fn 55 [])) [(.t 20), (.t 21)], ku),
 (kv 23 (.load (.t 3) (some 2)), .prd [2]),
 (⟨none, none, .o (.store 2 (.t 2) (.t 22))⟩, .efs 0 [] [])],
 [],
 [⟨none, none, .o (.store 2 (.t 3) (.t 23))⟩,
 kv 4 (.mov (.c kz))], none⟩])
 .ret))))))
theorem h17 : FdOk Try.prog 17 ⟨g17, [.c 2 (some 2), .c 3 (some 2), .t 4], 24, [], false⟩ := .of Try.func17 (by simp [Try.f17]) (by kernel_rfl)
def g19 : RC :=
 (.seq (.reg [kv 0 (.mov (.c (.lit (.bool false))))])
 (.seq (.reg [kc 16 (.c (.fn 34 [])) [(.c (ki 80)), (.c (ki 120))],
 ko 17 (.bld [kz, kz, kz, kz, kz, kz] [(0, 1, (.c (ki 100))), (1, 1, (.c (ki 500))), (2, 1, (.c (ki 4))), (3, 2, (.t 16)), (5, 1, (.c (ki 2)))]),
 kc 18 (.c (.fn 14 [])) [(.t 17)],
 km 15 18,
 kv 19 (.ext (.t 15) 0),
 kv 20 (.ext (.t 15) 1),
 km 1 19,
 km 2 20])
 (.seq (.reg [ko 22 (.bld [kz, kz, kz, kz] [(0, 1, (.c (ki 1000))), (1, 1, (.c (ki 648980))), (2, 1, (.c (ki 3))), (3, 1, (.c (ki 50)))]),
 kc 23 (.c (.fn 17 [])) [(.t 22)],
 km 21 23,
 kv 24 (.ext (.t 21) 0),
 kv 25 (.ext (.t 21) 1),
 kv 26 (.ext (.t 21) 2),
 ko 3 (.new 23 [kz, kz]),
 ko 4 (.new 23 [kz, kz]),
 ⟨none, none, .o (.store 2 (.t 3) (.t 24))⟩,
 ⟨none, none, .o (.store 2 (.t 4) (.t 25))⟩,
 km 5 26])
 (.seq (.reg [kc 28 (.c (.fn 44 [])) [],
 kc 29 (.c (.fn 24 [])) [(.t 28)],
 km 27 29,
 kv 30 (.ext (.t 27) 0),
 kv 31 (.ext (.t 27) 1),
 km 6 30,
 km 7 31])
 (.seq (.seq (.drw [⟨[2, 5, 7, 1, 3, 4, 6], 0, 0, [(km 32 2, ku),
 (kv 33 (.bin .neq (.t 32) (.c kz)), ku),
 (km 34 33, ku),
 (⟨(some 35), (some (34, false)), .o (.v (.mov (.t 5)))⟩, ku),
 (⟨(some 36), (some (34, false)), .o (.v (.bin .neq (.t 35) (.c kz)))⟩, ku),
 (kv 37 (.pick (.t 34) (.c (.lit (.bool true))) (.t 36)), ku),
 (km 38 37, ku),
 (⟨(some 39), (some (38, false)), .o (.v (.mov (.t 7)))⟩, ku),
 (⟨(some 40), (some (38, false)), .o (.v (.bin .neq (.t 39) (.c kz)))⟩, ku),
 (kv 41 (.pick (.t 38) (.c (.lit (.bool true))) (.t 40)), ku),
 (km 42 41, ku),
 (⟨(some 43), (some (42, false)), .o (.v (.mov (.t 1)))⟩, ku),
 (⟨(some 44), (some (42, false)), .o (.call (.c (.fn 34 [])) [(.c (ki 99)), (.c (ki 101))])⟩, ku),
 (⟨(some 45), (some (42, false)), .o (.bsl 23 1 [kz, kz] [(0, 2, (.t 44))])⟩, ku),
 (⟨(some 46), (some (42, false)), .o (.call (.c (.fn 16 [])) [(.t 43), (.t 45)])⟩, ku),
 (⟨(some 47), (some (42, false)), .o (.v (.not (.t 46)))⟩, ku),
 (kv 48 (.pick (.t 42) (.c (.lit (.bool true))) (.t 47)), ku),
 (km 49 48, ku),
 (⟨(some 50), (some (49, false)), .o (.v (.load (.t 3) (some 2)))⟩, ku),
 (⟨(some 51), (some (49, false)), .o (.call (.c (.fn 34 [])) [(.c (ki 987)), (.c (ki 993))])⟩, ku),
 (⟨(some 52), (some (49, false)), .o (.v (.eqs [(some .i64), (some .i64)] true (.t 50) (.t 51)))⟩, ku),
 (kv 53 (.pick (.t 49) (.c (.lit (.bool true))) (.t 52)), ku),
 (km 54 53, ku),
 (⟨(some 55), (some (54, false)), .o (.v (.load (.t 4) (some 2)))⟩, ku),
 (⟨(some 56), (some (54, false)), .o (.call (.c (.fn 34 [])) [(.c (ki 7)), (.c (ki 13))])⟩, ku),
 (⟨(some 57), (some (54, false)), .o (.v (.eqs [(some .i64), (some .i64)] true (.t 55) (.t 56)))⟩, ku),
 (kv 58 (.pick (.t 54) (.c (.lit (.bool true))) (.t 57)), ku),
 (km 59 58, ku),
 (⟨(some 60), (some (59, false)), .o (.v (.mov (.t 6)))⟩, ku),
 (⟨(some 61), (some (59, false)), .o (.call (.c (.fn 34 [])) [(.c (ki 200000)), (.c (ki 200010))])⟩, ku),
 (⟨(some 62), (some (59, false)), .o (.call (.c (.fn 34 [])) [(.c (ki 220000)), (.c (ki 220000))])⟩, ku),
 (⟨(some 63), (some (59, false)), .o (.call (.c (.fn 34 [])) [(.c (ki 227990)), (.c (ki 228000))])⟩, ku),
 (⟨(some 64), (some (59, false)), .o (.call (.c (.fn 34 [])) [(.c (ki 210000)), (.c (ki 210000))])⟩, ku),
 (⟨(some 65), (some (59, false)), .o (.call (.c (.fn 34 [])) [(.c (ki 218000)), (.c (ki 218000))])⟩, ku),
 (⟨(some 66), (some (59, false)), .o (.call (.c (.fn 34 [])) [(.c (ki 220000)), (.c (ki 220000))])⟩, ku),
 (⟨(some 67), (some (59, false)), .o (.bsl 23 6 [kz, kz, kz, kz, kz, kz, kz, kz, kz, kz, kz, kz] [(0, 2, (.t 61)), (2, 2, (.t 62)), (4, 2, (.t 63)), (6, 2, (.t 64)), (8, 2, (.t 65)), (10, 2, (.t 66))])⟩, ku)],
 [],
 [⟨(some 68), (some (59, false)), .o (.call (.c (.fn 16 [])) [(.t 60), (.t 67)])⟩,
 ⟨(some 69), (some (59, false)), .o (.v (.not (.t 68)))⟩,
 kv 70 (.pick (.t 59) (.c (.lit (.bool true))) (.t 69))], none⟩])
 (.cond (.t 70)
 (.seq (.reg [kv 0 (.mov (.c (.lit (.bool false))))])
 .ret)
 .skip))
 (.seq (.reg [kc 71 (.c (.fn 44 [])) [],
 kc 72 (.c (.fn 34 [])) [(.c (ki 219000)), (.c (ki 219000))],
 kc 73 (.c (.fn 40 [])) [(.t 71), (.c (ki 1)), (.t 72)],
 ko 8 (.new 40 [kz, (.lit (.slice none 0 0)), (.lit (.slice none 0 0))]),
 ⟨none, none, .o (.store 3 (.t 8) (.t 73))⟩])
 (.seq (.reg [kv 75 (.load (.t 8) (some 3)),
 ko 76 (.bsl 3 1 [kz] [(0, 1, (.c kz))]),
 ko 77 (.bld [(.lit (.slice none 0 0)), (.lit (.slice none 0 0)), (.lit (.bool false))] [(0, 1, (.t 76)), (2, 1, (.c (.lit (.bool true))))]),
 kc 78 (.c (.fn 27 [])) [(.t 75), (.t 77)],
 km 74 78,
 kv 79 (.ext (.t 74) 0),
 kv 80 (.ext (.t 74) 1),
 km 9 79,
 km 2 80])
 (.seq (.reg [kv 82 (.load (.t 8) (some 3)),
 kc 83 (.c (.fn 31 [])) [(.t 82)],
 km 81 83,
 kv 84 (.ext (.t 81) 0),
 kv 85 (.ext (.t 81) 1),
 km 5 85])
 (.seq (.reg [kv 87 (.load (.t 8) (some 3)),
 kc 88 (.c (.fn 29 [])) [(.t 87)],
 km 86 88,
 kv 89 (.ext (.t 86) 0),
 kv 90 (.ext (.t 86) 1),
 km 10 89,
 km 7 90])
 (.seq (.reg [kc 92 (.c (.fn 45 [])) [(.c (.lit (.bool true)))],
 kc 93 (.c (.fn 24 [])) [(.t 92)],
 km 91 93,
 kv 94 (.ext (.t 91) 0),
 kv 95 (.ext (.t 91) 1),
 km 11 94,
 km 12 95])
 (.seq (.reg [kc 97 (.c (.fn 44 [])) [],
 kc 98 (.c (.fn 26 [])) [(.t 97)],
 km 96 98,
 kv 99 (.ext (.t 96) 0),
 kv 100 (.ext (.t 96) 1),
 km 13 99,
 km 14 100])
 (.seq (.drw [⟨[2, 5, 7, 12, 14, 9, 10, 11, 13], 0, 0, [(km 101 2, ku),
 (kv 102 (.bin .eql (.t 101) (.c kz)), ku),
 (km 103 102, ku),
 (⟨(some 104), (some (103, true)), .o (.v (.mov (.t 5)))⟩, ku),
 (⟨(some 105), (some (103, true)), .o (.v (.bin .eql (.t 104) (.c kz)))⟩, ku),
 (kv 106 (.pick (.t 103) (.t 105) (.c (.lit (.bool false)))), ku),
 (km 107 106, ku),
 (⟨(some 108), (some (107, true)), .o (.v (.mov (.t 7)))⟩, ku),
 (⟨(some 109), (some (107, true)), .o (.v (.bin .eql (.t 108) (.c kz)))⟩, ku),
 (kv 110 (.pick (.t 107) (.t 109) (.c (.lit (.bool false)))), ku),
 (km 111 110, ku),
 (⟨(some 112), (some (111, true)), .o (.v (.mov (.t 12)))⟩, ku),
 (⟨(some 113), (some (111, true)), .o (.v (.bin .eql (.t 112) (.c kz)))⟩, ku),
 (kv 114 (.pick (.t 111) (.t 113) (.c (.lit (.bool false)))), ku),
 (km 115 114, ku),
 (⟨(some 116), (some (115, true)), .o (.v (.mov (.t 14)))⟩, ku),
 (⟨(some 117), (some (115, true)), .o (.v (.bin .eql (.t 116) (.c kz)))⟩, ku),
 (kv 118 (.pick (.t 115) (.t 117) (.c (.lit (.bool false)))), ku),
 (km 119 118, ku),
 (⟨(some 120), (some (119, true)), .o (.v (.mov (.t 9)))⟩, ku),
 (kv 121 (.pick (.t 119) (.t 120) (.c (.lit (.bool false)))), ku),
 (km 122 121, ku),
 (⟨(some 123), (some (122, true)), .o (.v (.mov (.t 10)))⟩, ku),
 (⟨(some 124), (some (122, true)), .o (.bsl 3 3 [kz, kz, kz] [(0, 1, (.c kz)), (1, 1, (.c (ki 1))), (2, 1, (.c (ki 2)))])⟩, ku),
 (⟨(some 125), (some (122, true)), .o (.call (.c (.fn 32 [])) [(.t 123), (.t 124)])⟩, ku),
 (kv 126 (.pick (.t 122) (.t 125) (.c (.lit (.bool false)))), ku),
 (km 127 126, ku),
 (⟨(some 128), (some (127, true)), .o (.v (.mov (.t 11)))⟩, ku),
 (⟨(some 129), (some (127, true)), .o (.v (.len (.t 128)))⟩, ku),
 (⟨(some 130), (some (127, true)), .o (.v (.bin .eql (.t 129) (.c (ki 9))))⟩, ku),
 (kv 131 (.pick (.t 127) (.t 130) (.c (.lit (.bool false)))), ku),
 (km 132 131, ku),
 (⟨(some 133), (some (132, true)), .o (.v (.mov (.t 11)))⟩, ku),
 (⟨(some 134), (some (132, true)), .o (.v (.ixa (.t 133) (.c kz) 2))⟩, ku),
 (⟨(some 135), (some (132, true)), .o (.v (.load (.t 134) (some 2)))⟩, ku),
 (⟨(some 136), (some (132, true)), .o (.call (.c (.fn 34 [])) [(.c (ki 432000)), (.c (ki 432000))])⟩, ku),
 (⟨(some 137), (some (132, true)), .o (.v (.eqs [(some .i64), (some .i64)] false (.t 135) (.t 136)))⟩, ku),
 (kv 138 (.pick (.t 132) (.t 137) (.c (.lit (.bool false)))), ku),
 (km 139 138, ku),
 (⟨(some 140), (some (139, true)), .o (.v (.mov (.t 11)))⟩, ku),
 (⟨(some 141), (some (139, true)), .o (.v (.ixa (.t 140) (.c (ki 1)) 2))⟩, ku),
 (⟨(some 142), (some (139, true)), .o (.v (.load (.t 141) (some 2)))⟩, ku),
 (⟨(some 143), (some (139, true)), .o (.call (.c (.fn 34 [])) [(.c (ki 107995)), (.c (ki 108005))])⟩, ku),
 (⟨(some 144), (some (139, true)), .o (.v (.eqs [(some .i64), (some .i64)] false (.t 142) (.t 143)))⟩, ku),
 (kv 145 (.pick (.t 139) (.t 144) (.c (.lit (.bool false)))), ku),
 (km 146 145, ku),
 (⟨(some 147), (some (146, true)), .o (.v (.mov (.t 13)))⟩, ku),
 (⟨(some 148), (some (146, true)), .o (.v (.len (.t 147)))⟩, ku),
 (⟨(some 149), (some (146, true)), .o (.v (.bin .eql (.t 148) (.c (ki 6))))⟩, ku),
 (kv 150 (.pick (.t 146) (.t 149) (.c (.lit (.bool false)))), ku),
 (km 151 150, ku),
 (⟨(some 152), (some (151, true)), .o (.v (.mov (.t 13)))⟩, ku),
 (⟨(some 153), (some (151, true)), .o (.v (.ixa (.t 152) (.c kz) 1))⟩, ku),
 (⟨(some 154), (some (151, true)), .o (.v (.load (.t 153) none))⟩, ku),
 (⟨(some 155), (some (151, true)), .o (.v (.mov (.t 13)))⟩, ku),
 (⟨(some 156), (some (151, true)), .o (.v (.ixa (.t 155) (.c (ki 1)) 1))⟩, ku),
 (⟨(some 157), (some (151, true)), .o (.v (.load (.t 156) none))⟩, ku),
 (⟨(some 158), (some (151, true)), .o (.v (.bin .add (.t 154) (.t 157)))⟩, ku),
 (⟨(some 159), (some (151, true)), .o (.v (.mov (.t 13)))⟩, ku),
 (⟨(some 160), (some (151, true)), .o (.v (.ixa (.t 159) (.c (ki 2)) 1))⟩, ku),
 (⟨(some 161), (some (151, true)), .o (.v (.load (.t 160) none))⟩, ku)],
 [],
 [⟨(some 162), (some (151, true)), .o (.v (.bin .add (.t 158) (.t 161)))⟩,
 ⟨(some 163), (some (151, true)), .o (.v (.bin .eql (.t 162) (.c (ki 648000))))⟩,
 kv 164 (.pick (.t 151) (.t 163) (.c (.lit (.bool false)))),
 km 0 164], none⟩])
 .ret))))))))))))
theorem h19 : FdOk Try.prog 19 ⟨g19, [.t 0], 165, [], false⟩ := .of Try.func19 (by simp [Try.f19]) (by kernel_rfl)
def g22 : RC :=
 (.seq (.reg [ko 1 (.box 40 (.t 0)),
 kv 2 (.mov (.c kz))])
 (.seq (.seq (.reg [kv 3 (.load (.t 1) (some 3)),
 ko 4 (.bld [kz, (.lit (.slice none 0 0)), (.lit (.slice none 0 0))] [(0, 3, (.t 3))]),
 kc 5 (.c (.fn 58 [])) [(.t 4)],
 kv 6 (.not (.t 5))])
 (.cond (.t 6)
 (.seq (.reg [kv 2 (.mov (.c (ki 60)))])
 .ret)
 .skip))
 (.seq (.reg [kv 2 (.mov (.c kz))])
 .ret)))
theorem h22 : FdOk Try.prog 22 ⟨g22, [.t 2], 7, [], false⟩ := .of Try.func22 (by simp [Try.f22]) (by kernel_rfl)
def g24 : RC :=
 (.seq (.reg [ko 1 (.box 40 (.t 0)),
 kv 2 (.mov (.c (.lit (.slice none 0 0)))),
 kv 3 (.mov (.c kz))])
 (.seq (.seq (.reg [kv 6 (.load (.t 1) (some 3)),
 kc 7 (.c (.fn 22 [])) [(.t 6)],
 km 4 7])
 (.seq (.reg [km 8 4,
 kv 9 (.bin .neq (.t 8) (.c kz))])
 (.cond (.t 9)
 (.seq (.reg [km 10 4,
 kv 2 (.mov (.c (.lit (.slice none 0 0)))),
 km 3 10])
 .ret)
 .skip)))
 (.seq (.reg [kv 11 (.load (.t 1) (some 3)),
 ko 12 (.bld [kz, (.lit (.slice none 0 0)), (.lit (.slice none 0 0))] [(0, 3, (.t 11))]),
 kc 13 (.c (.fn 60 [])) [(.t 12)],
 ko 5 (.new 101 [kz, (.lit (.slice none 0 0)), (.lit (.slice none 0 0)), (.lit (.slice none 0 0)), kz, kz, kz, kz, kz, kz, kz, kz, kz, kz, kz, kz, kz, kz, kz, kz, kz, (.lit (.map none)), (.lit (.bool false)), (.lit (.bool false)), (.lit (.bool false)), (.lit (.bool false)), (.lit (.bool false)), (.lit (.bool false)), (.lit (.bool false)), (.lit (.bool false)), (.lit (.bool false)), (.lit (.bool false)), (.lit (.bool false)), (.lit (.bool false)), (.lit (.bool false)), (.lit (.bool false)), (.lit (.bool false)), (.lit (.bool false)), (.lit (.bool false))]),
 ⟨none, none, .o (.store 39 (.t 5) (.t 13))⟩])
 (.seq (.seq (.reg [kv 14 (.load (.t 5) (some 39)),
 kc 15 (.c (.fn 61 [])) [(.t 14)],
 kv 16 (.bin .gtr (.t 15) (.c kz))])
 (.cond (.t 16)
 (.seq (.reg [kv 2 (.mov (.c (.lit (.slice none 0 0)))),
 kv 3 (.mov (.c (ki 4)))])
 .ret)
 .skip))
 (.seq (.reg [kv 17 (.load (.t 5) (some 39)),
 kc 18 (.c (.fn 62 [])) [(.t 17)],
 km 2 18,
 kv 3 (.mov (.c kz))])
 .ret)))))
theorem h24 : FdOk Try.prog 24 ⟨g24, [.t 2, .t 3], 19, [], false⟩ := .of Try.func24 (by simp [Try.f24]) (by kernel_rfl)
def g26 : RC :=
 (.seq (.reg [ko 1 (.box 40 (.t 0)),
 kv 2 (.mov (.c (.lit (.slice none 0 0)))),
 kv 3 (.mov (.c kz))])
 (.seq (.seq (.reg [kv 6 (.load (.t 1) (some 3)),
 kc 7 (.c (.fn 22 [])) [(.t 6)],
 km 4 7])
 (.seq (.reg [km 8 4,
 kv 9 (.bin .neq (.t 8) (.c kz))])
 (.cond (.t 9)
 (.seq (.reg [km 10 4,
 kv 2 (.mov (.c (.lit (.slice none 0 0)))),
 km 3 10])
 .ret)
 .skip)))
 (.seq (.reg [kv 11 (.load (.t 1) (some 3)),
 ko 12 (.bld [kz, (.lit (.slice none 0 0)), (.lit (.slice none 0 0))] [(0, 3, (.t 11))]),
 kc 13 (.c (.fn 60 [])) [(.t 12)],
 ko 5 (.new 101 [kz, (.lit (.slice none 0 0)), (.lit (.slice none 0 0)), (.lit (.slice none 0 0)), kz, kz, kz, kz, kz, kz, kz, kz, kz, kz, kz, kz, kz, kz, kz, kz, kz, (.lit (.map none)), (.lit (.bool false)), (.lit (.bool false)), (.lit (.bool false)), (.lit (.bool false)), (.lit (.bool false)), (.lit (.bool false)), (.lit (.bool false)), (.lit (.bool false)), (.lit (.bool false)), (.lit (.bool false)), (.lit (.bool false)), (.lit (.bool false)), (.lit (.bool false)), (.lit (.bool false)), (.lit (.bool false)), (.lit (.bool false)), (.lit (.bool false))]),
 ⟨none, none, .o (.store 39 (.t 5) (.t 13))⟩])
 (.seq (.seq (.reg [kv 14 (.load (.t 5) (some 39)),
 kc 15 (.c (.fn 61 [])) [(.t 14)],
 kv 16 (.bin .gtr (.t 15) (.c kz))])
 (.cond (.t 16)
 (.seq (.reg [kv 2 (.mov (.c (.lit (.slice none 0 0)))),
 kv 3 (.mov (.c (ki 4)))])
 .ret)
 .skip))
 (.seq (.reg [kf 17 5 3,
 kl 18 17,
 km 2 18,
 kv 3 (.mov (.c kz))])
 .ret)))))
theorem h26 : FdOk Try.prog 26 ⟨g26, [.t 2, .t 3], 19, [], false⟩ := .of Try.func26 (by simp [Try.f26]) (by kernel_rfl)
def g27 : RC :=
 (.seq (.reg [ko 2 (.box 40 (.t 0)),
 ko 3 (.box 50 (.t 1)),
 kv 4 (.mov (.c (.lit (.bool false)))),
 kv 5 (.mov (.c kz))])
 (.seq (.seq (.reg [kv 8 (.load (.t 2) (some 3)),
 kc 9 (.c (.fn 22 [])) [(.t 8)],
 km 6 9])
 (.seq (.reg [km 10 6,
 kv 11 (.bin .neq (.t 10) (.c kz))])
 (.cond (.t 11)
 (.seq (.reg [km 12 6,
 kv 4 (.mov (.c (.lit (.bool false)))),
 km 5 12])
 .ret)
 .skip)))
 (.seq (.reg [kv 13 (.load (.t 2) (some 3)),
 ko 14 (.bld [kz, (.lit (.slice none 0 0)), (.lit (.slice none 0 0))] [(0, 3, (.t 13))]),
 ko 7 (.new 92 [kz, (.lit (.slice none 0 0)), (.lit (.slice none 0 0))]),
 ⟨none, none, .o (.store 3 (.t 7) (.t 14))⟩])
 (.seq (.seq (.reg [kv 15 (.load (.t 7) (some 3)),
 kv 16 (.load (.t 3) (some 3)),
 kc 17 (.c (.fn 64 [])) [(.t 15), (.t 16)],
 kv 18 (.not (.t 17))])
 (.cond (.t 18)
 (.seq (.reg [kv 4 (.mov (.c (.lit (.bool false)))),
 kv 5 (.mov (.c (ki 61)))])
 .ret)
 .skip))
 (.seq (.reg [kv 19 (.load (.t 7) (some 3)),
 kv 20 (.load (.t 3) (some 3)),
 kc 21 (.c (.fn 65 [])) [(.t 19), (.t 20)],
 km 4 21,
 kv 5 (.mov (.c kz))])
 .ret)))))
theorem h27 : FdOk Try.prog 27 ⟨g27, [.t 4, .t 5], 22, [], false⟩ := .of Try.func27 (by simp [Try.f27]) (by kernel_rfl)
def g29 : RC :=
 (.seq (.reg [ko 1 (.box 40 (.t 0)),
 kv 2 (.mov (.c (.lit (.slice none 0 0)))),
 kv 3 (.mov (.c kz))])
 (.seq (.seq (.reg [kv 6 (.load (.t 1) (some 3)),
 kc 7 (.c (.fn 22 [])) [(.t 6)],
 km 4 7])
 (.seq (.reg [km 8 4,
 kv 9 (.bin .neq (.t 8) (.c kz))])
 (.cond (.t 9)
 (.seq (.reg [km 10 4,
 kv 2 (.mov (.c (.lit (.slice none 0 0)))),
 km 3 10])
 .ret)
 .skip)))
 (.seq (.reg [kv 11 (.load (.t 1) (some 3)),
 ko 12 (.bld [kz, (.lit (.slice none 0 0)), (.lit (.slice none 0 0))] [(0, 3, (.t 11))]),
 ko 5 (.new 92 [kz, (.lit (.slice none 0 0)), (.lit (.slice none 0 0))]),
 ⟨none, none, .o (.store 3 (.t 5) (.t 12))⟩])
 (.seq (.seq (.reg [kv 13 (.load (.t 5) (some 3)),
 kc 14 (.c (.fn 60 [])) [(.t 13)],
 kc 15 (.c (.fn 61 [])) [(.t 14)],
 kv 16 (.bin .eql (.t 15) (.c kz))])
 (.cond (.t 16)
 (.seq (.reg [kv 2 (.mov (.c (.lit (.slice none 0 0)))),
 kv 3 (.mov (.c (ki 4)))])
 .ret)
 .skip))
 (.seq (.reg [kv 17 (.load (.t 5) (some 3)),
 kc 18 (.c (.fn 68 [])) [(.t 17)],
 km 2 18,
 kv 3 (.mov (.c kz))])
 .ret)))))
theorem h29 : FdOk Try.prog 29 ⟨g29, [.t 2, .t 3], 19, [], false⟩ := .of Try.func29 (by simp [Try.f29]) (by kernel_rfl)
def g31 : RC :=
 (.seq (.reg [ko 1 (.box 40 (.t 0)),
 ko 2 (.new 50 [(.lit (.slice none 0 0)), (.lit (.slice none 0 0)), (.lit (.bool false))]),
 kv 3 (.mov (.c kz))])
 (.seq (.seq (.reg [kv 6 (.load (.t 1) (some 3)),
 kc 7 (.c (.fn 22 [])) [(.t 6)],
 km 4 7])
 (.seq (.reg [km 8 4,
 kv 9 (.bin .neq (.t 8) (.c kz))])
 (.cond (.t 9)
 (.seq (.reg [ko 10 (.bld [(.lit (.slice none 0 0)), (.lit (.slice none 0 0)), (.lit (.bool false))] []),
 km 11 4,
 ⟨none, none, .o (.store 3 (.t 2) (.t 10))⟩,
 km 3 11])
 .ret)
 .skip)))
 (.seq (.reg [kv 12 (.load (.t 1) (some 3)),
 ko 13 (.bld [kz, (.lit (.slice none 0 0)), (.lit (.slice none 0 0))] [(0, 3, (.t 12))]),
 kc 14 (.c (.fn 60 [])) [(.t 13)],
 ko 5 (.new 101 [kz, (.lit (.slice none 0 0)), (.lit (.slice none 0 0)), (.lit (.slice none 0 0)), kz, kz, kz, kz, kz, kz, kz, kz, kz, kz, kz, kz, kz, kz, kz, kz, kz, (.lit (.map none)), (.lit (.bool false)), (.lit (.bool false)), (.lit (.bool false)), (.lit (.bool false)), (.lit (.bool false)), (.lit (.bool false)), (.lit (.bool false)), (.lit (.bool false)), (.lit (.bool false)), (.lit (.bool false)), (.lit (.bool false)), (.lit (.bool false)), (.lit (.bool false)), (.lit (.bool false)), (.lit (.bool false)), (.lit (.bool false)), (.lit (.bool false))]),
 ⟨none, none, .o (.store 39 (.t 5) (.t 14))⟩])
 (.seq (.seq (.reg [kv 15 (.load (.t 5) (some 39)),
 kc 16 (.c (.fn 61 [])) [(.t 15)],
 kv 17 (.bin .eql (.t 16) (.c kz))])
 (.cond (.t 17)
 (.seq (.reg [ko 18 (.bld [(.lit (.slice none 0 0)), (.lit (.slice none 0 0)), (.lit (.bool false))] []),
 ⟨none, none, .o (.store 3 (.t 2) (.t 18))⟩,
 kv 3 (.mov (.c (ki 4)))])
 .ret)
 .skip))
 (.seq (.reg [kv 19 (.load (.t 5) (some 39)),
 kc 20 (.c (.fn 69 [])) [(.t 19)],
 ⟨none, none, .o (.store 3 (.t 2) (.t 20))⟩,
 kv 3 (.mov (.c kz))])
 .ret)))))
theorem h31 : FdOk Try.prog 31 ⟨g31, [.c 2 (some 3), .t 3], 21, [], false⟩ := .of Try.func31 (by simp [Try.f31]) (by kernel_rfl)
def g32 : RC :=
 (.seq (.reg [kv 4 (.mov (.c (.lit (.bool false))))])
 (.seq (.seq (.reg [km 6 0,
 kv 7 (.len (.t 6)),
 km 8 1,
 kv 9 (.len (.t 8)),
 kv 10 (.bin .neq (.t 7) (.t 9))])
 (.cond (.t 10)
 (.seq (.reg [kv 4 (.mov (.c (.lit (.bool false))))])
 .ret)
 .skip))
 (.seq (.seq (.reg [kv 5 (.mov (.c kz))])
 (.block 0 (.loop
 (.seq (.seq (.reg [km 11 5,
 km 12 0,
 kv 13 (.len (.t 12)),
 kv 14 (.bin .lss (.t 11) (.t 13))])
 (.cond (.t 14)
 .skip
 (.exit 0)))
 (.seq (.block 1 (.seq (.drw [⟨[], 0, 0, [(km 17 0, ku),
 (km 18 5, ku),
 (kv 19 (.ixa (.t 17) (.t 18) 1), ku),
 (kl 20 19, ku),
 (km 21 1, ku),
 (km 22 5, ku),
 (kv 23 (.ixa (.t 21) (.t 22) 1), ku),
 (kl 24 23, ku)],
 [],
 [kv 25 (.bin .neq (.t 20) (.t 24))], none⟩])
 (.cond (.t 25)
 (.seq (.reg [kv 4 (.mov (.c (.lit (.bool false))))])
 .ret)
 .skip)))
 (.reg [km 15 5,
 kv 16 (.bin .add (.t 15) (.c (ki 1))),
 km 5 16]))))))
 (.seq (.reg [kv 4 (.mov (.c (.lit (.bool true))))])
 .ret))))
theorem h32 : FdOk Try.prog 32 ⟨g32, [.t 4], 26, [], false⟩ := .of Try.func32 (by simp [Try.f32]) (by kernel_rfl)
def g34 : RC :=
 (.seq (.reg [ko 4 (.new 23 [kz, kz])])
 (.seq (.reg [km 5 0,
 km 6 1,
 ko 7 (.bld [kz, kz] [(0, 1, (.t 5)), (1, 1, (.t 6))]),
 ⟨none, none, .o (.store 2 (.t 4) (.t 7))⟩])
 .ret))
theorem h34 : FdOk Try.prog 34 ⟨g34, [.c 4 (some 2)], 8, [], false⟩ := .of Try.func34 (by simp [Try.f34]) (by kernel_rfl)
def g40 : RC :=
 (.seq (.reg [ko 3 (.box 40 (.t 0)),
 ko 5 (.box 23 (.t 2)),
 ko 6 (.new 40 [kz, (.lit (.slice none 0 0)), (.lit (.slice none 0 0))])])
 (.seq (.reg [⟨(some 9), none, (.bs0 4)⟩,
 kf 10 3 2,
 kl 11 10,
 ko 12 (.app 66 4 32 (.t 9) (.t 11)),
 km 7 12])
 (.seq (.reg [km 13 7,
 km 14 1,
 kv 15 (.ixa (.t 13) (.t 14) 4),
 kv 16 (.load (.t 15) (some 4)),
 ko 8 (.new 66 [kz, kz, kz, kz]),
 ⟨none, none, .o (.store 4 (.t 8) (.t 16))⟩])
 (.seq (.reg [kv 17 (.load (.t 5) (some 2)),
 kf 18 8 2,
 ⟨none, none, .o (.store 2 (.t 18) (.t 17))⟩])
 (.seq (.reg [km 19 7,
 km 20 1,
 kv 21 (.load (.t 8) (some 4)),
 kv 22 (.ixa (.t 19) (.t 20) 4),
 ⟨none, none, .o (.store 4 (.t 22) (.t 21))⟩])
 (.seq (.reg [km 23 7,
 kf 24 3 2,
 ⟨none, none, .o (.store 1 (.t 24) (.t 23))⟩])
 (.seq (.reg [kv 25 (.load (.t 3) (some 3)),
 ⟨none, none, .o (.store 3 (.t 6) (.t 25))⟩])
 .ret)))))))
theorem h40 : FdOk Try.prog 40 ⟨g40, [.c 6 (some 3)], 26, [], false⟩ := .of Try.func40 (by simp [Try.f40]) (by kernel_rfl)
def g44 : RC :=
 (.seq (.reg [ko 0 (.new 40 [kz, (.lit (.slice none 0 0)), (.lit (.slice none 0 0))])])
 (.seq (.drw [⟨[0], 1, 0, [(⟨(some 1), none, .msl 4 1 [(.lit (.bool false))] (.c (ki 4)) (.c (ki 4))⟩, ku),
 (kc 2 (.c (.fn 34 [])) [(.c (ki 200000)), (.c (ki 200010))], ku),
 (ko 3 (.bld [kz, kz, kz, kz] [(0, 1, (.c kz)), (1, 1, (.c kz)), (2, 2, (.t 2))]), ku),
 (kc 4 (.c (.fn 34 [])) [(.c (ki 220000)), (.c (ki 220000))], ku),
 (ko 5 (.bld [kz, kz, kz, kz] [(0, 1, (.c kz)), (1, 1, (.c (ki 1))), (2, 2, (.t 4))]), ku),
 (kc 6 (.c (.fn 34 [])) [(.c (ki 227990)), (.c (ki 228005))], ku),
 (ko 7 (.bld [kz, kz, kz, kz] [(0, 1, (.c kz)), (1, 1, (.c (ki 2))), (2, 2, (.t 6))]), ku),
 (kc 8 (.c (.fn 34 [])) [(.c (ki 210000)), (.c (ki 210010))], ku),
 (ko 9 (.bld [kz, kz, kz, kz] [(0, 1, (.c (ki 1))), (1, 1, (.c kz)), (2, 2, (.t 8))]), ku),
 (kc 10 (.c (.fn 34 [])) [(.c (ki 218000)), (.c (ki 218000))], ku),
 (ko 11 (.bld [kz, kz, kz, kz] [(0, 1, (.c (ki 1))), (1, 1, (.c (ki 2))), (2, 2, (.t 10))]), ku),
 (kc 12 (.c (.fn 34 [])) [(.c (ki 220000)), (.c (ki 220005))], ku),
 (ko 13 (.bld [kz, kz, kz, kz] [(0, 1, (.c (ki 1))), (1, 1, (.c (ki 3))), (2, 2, (.t 12))]), ku),
 (ko 14 (.bsl 66 6 (List.replicate 24 kz) [(0, 4, (.t 3)), (4, 4, (.t 5)), (8, 4, (.t 7)), (12, 4, (.t 9)), (16, 4, (.t 11)), (20, 4, (.t 13))]), .cre 0)],
 [0],
 [ko 15 (.bld [kz, (.lit (.slice none 0 0)), (.lit (.slice none 0 0))] [(0, 1, (.c (ki 2))), (1, 1, (.t 1)), (2, 1, (.t 14))]),
 ⟨none, none, .o (.store 3 (.t 0) (.t 15))⟩], none⟩,
 ⟨[0], 0, 0, [(⟨(some 1), none, .msl 4 1 [(.lit (.bool false))] (.c (ki 4)) (.c (ki 4))⟩, ku),
 (kc 2 (.c (.fn 34 [])) [(.c (ki 200000)), (.c (ki 200010))], ku),
 (ko 3 (.bld [kz, kz, kz, kz] [(0, 1, (.c kz)), (1, 1, (.c kz)), (2, 2, (.t 2))]), ku),
 (kc 4 (.c (.fn 34 [])) [(.c (ki 220000)), (.c (ki 220000))], ku),
 (ko 5 (.bld [kz, kz, kz, kz] [(0, 1, (.c kz)), (1, 1, (.c (ki 1))), (2, 2, (.t 4))]), ku),
 (kc 6 (.c (.fn 34 [])) [(.c (ki 227990)), (.c (ki 228005))], ku),
 (ko 7 (.bld [kz, kz, kz, kz] [(0, 1, (.c kz)), (1, 1, (.c (ki 2))), (2, 2, (.t 6))]), ku),
 (kc 8 (.c (.fn 34 [])) [(.c (ki 210000)), (.c (ki 210010))], ku),
 (ko 9 (.bld [kz, kz, kz, kz] [(0, 1, (.c (ki 1))), (1, 1, (.c kz)), (2, 2, (.t 8))]), ku),
 (kc 10 (.c (.fn 34 [])) [(.c (ki 218000)), (.c (ki 218000))], ku),
 (ko 11 (.bld [kz, kz, kz, kz] [(0, 1, (.c (ki 1))), (1, 1, (.c (ki 2))), (2, 2, (.t 10))]), ku),
 (kc 12 (.c (.fn 34 [])) [(.c (ki 220000)), (.c (ki 220005))], ku),
 (ko 13 (.bld [kz, kz, kz, kz] [(0, 1, (.c (ki 1))), (1, 1, (.c (ki 3))), (2, 2, (.t 12))]), ku),
 (ko 14 (.bsl 66 6 (List.replicate 24 kz) [(0, 4, (.t 3)), (4, 4, (.t 5)), (8, 4, (.t 7)), (12, 4, (.t 9)), (16, 4, (.t 11)), (20, 4, (.t 13))]), ku)],
 [],
 [ko 15 (.bld [kz, (.lit (.slice none 0 0)), (.lit (.slice none 0 0))] [(0, 1, (.c (ki 2))), (1, 1, (.t 1)), (2, 1, (.t 14))]),
 ⟨none, none, .o (.store 3 (.t 0) (.t 15))⟩], none⟩])
 .ret))
theorem h44 : FdOk Try.prog 44 ⟨g44, [.c 0 (some 3)], 16, [], false⟩ := .of Try.func44 (by simp [Try.f44]) (by kernel_rfl)
def g45 : RC :=
 (.seq (.reg [ko 2 (.new 40 [kz, (.lit (.slice none 0 0)), (.lit (.slice none 0 0))])])
 (.seq (.reg [km 5 0,
 ko 6 (.bsl 4 4 [(.lit (.bool false)), (.lit (.bool false)), (.lit (.bool false)), (.lit (.bool false))] [(0, 1, (.t 5)), (1, 1, (.c (.lit (.bool false)))), (2, 1, (.c (.lit (.bool false)))), (3, 1, (.c (.lit (.bool false))))]),
 ko 7 (.bld [kz, (.lit (.slice none 0 0)), (.lit (.slice none 0 0))] [(0, 1, (.c (ki 3))), (1, 1, (.t 6))]),
 ko 3 (.new 40 [kz, (.lit (.slice none 0 0)), (.lit (.slice none 0 0))]),
 ⟨none, none, .o (.store 3 (.t 3) (.t 7))⟩])
 (.seq (.seq (.reg [kv 4 (.mov (.c kz))])
 (.block 0 (.loop
 (.seq (.seq (.reg [km 8 4,
 kv 9 (.bin .lss (.t 8) (.c (ki 3)))])
 (.cond (.t 9)
 .skip
 (.exit 0)))
 (.seq (.block 1 (.drw [⟨[], 1, 3, [(kf 12 3 2, ku),
 (kl 13 12, ku),
 (km 14 4, ku),
 (kc 15 (.c (.fn 34 [])) [(.c (ki 432000)), (.c (ki 432010))], .eff 0 []),
 (ko 16 (.bld [kz, kz, kz, kz] [(0, 1, (.t 14)), (1, 1, (.c kz)), (2, 2, (.t 15))]), .val 1 []),
 (km 17 4, ku),
 (km 18 4, ku),
 (kv 19 (.bin .add (.c (ki 1)) (.t 18)), ku),
 (kc 20 (.c (.fn 34 [])) [(.c (ki 107995)), (.c (ki 108005))], .eff 1 []),
 (ko 21 (.bld [kz, kz, kz, kz] [(0, 1, (.t 17)), (1, 1, (.t 19)), (2, 2, (.t 20))]), .val 2 []),
 (km 22 4, ku),
 (km 23 4, ku),
 (kv 24 (.bin .add (.t 23) (.c (ki 1))), ku),
 (kv 25 (.bin .rem (.t 24) (.c (ki 3))), ku),
 (kv 26 (.bin .add (.c (ki 1)) (.t 25)), ku),
 (kc 27 (.c (.fn 34 [])) [(.c (ki 107995)), (.c (ki 108005))], .eff 2 []),
 (ko 28 (.bld [kz, kz, kz, kz] [(0, 1, (.t 22)), (1, 1, (.t 26)), (2, 2, (.t 27))]), .val 3 []),
 (ko 29 (.bsl 66 3 [kz, kz, kz, kz, kz, kz, kz, kz, kz, kz, kz, kz] [(0, 4, (.t 16)), (4, 4, (.t 21)), (8, 4, (.t 28))]), .cre 0)],
 [0],
 [ko 30 (.app 66 4 32 (.t 13) (.t 29)),
 kf 31 3 2,
 ⟨none, none, .o (.store 1 (.t 31) (.t 30))⟩], none⟩]))
 (.reg [km 10 4,
 kv 11 (.bin .add (.t 10) (.c (ki 1))),
 km 4 11]))))))
 (.seq (.reg [kv 32 (.load (.t 3) (some 3)),
 ⟨none, none, .o (.store 3 (.t 2) (.t 32))⟩])
 .ret))))
theorem h45 : FdOk Try.prog 45 ⟨g45, [.c 2 (some 3)], 33, [], false⟩ := .of Try.func45 (by simp [Try.f45]) (by kernel_rfl)
def g46 : RC :=
 (.seq (.reg [ko 1 (.box 82 (.t 0)),
 kv 2 (.mov (.c (.lit (.bool false))))])
 (.seq (.reg [kf 3 1 0,
 kf 4 3 0,
 kl 5 4,
 kc 6 (.c (.fn 70 [])) [(.t 5)],
 km 7 6,
 ⟨(some 8), (some (7, true)), .o (.v (.off (.t 1) 0))⟩,
 ⟨(some 9), (some (7, true)), .o (.v (.off (.t 8) 1))⟩,
 ⟨(some 10), (some (7, true)), .o (.v (.load (.t 9) none))⟩,
 ⟨(some 11), (some (7, true)), .o (.call (.c (.fn 70 [])) [(.t 10)])⟩,
 kv 12 (.pick (.t 7) (.t 11) (.c (.lit (.bool false)))),
 km 13 12,
 ⟨(some 14), (some (13, true)), .o (.v (.off (.t 1) 0))⟩,
 ⟨(some 15), (some (13, true)), .o (.v (.off (.t 14) 2))⟩,
 ⟨(some 16), (some (13, true)), .o (.v (.load (.t 15) none))⟩,
 ⟨(some 17), (some (13, true)), .o (.call (.c (.fn 71 [])) [(.t 16), (.c (ki 1)), (.c (ki 100))])⟩,
 kv 18 (.pick (.t 13) (.t 17) (.c (.lit (.bool false)))),
 km 19 18,
 ⟨(some 20), (some (19, true)), .o (.v (.off (.t 1) 0))⟩,
 ⟨(some 21), (some (19, true)), .o (.v (.off (.t 20) 3))⟩,
 ⟨(some 22), (some (19, true)), .o (.v (.load (.t 21) (some 2)))⟩,
 ⟨(some 23), (some (19, true)), .o (.call (.c (.fn 72 [])) [(.t 22), (.c kz), (.c (ki 1295999))])⟩,
 kv 24 (.pick (.t 19) (.t 23) (.c (.lit (.bool false)))),
 km 25 24,
 ⟨(some 26), (some (25, true)), .o (.v (.off (.t 1) 0))⟩,
 ⟨(some 27), (some (25, true)), .o (.v (.off (.t 26) 5))⟩,
 ⟨(some 28), (some (25, true)), .o (.v (.load (.t 27) none))⟩,
 ⟨(some 29), (some (25, true)), .o (.call (.c (.fn 71 [])) [(.t 28), (.c kz), (.c (ki 10000))])⟩,
 kv 30 (.pick (.t 25) (.t 29) (.c (.lit (.bool false)))),
 km 2 30])
 .ret))
theorem h46 : FdOk Try.prog 46 ⟨g46, [.t 2], 31, [], false⟩ := .of Try.func46 (by simp [Try.f46]) (by kernel_rfl)
def g47 : RC :=
 (.seq (.reg [ko 1 (.box 82 (.t 0)),
 kv 2 (.mov (.c (.lit (.slice none 0 0))))])
 (.seq (.reg [kv 3 (.mov (.c (.lit (.slice none 0 0))))])
 (.seq (.reg [kf 8 1 0,
 kf 9 8 1,
 kl 10 9,
 kf 11 1 0,
 kf 12 11 0,
 kl 13 12,
 kv 14 (.bin .sub (.t 10) (.t 13)),
 kc 15 (.c (.fn 73 [])) [(.t 14)],
 km 4 15])
 (.seq (.seq (.reg [kf 16 1 0,
 kf 17 16 2,
 kl 18 17,
 kv 19 (.bin .add (.t 18) (.c (ki 2))),
 kv 20 (.mov (.c kz))])
 (.block 0 (.loop
 (.seq (.reg [kv 21 (.bin .lss (.t 20) (.t 19))])
 (.seq (.cond (.t 21)
 .skip
 (.exit 0))
 (.seq (.block 1 (.seq (.reg [km 22 20,
 km 5 22])
 (.seq (.reg [km 23 4,
 km 24 5,
 kv 25 (.bin .sub (.t 24) (.c (ki 1))),
 kv 26 (.bin .mul (.t 25) (.c (ki 1296000))),
 kv 27 (.bin .add (.t 23) (.t 26)),
 km 6 27])
 (.seq (.drw [⟨[], 0, 3, [(kf 28 1 0, ku),
 (kf 29 28 3, ku),
 (kv 30 (.load (.t 29) (some 2)), ku),
 (km 31 6, ku),
 (kf 32 1 0, ku),
 (kf 33 32 5, ku),
 (kl 34 33, ku),
 (kv 35 (.bin .mul (.c (ki 2)) (.t 34)), ku),
 (kv 36 (.bin .sub (.t 31) (.t 35)), ku),
 (kf 37 1 0, ku),
 (kf 38 37 2, ku),
 (kl 39 38, ku),
 (kc 40 (.c (.fn 75 [])) [(.t 36), (.t 39)], .eff 0 []),
 (km 41 6, ku),
 (kf 42 1 0, ku),
 (kf 43 42 5, ku),
 (kl 44 43, ku),
 (kv 45 (.bin .mul (.c (ki 2)) (.t 44)), ku),
 (kv 46 (.bin .add (.t 41) (.t 45)), ku),
 (kf 47 1 0, ku),
 (kf 48 47 2, ku),
 (kl 49 48, ku),
 (kc 50 (.c (.fn 76 [])) [(.t 46), (.t 49)], .eff 1 []),
 (ko 51 (.bld [kz, kz] [(0, 1, (.t 40)), (1, 1, (.t 50))]), .val 2 []),
 (kc 52 (.c (.fn 74 [])) [(.t 30), (.t 51)], .eff 2 [])],
 [],
 [ko 7 (.new 23 [kz, kz]),
 ⟨none, none, .o (.store 2 (.t 7) (.t 52))⟩], (some 7)⟩,
 ⟨[1, 6], 1, 0, [(kf 28 1 0, ku),
 (kf 29 28 3, ku),
 (kv 30 (.load (.t 29) (some 2)), ku),
 (km 31 6, ku),
 (kf 32 1 0, ku),
 (kf 33 32 5, ku),
 (kl 34 33, ku),
 (kv 35 (.bin .mul (.c (ki 2)) (.t 34)), ku),
 (kv 36 (.bin .sub (.t 31) (.t 35)), ku),
 (kf 37 1 0, ku),
 (kf 38 37 2, ku),
 (kl 39 38, ku),
 (kc 40 (.c (.fn 75 [])) [(.t 36), (.t 39)], ku),
 (km 41 6, ku),
 (kf 42 1 0, ku),
 (kf 43 42 5, ku),
 (kl 44 43, ku),
 (kv 45 (.bin .mul (.c (ki 2)) (.t 44)), ku),
 (kv 46 (.bin .add (.t 41) (.t 45)), ku),
 (kf 47 1 0, ku),
 (kf 48 47 2, ku),
 (kl 49 48, ku),
 (kc 50 (.c (.fn 76 [])) [(.t 46), (.t 49)], ku),
 (ko 51 (.bld [kz, kz] [(0, 1, (.t 40)), (1, 1, (.t 50))]), ku),
 (kc 52 (.c (.fn 74 [])) [(.t 30), (.t 51)], ku),
 (ko 7 (.new 23 [kz, kz]), .cre 0)],
 [0],
 [⟨none, none, .o (.store 2 (.t 7) (.t 52))⟩], none⟩])
 (.seq (.drw [⟨[], 0, 1, [(kv 53 (.load (.t 7) (some 2)), ku),
 (kc 54 (.c (.fn 54 [])) [], .eff 0 [])],
 [],
 [kv 55 (.eqs [(some .i64), (some .i64)] true (.t 53) (.t 54))], none⟩])
 (.cond (.t 55)
 (.reg [km 56 3,
 kv 57 (.load (.t 7) (some 2)),
 ko 58 (.bsl 23 1 [kz, kz] [(0, 2, (.t 57))]),
 ko 59 (.app 23 2 16 (.t 56) (.t 58)),
 km 3 59])
 .skip))))))
 (.reg [kv 60 (.bin .add (.t 20) (.c (ki 1))),
 km 20 60])))))))
 (.seq (.reg [km 61 3,
 km 2 61])
 .ret)))))
theorem h47 : FdOk Try.prog 47 ⟨g47, [.t 2], 62, [], false⟩ := .of Try.func47 (by simp [Try.f47]) (by kernel_rfl)
def g52 : RC :=
 (.seq (.reg [ko 1 (.box 87 (.t 0)),
 kv 2 (.mov (.c (.lit (.bool false))))])
 (.seq (.reg [kf 3 1 0,
 kf 4 3 0,
 kl 5 4,
 kc 6 (.c (.fn 70 [])) [(.t 5)],
 km 7 6,
 ⟨(some 8), (some (7, true)), .o (.v (.off (.t 1) 0))⟩,
 ⟨(some 9), (some (7, true)), .o (.v (.off (.t 8) 1))⟩,
 ⟨(some 10), (some (7, true)), .o (.v (.load (.t 9) none))⟩,
 ⟨(some 11), (some (7, true)), .o (.call (.c (.fn 70 [])) [(.t 10)])⟩,
 kv 12 (.pick (.t 7) (.t 11) (.c (.lit (.bool false)))),
 km 13 12,
 ⟨(some 14), (some (13, true)), .o (.v (.off (.t 1) 0))⟩,
 ⟨(some 15), (some (13, true)), .o (.v (.off (.t 14) 2))⟩,
 ⟨(some 16), (some (13, true)), .o (.v (.load (.t 15) none))⟩,
 ⟨(some 17), (some (13, true)), .o (.call (.c (.fn 71 [])) [(.t 16), (.c kz), (.c (ki 10000))])⟩,
 kv 18 (.pick (.t 13) (.t 17) (.c (.lit (.bool false)))),
 km 19 18,
 ⟨(some 20), (some (19, true)), .o (.v (.off (.t 1) 0))⟩,
 ⟨(some 21), (some (19, true)), .o (.v (.off (.t 20) 3))⟩,
 ⟨(some 22), (some (19, true)), .o (.v (.load (.t 21) none))⟩,
 ⟨(some 23), (some (19, true)), .o (.call (.c (.fn 71 [])) [(.t 22), (.c kz), (.c (ki 100000))])⟩,
 kv 24 (.pick (.t 19) (.t 23) (.c (.lit (.bool false)))),
 km 2 24])
 .ret))
theorem h52 : FdOk Try.prog 52 ⟨g52, [.t 2], 25, [], false⟩ := .of Try.func52 (by simp [Try.f52]) (by kernel_rfl)
def g53 : RC :=
 (.seq (.reg [ko 1 (.box 87 (.t 0)),
 ko 2 (.new 23 [kz, kz])])
 (.seq (.drw [⟨[], 0, 2, [(kv 4 (.load (.t 1) (some 4)), ku),
 (kc 5 (.c (.fn 77 [])) [(.t 4)], .eff 0 []),
 (kv 6 (.neg (.t 5)), .val 1 []),
 (kf 7 1 0, ku),
 (kf 8 7 2, ku),
 (kl 9 8, ku),
 (kv 10 (.bin .mul (.c (ki 2)) (.t 9)), ku),
 (kv 11 (.bin .sub (.t 6) (.t 10)), .val 1 []),
 (kv 12 (.load (.t 1) (some 4)), ku),
 (kc 13 (.c (.fn 77 [])) [(.t 12)], .eff 1 []),
 (kv 14 (.neg (.t 13)), .val 2 []),
 (kf 15 1 0, ku),
 (kf 16 15 2, ku),
 (kl 17 16, ku),
 (kv 18 (.bin .mul (.c (ki 2)) (.t 17)), ku),
 (kv 19 (.bin .add (.t 14) (.t 18)), .val 2 []),
 (ko 20 (.bld [kz, kz] [(0, 1, (.t 11)), (1, 1, (.t 19))]), .val 2 [])],
 [],
 [ko 3 (.new 23 [kz, kz]),
 ⟨none, none, .o (.store 2 (.t 3) (.t 20))⟩], (some 3)⟩,
 ⟨[1], 1, 0, [(kv 4 (.load (.t 1) (some 4)), ku),
 (kc 5 (.c (.fn 77 [])) [(.t 4)], ku),
 (kv 6 (.neg (.t 5)), ku),
 (kf 7 1 0, ku),
 (kf 8 7 2, ku),
 (kl 9 8, ku),
 (kv 10 (.bin .mul (.c (ki 2)) (.t 9)), ku),
 (kv 11 (.bin .sub (.t 6) (.t 10)), ku),
 (kv 12 (.load (.t 1) (some 4)), ku),
 (kc 13 (.c (.fn 77 [])) [(.t 12)], ku),
 (kv 14 (.neg (.t 13)), ku),
 (kf 15 1 0, ku),
 (kf 16 15 2, ku),
 (kl 17 16, ku),
 (kv 18 (.bin .mul (.c (ki 2)) (.t 17)), ku),
 (kv 19 (.bin .add (.t 14) (.t 18)), ku),
 (ko 20 (.bld [kz, kz] [(0, 1, (.t 11)), (1, 1, (.t 19))]), ku),
 (ko 3 (.new 23 [kz, kz]), .cre 0)],
 [0],
 [⟨none, none, .o (.store 2 (.t 3) (.t 20))⟩], none⟩])
 (.seq (.drw [⟨[], 0, 2, [(kf 21 1 0, ku),
 (kf 22 21 3, ku),
 (kl 23 22, ku),
 (kv 24 (.neg (.t 23)), ku),
 (kf 25 1 0, ku),
 (kf 26 25 3, ku),
 (kl 27 26, ku),
 (ko 28 (.bld [kz, kz] [(0, 1, (.t 24)), (1, 1, (.t 27))]), ku),
 (kf 29 3 0, ku),
 (kl 30 29, ku),
 (kc 31 (.c (.fn 75 [])) [(.t 30), (.c (ki 2))], .eff 0 []),
 (kf 32 3 1, ku),
 (kl 33 32, ku),
 (kc 34 (.c (.fn 76 [])) [(.t 33), (.c (ki 2))], .eff 1 []),
 (ko 35 (.bld [kz, kz] [(0, 1, (.t 31)), (1, 1, (.t 34))]), .val 2 [])],
 [],
 [kc 36 (.c (.fn 74 [])) [(.t 28), (.t 35)],
 ⟨none, none, .o (.store 2 (.t 2) (.t 36))⟩], none⟩])
 .ret)))
theorem h53 : FdOk Try.prog 53 ⟨g53, [.c 2 (some 2)], 37, [], false⟩ := .of Try.func53 (by simp [Try.f53]) (by kernel_rfl)
def g54 : RC :=
 (.seq (.reg [ko 0 (.new 23 [kz, kz])])
 (.seq (.reg [ko 1 (.bld [kz, kz] [(0, 1, (.c (ki 1))), (1, 1, (.c kz))]),
 ⟨none, none, .o (.store 2 (.t 0) (.t 1))⟩])
 .ret))
theorem h54 : FdOk Try.prog 54 ⟨g54, [.c 0 (some 2)], 2, [], false⟩ := .of Try.func54 (by simp [Try.f54]) (by kernel_rfl)
def g55 : RC :=
 (.seq (.reg [ko 2 (.box 87 (.t 0)),
 ko 3 (.box 23 (.t 1)),
 ko 4 (.new 23 [kz, kz])])
 (.seq (.drw [⟨[], 0, 2, [(kv 8 (.load (.t 2) (some 4)), ku),
 (kc 9 (.c (.fn 77 [])) [(.t 8)], .eff 0 []),
 (kv 10 (.neg (.t 9)), .val 1 []),
 (kc 11 (.c (.fn 76 [])) [(.t 10), (.c (ki 2))], .eff 1 []),
 (kf 12 3 0, ku),
 (kl 13 12, ku),
 (kv 14 (.max2 (.t 11) (.t 13)), .val 2 []),
 (kf 15 3 1, ku),
 (kl 16 15, ku)],
 [],
 [kv 17 (.min2 (.t 14) (.t 16)),
 km 5 17], none⟩])
 (.seq (.reg [kf 18 2 0,
 kf 19 18 0,
 kl 20 19,
 km 21 5,
 kv 22 (.bin .sub (.t 20) (.t 21)),
 kf 23 2 0,
 kf 24 23 2,
 kl 25 24,
 kv 26 (.bin .sub (.t 22) (.t 25)),
 kf 27 2 0,
 kf 28 27 0,
 kl 29 28,
 km 30 5,
 kv 31 (.bin .sub (.t 29) (.t 30)),
 kf 32 2 0,
 kf 33 32 2,
 kl 34 33,
 kv 35 (.bin .add (.t 31) (.t 34)),
 ko 36 (.bld [kz, kz] [(0, 1, (.t 26)), (1, 1, (.t 35))]),
 ko 6 (.new 23 [kz, kz]),
 ⟨none, none, .o (.store 2 (.t 6) (.t 36))⟩])
 (.seq (.drw [⟨[], 0, 2, [(kf 37 2 0, ku),
 (kf 38 37 0, ku),
 (kl 39 38, ku),
 (kv 40 (.load (.t 2) (some 4)), ku),
 (kc 41 (.c (.fn 77 [])) [(.t 40)], .eff 0 []),
 (kv 42 (.bin .add (.t 39) (.t 41)), .val 1 []),
 (km 43 5, ku),
 (kv 44 (.bin .add (.t 42) (.t 43)), .val 1 []),
 (kf 45 2 0, ku),
 (kf 46 45 2, ku),
 (kl 47 46, ku),
 (kv 48 (.bin .sub (.t 44) (.t 47)), .val 1 []),
 (kf 49 2 0, ku),
 (kf 50 49 0, ku),
 (kl 51 50, ku),
 (kv 52 (.load (.t 2) (some 4)), ku),
 (kc 53 (.c (.fn 77 [])) [(.t 52)], .eff 1 []),
 (kv 54 (.bin .add (.t 51) (.t 53)), .val 2 []),
 (km 55 5, ku),
 (kv 56 (.bin .add (.t 54) (.t 55)), .val 2 []),
 (kf 57 2 0, ku),
 (kf 58 57 2, ku),
 (kl 59 58, ku),
 (kv 60 (.bin .add (.t 56) (.t 59)), .val 2 []),
 (ko 61 (.bld [kz, kz] [(0, 1, (.t 48)), (1, 1, (.t 60))]), .val 2 [])],
 [],
 [ko 7 (.new 23 [kz, kz]),
 ⟨none, none, .o (.store 2 (.t 7) (.t 61))⟩], (some 7)⟩,
 ⟨[2, 5], 1, 0, [(kf 37 2 0, ku),
 (kf 38 37 0, ku),
 (kl 39 38, ku),
 (kv 40 (.load (.t 2) (some 4)), ku),
 (kc 41 (.c (.fn 77 [])) [(.t 40)], ku),
 (kv 42 (.bin .add (.t 39) (.t 41)), ku),
 (km 43 5, ku),
 (kv 44 (.bin .add (.t 42) (.t 43)), ku),
 (kf 45 2 0, ku),
 (kf 46 45 2, ku),
 (kl 47 46, ku),
 (kv 48 (.bin .sub (.t 44) (.t 47)), ku),
 (kf 49 2 0, ku),
 (kf 50 49 0, ku),
 (kl 51 50, ku),
 (kv 52 (.load (.t 2) (some 4)), ku),
 (kc 53 (.c (.fn 77 [])) [(.t 52)], ku),
 (kv 54 (.bin .add (.t 51) (.t 53)), ku),
 (km 55 5, ku),
 (kv 56 (.bin .add (.t 54) (.t 55)), ku),
 (kf 57 2 0, ku),
 (kf 58 57 2, ku),
 (kl 59 58, ku),
 (kv 60 (.bin .add (.t 56) (.t 59)), ku),
 (ko 61 (.bld [kz, kz] [(0, 1, (.t 48)), (1, 1, (.t 60))]), ku),
 (ko 7 (.new 23 [kz, kz]), .cre 0)],
 [0],
 [⟨none, none, .o (.store 2 (.t 7) (.t 61))⟩], none⟩])
 (.seq (.reg [kv 62 (.load (.t 6) (some 2)),
 kv 63 (.load (.t 7) (some 2)),
 kc 64 (.c (.fn 74 [])) [(.t 62), (.t 63)],
 ⟨none, none, .o (.store 2 (.t 4) (.t 64))⟩])
 .ret)))))
theorem h55 : FdOk Try.prog 55 ⟨g55, [.c 4 (some 2)], 65, [], false⟩ := .of Try.func55 (by simp [Try.f55]) (by kernel_rfl)
def g58 : RC :=
 (.seq (.reg [ko 1 (.box 92 (.t 0)),
 kv 2 (.mov (.c (.lit (.bool false))))])
 (.seq (.reg [kf 3 1 0,
 kf 4 3 0,
 kl 5 4,
 kc 6 (.c (.fn 71 [])) [(.t 5), (.c (ki 1)), (.c (ki 8))],
 km 7 6,
 ⟨(some 8), (some (7, true)), .o (.v (.off (.t 1) 0))⟩,
 ⟨(some 9), (some (7, true)), .o (.v (.off (.t 8) 1))⟩,
 ⟨(some 10), (some (7, true)), .o (.v (.load (.t 9) none))⟩,
 ⟨(some 11), (some (7, true)), .o (.v (.len (.t 10)))⟩,
 ⟨(some 12), (some (7, true)), .o (.call (.c (.fn 71 [])) [(.t 11), (.c (ki 1)), (.c (ki 8))])⟩,
 kv 13 (.pick (.t 7) (.t 12) (.c (.lit (.bool false)))),
 km 14 13,
 ⟨(some 15), (some (14, true)), .o (.v (.off (.t 1) 0))⟩,
 ⟨(some 16), (some (14, true)), .o (.v (.off (.t 15) 2))⟩,
 ⟨(some 17), (some (14, true)), .o (.v (.load (.t 16) none))⟩,
 ⟨(some 18), (some (14, true)), .o (.v (.len (.t 17)))⟩,
 ⟨(some 19), (some (14, true)), .o (.v (.off (.t 1) 0))⟩,
 ⟨(some 20), (some (14, true)), .o (.v (.off (.t 19) 0))⟩,
 ⟨(some 21), (some (14, true)), .o (.v (.load (.t 20) none))⟩,
 ⟨(some 22), (some (14, true)), .o (.v (.bin .mul (.c (ki 3)) (.t 21)))⟩,
 ⟨(some 23), (some (14, true)), .o (.v (.bin .eql (.t 18) (.t 22)))⟩,
 kv 24 (.pick (.t 14) (.t 23) (.c (.lit (.bool false)))),
 km 25 24,
 ⟨(some 26), (some (25, true)), .o (.v (.load (.t 1) (some 3)))⟩,
 ⟨(some 27), (some (25, true)), .o (.call (.c (.fn 79 [])) [(.t 26)])⟩,
 kv 28 (.pick (.t 25) (.t 27) (.c (.lit (.bool false)))),
 km 29 28,
 ⟨(some 30), (some (29, true)), .o (.v (.load (.t 1) (some 3)))⟩,
 ⟨(some 31), (some (29, true)), .o (.call (.c (.fn 80 [])) [(.t 30)])⟩,
 kv 32 (.pick (.t 29) (.t 31) (.c (.lit (.bool false)))),
 km 2 32])
 .ret))
theorem h58 : FdOk Try.prog 58 ⟨g58, [.t 2], 33, [], false⟩ := .of Try.func58 (by simp [Try.f58]) (by kernel_rfl)
def g60 : RC :=
 (.seq (.reg [ko 1 (.box 92 (.t 0)),
 ko 2 (.new 101 [kz, (.lit (.slice none 0 0)), (.lit (.slice none 0 0)), (.lit (.slice none 0 0)), kz, kz, kz, kz, kz, kz, kz, kz, kz, kz, kz, kz, kz, kz, kz, kz, kz, (.lit (.map none)), (.lit (.bool false)), (.lit (.bool false)), (.lit (.bool false)), (.lit (.bool false)), (.lit (.bool false)), (.lit (.bool false)), (.lit (.bool false)), (.lit (.bool false)), (.lit (.bool false)), (.lit (.bool false)), (.lit (.bool false)), (.lit (.bool false)), (.lit (.bool false)), (.lit (.bool false)), (.lit (.bool false)), (.lit (.bool false)), (.lit (.bool false))])])
 (.seq (.reg [kv 3 (.mov (.c (.lit (.slice none 0 0))))])
 (.seq (.seq (.reg [kf 6 1 0,
 kf 7 6 2,
 kl 8 7,
 kv 9 (.len (.t 8)),
 kv 10 (.mov (.c kz))])
 (.block 0 (.loop
 (.seq (.reg [kv 11 (.bin .lss (.t 10) (.t 9))])
 (.seq (.cond (.t 11)
 .skip
 (.exit 0))
 (.seq (.block 1 (.seq (.reg [kv 12 (.ixa (.t 8) (.t 10) 4),
 kv 13 (.load (.t 12) (some 4)),
 ko 5 (.new 66 [kz, kz, kz, kz]),
 ⟨none, none, .o (.store 4 (.t 5) (.t 13))⟩])
 (.reg [km 14 3,
 kf 15 5 2,
 kf 16 15 0,
 kl 17 16,
 ko 18 (.bsl 3 1 [kz] [(0, 1, (.t 17))]),
 ko 19 (.app 3 1 8 (.t 14) (.t 18)),
 km 3 19])))
 (.reg [kv 20 (.bin .add (.t 10) (.c (ki 1))),
 km 10 20])))))))
 (.seq (.reg [kv 21 (.load (.t 1) (some 3)),
 km 22 3,
 kc 23 (.c (.fn 81 [])) [(.t 21), (.t 22)],
 ⟨none, none, .o (.store 39 (.t 2) (.t 23))⟩])
 .ret))))
theorem h60 : FdOk Try.prog 60 ⟨g60, [.c 2 (some 39)], 24, [], false⟩ := .of Try.func60 (by simp [Try.f60]) (by kernel_rfl)
def g61 : RC :=
 (.seq (.reg [ko 1 (.box 101 (.t 0)),
 kv 2 (.mov (.c kz))])
 (.seq (.reg [kf 3 1 4,
 ⟨(some 4), none, .e1 (.sla 17 1) (.t 3)⟩,
 kc 5 (.c (.fn 82 [])) [(.c (.fn 83 [])), (.t 4)],
 km 2 5])
 .ret))
theorem h61 : FdOk Try.prog 61 ⟨g61, [.t 2], 6, [], false⟩ := .of Try.func61 (by simp [Try.f61]) (by kernel_rfl)
def g62 : RC :=
 (.seq (.reg [ko 1 (.box 101 (.t 0)),
 kv 2 (.mov (.c (.lit (.slice none 0 0))))])
 (.seq (.reg [kv 3 (.mov (.c (.lit (.slice none 0 0))))])
 (.seq (.seq (.reg [kf 5 1 0,
 kf 6 5 0,
 kf 7 6 2,
 kl 8 7,
 kv 9 (.len (.t 8)),
 kv 10 (.mov (.c kz))])
 (.block 0 (.loop
 (.seq (.reg [kv 11 (.bin .lss (.t 10) (.t 9))])
 (.seq (.cond (.t 11)
 .skip
 (.exit 0))
 (.seq (.block 1 (.seq (.reg [km 12 10,
 km 4 12])
 (.drw [⟨[], 1, 4, [(km 13 3, ku),
 (kv 14 (.load (.t 1) (some 39)), ku),
 (km 15 4, ku),
 (kc 16 (.c (.fn 85 [])) [], .eff 0 []),
 (kc 17 (.c (.fn 84 [])) [(.t 14), (.t 15), (.t 16)], .eff 1 []),
 (kv 18 (.load (.t 1) (some 39)), ku),
 (km 19 4, ku),
 (kc 20 (.c (.fn 86 [])) [], .eff 2 []),
 (kc 21 (.c (.fn 84 [])) [(.t 18), (.t 19), (.t 20)], .eff 3 []),
 (ko 22 (.bld [kz, kz] [(0, 1, (.t 17)), (1, 1, (.t 21))]), .val 4 []),
 (ko 23 (.bsl 23 1 [kz, kz] [(0, 2, (.t 22))]), .cre 0)],
 [0],
 [ko 24 (.app 23 2 16 (.t 13) (.t 23)),
 km 3 24], none⟩])))
 (.reg [kv 25 (.bin .add (.t 10) (.c (ki 1))),
 km 10 25])))))))
 (.seq (.reg [km 26 3,
 km 2 26])
 .ret))))
theorem h62 : FdOk Try.prog 62 ⟨g62, [.t 2], 27, [], false⟩ := .of Try.func62 (by simp [Try.f62]) (by kernel_rfl)
def g64 : RC :=
 (.seq (.reg [ko 2 (.box 92 (.t 0)),
 ko 3 (.box 50 (.t 1)),
 kv 4 (.mov (.c (.lit (.bool false))))])
 (.seq (.seq (.reg [kf 7 3 0,
 kl 8 7,
 kf 9 2 0,
 kf 10 9 0,
 kl 11 10,
 kc 12 (.c (.fn 89 [])) [(.t 8), (.t 11)],
 kv 13 (.not (.t 12)),
 km 14 13,
 ⟨(some 15), (some (14, false)), .o (.v (.off (.t 3) 1))⟩,
 ⟨(some 16), (some (14, false)), .o (.v (.load (.t 15) none))⟩,
 ⟨(some 17), (some (14, false)), .o (.v (.off (.t 2) 0))⟩,
 ⟨(some 18), (some (14, false)), .o (.v (.off (.t 17) 1))⟩,
 ⟨(some 19), (some (14, false)), .o (.v (.load (.t 18) none))⟩,
 ⟨(some 20), (some (14, false)), .o (.v (.len (.t 19)))⟩,
 ⟨(some 21), (some (14, false)), .o (.call (.c (.fn 89 [])) [(.t 16), (.t 20)])⟩,
 ⟨(some 22), (some (14, false)), .o (.v (.not (.t 21)))⟩,
 kv 23 (.pick (.t 14) (.c (.lit (.bool true))) (.t 22))])
 (.cond (.t 23)
 (.seq (.reg [kv 4 (.mov (.c (.lit (.bool false))))])
 .ret)
 .skip))
 (.seq (.seq (.reg [kf 24 3 1,
 kl 25 24,
 kv 26 (.len (.t 25)),
 kv 27 (.mov (.c kz))])
 (.block 0 (.loop
 (.seq (.reg [kv 28 (.bin .lss (.t 27) (.t 26))])
 (.seq (.cond (.t 28)
 .skip
 (.exit 0))
 (.seq (.block 1 (.seq (.reg [kv 29 (.ixa (.t 25) (.t 27) 1),
 kl 30 29,
 km 6 30])
 (.seq (.reg [kf 31 2 0,
 kf 32 31 1,
 kl 33 32,
 km 34 6,
 kv 35 (.ixa (.t 33) (.t 34) 1),
 kl 36 35,
 kv 37 (.not (.t 36))])
 (.cond (.t 37)
 (.seq (.reg [kv 4 (.mov (.c (.lit (.bool false))))])
 .ret)
 .skip))))
 (.reg [kv 38 (.bin .add (.t 27) (.c (ki 1))),
 km 27 38])))))))
 (.seq (.reg [kv 4 (.mov (.c (.lit (.bool true))))])
 .ret))))
theorem h64 : FdOk Try.prog 64 ⟨g64, [.t 4], 39, [], false⟩ := .of Try.func64 (by simp [Try.f64]) (by kernel_rfl)
def g65 : RC :=
 (.seq (.reg [ko 2 (.box 92 (.t 0)),
 ko 3 (.box 50 (.t 1)),
 kv 4 (.mov (.c (.lit (.bool false))))])
 (.seq (.reg [kv 5 (.mov (.c (.lit (.slice none 0 0)))),
 kv 6 (.mov (.c (.lit (.slice none 0 0))))])
 (.seq (.seq (.reg [kf 12 2 0,
 kf 13 12 2,
 kl 14 13,
 kv 15 (.len (.t 14)),
 kv 16 (.mov (.c kz))])
 (.block 0 (.loop
 (.seq (.reg [kv 17 (.bin .lss (.t 16) (.t 15))])
 (.seq (.cond (.t 17)
 .skip
 (.exit 0))
 (.seq (.block 1 (.seq (.reg [kv 18 (.ixa (.t 14) (.t 16) 4),
 kv 19 (.load (.t 18) (some 4)),
 ko 8 (.new 66 [kz, kz, kz, kz]),
 ⟨none, none, .o (.store 4 (.t 8) (.t 19))⟩])
 (.seq (.drw [⟨[], 0, 1, [(kf 20 3 0, ku),
 (kl 21 20, ku),
 (kf 22 8 0, ku),
 (kl 23 22, ku),
 (kc 24 (.c (.fn 90 [])) [(.t 21), (.t 23)], .eff 0 []),
 (kf 25 3 1, ku),
 (kl 26 25, ku),
 (kf 27 8 1, ku),
 (kl 28 27, ku)],
 [],
 [kc 29 (.c (.fn 90 [])) [(.t 26), (.t 28)],
 km 9 24,
 km 10 29], none⟩])
 (.seq (.seq (.reg [km 30 9,
 km 31 30,
 ⟨(some 32), (some (31, true)), .o (.v (.mov (.t 10)))⟩,
 ⟨(some 33), (some (31, true)), .o (.v (.not (.t 32)))⟩,
 kv 34 (.pick (.t 31) (.t 33) (.c (.lit (.bool false))))])
 (.cond (.t 34)
 (.reg [km 35 5,
 kf 36 8 2,
 kv 37 (.load (.t 36) (some 2)),
 ko 38 (.bsl 23 1 [kz, kz] [(0, 2, (.t 37))]),
 ko 39 (.app 23 2 16 (.t 35) (.t 38)),
 km 5 39])
 .skip))
 (.seq (.reg [km 40 10,
 km 41 40,
 ⟨(some 42), (some (41, true)), .o (.v (.mov (.t 9)))⟩,
 ⟨(some 43), (some (41, true)), .o (.v (.not (.t 42)))⟩,
 kv 44 (.pick (.t 41) (.t 43) (.c (.lit (.bool false))))])
 (.cond (.t 44)
 (.reg [km 45 6,
 kf 46 8 2,
 kv 47 (.load (.t 46) (some 2)),
 ko 48 (.bsl 23 1 [kz, kz] [(0, 2, (.t 47))]),
 ko 49 (.app 23 2 16 (.t 45) (.t 48)),
 km 6 49])
 .skip))))))
 (.reg [kv 50 (.bin .add (.t 16) (.c (ki 1))),
 km 16 50])))))))
 (.seq (.reg [kf 51 3 0,
 kl 52 51,
 kv 53 (.len (.t 52)),
 kv 54 (.bin .mul (.c (ki 648000)) (.t 53)),
 kf 55 3 1,
 kl 56 55,
 kv 57 (.len (.t 56)),
 kv 58 (.bin .mul (.c (ki 1296000)) (.t 57)),
 kv 59 (.bin .sub (.t 54) (.t 58)),
 km 11 59])
 (.seq (.seq (.reg [kf 60 3 2,
 kl 61 60])
 (.cond (.t 61)
 (.seq (.reg [kc 62 (.c (.fn 86 [])) [],
 kv 63 (.fld (.t 62) 0 none),
 km 64 5,
 kc 65 (.c (.fn 91 [])) [(.t 63), (.t 64)],
 kc 66 (.c (.fn 85 [])) [],
 kv 67 (.fld (.t 66) 0 none),
 km 68 6,
 kc 69 (.c (.fn 91 [])) [(.t 67), (.t 68)],
 kv 70 (.bin .sub (.t 65) (.t 69)),
 km 71 11,
 kv 72 (.bin .lss (.t 70) (.t 71)),
 km 4 72])
 .ret)
 .skip))
 (.seq (.reg [kc 73 (.c (.fn 85 [])) [],
 kv 74 (.fld (.t 73) 0 none),
 km 75 5,
 kc 76 (.c (.fn 91 [])) [(.t 74), (.t 75)],
 kc 77 (.c (.fn 86 [])) [],
 kv 78 (.fld (.t 77) 0 none),
 km 79 6,
 kc 80 (.c (.fn 91 [])) [(.t 78), (.t 79)],
 kv 81 (.bin .sub (.t 76) (.t 80)),
 km 82 11,
 kv 83 (.bin .gtr (.t 81) (.t 82)),
 km 4 83])
 .ret))))))
theorem h65 : FdOk Try.prog 65 ⟨g65, [.t 4], 84, [], false⟩ := .of Try.func65 (by simp [Try.f65]) (by kernel_rfl)
def g68 : RC :=
 (.seq (.reg [ko 1 (.box 92 (.t 0)),
 kv 2 (.mov (.c (.lit (.slice none 0 0))))])
 (.seq (.reg [kv 3 (.mov (.c (.lit (.slice none 0 0))))])
 (.seq (.seq (.reg [kf 5 1 0,
 kf 6 5 2,
 kl 7 6,
 kv 8 (.len (.t 7)),
 kv 9 (.mov (.c kz))])
 (.block 0 (.loop
 (.seq (.reg [kv 10 (.bin .lss (.t 9) (.t 8))])
 (.seq (.cond (.t 10)
 .skip
 (.exit 0))
 (.seq (.block 1 (.seq (.reg [km 11 9,
 km 4 11])
 (.seq (.reg [kv 12 (.load (.t 1) (some 3)),
 km 13 4,
 ko 14 (.bld [kz, kz] [(0, 1, (.c kz)), (1, 1, (.c (ki 648000)))]),
 kc 15 (.c (.fn 93 [])) [(.t 12), (.t 13), (.t 14)],
 kc 16 (.c (.fn 60 [])) [(.t 15)],
 kc 17 (.c (.fn 61 [])) [(.t 16)],
 kv 18 (.bin .eql (.t 17) (.c kz))])
 (.cond (.t 18)
 (.reg [km 19 3,
 km 20 4,
 ko 21 (.bsl 3 1 [kz] [(0, 1, (.t 20))]),
 ko 22 (.app 3 1 8 (.t 19) (.t 21)),
 km 3 22])
 .skip))))
 (.reg [kv 23 (.bin .add (.t 9) (.c (ki 1))),
 km 9 23])))))))
 (.seq (.reg [km 24 3,
 km 2 24])
 .ret))))
theorem h68 : FdOk Try.prog 68 ⟨g68, [.t 2], 25, [], false⟩ := .of Try.func68 (by simp [Try.f68]) (by kernel_rfl)
def g69 : RC :=
 (.seq (.reg [ko 1 (.box 101 (.t 0)),
 ko 2 (.new 50 [(.lit (.slice none 0 0)), (.lit (.slice none 0 0)), (.lit (.bool false))])])
 (.seq (.reg [kf 7 1 22,
 kv 8 (.ixarr (.t 7) (.c (ki 16)) 17 1),
 kl 9 8,
 kv 10 (.not (.t 9)),
 ko 11 (.bld [(.lit (.slice none 0 0)), (.lit (.slice none 0 0)), (.lit (.bool false))] [(2, 1, (.t 10))]),
 ko 3 (.new 50 [(.lit (.slice none 0 0)), (.lit (.slice none 0 0)), (.lit (.bool false))]),
 ⟨none, none, .o (.store 3 (.t 3) (.t 11))⟩])
 (.seq (.seq (.reg [kf 12 1 0,
 kf 13 12 0,
 kf 14 13 0,
 kl 15 14,
 kv 16 (.mov (.c kz))])
 (.block 0 (.loop
 (.seq (.reg [kv 17 (.bin .lss (.t 16) (.t 15))])
 (.seq (.cond (.t 17)
 .skip
 (.exit 0))
 (.seq (.block 1 (.seq (.reg [km 18 16,
 km 4 18])
 (.seq (.drw [⟨[], 0, 0, [(km 19 4, ku),
 (kf 20 1 22, ku),
 (kv 21 (.ixarr (.t 20) (.t 19) 17 1), ku),
 (kl 22 21, ku),
 (kf 23 3 2, ku),
 (kl 24 23, ku)],
 [],
 [kv 25 (.binb .eql (.t 22) (.t 24))], none⟩])
 (.cond (.t 25)
 (.reg [kf 26 3 0,
 kl 27 26,
 km 28 4,
 ko 29 (.bsl 3 1 [kz] [(0, 1, (.t 28))]),
 ko 30 (.app 3 1 8 (.t 27) (.t 29)),
 kf 31 3 0,
 ⟨none, none, .o (.store 1 (.t 31) (.t 30))⟩])
 .skip))))
 (.reg [kv 32 (.bin .add (.t 16) (.c (ki 1))),
 km 16 32])))))))
 (.seq (.seq (.reg [kf 33 1 0,
 kf 34 33 0,
 kf 35 34 1,
 kl 36 35,
 kv 37 (.len (.t 36)),
 kv 38 (.mov (.c kz))])
 (.block 2 (.loop
 (.seq (.reg [kv 39 (.bin .lss (.t 38) (.t 37))])
 (.seq (.cond (.t 39)
 .skip
 (.exit 2))
 (.seq (.block 3 (.seq (.reg [km 40 38,
 kv 41 (.ixa (.t 36) (.t 38) 1),
 kl 42 41,
 km 5 40,
 km 6 42])
 (.seq (.drw [⟨[], 0, 0, [(km 43 6, ku),
 (km 44 43, ku),
 (⟨(some 45), (some (44, true)), .o (.v (.mov (.t 5)))⟩, ku),
 (⟨(some 46), (some (44, true)), .o (.v (.bin .add (.c (ki 8)) (.t 45)))⟩, ku),
 (⟨(some 47), (some (44, true)), .o (.v (.off (.t 1) 22))⟩, ku),
 (⟨(some 48), (some (44, true)), .o (.v (.ixarr (.t 47) (.t 46) 17 1))⟩, ku),
 (⟨(some 49), (some (44, true)), .o (.v (.load (.t 48) none))⟩, ku),
 (⟨(some 50), (some (44, true)), .o (.v (.off (.t 3) 2))⟩, ku),
 (⟨(some 51), (some (44, true)), .o (.v (.load (.t 50) none))⟩, ku)],
 [],
 [⟨(some 52), (some (44, true)), .o (.v (.binb .eql (.t 49) (.t 51)))⟩,
 kv 53 (.pick (.t 44) (.t 52) (.c (.lit (.bool false))))], none⟩])
 (.cond (.t 53)
 (.reg [kf 54 3 1,
 kl 55 54,
 km 56 5,
 ko 57 (.bsl 3 1 [kz] [(0, 1, (.t 56))]),
 ko 58 (.app 3 1 8 (.t 55) (.t 57)),
 kf 59 3 1,
 ⟨none, none, .o (.store 1 (.t 59) (.t 58))⟩])
 .skip))))
 (.reg [kv 60 (.bin .add (.t 38) (.c (ki 1))),
 km 38 60])))))))
 (.seq (.reg [kv 61 (.load (.t 3) (some 3)),
 ⟨none, none, .o (.store 3 (.t 2) (.t 61))⟩])
 .ret)))))
theorem h69 : FdOk Try.prog 69 ⟨g69, [.c 2 (some 3)], 62, [], false⟩ := .of Try.func69 (by simp [Try.f69]) (by kernel_rfl)
def g70 : RC :=
 (.seq (.reg [kv 2 (.mov (.c (.lit (.bool false))))])
 (.seq (.reg [km 3 0,
 kc 4 (.c (.fn 71 [])) [(.t 3), (.c kz), (.c (ki 1295999))],
 km 2 4])
 .ret))
theorem h70 : FdOk Try.prog 70 ⟨g70, [.t 2], 5, [], false⟩ := .of Try.func70 (by simp [Try.f70]) (by kernel_rfl)
def g71 : RC :=
 (.seq (.reg [kv 6 (.mov (.c (.lit (.bool false))))])
 (.seq (.reg [km 7 1,
 km 8 0,
 kv 9 (.bin .leq (.t 7) (.t 8)),
 km 10 9,
 ⟨(some 11), (some (10, true)), .o (.v (.mov (.t 0)))⟩,
 ⟨(some 12), (some (10, true)), .o (.v (.mov (.t 2)))⟩,
 ⟨(some 13), (some (10, true)), .o (.v (.bin .leq (.t 11) (.t 12)))⟩,
 kv 14 (.pick (.t 10) (.t 13) (.c (.lit (.bool false)))),
 km 6 14])
 .ret))
theorem h71 : FdOk Try.prog 71 ⟨g71, [.t 6], 15, [], false⟩ := .of Try.func71 (by simp [Try.f71]) (by kernel_rfl)
def g72 : RC :=
 (.seq (.reg [ko 3 (.box 23 (.t 0)),
 kv 6 (.mov (.c (.lit (.bool false))))])
 (.seq (.reg [km 7 1,
 kf 8 3 0,
 kl 9 8,
 kv 10 (.bin .leq (.t 7) (.t 9)),
 km 11 10,
 ⟨(some 12), (some (11, true)), .o (.v (.off (.t 3) 0))⟩,
 ⟨(some 13), (some (11, true)), .o (.v (.load (.t 12) none))⟩,
 ⟨(some 14), (some (11, true)), .o (.v (.off (.t 3) 1))⟩,
 ⟨(some 15), (some (11, true)), .o (.v (.load (.t 14) none))⟩,
 ⟨(some 16), (some (11, true)), .o (.v (.bin .leq (.t 13) (.t 15)))⟩,
 kv 17 (.pick (.t 11) (.t 16) (.c (.lit (.bool false)))),
 km 18 17,
 ⟨(some 19), (some (18, true)), .o (.v (.off (.t 3) 1))⟩,
 ⟨(some 20), (some (18, true)), .o (.v (.load (.t 19) none))⟩,
 ⟨(some 21), (some (18, true)), .o (.v (.mov (.t 2)))⟩,
 ⟨(some 22), (some (18, true)), .o (.v (.bin .leq (.t 20) (.t 21)))⟩,
 kv 23 (.pick (.t 18) (.t 22) (.c (.lit (.bool false)))),
 km 6 23])
 .ret))
theorem h72 : FdOk Try.prog 72 ⟨g72, [.t 6], 24, [], false⟩ := .of Try.func72 (by simp [Try.f72]) (by kernel_rfl)
def g73 : RC :=
 (.seq (.reg [kv 2 (.mov (.c kz))])
 (.seq (.reg [km 3 0,
 km 4 0,
 kc 5 (.c (.fn 76 [])) [(.t 4), (.c (ki 1296000))],
 kv 6 (.bin .mul (.c (ki 1296000)) (.t 5)),
 kv 7 (.bin .sub (.t 3) (.t 6)),
 km 2 7])
 .ret))
theorem h73 : FdOk Try.prog 73 ⟨g73, [.t 2], 8, [], false⟩ := .of Try.func73 (by simp [Try.f73]) (by kernel_rfl)
def g74 : RC :=
 (.seq (.reg [ko 2 (.box 23 (.t 0)),
 ko 3 (.box 23 (.t 1)),
 ko 4 (.new 23 [kz, kz])])
 (.seq (.reg [kf 6 2 0,
 kl 7 6,
 kf 8 3 0,
 kl 9 8,
 kv 10 (.max2 (.t 7) (.t 9)),
 kf 11 2 1,
 kl 12 11,
 kf 13 3 1,
 kl 14 13,
 kv 15 (.min2 (.t 12) (.t 14)),
 ko 16 (.bld [kz, kz] [(0, 1, (.t 10)), (1, 1, (.t 15))]),
 ko 5 (.new 23 [kz, kz]),
 ⟨none, none, .o (.store 2 (.t 5) (.t 16))⟩])
 (.seq (.seq (.reg [kf 17 5 0,
 kl 18 17,
 kf 19 5 1,
 kl 20 19,
 kv 21 (.bin .gtr (.t 18) (.t 20))])
 (.cond (.t 21)
 (.seq (.reg [kc 22 (.c (.fn 54 [])) [],
 ⟨none, none, .o (.store 2 (.t 4) (.t 22))⟩])
 .ret)
 .skip))
 (.seq (.reg [kv 23 (.load (.t 5) (some 2)),
 ⟨none, none, .o (.store 2 (.t 4) (.t 23))⟩])
 .ret))))
theorem h74 : FdOk Try.prog 74 ⟨g74, [.c 4 (some 2)], 24, [], false⟩ := .of Try.func74 (by simp [Try.f74]) (by kernel_rfl)
def g75 : RC :=
 (.seq (.reg [kv 4 (.mov (.c kz))])
 (.seq (.reg [km 5 0,
 kv 6 (.neg (.t 5)),
 km 7 1,
 kc 8 (.c (.fn 76 [])) [(.t 6), (.t 7)],
 kv 9 (.neg (.t 8)),
 km 4 9])
 .ret))
theorem h75 : FdOk Try.prog 75 ⟨g75, [.t 4], 10, [], false⟩ := .of Try.func75 (by simp [Try.f75]) (by kernel_rfl)
def g76 : RC :=
 (.seq (.reg [kv 4 (.mov (.c kz))])
 (.seq (.reg [km 6 0,
 km 7 1,
 kv 8 (.bin .quo (.t 6) (.t 7)),
 km 5 8])
 (.seq (.seq (.reg [km 9 0,
 km 10 1,
 kv 11 (.bin .rem (.t 9) (.t 10)),
 kv 12 (.bin .lss (.t 11) (.c kz))])
 (.cond (.t 12)
 (.reg [km 13 5,
 kv 14 (.bin .sub (.t 13) (.c (ki 1))),
 km 5 14])
 .skip))
 (.seq (.reg [km 15 5,
 km 4 15])
 .ret))))
theorem h76 : FdOk Try.prog 76 ⟨g76, [.t 4], 16, [], false⟩ := .of Try.func76 (by simp [Try.f76]) (by kernel_rfl)
def g77 : RC :=
 (.seq (.reg [ko 1 (.box 87 (.t 0)),
 kv 2 (.mov (.c kz))])
 (.seq (.reg [kf 3 1 0,
 kf 4 3 1,
 kl 5 4,
 kf 6 1 0,
 kf 7 6 0,
 kl 8 7,
 kv 9 (.bin .sub (.t 5) (.t 8)),
 kc 10 (.c (.fn 73 [])) [(.t 9)],
 kv 11 (.bin .sub (.t 10) (.c (ki 648000))),
 km 2 11])
 .ret))
theorem h77 : FdOk Try.prog 77 ⟨g77, [.t 2], 12, [], false⟩ := .of Try.func77 (by simp [Try.f77]) (by kernel_rfl)
def g78 : RC :=
 (.seq (.reg [ko 2 (.box 92 (.t 0)),
 ko 4 (.new 96 (List.replicate 17 kz))])
 (.seq (.reg [ko 5 (.new 96 (List.replicate 17 kz))])
 (.seq (.seq (.reg [kf 11 2 0,
 kf 12 11 0,
 kl 13 12,
 kv 14 (.mov (.c kz))])
 (.block 0 (.loop
 (.seq (.reg [kv 15 (.bin .lss (.t 14) (.t 13))])
 (.seq (.cond (.t 15)
 .skip
 (.exit 0))
 (.seq (.block 1 (.seq (.reg [km 16 14,
 km 6 16])
 (.reg [km 17 6,
 kv 18 (.ixarr (.t 5) (.t 17) 17 1),
 ⟨none, none, .o (.store 1 (.t 18) (.c (ki 648000)))⟩])))
 (.reg [kv 19 (.bin .add (.t 14) (.c (ki 1))),
 km 14 19])))))))
 (.seq (.seq (.reg [kf 20 2 0,
 kf 21 20 1,
 kl 22 21,
 kv 23 (.len (.t 22)),
 kv 24 (.mov (.c kz))])
 (.block 2 (.loop
 (.seq (.reg [kv 25 (.bin .lss (.t 24) (.t 23))])
 (.seq (.cond (.t 25)
 .skip
 (.exit 2))
 (.seq (.block 3 (.seq (.reg [km 26 24,
 kv 27 (.ixa (.t 22) (.t 24) 1),
 kl 28 27,
 km 7 26,
 km 8 28])
 (.seq (.reg [km 29 8])
 (.cond (.t 29)
 (.reg [km 30 7,
 kv 31 (.bin .add (.c (ki 8)) (.t 30)),
 kv 32 (.ixarr (.t 5) (.t 31) 17 1),
 ⟨none, none, .o (.store 1 (.t 32) (.c (ki (-1296000))))⟩])
 .skip))))
 (.reg [kv 33 (.bin .add (.t 24) (.c (ki 1))),
 km 24 33])))))))
 (.seq (.reg [⟨(some 34), none, .e1 (.sla 17 1) (.t 5)⟩,
 kc 35 (.c (.fn 82 [])) [(.c (.fn 94 [])), (.t 34)],
 kv 36 (.neg (.t 35)),
 kv 37 (.ixarr (.t 5) (.c (ki 16)) 17 1),
 ⟨none, none, .o (.store 1 (.t 37) (.t 36))⟩])
 (.seq (.seq (.reg [km 38 1,
 kv 39 (.len (.t 38)),
 kv 40 (.mov (.c kz))])
 (.block 4 (.loop
 (.seq (.reg [kv 41 (.bin .lss (.t 40) (.t 39))])
 (.seq (.cond (.t 41)
 .skip
 (.exit 4))
 (.seq (.block 5 (.seq (.reg [km 42 40,
 kv 43 (.ixa (.t 38) (.t 40) 1),
 kl 44 43,
 km 9 42,
 km 10 44])
 (.seq (.reg [kv 45 (.load (.t 2) (some 3)),
 km 46 9,
 kc 47 (.c (.fn 95 [])) [(.t 45), (.t 46)],
 kv 48 (.ixarr (.t 5) (.t 47) 17 1),
 kl 49 48,
 km 50 10,
 kv 51 (.bin .sub (.t 49) (.t 50)),
 kv 52 (.ixarr (.t 5) (.t 47) 17 1),
 ⟨none, none, .o (.store 1 (.t 52) (.t 51))⟩])
 (.reg [kv 53 (.load (.t 2) (some 3)),
 km 54 9,
 kc 55 (.c (.fn 96 [])) [(.t 53), (.t 54)],
 kv 56 (.ixarr (.t 5) (.t 55) 17 1),
 kl 57 56,
 km 58 10,
 kv 59 (.bin .add (.t 57) (.t 58)),
 kv 60 (.ixarr (.t 5) (.t 55) 17 1),
 ⟨none, none, .o (.store 1 (.t 60) (.t 59))⟩]))))
 (.reg [kv 61 (.bin .add (.t 40) (.c (ki 1))),
 km 40 61])))))))
 (.seq (.reg [kv 62 (.load (.t 5) (some 17)),
 ⟨none, none, .o (.store 17 (.t 4) (.t 62))⟩])
 .ret)))))))
theorem h78 : FdOk Try.prog 78 ⟨g78, [.c 4 (some 17)], 63, [], false⟩ := .of Try.func78 (by simp [Try.f78]) (by kernel_rfl)
def g79 : RC :=
 (.seq (.reg [ko 1 (.box 92 (.t 0)),
 kv 2 (.mov (.c (.lit (.bool false))))])
 (.seq (.seq (.reg [kf 5 1 0,
 kf 6 5 2,
 kl 7 6,
 kv 8 (.len (.t 7)),
 kv 9 (.mov (.c kz))])
 (.block 0 (.loop
 (.seq (.reg [kv 10 (.bin .lss (.t 9) (.t 8))])
 (.seq (.cond (.t 10)
 .skip
 (.exit 0))
 (.seq (.block 1 (.seq (.reg [kv 11 (.ixa (.t 7) (.t 9) 4),
 kv 12 (.load (.t 11) (some 4)),
 ko 4 (.new 66 [kz, kz, kz, kz]),
 ⟨none, none, .o (.store 4 (.t 4) (.t 12))⟩])
 (.seq (.seq (.reg [kf 13 4 0,
 kl 14 13,
 kf 15 1 0,
 kf 16 15 0,
 kl 17 16,
 kv 18 (.bin .sub (.t 17) (.c (ki 1))),
 kc 19 (.c (.fn 71 [])) [(.t 14), (.c kz), (.t 18)],
 kv 20 (.not (.t 19)),
 km 21 20,
 ⟨(some 22), (some (21, false)), .o (.v (.off (.t 4) 1))⟩,
 ⟨(some 23), (some (21, false)), .o (.v (.load (.t 22) none))⟩,
 ⟨(some 24), (some (21, false)), .o (.v (.off (.t 1) 0))⟩,
 ⟨(some 25), (some (21, false)), .o (.v (.off (.t 24) 1))⟩,
 ⟨(some 26), (some (21, false)), .o (.v (.load (.t 25) none))⟩,
 ⟨(some 27), (some (21, false)), .o (.v (.len (.t 26)))⟩,
 ⟨(some 28), (some (21, false)), .o (.v (.bin .sub (.t 27) (.c (ki 1))))⟩,
 ⟨(some 29), (some (21, false)), .o (.call (.c (.fn 71 [])) [(.t 23), (.c kz), (.t 28)])⟩,
 ⟨(some 30), (some (21, false)), .o (.v (.not (.t 29)))⟩,
 kv 31 (.pick (.t 21) (.c (.lit (.bool true))) (.t 30))])
 (.cond (.t 31)
 (.seq (.reg [kv 2 (.mov (.c (.lit (.bool false))))])
 .ret)
 .skip))
 (.seq (.reg [kf 32 4 2,
 kv 33 (.load (.t 32) (some 2)),
 kc 34 (.c (.fn 72 [])) [(.t 33), (.c kz), (.c (ki 648000))],
 kv 35 (.not (.t 34))])
 (.cond (.t 35)
 (.seq (.reg [kv 2 (.mov (.c (.lit (.bool false))))])
 .ret)
 .skip)))))
 (.reg [kv 36 (.bin .add (.t 9) (.c (ki 1))),
 km 9 36])))))))
 (.seq (.reg [kv 2 (.mov (.c (.lit (.bool true))))])
 .ret)))
theorem h79 : FdOk Try.prog 79 ⟨g79, [.t 2], 37, [], false⟩ := .of Try.func79 (by simp [Try.f79]) (by kernel_rfl)
def g80 : RC :=
 (.seq (.reg [ko 1 (.box 92 (.t 0)),
 kv 2 (.mov (.c (.lit (.bool false))))])
 (.seq (.reg [kv 3 (.mov (.c (.lit (.slice none 0 0))))])
 (.seq (.reg [ko 4 (.new 127 [kz, kz, kz, kz, kz, kz, kz, kz])])
 (.seq (.seq (.reg [kf 8 1 0,
 kf 9 8 2,
 kl 10 9,
 kv 11 (.len (.t 10)),
 kv 12 (.mov (.c kz))])
 (.block 0 (.loop
 (.seq (.reg [kv 13 (.bin .lss (.t 12) (.t 11))])
 (.seq (.cond (.t 13)
 .skip
 (.exit 0))
 (.seq (.block 1 (.seq (.reg [kv 14 (.ixa (.t 10) (.t 12) 4),
 kv 15 (.load (.t 14) (some 4)),
 ko 6 (.new 66 [kz, kz, kz, kz]),
 ⟨none, none, .o (.store 4 (.t 6) (.t 15))⟩])
 (.seq (.reg [ko 16 (.bld [kz, kz] []),
 kf 17 6 2,
 ⟨none, none, .o (.store 2 (.t 17) (.t 16))⟩])
 (.seq (.seq (.reg [km 18 3,
 kv 19 (.load (.t 6) (some 4)),
 kc 20 (.c (.fn 97 [])) [(.t 18), (.t 19)]])
 (.cond (.t 20)
 (.seq (.reg [kv 2 (.mov (.c (.lit (.bool false))))])
 .ret)
 .skip))
 (.seq (.reg [km 21 3,
 kv 22 (.load (.t 6) (some 4)),
 ko 23 (.bsl 66 1 [kz, kz, kz, kz] [(0, 4, (.t 22))]),
 ko 24 (.app 66 4 32 (.t 21) (.t 23)),
 km 3 24])
 (.reg [kf 25 6 0,
 kl 26 25,
 kv 27 (.ixarr (.t 4) (.t 26) 8 1),
 kl 28 27,
 kv 29 (.bin .add (.t 28) (.c (ki 1))),
 kv 30 (.ixarr (.t 4) (.t 26) 8 1),
 ⟨none, none, .o (.store 1 (.t 30) (.t 29))⟩]))))))
 (.reg [kv 31 (.bin .add (.t 12) (.c (ki 1))),
 km 12 31])))))))
 (.seq (.seq (.reg [kf 32 1 0,
 kf 33 32 0,
 kl 34 33,
 kv 35 (.mov (.c kz))])
 (.block 2 (.loop
 (.seq (.reg [kv 36 (.bin .lss (.t 35) (.t 34))])
 (.seq (.cond (.t 36)
 .skip
 (.exit 2))
 (.seq (.block 3 (.seq (.reg [km 37 35,
 km 7 37])
 (.seq (.reg [km 38 7,
 kv 39 (.ixarr (.t 4) (.t 38) 8 1),
 kl 40 39,
 kv 41 (.bin .neq (.t 40) (.c (ki 3)))])
 (.cond (.t 41)
 (.seq (.reg [kv 2 (.mov (.c (.lit (.bool false))))])
 .ret)
 .skip))))
 (.reg [kv 42 (.bin .add (.t 35) (.c (ki 1))),
 km 35 42])))))))
 (.seq (.reg [kv 2 (.mov (.c (.lit (.bool true))))])
 .ret))))))
theorem h80 : FdOk Try.prog 80 ⟨g80, [.t 2], 43, [], false⟩ := .of Try.func80 (by simp [Try.f80]) (by kernel_rfl)
def g81 : RC :=
 (.seq (.reg [ko 2 (.box 92 (.t 0)),
 ko 4 (.new 101 [kz, (.lit (.slice none 0 0)), (.lit (.slice none 0 0)), (.lit (.slice none 0 0)), kz, kz, kz, kz, kz, kz, kz, kz, kz, kz, kz, kz, kz, kz, kz, kz, kz, (.lit (.map none)), (.lit (.bool false)), (.lit (.bool false)), (.lit (.bool false)), (.lit (.bool false)), (.lit (.bool false)), (.lit (.bool false)), (.lit (.bool false)), (.lit (.bool false)), (.lit (.bool false)), (.lit (.bool false)), (.lit (.bool false)), (.lit (.bool false)), (.lit (.bool false)), (.lit (.bool false)), (.lit (.bool false)), (.lit (.bool false)), (.lit (.bool false))])])
 (.seq (.drw [⟨[], 0, 2, [(kv 6 (.load (.t 2) (some 3)), ku),
 (km 7 1, ku),
 (kv 8 (.load (.t 2) (some 3)), ku),
 (km 9 1, ku),
 (kc 10 (.c (.fn 78 [])) [(.t 8), (.t 9)], .eff 0 []),
 (kv 11 (.load (.t 2) (some 3)), ku),
 (kc 12 (.c (.fn 98 [])) [(.t 11)], .eff 1 []),
 (ko 13 (.bld [kz, (.lit (.slice none 0 0)), (.lit (.slice none 0 0)), (.lit (.slice none 0 0)), kz, kz, kz, kz, kz, kz, kz, kz, kz, kz, kz, kz, kz, kz, kz, kz, kz, (.lit (.map none)), (.lit (.bool false)), (.lit (.bool false)), (.lit (.bool false)), (.lit (.bool false)), (.lit (.bool false)), (.lit (.bool false)), (.lit (.bool false)), (.lit (.bool false)), (.lit (.bool false)), (.lit (.bool false)), (.lit (.bool false)), (.lit (.bool false)), (.lit (.bool false)), (.lit (.bool false)), (.lit (.bool false)), (.lit (.bool false)), (.lit (.bool false))] [(0, 3, (.t 6)), (3, 1, (.t 7)), (4, 17, (.t 10)), (21, 1, (.t 12))]), .val 2 [])],
 [],
 [ko 5 (.new 101 [kz, (.lit (.slice none 0 0)), (.lit (.slice none 0 0)), (.lit (.slice none 0 0)), kz, kz, kz, kz, kz, kz, kz, kz, kz, kz, kz, kz, kz, kz, kz, kz, kz, (.lit (.map none)), (.lit (.bool false)), (.lit (.bool false)), (.lit (.bool false)), (.lit (.bool false)), (.lit (.bool false)), (.lit (.bool false)), (.lit (.bool false)), (.lit (.bool false)), (.lit (.bool false)), (.lit (.bool false)), (.lit (.bool false)), (.lit (.bool false)), (.lit (.bool false)), (.lit (.bool false)), (.lit (.bool false)), (.lit (.bool false)), (.lit (.bool false))]),
 ⟨none, none, .o (.store 39 (.t 5) (.t 13))⟩], (some 5)⟩,
 ⟨[2, 1], 1, 0, [(kv 6 (.load (.t 2) (some 3)), ku),
 (km 7 1, ku),
 (kv 8 (.load (.t 2) (some 3)), ku),
 (km 9 1, ku),
 (kc 10 (.c (.fn 78 [])) [(.t 8), (.t 9)], ku),
 (kv 11 (.load (.t 2) (some 3)), ku),
 (kc 12 (.c (.fn 98 [])) [(.t 11)], ku),
 (ko 13 (.bld [kz, (.lit (.slice none 0 0)), (.lit (.slice none 0 0)), (.lit (.slice none 0 0)), kz, kz, kz, kz, kz, kz, kz, kz, kz, kz, kz, kz, kz, kz, kz, kz, kz, (.lit (.map none)), (.lit (.bool false)), (.lit (.bool false)), (.lit (.bool false)), (.lit (.bool false)), (.lit (.bool false)), (.lit (.bool false)), (.lit (.bool false)), (.lit (.bool false)), (.lit (.bool false)), (.lit (.bool false)), (.lit (.bool false)), (.lit (.bool false)), (.lit (.bool false)), (.lit (.bool false)), (.lit (.bool false)), (.lit (.bool false)), (.lit (.bool false))] [(0, 3, (.t 6)), (3, 1, (.t 7)), (4, 17, (.t 10)), (21, 1, (.t 12))]), ku),
 (ko 5 (.new 101 [kz, (.lit (.slice none 0 0)), (.lit (.slice none 0 0)), (.lit (.slice none 0 0)), kz, kz, kz, kz, kz, kz, kz, kz, kz, kz, kz, kz, kz, kz, kz, kz, kz, (.lit (.map none)), (.lit (.bool false)), (.lit (.bool false)), (.lit (.bool false)), (.lit (.bool false)), (.lit (.bool false)), (.lit (.bool false)), (.lit (.bool false)), (.lit (.bool false)), (.lit (.bool false)), (.lit (.bool false)), (.lit (.bool false)), (.lit (.bool false)), (.lit (.bool false)), (.lit (.bool false)), (.lit (.bool false)), (.lit (.bool false)), (.lit (.bool false))]), .cre 0)],
 [0],
 [⟨none, none, .o (.store 39 (.t 5) (.t 13))⟩], none⟩])
 (.seq (.reg [kc 14 (.c (.fn 99 [])) [(.t 5)]])
 (.seq (.reg [kv 15 (.load (.t 5) (some 39)),
 ⟨none, none, .o (.store 39 (.t 4) (.t 15))⟩])
 .ret))))
theorem h81 : FdOk Try.prog 81 ⟨g81, [.c 4 (some 39)], 16, [], false⟩ := .of Try.func81 (by simp [Try.f81]) (by kernel_rfl)
def g82 : RC :=
 (.seq (.reg [kv 4 (.mov (.c kz))])
 (.seq (.reg [kv 5 (.mov (.c kz))])
 (.seq (.seq (.reg [km 8 1,
 kv 9 (.len (.t 8)),
 kv 10 (.mov (.c kz))])
 (.block 0 (.loop
 (.seq (.reg [kv 11 (.bin .lss (.t 10) (.t 9))])
 (.seq (.cond (.t 11)
 .skip
 (.exit 0))
 (.seq (.block 1 (.seq (.reg [kv 12 (.ixa (.t 8) (.t 10) 1),
 kl 13 12,
 km 7 13])
 (.reg [km 14 5,
 km 15 0,
 km 16 7,
 kc 17 (.t 15) [(.t 16)],
 kv 18 (.bin .add (.t 14) (.t 17)),
 km 5 18])))
 (.reg [kv 19 (.bin .add (.t 10) (.c (ki 1))),
 km 10 19])))))))
 (.seq (.reg [km 20 5,
 km 4 20])
 .ret))))
theorem h82 : FdOk Try.prog 82 ⟨g82, [.t 4], 21, [], true⟩ := .of Try.func82 (by simp [Try.f82]) (by kernel_rfl)
def g83 : RC :=
 (.seq (.reg [kv 2 (.mov (.c kz))])
 (.seq (.reg [km 3 0,
 kv 4 (.max2 (.t 3) (.c kz)),
 km 2 4])
 .ret))
theorem h83 : FdOk Try.prog 83 ⟨g83, [.t 2], 5, [], false⟩ := .of Try.func83 (by simp [Try.f83]) (by kernel_rfl)
def g84 : RC :=
 (.seq (.reg [ko 3 (.box 101 (.t 0)),
 ko 5 (.box 121 (.t 2)),
 kv 6 (.mov (.c kz))])
 (.seq (.drw [⟨[], 0, 0, [(kf 10 5 0, ku),
 (kl 11 10, ku),
 (kf 12 3 0, ku),
 (kf 13 12 0, ku),
 (kf 14 13 2, ku),
 (kl 15 14, ku),
 (km 16 1, ku),
 (kv 17 (.ixa (.t 15) (.t 16) 4), ku),
 (kf 18 17 2, ku),
 (kv 19 (.load (.t 18) (some 2)), ku)],
 [],
 [kc 20 (.t 11) [(.t 19)],
 km 7 20], none⟩])
 (.seq (.reg [kf 21 3 3,
 kl 22 21,
 kc 23 (.c (.fn 100 [])) [(.t 22)],
 km 8 23])
 (.seq (.reg [km 24 8,
 km 25 1,
 km 26 7,
 kv 27 (.ixa (.t 24) (.t 25) 1),
 ⟨none, none, .o (.store 1 (.t 27) (.t 26))⟩])
 (.seq (.reg [kf 28 3 0,
 kv 29 (.load (.t 28) (some 3)),
 km 30 1,
 km 31 7,
 km 32 7,
 ko 33 (.bld [kz, kz] [(0, 1, (.t 31)), (1, 1, (.t 32))]),
 kc 34 (.c (.fn 93 [])) [(.t 29), (.t 30), (.t 33)],
 km 35 8,
 kc 36 (.c (.fn 81 [])) [(.t 34), (.t 35)],
 ko 9 (.new 101 [kz, (.lit (.slice none 0 0)), (.lit (.slice none 0 0)), (.lit (.slice none 0 0)), kz, kz, kz, kz, kz, kz, kz, kz, kz, kz, kz, kz, kz, kz, kz, kz, kz, (.lit (.map none)), (.lit (.bool false)), (.lit (.bool false)), (.lit (.bool false)), (.lit (.bool false)), (.lit (.bool false)), (.lit (.bool false)), (.lit (.bool false)), (.lit (.bool false)), (.lit (.bool false)), (.lit (.bool false)), (.lit (.bool false)), (.lit (.bool false)), (.lit (.bool false)), (.lit (.bool false)), (.lit (.bool false)), (.lit (.bool false)), (.lit (.bool false))]),
 ⟨none, none, .o (.store 39 (.t 9) (.t 36))⟩])
 (.seq (.drw [⟨[], 0, 1, [(km 37 7, ku),
 (kf 38 5 1, ku),
 (kl 39 38, ku),
 (kv 40 (.load (.t 9) (some 39)), ku),
 (kc 41 (.c (.fn 61 [])) [(.t 40)], .eff 0 []),
 (kv 42 (.bin .mul (.t 39) (.t 41)), .val 1 [])],
 [],
 [kv 43 (.bin .add (.t 37) (.t 42)),
 km 6 43], none⟩])
 .ret))))))
theorem h84 : FdOk Try.prog 84 ⟨g84, [.t 6], 44, [], false⟩ := .of Try.func84 (by simp [Try.f84]) (by kernel_rfl)
def g85 : RC :=
 (.seq (.reg [ko 0 (.new 121 [(.lit .nilFunc), kz])])
 (.seq (.reg [ko 1 (.bld [(.lit .nilFunc), kz] [(0, 1, (.c (.fn 101 []))), (1, 1, (.c (ki 1)))]),
 ⟨none, none, .o (.store 2 (.t 0) (.t 1))⟩])
 .ret))
theorem h85 : FdOk Try.prog 85 ⟨g85, [.c 0 (some 2)], 2, [], false⟩ := .of Try.func85 (by simp [Try.f85]) (by kernel_rfl)
def g86 : RC :=
 (.seq (.reg [ko 0 (.new 121 [(.lit .nilFunc), kz])])
 (.seq (.reg [ko 1 (.bld [(.lit .nilFunc), kz] [(0, 1, (.c (.fn 102 []))), (1, 1, (.c (ki (-1))))]),
 ⟨none, none, .o (.store 2 (.t 0) (.t 1))⟩])
 .ret))
theorem h86 : FdOk Try.prog 86 ⟨g86, [.c 0 (some 2)], 2, [], false⟩ := .of Try.func86 (by simp [Try.f86]) (by kernel_rfl)
def g89 : RC :=
 (.seq (.reg [kv 4 (.mov (.c (.lit (.bool false))))])
 (.seq (.seq (.reg [km 7 0,
 kv 8 (.len (.t 7)),
 kv 9 (.mov (.c kz))])
 (.block 0 (.loop
 (.seq (.reg [kv 10 (.bin .lss (.t 9) (.t 8))])
 (.seq (.cond (.t 10)
 .skip
 (.exit 0))
 (.seq (.block 1 (.seq (.reg [km 11 9,
 kv 12 (.ixa (.t 7) (.t 9) 1),
 kl 13 12,
 km 5 11,
 km 6 13])
 (.seq (.reg [km 14 6,
 km 15 1,
 kv 16 (.bin .sub (.t 15) (.c (ki 1))),
 kc 17 (.c (.fn 71 [])) [(.t 14), (.c kz), (.t 16)],
 kv 18 (.not (.t 17)),
 km 19 18,
 ⟨(some 20), (some (19, false)), .o (.v (.mov (.t 5)))⟩,
 ⟨(some 21), (some (19, false)), .o (.v (.bin .gtr (.t 20) (.c kz)))⟩,
 ⟨(some 22), (some (19, false)), .o (.v (.mov (.t 21)))⟩,
 ⟨(some 23), (some (22, true)), .o (.v (.mov (.t 6)))⟩,
 ⟨(some 24), (some (22, true)), .o (.v (.mov (.t 0)))⟩,
 ⟨(some 25), (some (22, true)), .o (.v (.mov (.t 5)))⟩,
 ⟨(some 26), (some (22, true)), .o (.v (.bin .sub (.t 25) (.c (ki 1))))⟩,
 ⟨(some 27), (some (22, true)), .o (.v (.ixa (.t 24) (.t 26) 1))⟩,
 ⟨(some 28), (some (22, true)), .o (.v (.load (.t 27) none))⟩,
 ⟨(some 29), (some (22, true)), .o (.v (.bin .leq (.t 23) (.t 28)))⟩,
 ⟨(some 30), (some (19, false)), .o (.v (.pick (.t 22) (.t 29) (.c (.lit (.bool false)))))⟩,
 kv 31 (.pick (.t 19) (.c (.lit (.bool true))) (.t 30))])
 (.cond (.t 31)
 (.seq (.reg [kv 4 (.mov (.c (.lit (.bool false))))])
 .ret)
 .skip))))
 (.reg [kv 32 (.bin .add (.t 9) (.c (ki 1))),
 km 9 32])))))))
 (.seq (.reg [kv 4 (.mov (.c (.lit (.bool true))))])
 .ret)))
theorem h89 : FdOk Try.prog 89 ⟨g89, [.t 4], 33, [], false⟩ := .of Try.func89 (by simp [Try.f89]) (by kernel_rfl)
def g90 : RC :=
 (.seq (.reg [kv 4 (.mov (.c (.lit (.bool false))))])
 (.seq (.reg [km 5 0,
 km 6 1,
 kc 7 (.c (.fn 103 [])) [(.t 5), (.t 6)],
 kv 8 (.bin .geq (.t 7) (.c kz)),
 km 4 8])
 .ret))
theorem h90 : FdOk Try.prog 90 ⟨g90, [.t 4], 9, [], false⟩ := .of Try.func90 (by simp [Try.f90]) (by kernel_rfl)
def g91 : RC :=
 (.seq (.reg [kv 4 (.mov (.c kz))])
 (.seq (.reg [kv 5 (.mov (.c kz))])
 (.seq (.seq (.reg [km 8 1,
 kv 9 (.len (.t 8)),
 kv 10 (.mov (.c kz))])
 (.block 0 (.loop
 (.seq (.reg [kv 11 (.bin .lss (.t 10) (.t 9))])
 (.seq (.cond (.t 11)
 .skip
 (.exit 0))
 (.seq (.block 1 (.seq (.reg [kv 12 (.ixa (.t 8) (.t 10) 2),
 kv 13 (.load (.t 12) (some 2)),
 ko 7 (.new 23 [kz, kz]),
 ⟨none, none, .o (.store 2 (.t 7) (.t 13))⟩])
 (.reg [km 14 5,
 km 15 0,
 kv 16 (.load (.t 7) (some 2)),
 kc 17 (.t 15) [(.t 16)],
 kv 18 (.bin .add (.t 14) (.t 17)),
 km 5 18])))
 (.reg [kv 19 (.bin .add (.t 10) (.c (ki 1))),
 km 10 19])))))))
 (.seq (.reg [km 20 5,
 km 4 20])
 .ret))))
theorem h91 : FdOk Try.prog 91 ⟨g91, [.t 4], 21, [], false⟩ := .of Try.func91 (by simp [Try.f91]) (by kernel_rfl)
def g93 : RC :=
 (.seq (.reg [ko 3 (.box 92 (.t 0)),
 ko 5 (.box 23 (.t 2)),
 ko 6 (.new 92 [kz, (.lit (.slice none 0 0)), (.lit (.slice none 0 0))])])
 (.seq (.reg [kf 9 3 0,
 kf 10 9 2,
 kl 11 10,
 km 12 1,
 kv 13 (.ixa (.t 11) (.t 12) 4),
 kv 14 (.load (.t 13) (some 4)),
 ko 7 (.new 66 [kz, kz, kz, kz]),
 ⟨none, none, .o (.store 4 (.t 7) (.t 14))⟩])
 (.seq (.reg [kv 15 (.load (.t 5) (some 2)),
 kf 16 7 2,
 ⟨none, none, .o (.store 2 (.t 16) (.t 15))⟩])
 (.seq (.drw [⟨[3, 1, 7], 1, 0, [(kf 17 3 0, ku),
 (kf 18 17 2, ku),
 (kl 19 18, ku),
 (km 20 1, ku),
 (km 21 1, ku),
 (ko 22 (.slc (.t 19) none (some (.t 20)) (some (.t 21)) 4), ku),
 (kv 23 (.load (.t 7) (some 4)), ku),
 (ko 24 (.bsl 66 1 [kz, kz, kz, kz] [(0, 4, (.t 23))]), .cre 0)],
 [0],
 [ko 25 (.app 66 4 32 (.t 22) (.t 24)),
 km 8 25], none⟩])
 (.seq (.reg [km 26 8,
 kf 27 3 0,
 kf 28 27 2,
 kl 29 28,
 km 30 1,
 kv 31 (.bin .add (.t 30) (.c (ki 1))),
 ko 32 (.slc (.t 29) (some (.t 31)) none none 4),
 ko 33 (.app 66 4 32 (.t 26) (.t 32)),
 kf 34 3 0,
 kf 35 34 2,
 ⟨none, none, .o (.store 1 (.t 35) (.t 33))⟩])
 (.seq (.reg [kv 36 (.load (.t 3) (some 3)),
 ⟨none, none, .o (.store 3 (.t 6) (.t 36))⟩])
 .ret))))))
theorem h93 : FdOk Try.prog 93 ⟨g93, [.c 6 (some 3)], 37, [], false⟩ := .of Try.func93 (by simp [Try.f93]) (by kernel_rfl)
def g94 : RC :=
 (.seq (.reg [kv 2 (.mov (.c kz))])
 (.seq (.reg [km 3 0,
 km 2 3])
 .ret))
theorem h94 : FdOk Try.prog 94 ⟨g94, [.t 2], 4, [], false⟩ := .of Try.func94 (by simp [Try.f94]) (by kernel_rfl)
def g95 : RC :=
 (.seq (.reg [ko 2 (.box 92 (.t 0)),
 kv 4 (.mov (.c kz))])
 (.seq (.reg [kf 5 2 0,
 kf 6 5 2,
 kl 7 6,
 km 8 1,
 kv 9 (.ixa (.t 7) (.t 8) 4),
 kf 10 9 0,
 kl 11 10,
 km 4 11])
 .ret))
theorem h95 : FdOk Try.prog 95 ⟨g95, [.t 4], 12, [], false⟩ := .of Try.func95 (by simp [Try.f95]) (by kernel_rfl)
def g96 : RC :=
 (.seq (.reg [ko 2 (.box 92 (.t 0)),
 kv 4 (.mov (.c kz))])
 (.seq (.seq (.reg [kf 6 2 0,
 kf 7 6 2,
 kl 8 7,
 km 9 1,
 kv 10 (.ixa (.t 8) (.t 9) 4),
 kf 11 10 1,
 kl 12 11,
 km 5 12])
 (.seq (.reg [kf 13 2 0,
 kf 14 13 1,
 kl 15 14,
 km 16 5,
 kv 17 (.ixa (.t 15) (.t 16) 1),
 kl 18 17])
 (.cond (.t 18)
 (.seq (.reg [km 19 5,
 kv 20 (.bin .add (.c (ki 8)) (.t 19)),
 km 4 20])
 .ret)
 .skip)))
 (.seq (.reg [kv 4 (.mov (.c (ki 16)))])
 .ret)))
theorem h96 : FdOk Try.prog 96 ⟨g96, [.t 4], 21, [], false⟩ := .of Try.func96 (by simp [Try.f96]) (by kernel_rfl)
def g97 : RC :=
 (.seq (.reg [ko 3 (.box 66 (.t 1)),
 kv 4 (.mov (.c (.lit (.bool false))))])
 (.seq (.reg [km 5 0,
 kv 6 (.load (.t 3) (some 4)),
 kc 7 (.c (.fn 104 [])) [(.t 5), (.t 6)],
 kv 8 (.bin .geq (.t 7) (.c kz)),
 km 4 8])
 .ret))
theorem h97 : FdOk Try.prog 97 ⟨g97, [.t 4], 9, [], false⟩ := .of Try.func97 (by simp [Try.f97]) (by kernel_rfl)
def g98 : RC :=
 (.seq (.reg [ko 1 (.box 92 (.t 0)),
 kv 2 (.mov (.c (.lit (.map none))))])
 (.seq (.reg [⟨(some 5), none, .mkm⟩,
 km 3 5])
 (.seq (.seq (.reg [kf 6 1 0,
 kf 7 6 2,
 kl 8 7,
 kv 9 (.len (.t 8)),
 kv 10 (.mov (.c kz))])
 (.block 0 (.loop
 (.seq (.reg [kv 11 (.bin .lss (.t 10) (.t 9))])
 (.seq (.cond (.t 11)
 .skip
 (.exit 0))
 (.seq (.block 1 (.seq (.reg [km 12 10,
 km 4 12])
 (.seq (.drw [⟨[3, 1, 4], 1, 1, [(km 13 3, ku),
 (kv 14 (.load (.t 1) (some 3)), ku),
 (km 15 4, ku),
 (kc 16 (.c (.fn 95 [])) [(.t 14), (.t 15)], ku),
 (km 17 3, ku),
 (kv 18 (.load (.t 1) (some 3)), ku),
 (km 19 4, ku),
 (kc 20 (.c (.fn 95 [])) [(.t 18), (.t 19)], ku),
 (⟨(some 21), none, .lku (.i .i64) (.lit (.slice none 0 0)) false (.t 17) (.t 20)⟩, ku),
 (km 22 4, ku),
 (ko 23 (.bsl 3 1 [kz] [(0, 1, (.t 22))]), .cre 0),
 (ko 24 (.app 3 1 8 (.t 21) (.t 23)), .eff 0 [0])],
 [],
 [⟨none, none, .upd (.i .i64) (.t 13) (.t 16) (.t 24)⟩], none⟩,
 ⟨[3, 1, 4], 0, 0, [(km 13 3, ku),
 (kv 14 (.load (.t 1) (some 3)), ku),
 (km 15 4, ku),
 (kc 16 (.c (.fn 95 [])) [(.t 14), (.t 15)], ku),
 (km 17 3, ku),
 (kv 18 (.load (.t 1) (some 3)), ku),
 (km 19 4, ku),
 (kc 20 (.c (.fn 95 [])) [(.t 18), (.t 19)], ku),
 (⟨(some 21), none, .lku (.i .i64) (.lit (.slice none 0 0)) false (.t 17) (.t 20)⟩, ku),
 (km 22 4, ku),
 (ko 23 (.bsl 3 1 [kz] [(0, 1, (.t 22))]), ku),
 (ko 24 (.app 3 1 8 (.t 21) (.t 23)), ku)],
 [],
 [⟨none, none, .upd (.i .i64) (.t 13) (.t 16) (.t 24)⟩], none⟩,
 ⟨[3, 1, 4], 1, 1, [(km 13 3, .pur),
 (kv 14 (.load (.t 1) (some 3)), ku),
 (km 15 4, ku),
 (kc 16 (.c (.fn 95 [])) [(.t 14), (.t 15)], ku),
 (km 17 3, ku),
 (kv 18 (.load (.t 1) (some 3)), ku),
 (km 19 4, ku),
 (kc 20 (.c (.fn 95 [])) [(.t 18), (.t 19)], ku),
 (⟨(some 21), none, .lku (.i .i64) (.lit (.slice none 0 0)) false (.t 17) (.t 20)⟩, ku),
 (km 22 4, ku),
 (ko 23 (.bsl 3 1 [kz] [(0, 1, (.t 22))]), .cre 0),
 (ko 24 (.app 3 1 8 (.t 21) (.t 23)), .efs 0 [0] [])],
 [],
 [⟨none, none, .upd (.i .i64) (.t 13) (.t 16) (.t 24)⟩], none⟩])
 (.drw [⟨[3, 1, 4], 1, 1, [(km 25 3, ku),
 (kv 26 (.load (.t 1) (some 3)), ku),
 (km 27 4, ku),
 (kc 28 (.c (.fn 96 [])) [(.t 26), (.t 27)], ku),
 (km 29 3, ku),
 (kv 30 (.load (.t 1) (some 3)), ku),
 (km 31 4, ku),
 (kc 32 (.c (.fn 96 [])) [(.t 30), (.t 31)], ku),
 (⟨(some 33), none, .lku (.i .i64) (.lit (.slice none 0 0)) false (.t 29) (.t 32)⟩, ku),
 (km 34 4, ku),
 (ko 35 (.bsl 3 1 [kz] [(0, 1, (.t 34))]), .cre 0),
 (ko 36 (.app 3 1 8 (.t 33) (.t 35)), .eff 0 [0])],
 [],
 [⟨none, none, .upd (.i .i64) (.t 25) (.t 28) (.t 36)⟩], none⟩,
 ⟨[3, 1, 4], 0, 0, [(km 25 3, ku),
 (kv 26 (.load (.t 1) (some 3)), ku),
 (km 27 4, ku),
 (kc 28 (.c (.fn 96 [])) [(.t 26), (.t 27)], ku),
 (km 29 3, ku),
 (kv 30 (.load (.t 1) (some 3)), ku),
 (km 31 4, ku),
 (kc 32 (.c (.fn 96 [])) [(.t 30), (.t 31)], ku),
 (⟨(some 33), none, .lku (.i .i64) (.lit (.slice none 0 0)) false (.t 29) (.t 32)⟩, ku),
 (km 34 4, ku),
 (ko 35 (.bsl 3 1 [kz] [(0, 1, (.t 34))]), ku),
 (ko 36 (.app 3 1 8 (.t 33) (.t 35)), ku)],
 [],
 [⟨none, none, .upd (.i .i64) (.t 25) (.t 28) (.t 36)⟩], none⟩,
 ⟨[3, 1, 4], 1, 1, [(km 25 3, .pur),
 (kv 26 (.load (.t 1) (some 3)), ku),
 (km 27 4, ku),
 (kc 28 (.c (.fn 96 [])) [(.t 26), (.t 27)], ku),
 (km 29 3, ku),
 (kv 30 (.load (.t 1) (some 3)), ku),
 (km 31 4, ku),
 (kc 32 (.c (.fn 96 [])) [(.t 30), (.t 31)], ku),
 (⟨(some 33), none, .lku (.i .i64) (.lit (.slice none 0 0)) false (.t 29) (.t 32)⟩, ku),
 (km 34 4, ku),
 (ko 35 (.bsl 3 1 [kz] [(0, 1, (.t 34))]), .cre 0),
 (ko 36 (.app 3 1 8 (.t 33) (.t 35)), .efs 0 [0] [])],
 [],
 [⟨none, none, .upd (.i .i64) (.t 25) (.t 28) (.t 36)⟩], none⟩]))))
 (.reg [kv 37 (.bin .add (.t 10) (.c (ki 1))),
 km 10 37])))))))
 (.seq (.reg [km 38 3,
 km 2 38])
 .ret))))
theorem h98 : FdOk Try.prog 98 ⟨g98, [.t 2], 39, [], false⟩ := .of Try.func98 (by simp [Try.f98]) (by kernel_rfl)
def g99 : RC :=
 (.block 0 (.loop
 (.block 1 (.seq (.reg [km 7 0,
 kc 8 (.c (.fn 105 [])) [(.t 7)],
 km 6 8,
 kv 9 (.ext (.t 6) 0),
 kv 10 (.ext (.t 6) 1),
 ko 2 (.new 99 (List.replicate 17 (.lit (.bool false)))),
 ko 3 (.new 95 (List.replicate 17 kz)),
 ⟨none, none, .o (.store 17 (.t 2) (.t 9))⟩,
 ⟨none, none, .o (.store 17 (.t 3) (.t 10))⟩])
 (.seq (.reg [kv 4 (.mov (.c kz))])
 (.seq (.seq (.reg [kv 11 (.mov (.c kz))])
 (.block 2 (.loop
 (.seq (.reg [kv 12 (.bin .lss (.t 11) (.c (ki 17)))])
 (.seq (.cond (.t 12)
 .skip
 (.exit 2))
 (.seq (.block 3 (.seq (.reg [km 13 11,
 km 5 13])
 (.seq (.reg [km 14 0,
 km 15 5,
 kn 16 14,
 kf 17 16 4,
 kv 18 (.ixarr (.t 17) (.t 15) 17 1),
 kl 19 18,
 kv 20 (.bin .gtr (.t 19) (.c kz))])
 (.cond (.t 20)
 (.reg [km 21 4,
 km 22 0,
 km 23 5,
 kv 24 (.load (.t 3) (some 17)),
 kc 25 (.c (.fn 106 [])) [(.t 22), (.t 23), (.t 24)],
 kv 26 (.bin .add (.t 21) (.t 25)),
 km 4 26])
 .skip))))
 (.reg [kv 27 (.bin .add (.t 11) (.c (ki 1))),
 km 11 27])))))))
 (.seq (.reg [km 28 4,
 kv 29 (.bin .eql (.t 28) (.c kz))])
 (.cond (.t 29)
 (.seq (.reg [km 30 0,
 kv 31 (.load (.t 2) (some 17)),
 kn 32 30,
 kf 33 32 22,
 ⟨none, none, .o (.store 17 (.t 33) (.t 31))⟩])
 .ret)
 .skip))))))))
theorem h99 : FdOk Try.prog 99 ⟨g99, [], 34, [], false⟩ := .of Try.func99 (by simp [Try.f99]) (by kernel_rfl)
def g100 : RC :=
 (.seq (.reg [kv 2 (.mov (.c (.lit (.slice none 0 0))))])
 (.seq (.seq (.reg [km 3 0,
 kv 4 (.isnil false (.t 3))])
 (.cond (.t 4)
 (.seq (.reg [kv 2 (.mov (.c (.lit (.slice none 0 0))))])
 .ret)
 .skip))
 (.seq (.reg [⟨(some 5), none, (.bs0 1)⟩,
 km 6 0,
 ko 7 (.app 3 1 8 (.t 5) (.t 6)),
 km 2 7])
 .ret)))
theorem h100 : FdOk Try.prog 100 ⟨g100, [.t 2], 8, [], true⟩ := .of Try.func100 (by simp [Try.f100]) (by kernel_rfl)
def g101 : RC :=
 (.seq (.reg [ko 1 (.box 23 (.t 0)),
 kv 2 (.mov (.c kz))])
 (.seq (.reg [kf 3 1 0,
 kl 4 3,
 km 2 4])
 .ret))
theorem h101 : FdOk Try.prog 101 ⟨g101, [.t 2], 5, [], false⟩ := .of Try.func101 (by simp [Try.f101]) (by kernel_rfl)
def g102 : RC :=
 (.seq (.reg [ko 1 (.box 23 (.t 0)),
 kv 2 (.mov (.c kz))])
 (.seq (.reg [kf 3 1 1,
 kl 4 3,
 km 2 4])
 .ret))
theorem h102 : FdOk Try.prog 102 ⟨g102, [.t 2], 5, [], false⟩ := .of Try.func102 (by simp [Try.f102]) (by kernel_rfl)
def g103 : RC :=
 (.seq (.reg [kv 4 (.mov (.c kz))])
 (.seq (.seq (.reg [km 6 0,
 kv 7 (.len (.t 6)),
 kv 8 (.mov (.c kz))])
 (.block 0 (.loop
 (.seq (.reg [kv 9 (.bin .lss (.t 8) (.t 7))])
 (.seq (.cond (.t 9)
 .skip
 (.exit 0))
 (.seq (.block 1 (.seq (.reg [km 10 8,
 km 5 10])
 (.seq (.reg [km 11 1,
 km 12 0,
 km 13 5,
 kv 14 (.ixa (.t 12) (.t 13) 1),
 kl 15 14,
 kv 16 (.bin .eql (.t 11) (.t 15))])
 (.cond (.t 16)
 (.seq (.reg [km 17 5,
 km 4 17])
 .ret)
 .skip))))
 (.reg [kv 18 (.bin .add (.t 8) (.c (ki 1))),
 km 8 18])))))))
 (.seq (.reg [kv 4 (.mov (.c (ki (-1))))])
 .ret)))
theorem h103 : FdOk Try.prog 103 ⟨g103, [.t 4], 19, [], false⟩ := .of Try.func103 (by simp [Try.f103]) (by kernel_rfl)
def g104 : RC :=
 (.seq (.reg [ko 3 (.box 66 (.t 1)),
 kv 4 (.mov (.c kz))])
 (.seq (.seq (.reg [km 6 0,
 kv 7 (.len (.t 6)),
 kv 8 (.mov (.c kz))])
 (.block 0 (.loop
 (.seq (.reg [kv 9 (.bin .lss (.t 8) (.t 7))])
 (.seq (.cond (.t 9)
 .skip
 (.exit 0))
 (.seq (.block 1 (.seq (.reg [km 10 8,
 km 5 10])
 (.seq (.drw [⟨[], 0, 0, [(kv 11 (.load (.t 3) (some 4)), ku),
 (km 12 0, ku),
 (km 13 5, ku),
 (kv 14 (.ixa (.t 12) (.t 13) 4), ku),
 (kv 15 (.load (.t 14) (some 4)), ku)],
 [],
 [kv 16 (.eqs [(some .i64), (some .i64), (some .i64), (some .i64)] false (.t 11) (.t 15))], none⟩])
 (.cond (.t 16)
 (.seq (.reg [km 17 5,
 km 4 17])
 .ret)
 .skip))))
 (.reg [kv 18 (.bin .add (.t 8) (.c (ki 1))),
 km 8 18])))))))
 (.seq (.reg [kv 4 (.mov (.c (ki (-1))))])
 .ret)))
theorem h104 : FdOk Try.prog 104 ⟨g104, [.t 4], 19, [], false⟩ := .of Try.func104 (by simp [Try.f104]) (by kernel_rfl)
def g105 : RC :=
 (.seq (.reg [ko 2 (.new 99 (List.replicate 17 (.lit (.bool false)))),
 ko 3 (.new 95 (List.replicate 17 kz))])
 (.scp (.seq (.seq (.reg [km 10 0,
 kn 11 10,
 kf 12 11 4,
 kv 13 (.load (.t 12) (some 17)),
 kv 14 (.mov (.c kz))])
 (.block 0 (.loop
 (.seq (.reg [kv 15 (.bin .lss (.t 14) (.c (ki 17)))])
 (.seq (.cond (.t 15)
 .skip
 (.exit 0))
 (.seq (.block 1 (.seq (.reg [km 16 14,
 kv 17 (.ixv (.t 13) (.t 14) 17 1 none),
 km 4 16,
 km 5 17])
 (.reg [km 18 4,
 km 19 5,
 kv 20 (.bin .gtr (.t 19) (.c kz)),
 kv 21 (.ixarr (.t 2) (.t 18) 17 1),
 ⟨none, none, .o (.store 1 (.t 21) (.t 20))⟩])))
 (.reg [kv 22 (.bin .add (.t 14) (.c (ki 1))),
 km 14 22])))))))
 (.seq .skip
 (.seq (.seq (.reg [ko 6 (.new 3 [kz]),
 ⟨none, none, .o (.store 1 (.t 6) (.c (ki 1)))⟩])
 (.block 2 (.loop
 (.seq (.block 3 (.seq (.reg [kv 25 (.load (.t 2) (some 17)),
 ko 7 (.new 99 (List.replicate 17 (.lit (.bool false)))),
 ⟨none, none, .o (.store 17 (.t 7) (.t 25))⟩])
 (.seq (.seq (.reg [kv 26 (.mov (.c kz))])
 (.block 4 (.loop
 (.seq (.reg [kv 27 (.bin .lss (.t 26) (.c (ki 17)))])
 (.seq (.cond (.t 27)
 .skip
 (.exit 4))
 (.seq (.block 5 (.seq (.reg [km 28 26,
 km 8 28])
 (.seq (.seq (.reg [km 29 8,
 kv 30 (.ixarr (.t 7) (.t 29) 17 1),
 kl 31 30,
 kv 32 (.not (.t 31))])
 (.cond (.t 32)
 (.exit 5)
 .skip))
 (.seq (.reg [km 33 0,
 km 34 8,
 kc 35 (.c (.fn 107 [])) [(.t 33), (.t 34)]])
 (.block 6 (.rng (.t 35) [36]
 (.reg [ko 9 (.new 140 [kz, kz, kz, kz]),
 ⟨none, none, .o (.store 4 (.t 9) (.t 36))⟩])
 (.block 7 (.seq (.reg [kf 37 9 1,
 kl 38 37,
 kv 39 (.ixarr (.t 2) (.t 38) 17 1),
 kl 40 39,
 kv 41 (.not (.t 40))])
 (.cond (.t 41)
 (.drw [⟨[], 0, 1, [(kf 42 9 1, ku),
 (kl 43 42, ku),
 (kf 44 9 1, .prd [2]),
 (kl 45 44, .prd [2]),
 (kl 46 6, .prd [2]),
 (kv 47 (.ixarr (.t 2) (.t 43) 17 1), ku),
 (⟨none, none, .o (.store 1 (.t 47) (.c (.lit (.bool true))))⟩, .efs 0 [] [])],
 [],
 [kv 48 (.ixarr (.t 3) (.t 45) 17 1),
 ⟨none, none, .o (.store 1 (.t 48) (.t 46))⟩], none⟩,
 ⟨[], 0, 1, [(kf 42 9 1, ku),
 (kl 43 42, ku),
 (kf 44 9 1, .prd [2]),
 (kl 45 44, .prd [2]),
 (kl 46 6, .prd [2]),
 (kv 47 (.ixarr (.t 2) (.t 43) 17 1), ku),
 (⟨none, none, .o (.store 1 (.t 47) (.c (.lit (.bool true))))⟩, .efs 0 [] [])],
 [],
 [kv 48 (.ixarr (.t 3) (.t 45) 17 1),
 ⟨none, none, .o (.store 1 (.t 48) (.t 46))⟩], none⟩])
 .skip)))))))))
 (.reg [kv 49 (.bin .add (.t 26) (.c (ki 1))),
 km 26 49])))))))
 (.seq (.reg [kv 50 (.load (.t 2) (some 17)),
 kv 51 (.load (.t 7) (some 17)),
 kv 52 (.eqs (List.replicate 17 none) false (.t 50) (.t 51))])
 (.cond (.t 52)
 (.exit 2)
 .skip)))))
 (.seq (.seq (.reg [kl 53 6])
 (.reg [ko 6 (.new 3 [kz]),
 ⟨none, none, .o (.store 1 (.t 6) (.t 53))⟩]))
 (.reg [kl 23 6,
 kv 24 (.bin .add (.t 23) (.c (ki 1))),
 ⟨none, none, .o (.store 1 (.t 6) (.t 24))⟩]))))))
 (.seq (.drw [⟨[], 0, 1, [(kv 54 (.load (.t 2) (some 17)), ku),
 (kv 55 (.load (.t 3) (some 17)), .prd [2]),
 (⟨none, none, .o (.store 17 (.t 2) (.t 54))⟩, .efs 0 [] [])],
 [],
 [⟨none, none, .o (.store 17 (.t 3) (.t 55))⟩], none⟩,
 ⟨[], 0, 1, [(kv 54 (.load (.t 2) (some 17)), ku),
 (kv 55 (.load (.t 3) (some 17)), .prd [2]),
 (⟨none, none, .o (.store 17 (.t 2) (.t 54))⟩, .efs 0 [] [])],
 [],
 [⟨none, none, .o (.store 17 (.t 3) (.t 55))⟩], none⟩])
 .ret))))))
theorem h105 : FdOk Try.prog 105 ⟨g105, [.c 2 (some 17), .c 3 (some 17)], 56, [], false⟩ := .of Try.func105 (by simp [Try.f105]) (by kernel_rfl)
def g106 : RC :=
 (.seq (.reg [ko 3 (.box 132 (.t 0)),
 ko 5 (.box 95 (.t 2)),
 kv 6 (.mov (.c kz))])
 (.seq (.reg [ko 7 (.new 99 (List.replicate 17 (.lit (.bool false))))])
 (.seq (.reg [ko 8 (.new 57 [(.lit .nilFunc)])])
 (.seq (.reg [kv 10 (.mkfn 108 [(.t 3), (.t 7), (.t 5), (.t 8)]),
 ⟨none, none, .o (.store 1 (.t 8) (.t 10))⟩])
 (.seq (.drw [⟨[], 0, 0, [(kl 11 8, ku),
 (km 12 1, ku),
 (kl 13 3, ku),
 (km 14 1, ku),
 (kn 15 13, ku),
 (kf 16 15 4, ku),
 (kv 17 (.ixarr (.t 16) (.t 14) 17 1), ku),
 (kl 18 17, ku)],
 [],
 [kc 19 (.t 11) [(.t 12), (.t 18)],
 km 9 19], none⟩])
 (.seq (.drw [⟨[], 0, 0, [(kl 20 3, ku),
 (km 21 1, ku),
 (kn 22 20, ku),
 (kf 23 22 4, ku),
 (kv 24 (.ixarr (.t 23) (.t 21) 17 1), ku),
 (kl 25 24, ku),
 (km 26 9, ku),
 (kv 27 (.bin .sub (.t 25) (.t 26)), ku),
 (kn 28 20, ku),
 (kf 29 28 4, ku)],
 [],
 [kv 30 (.ixarr (.t 29) (.t 21) 17 1),
 ⟨none, none, .o (.store 1 (.t 30) (.t 27))⟩], none⟩])
 (.seq (.reg [km 31 9,
 km 6 31])
 .ret)))))))
theorem h106 : FdOk Try.prog 106 ⟨g106, [.t 6], 32, [], false⟩ := .of Try.func106 (by simp [Try.f106]) (by kernel_rfl)
def g107 : RC :=
 (.seq (.reg [ko 2 (.box 132 (.t 0)),
 ko 3 (.box 3 (.t 1)),
 kv 4 (.mov (.c (.lit .nilFunc)))])
 (.seq (.reg [kv 5 (.mkfn 109 [(.t 2), (.t 3)]),
 km 4 5])
 .ret))
theorem h107 : FdOk Try.prog 107 ⟨g107, [.t 4], 6, [], false⟩ := .of Try.func107 (by simp [Try.f107]) (by kernel_rfl)
def g108 : RC :=
 (.seq (.reg [ko 6 (.box 3 (.t 0)),
 ko 7 (.box 3 (.t 1)),
 ko 8 (.new 3 [kz])])
 (.seq (.seq (.drw [⟨[], 0, 0, [(kl 12 2, ku),
 (kl 13 6, ku),
 (kn 14 12, ku),
 (kf 15 14 4, ku)],
 [],
 [kv 16 (.ixarr (.t 15) (.t 13) 17 1),
 kl 17 16,
 kv 18 (.bin .lss (.t 17) (.c kz))], none⟩])
 (.cond (.t 18)
 (.seq (.drw [⟨[], 0, 0, [(kl 19 7, ku),
 (kl 20 2, ku),
 (kl 21 6, ku),
 (kn 22 20, ku),
 (kf 23 22 4, ku),
 (kv 24 (.ixarr (.t 23) (.t 21) 17 1), ku),
 (kl 25 24, ku),
 (kv 26 (.neg (.t 25)), ku)],
 [],
 [kv 27 (.min2 (.t 19) (.t 26)),
 km 9 27], none⟩])
 (.seq (.drw [⟨[], 0, 0, [(kl 28 2, ku),
 (kl 29 6, ku),
 (kn 30 28, ku),
 (kf 31 30 4, ku),
 (kv 32 (.ixarr (.t 31) (.t 29) 17 1), ku),
 (kl 33 32, ku),
 (km 34 9, ku),
 (kv 35 (.bin .add (.t 33) (.t 34)), ku),
 (kn 36 28, ku),
 (kf 37 36 4, ku)],
 [],
 [kv 38 (.ixarr (.t 37) (.t 29) 17 1),
 ⟨none, none, .o (.store 1 (.t 38) (.t 35))⟩], none⟩])
 (.seq (.reg [km 39 9,
 ⟨none, none, .o (.store 1 (.t 8) (.t 39))⟩])
 .ret)))
 .skip))
 (.seq (.reg [kl 40 6,
 kv 41 (.ixarr (.t 3) (.t 40) 17 1),
 ⟨none, none, .o (.store 1 (.t 41) (.c (.lit (.bool true))))⟩])
 (.seq (.seq (.reg [kl 42 2,
 kl 43 6,
 kc 44 (.c (.fn 107 [])) [(.t 42), (.t 43)]])
 (.block 0 (.rng (.t 44) [45]
 (.reg [ko 10 (.new 140 [kz, kz, kz, kz]),
 ⟨none, none, .o (.store 4 (.t 10) (.t 45))⟩])
 (.block 1 (.seq (.seq (.drw [⟨[], 0, 0, [(kf 46 10 1, ku),
 (kl 47 46, ku),
 (kv 48 (.ixarr (.t 3) (.t 47) 17 1), ku),
 (kl 49 48, ku),
 (km 50 49, ku),
 (⟨(some 51), (some (50, false)), .o (.v (.off (.t 10) 1))⟩, ku),
 (⟨(some 52), (some (50, false)), .o (.v (.load (.t 51) none))⟩, ku),
 (⟨(some 53), (some (50, false)), .o (.v (.ixarr (.t 4) (.t 52) 17 1))⟩, ku),
 (⟨(some 54), (some (50, false)), .o (.v (.load (.t 53) none))⟩, ku),
 (⟨(some 55), (some (50, false)), .o (.v (.load (.t 6) none))⟩, ku),
 (⟨(some 56), (some (50, false)), .o (.v (.ixarr (.t 4) (.t 55) 17 1))⟩, ku),
 (⟨(some 57), (some (50, false)), .o (.v (.load (.t 56) none))⟩, ku),
 (⟨(some 58), (some (50, false)), .o (.v (.bin .add (.t 57) (.c (ki 1))))⟩, ku)],
 [],
 [⟨(some 59), (some (50, false)), .o (.v (.bin .neq (.t 54) (.t 58)))⟩,
 kv 60 (.pick (.t 50) (.c (.lit (.bool true))) (.t 59))], none⟩])
 (.cond (.t 60)
 (.exit 1)
 .skip))
 (.seq (.reg [kl 61 5,
 kf 62 10 1,
 kl 63 62,
 kl 64 7,
 kf 65 10 3,
 kl 66 65,
 kv 67 (.min2 (.t 64) (.t 66)),
 kc 68 (.t 61) [(.t 63), (.t 67)],
 km 11 68])
 (.seq (.reg [km 69 11,
 kv 70 (.bin .gtr (.t 69) (.c kz))])
 (.cond (.t 70)
 (.seq (.drw [⟨[], 0, 0, [(kl 71 2, ku),
 (kn 72 71, ku),
 (kf 73 72 3, ku),
 (kl 74 73, ku),
 (kf 75 10 0, ku),
 (kl 76 75, ku),
 (kv 77 (.ixa (.t 74) (.t 76) 1), ku),
 (kl 78 77, ku),
 (kf 79 10 2, ku),
 (kl 80 79, ku),
 (km 81 11, ku),
 (kv 82 (.bin .mul (.t 80) (.t 81)), ku)],
 [],
 [kv 83 (.bin .add (.t 78) (.t 82)),
 kv 84 (.ixa (.t 74) (.t 76) 1),
 ⟨none, none, .o (.store 1 (.t 84) (.t 83))⟩], none⟩])
 (.seq (.reg [km 85 11,
 ⟨none, none, .o (.store 1 (.t 8) (.t 85))⟩])
 .ret))
 .skip))))))))
 (.seq (.reg [⟨none, none, .o (.store 1 (.t 8) (.c kz))⟩])
 .ret)))))
theorem h108 : FdOk Try.prog 108 ⟨g108, [.c 8 none], 86, [], false⟩ := .of Try.func108 (by simp [Try.f108]) (by kernel_rfl)
def g109 : RC :=
 (.seq (.drw [⟨[], 0, 0, [(kl 7 1, ku),
 (kn 8 7, ku),
 (kf 9 8 21, ku),
 (kl 10 9, ku),
 (kl 11 2, ku),
 (⟨(some 12), none, .lku (.i .i64) (.lit (.slice none 0 0)) false (.t 10) (.t 11)⟩, ku),
 (kv 13 (.len (.t 12)), ku),
 (kv 14 (.mov (.c kz)), ku)],
 [],
 [], none⟩])
 (.block 0 (.loop
 (.seq (.reg [kv 15 (.bin .lss (.t 14) (.t 13))])
 (.seq (.cond (.t 15)
 .skip
 (.exit 0))
 (.seq (.block 1 (.seq (.reg [kv 16 (.ixa (.t 12) (.t 14) 1),
 kl 17 16,
 km 5 17])
 (.seq (.reg [kl 18 1,
 kl 19 2,
 km 20 5,
 kc 21 (.c (.fn 110 [])) [(.t 18), (.t 19), (.t 20)],
 ko 6 (.new 140 [kz, kz, kz, kz]),
 ⟨none, none, .o (.store 4 (.t 6) (.t 21))⟩])
 (.seq (.reg [kf 22 6 3,
 kl 23 22,
 kv 24 (.bin .gtr (.t 23) (.c kz)),
 km 25 24,
 ⟨(some 26), (some (25, true)), .o (.v (.mov (.t 0)))⟩,
 ⟨(some 27), (some (25, true)), .o (.v (.load (.t 6) (some 4)))⟩,
 ⟨(some 28), (some (25, true)), .o (.call (.t 26) [(.t 27)])⟩,
 ⟨(some 29), (some (25, true)), .o (.v (.not (.t 28)))⟩,
 kv 30 (.pick (.t 25) (.t 29) (.c (.lit (.bool false))))])
 (.cond (.t 30)
 .ret
 .skip)))))
 (.reg [kv 31 (.bin .add (.t 14) (.c (ki 1))),
 km 14 31])))))))
theorem h109 : FdOk Try.prog 109 ⟨g109, [], 32, [], false⟩ := .of Try.func109 (by simp [Try.f109]) (by kernel_rfl)
def g110 : RC :=
 (.seq (.reg [ko 6 (.new 140 [kz, kz, kz, kz])])
 (.seq (.reg [km 10 0,
 kn 11 10,
 kf 12 11 0,
 kv 13 (.load (.t 12) (some 3)),
 km 14 2,
 kc 15 (.c (.fn 95 [])) [(.t 13), (.t 14)],
 kv 7 (.mov (.c (.fn 111 []))),
 km 8 15,
 kv 9 (.mov (.c (ki (-1))))])
 (.seq (.seq (.reg [km 16 8,
 km 17 1,
 kv 18 (.bin .eql (.t 16) (.t 17))])
 (.cond (.t 18)
 (.reg [km 19 0,
 kn 20 19,
 kf 21 20 0,
 kv 22 (.load (.t 21) (some 3)),
 km 23 2,
 kc 24 (.c (.fn 96 [])) [(.t 22), (.t 23)],
 kv 7 (.mov (.c (.fn 112 []))),
 km 8 24,
 kv 9 (.mov (.c (ki 1)))])
 .skip))
 (.seq (.reg [km 25 2,
 km 26 8,
 km 27 9,
 km 28 7,
 km 29 0,
 km 30 2,
 kc 31 (.t 28) [(.t 29), (.t 30)],
 ko 32 (.bld [kz, kz, kz, kz] [(0, 1, (.t 25)), (1, 1, (.t 26)), (2, 1, (.t 27)), (3, 1, (.t 31))]),
 ⟨none, none, .o (.store 4 (.t 6) (.t 32))⟩])
 .ret))))
theorem h110 : FdOk Try.prog 110 ⟨g110, [.c 6 (some 4)], 33, [], false⟩ := .of Try.func110 (by simp [Try.f110]) (by kernel_rfl)
def g111 : RC :=
 (.seq (.reg [kv 4 (.mov (.c kz))])
 (.seq (.drw [⟨[], 0, 0, [(km 5 0, ku),
 (kn 6 5, ku),
 (kf 7 6 3, ku),
 (kl 8 7, ku),
 (km 9 1, ku),
 (kv 10 (.ixa (.t 8) (.t 9) 1), ku),
 (kl 11 10, ku),
 (km 12 0, ku),
 (kn 13 12, ku),
 (kf 14 13 0, ku),
 (kf 15 14 0, ku),
 (kf 16 15 2, ku),
 (kl 17 16, ku),
 (km 18 1, ku),
 (kv 19 (.ixa (.t 17) (.t 18) 4), ku),
 (kf 20 19 2, ku),
 (kf 21 20 0, ku),
 (kl 22 21, ku)],
 [],
 [kv 23 (.bin .sub (.t 11) (.t 22)),
 km 4 23], none⟩])
 .ret))
theorem h111 : FdOk Try.prog 111 ⟨g111, [.t 4], 24, [], false⟩ := .of Try.func111 (by simp [Try.f111]) (by kernel_rfl)
def g112 : RC :=
 (.seq (.reg [kv 4 (.mov (.c kz))])
 (.seq (.drw [⟨[], 0, 0, [(km 5 0, ku),
 (kn 6 5, ku),
 (kf 7 6 0, ku),
 (kf 8 7 0, ku),
 (kf 9 8 2, ku),
 (kl 10 9, ku),
 (km 11 1, ku),
 (kv 12 (.ixa (.t 10) (.t 11) 4), ku),
 (kf 13 12 2, ku),
 (kf 14 13 1, ku),
 (kl 15 14, ku),
 (km 16 0, ku),
 (kn 17 16, ku),
 (kf 18 17 3, ku),
 (kl 19 18, ku),
 (km 20 1, ku),
 (kv 21 (.ixa (.t 19) (.t 20) 1), ku),
 (kl 22 21, ku)],
 [],
 [kv 23 (.bin .sub (.t 15) (.t 22)),
 km 4 23], none⟩])
 .ret))
theorem h112 : FdOk Try.prog 112 ⟨g112, [.t 4], 24, [], false⟩ := .of Try.func112 (by simp [Try.f112]) (by kernel_rfl)

end Go.Proofs.Ytgfoakilompbdaa
