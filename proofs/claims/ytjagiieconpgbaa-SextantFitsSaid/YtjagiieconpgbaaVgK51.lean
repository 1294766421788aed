import Derived.Test.YtjagiieconpgbaaVgR18
import Derived.Test.YtjagiieconpgbaaChecked
import Derived.KernelRfl
namespace Go.Proofs.Ytjagiieconpgbaa
open Go Go.Vg
set_option maxRecDepth 100000
set_option maxHeartbeats 4000000
def ki (n : Int) : SV := .int .i64 n
def kz : SV := .int .i64 0
def km (d n : Nat) : Opq := ⟨some d, none, .o (.v (.mov (.t n)))⟩
def kl (d n : Nat) : Opq := ⟨some d, none, .o (.v (.load (.t n) none))⟩
def kf (d n k : Nat) : Opq := ⟨some d, none, .o (.v (.off (.t n) k))⟩
def kn (d n : Nat) : Opq := ⟨some d, none, .nck (.t n)⟩
def kv (d : Nat) (v : VOp) : Opq := ⟨some d, none, .o (.v v)⟩
def kc (d : Nat) (f : X) (l : List X) : Opq := ⟨some d, none, .o (.call f l)⟩
def ko (d : Nat) (o : Op1) : Opq := ⟨some d, none, .o o⟩
def ku : Kd := .val 0 []
def kb0 : SV := .lit (.bool false)
def kb1 : SV := .lit (.bool true)
def g15 : RC :=
 (.seq (.reg [ko 2 (.box 26 (.t 0)),
 ko 3 (.box 28 (.t 1)),
 ko 4 (.new 24 [kz, kz]),
 kv 5 (.mov (.c kz))])
 (.seq (.seq (.reg [kv 8 (.load (.t 2) (some 6)),
 kc 9 (.c (.fn 17 [])) [(.t 8)],
 km 6 9])
 (.seq (.reg [km 10 6,
 kv 11 (.bin .neq (.t 10) (.c kz))])
 (.cond (.t 11)
 (.seq (.reg [ko 12 (.bld [kz, kz] []),
 km 13 6,
 ⟨none, none, .o (.store 2 (.t 4) (.t 12))⟩,
 km 5 13])
 .ret)
 .skip)))
 (.seq (.reg [kv 14 (.load (.t 2) (some 6)),
 ko 15 (.bld [kz, (.lit (.slice none 0 0)), kz, kz, kz, (.lit (.slice none 0 0))] [(0, 6, (.t 14))]),
 ko 7 (.new 89 [kz, (.lit (.slice none 0 0)), kz, kz, kz, (.lit (.slice none 0 0))]),
 ⟨none, none, .o (.store 6 (.t 7) (.t 15))⟩])
 (.seq (.seq (.reg [kv 16 (.load (.t 7) (some 6)),
 kv 17 (.load (.t 3) (some 2)),
 kc 18 (.c (.fn 55 [])) [(.t 16), (.t 17)],
 kv 19 (.not (.t 18))])
 (.cond (.t 19)
 (.seq (.reg [ko 20 (.bld [kz, kz] []),
 ⟨none, none, .o (.store 2 (.t 4) (.t 20))⟩,
 kv 5 (.mov (.c (ki 51)))])
 .ret)
 .skip))
 (.seq (.reg [kv 21 (.load (.t 7) (some 6)),
 kv 22 (.load (.t 3) (some 2)),
 kc 23 (.c (.fn 56 [])) [(.t 21), (.t 22)],
 ⟨none, none, .o (.store 2 (.t 4) (.t 23))⟩,
 kv 5 (.mov (.c kz))])
 .ret)))))
theorem h15 : FdOk Try.prog 15 ⟨g15, [.c 4 (some 2), .t 5], 24, [], false⟩ := .of Try.func15 (by simp [Try.f15]) (by kernel_rfl)
def g17 : RC :=
 (.seq (.reg [ko 1 (.box 26 (.t 0)),
 kv 2 (.mov (.c kz))])
 (.seq (.seq (.reg [kv 3 (.load (.t 1) (some 6)),
 ko 4 (.bld [kz, (.lit (.slice none 0 0)), kz, kz, kz, (.lit (.slice none 0 0))] [(0, 6, (.t 3))]),
 kc 5 (.c (.fn 61 [])) [(.t 4)],
 kv 6 (.not (.t 5))])
 (.cond (.t 6)
 (.seq (.reg [kv 2 (.mov (.c (ki 50)))])
 .ret)
 .skip))
 (.seq (.reg [kv 2 (.mov (.c kz))])
 .ret)))
theorem h17 : FdOk Try.prog 17 ⟨g17, [.t 2], 7, [], false⟩ := .of Try.func17 (by simp [Try.f17]) (by kernel_rfl)
def g19 : RC :=
 (.seq (.reg [ko 1 (.box 26 (.t 0)),
 kv 2 (.mov (.c kz)),
 kv 3 (.mov (.c kz)),
 kv 4 (.mov (.c kz))])
 (.seq (.seq (.reg [kv 6 (.load (.t 1) (some 6)),
 kc 7 (.c (.fn 17 [])) [(.t 6)],
 km 5 7])
 (.seq (.reg [km 8 5,
 kv 9 (.bin .neq (.t 8) (.c kz))])
 (.cond (.t 9)
 (.seq (.reg [km 10 5,
 kv 2 (.mov (.c kz)),
 kv 3 (.mov (.c kz)),
 km 4 10])
 .ret)
 .skip)))
 (.seq (.reg [kv 11 (.load (.t 1) (some 6)),
 ko 12 (.bld [kz, (.lit (.slice none 0 0)), kz, kz, kz, (.lit (.slice none 0 0))] [(0, 6, (.t 11))]),
 kc 13 (.c (.fn 63 [])) [(.t 12)],
 km 3 13])
 (.seq (.reg [km 14 3,
 kc 15 (.c (.fn 64 [])) [(.t 14)],
 km 16 3,
 km 2 15,
 km 3 16,
 kv 4 (.mov (.c kz))])
 .ret))))
theorem h19 : FdOk Try.prog 19 ⟨g19, [.t 2, .t 3, .t 4], 17, [], false⟩ := .of Try.func19 (by simp [Try.f19]) (by kernel_rfl)
def g21 : RC :=
 (.seq (.reg [kv 0 (.mov (.c (.lit (.bool false))))])
 (.seq (.reg [kc 16 (.c (.fn 50 [])) [],
 ko 17 (.bld [kz, kz] [(0, 1, (.c (ki 54000))), (1, 1, (.c (ki 1)))]),
 kc 18 (.c (.fn 15 [])) [(.t 16), (.t 17)],
 km 15 18,
 kv 19 (.ext (.t 15) 0),
 kv 20 (.ext (.t 15) 1),
 ko 1 (.new 24 [kz, kz]),
 ⟨none, none, .o (.store 2 (.t 1) (.t 19))⟩,
 km 2 20])
 (.seq (.reg [kc 22 (.c (.fn 50 [])) [],
 kc 23 (.c (.fn 40 [])) [(.c (ki 1880)), (.c (ki 1900))],
 kc 24 (.c (.fn 51 [])) [],
 kc 25 (.c (.fn 22 [])) [(.t 22), (.t 23), (.t 24)],
 km 21 25,
 kv 26 (.ext (.t 21) 0),
 kv 27 (.ext (.t 21) 1),
 kv 28 (.ext (.t 21) 2),
 ko 3 (.new 24 [kz, kz]),
 ko 4 (.new 24 [kz, kz]),
 ⟨none, none, .o (.store 2 (.t 3) (.t 26))⟩,
 ⟨none, none, .o (.store 2 (.t 4) (.t 27))⟩,
 km 5 28])
 (.seq (.reg [kc 30 (.c (.fn 50 [])) [],
 kc 31 (.c (.fn 53 [])) [],
 ko 32 (.slc (.t 31) none (some (.c (ki 2))) none 3),
 kc 33 (.c (.fn 24 [])) [(.t 30), (.t 32)],
 km 29 33,
 kv 34 (.ext (.t 29) 0),
 kv 35 (.ext (.t 29) 1),
 kv 36 (.ext (.t 29) 2),
 ko 7 (.new 24 [kz, kz]),
 km 6 34,
 ⟨none, none, .o (.store 2 (.t 7) (.t 35))⟩,
 km 8 36])
 (.seq (.reg [kc 38 (.c (.fn 50 [])) [],
 kc 39 (.c (.fn 53 [])) [],
 kc 40 (.c (.fn 27 [])) [(.t 38), (.t 39)],
 km 37 40,
 kv 41 (.ext (.t 37) 0),
 kv 42 (.ext (.t 37) 1),
 km 9 41,
 km 10 42])
 (.seq (.seq (.drw [⟨[2, 5, 8, 10, 1, 3, 4, 6, 7, 9], 0, 0, [(km 43 2, ku),
 (kv 44 (.bin .neq (.t 43) (.c kz)), ku),
 (km 45 44, ku),
 (⟨(some 46), (some (45, false)), .o (.v (.mov (.t 5)))⟩, ku),
 (⟨(some 47), (some (45, false)), .o (.v (.bin .neq (.t 46) (.c kz)))⟩, ku),
 (kv 48 (.pick (.t 45) (.c (.lit (.bool true))) (.t 47)), ku),
 (km 49 48, ku),
 (⟨(some 50), (some (49, false)), .o (.v (.mov (.t 8)))⟩, ku),
 (⟨(some 51), (some (49, false)), .o (.v (.bin .neq (.t 50) (.c kz)))⟩, ku),
 (kv 52 (.pick (.t 49) (.c (.lit (.bool true))) (.t 51)), ku),
 (km 53 52, ku),
 (⟨(some 54), (some (53, false)), .o (.v (.mov (.t 10)))⟩, ku),
 (⟨(some 55), (some (53, false)), .o (.v (.bin .neq (.t 54) (.c kz)))⟩, ku),
 (kv 56 (.pick (.t 53) (.c (.lit (.bool true))) (.t 55)), ku),
 (km 57 56, ku),
 (⟨(some 58), (some (57, false)), .o (.v (.load (.t 1) (some 2)))⟩, ku),
 (⟨(some 59), (some (57, false)), .o (.call (.c (.fn 40 [])) [(.c (ki 53970)), (.c (ki 54016))])⟩, ku),
 (⟨(some 60), (some (57, false)), .o (.v (.eqs [(some .i64), (some .i64)] true (.t 58) (.t 59)))⟩, ku),
 (kv 61 (.pick (.t 57) (.c (.lit (.bool true))) (.t 60)), ku),
 (km 62 61, ku),
 (⟨(some 63), (some (62, false)), .o (.v (.load (.t 3) (some 2)))⟩, ku),
 (⟨(some 64), (some (62, false)), .o (.call (.c (.fn 40 [])) [(.c (ki (-28))), (.c (ki (-22)))])⟩, ku),
 (⟨(some 65), (some (62, false)), .o (.v (.eqs [(some .i64), (some .i64)] true (.t 63) (.t 64)))⟩, ku),
 (kv 66 (.pick (.t 62) (.c (.lit (.bool true))) (.t 65)), ku),
 (km 67 66, ku),
 (⟨(some 68), (some (67, false)), .o (.v (.load (.t 4) (some 2)))⟩, ku),
 (⟨(some 69), (some (67, false)), .o (.call (.c (.fn 40 [])) [(.c (ki 1885)), (.c (ki 1892))])⟩, ku),
 (⟨(some 70), (some (67, false)), .o (.v (.eqs [(some .i64), (some .i64)] true (.t 68) (.t 69)))⟩, ku),
 (kv 71 (.pick (.t 67) (.c (.lit (.bool true))) (.t 70)), ku),
 (km 72 71, ku),
 (⟨(some 73), (some (72, false)), .o (.v (.mov (.t 6)))⟩, ku),
 (⟨(some 74), (some (72, false)), .o (.call (.c (.fn 40 [])) [(.c kz), (.c kz)])⟩, ku),
 (⟨(some 75), (some (72, false)), .o (.call (.c (.fn 40 [])) [(.c kz), (.c (ki 10))])⟩, ku),
 (⟨(some 76), (some (72, false)), .o (.call (.c (.fn 40 [])) [(.c (ki 25)), (.c (ki 40))])⟩, ku),
 (⟨(some 77), (some (72, false)), .o (.bsl 24 3 [kz, kz, kz, kz, kz, kz] [(0, 2, (.t 74)), (2, 2, (.t 75)), (4, 2, (.t 76))])⟩, ku),
 (⟨(some 78), (some (72, false)), .o (.call (.c (.fn 26 [])) [(.t 73), (.t 77)])⟩, ku),
 (⟨(some 79), (some (72, false)), .o (.v (.not (.t 78)))⟩, ku),
 (kv 80 (.pick (.t 72) (.c (.lit (.bool true))) (.t 79)), ku),
 (km 81 80, ku),
 (⟨(some 82), (some (81, false)), .o (.v (.load (.t 7) (some 2)))⟩, ku),
 (⟨(some 83), (some (81, false)), .o (.call (.c (.fn 40 [])) [(.c (ki (-30))), (.c (ki (-20)))])⟩, ku),
 (⟨(some 84), (some (81, false)), .o (.v (.eqs [(some .i64), (some .i64)] true (.t 82) (.t 83)))⟩, ku),
 (kv 85 (.pick (.t 81) (.c (.lit (.bool true))) (.t 84)), ku),
 (km 86 85, ku),
 (⟨(some 87), (some (86, false)), .o (.v (.mov (.t 9)))⟩, ku),
 (⟨(some 88), (some (86, false)), .o (.bsl 3 2 [kz, kz] [(0, 1, (.c kz)), (1, 1, (.c (ki 2)))])⟩, ku)],
 [],
 [⟨(some 89), (some (86, false)), .o (.call (.c (.fn 29 [])) [(.t 87), (.t 88)])⟩,
 ⟨(some 90), (some (86, false)), .o (.v (.not (.t 89)))⟩,
 kv 91 (.pick (.t 86) (.c (.lit (.bool true))) (.t 90))], none⟩])
 (.cond (.t 91)
 (.seq (.reg [kv 0 (.mov (.c (.lit (.bool false))))])
 .ret)
 .skip))
 (.seq (.reg [kc 93 (.c (.fn 50 [])) [],
 kc 94 (.c (.fn 19 [])) [(.t 93)],
 km 92 94,
 kv 95 (.ext (.t 92) 0),
 kv 96 (.ext (.t 92) 1),
 kv 97 (.ext (.t 92) 2),
 km 11 95,
 km 12 96,
 km 2 97])
 (.seq (.reg [kc 99 (.c (.fn 54 [])) [],
 kc 100 (.c (.fn 30 [])) [(.t 99), (.c (ki 20))],
 km 98 100,
 kv 101 (.ext (.t 98) 0),
 kv 102 (.ext (.t 98) 1),
 kv 103 (.ext (.t 98) 2),
 km 13 101,
 km 14 102,
 km 5 103])
 (.seq (.reg [km 104 2,
 kv 105 (.bin .eql (.t 104) (.c kz)),
 km 106 105,
 ⟨(some 107), (some (106, true)), .o (.v (.mov (.t 5)))⟩,
 ⟨(some 108), (some (106, true)), .o (.v (.bin .eql (.t 107) (.c kz)))⟩,
 kv 109 (.pick (.t 106) (.t 108) (.c (.lit (.bool false)))),
 km 110 109,
 ⟨(some 111), (some (110, true)), .o (.v (.mov (.t 11)))⟩,
 ⟨(some 112), (some (110, true)), .o (.v (.bin .eql (.t 111) (.c (ki 2))))⟩,
 kv 113 (.pick (.t 110) (.t 112) (.c (.lit (.bool false)))),
 km 114 113,
 ⟨(some 115), (some (114, true)), .o (.v (.mov (.t 12)))⟩,
 ⟨(some 116), (some (114, true)), .o (.v (.bin .eql (.t 115) (.c (ki 54))))⟩,
 kv 117 (.pick (.t 114) (.t 116) (.c (.lit (.bool false)))),
 km 118 117,
 ⟨(some 119), (some (118, true)), .o (.v (.mov (.t 13)))⟩,
 ⟨(some 120), (some (118, true)), .o (.bsl 3 3 [kz, kz, kz] [(0, 1, (.c (ki 1))), (1, 1, (.c (ki 2))), (2, 1, (.c (ki 3)))])⟩,
 ⟨(some 121), (some (118, true)), .o (.call (.c (.fn 29 [])) [(.t 119), (.t 120)])⟩,
 kv 122 (.pick (.t 118) (.t 121) (.c (.lit (.bool false)))),
 km 123 122,
 ⟨(some 124), (some (123, true)), .o (.v (.mov (.t 14)))⟩,
 ⟨(some 125), (some (123, true)), .o (.v (.bin .eql (.t 124) (.c (ki 60))))⟩,
 kv 126 (.pick (.t 123) (.t 125) (.c (.lit (.bool false)))),
 km 0 126])
 .ret)))))))))
theorem h21 : FdOk Try.prog 21 ⟨g21, [.t 0], 127, [], false⟩ := .of Try.func21 (by simp [Try.f21]) (by kernel_rfl)
def g22 : RC :=
 (.seq (.reg [ko 3 (.box 26 (.t 0)),
 ko 4 (.box 24 (.t 1)),
 ko 6 (.new 24 [kz, kz]),
 ko 7 (.new 24 [kz, kz]),
 kv 8 (.mov (.c kz))])
 (.seq (.seq (.reg [kv 10 (.load (.t 3) (some 6)),
 kc 11 (.c (.fn 17 [])) [(.t 10)],
 km 9 11])
 (.seq (.reg [km 12 9,
 kv 13 (.bin .neq (.t 12) (.c kz))])
 (.cond (.t 13)
 (.seq (.reg [ko 14 (.bld [kz, kz] []),
 ko 15 (.bld [kz, kz] []),
 km 16 9,
 ⟨none, none, .o (.store 2 (.t 6) (.t 14))⟩,
 ⟨none, none, .o (.store 2 (.t 7) (.t 15))⟩,
 km 8 16])
 .ret)
 .skip)))
 (.seq (.seq (.reg [kv 17 (.load (.t 4) (some 2)),
 kc 18 (.c (.fn 65 [])) [(.t 17), (.c (ki 1)), (.c (ki 4000))],
 kv 19 (.not (.t 18)),
 km 20 19,
 ⟨(some 21), (some (20, false)), .o (.v (.mov (.t 2)))⟩,
 ⟨(some 22), (some (20, false)), .o (.call (.c (.fn 66 [])) [(.t 21)])⟩,
 ⟨(some 23), (some (20, false)), .o (.v (.not (.t 22)))⟩,
 kv 24 (.pick (.t 20) (.c (.lit (.bool true))) (.t 23))])
 (.cond (.t 24)
 (.seq (.reg [ko 25 (.bld [kz, kz] []),
 ko 26 (.bld [kz, kz] []),
 ⟨none, none, .o (.store 2 (.t 6) (.t 25))⟩,
 ⟨none, none, .o (.store 2 (.t 7) (.t 26))⟩,
 kv 8 (.mov (.c (ki 52)))])
 .ret)
 .skip))
 (.seq (.reg [kv 28 (.load (.t 3) (some 6)),
 ko 29 (.bld [kz, (.lit (.slice none 0 0)), kz, kz, kz, (.lit (.slice none 0 0))] [(0, 6, (.t 28))]),
 kv 30 (.load (.t 4) (some 2)),
 km 31 2,
 kc 32 (.c (.fn 67 [])) [(.t 29), (.t 30), (.t 31)],
 km 27 32,
 kv 33 (.ext (.t 27) 0),
 kv 34 (.ext (.t 27) 1),
 ⟨none, none, .o (.store 2 (.t 6) (.t 33))⟩,
 ⟨none, none, .o (.store 2 (.t 7) (.t 34))⟩])
 (.seq (.seq (.drw [⟨[], 0, 1, [(kv 35 (.load (.t 6) (some 2)), ku),
 (kc 36 (.c (.fn 68 [])) [], .eff 0 [])],
 [],
 [kv 37 (.eqs [(some .i64), (some .i64)] false (.t 35) (.t 36))], none⟩])
 (.cond (.t 37)
 (.seq (.reg [ko 38 (.bld [kz, kz] []),
 ko 39 (.bld [kz, kz] []),
 ⟨none, none, .o (.store 2 (.t 6) (.t 38))⟩,
 ⟨none, none, .o (.store 2 (.t 7) (.t 39))⟩,
 kv 8 (.mov (.c (ki 54)))])
 .ret)
 .skip))
 (.seq (.drw [⟨[], 0, 1, [(kv 40 (.load (.t 6) (some 2)), ku),
 (kv 41 (.load (.t 7) (some 2)), .prd [6]),
 (⟨none, none, .o (.store 2 (.t 6) (.t 40))⟩, .efs 0 [] [])],
 [],
 [⟨none, none, .o (.store 2 (.t 7) (.t 41))⟩,
 kv 8 (.mov (.c kz))], none⟩,
 ⟨[], 0, 1, [(kv 40 (.load (.t 6) (some 2)), ku),
 (kv 41 (.load (.t 7) (some 2)), .prd [6]),
 (⟨none, none, .o (.store 2 (.t 6) (.t 40))⟩, .efs 0 [] [])],
 [],
 [⟨none, none, .o (.store 2 (.t 7) (.t 41))⟩,
 kv 8 (.mov (.c kz))], none⟩])
 .ret))))))
theorem h22 : FdOk Try.prog 22 ⟨g22, [.c 6 (some 2), .c 7 (some 2), .t 8], 42, [], false⟩ := .of Try.func22 (by simp [Try.f22]) (by kernel_rfl)
def g24 : RC :=
 (.seq (.reg [ko 2 (.box 26 (.t 0)),
 kv 4 (.mov (.c (.lit (.slice none 0 0)))),
 ko 5 (.new 24 [kz, kz]),
 kv 6 (.mov (.c kz))])
 (.seq (.seq (.reg [kv 9 (.load (.t 2) (some 6)),
 km 10 1,
 kc 11 (.c (.fn 70 [])) [(.t 9), (.t 10)],
 km 7 11])
 (.seq (.reg [km 12 7,
 kv 13 (.bin .neq (.t 12) (.c kz))])
 (.cond (.t 13)
 (.seq (.reg [ko 14 (.bld [kz, kz] []),
 km 15 7,
 kv 4 (.mov (.c (.lit (.slice none 0 0)))),
 ⟨none, none, .o (.store 2 (.t 5) (.t 14))⟩,
 km 6 15])
 .ret)
 .skip)))
 (.seq (.reg [kv 16 (.load (.t 2) (some 6)),
 ko 17 (.bld [kz, (.lit (.slice none 0 0)), kz, kz, kz, (.lit (.slice none 0 0))] [(0, 6, (.t 16))]),
 ko 8 (.new 89 [kz, (.lit (.slice none 0 0)), kz, kz, kz, (.lit (.slice none 0 0))]),
 ⟨none, none, .o (.store 6 (.t 8) (.t 17))⟩])
 (.seq (.drw [⟨[], 0, 2, [(kv 19 (.load (.t 8) (some 6)), ku),
 (kv 20 (.load (.t 8) (some 6)), ku),
 (km 21 1, ku),
 (kc 22 (.c (.fn 72 [])) [(.t 20), (.t 21)], .eff 0 []),
 (kc 23 (.c (.fn 71 [])) [(.t 19), (.t 22)], .eff 1 []),
 (km 18 23, .val 2 []),
 (kv 24 (.ext (.t 18) 0), .val 2 []),
 (kv 25 (.ext (.t 18) 1), .val 2 []),
 (km 4 24, .val 2 [])],
 [],
 [⟨none, none, .o (.store 2 (.t 5) (.t 25))⟩], none⟩])
 (.seq (.seq (.drw [⟨[], 0, 1, [(kv 26 (.load (.t 5) (some 2)), ku),
 (kc 27 (.c (.fn 68 [])) [], .eff 0 [])],
 [],
 [kv 28 (.eqs [(some .i64), (some .i64)] false (.t 26) (.t 27))], none⟩])
 (.cond (.t 28)
 (.seq (.reg [ko 29 (.bld [kz, kz] []),
 kv 4 (.mov (.c (.lit (.slice none 0 0)))),
 ⟨none, none, .o (.store 2 (.t 5) (.t 29))⟩,
 kv 6 (.mov (.c (ki 54)))])
 .ret)
 .skip))
 (.seq (.drw [⟨[], 0, 0, [(km 30 4, ku),
 (kv 31 (.load (.t 5) (some 2)), ku),
 (km 4 30, ku)],
 [],
 [⟨none, none, .o (.store 2 (.t 5) (.t 31))⟩,
 kv 6 (.mov (.c kz))], none⟩])
 .ret))))))
theorem h24 : FdOk Try.prog 24 ⟨g24, [.t 4, .c 5 (some 2), .t 6], 32, [], false⟩ := .of Try.func24 (by simp [Try.f24]) (by kernel_rfl)
def g26 : RC :=
 (.seq (.reg [kv 4 (.mov (.c (.lit (.bool false))))])
 (.seq (.seq (.reg [km 6 0,
 kv 7 (.len (.t 6)),
 km 8 1,
 kv 9 (.len (.t 8)),
 kv 10 (.bin .neq (.t 7) (.t 9))])
 (.cond (.t 10)
 (.seq (.reg [kv 4 (.mov (.c (.lit (.bool false))))])
 .ret)
 .skip))
 (.seq (.seq (.reg [kv 5 (.mov (.c kz))])
 (.block 0 (.loop
 (.seq (.seq (.reg [km 11 5,
 km 12 0,
 kv 13 (.len (.t 12)),
 kv 14 (.bin .lss (.t 11) (.t 13))])
 (.cond (.t 14)
 .skip
 (.exit 0)))
 (.seq (.block 1 (.seq (.drw [⟨[], 0, 0, [(km 17 0, ku),
 (km 18 5, ku),
 (kv 19 (.ixa (.t 17) (.t 18) 2), ku),
 (kv 20 (.load (.t 19) (some 2)), ku),
 (km 21 1, ku),
 (km 22 5, ku),
 (kv 23 (.ixa (.t 21) (.t 22) 2), ku),
 (kv 24 (.load (.t 23) (some 2)), ku)],
 [],
 [kv 25 (.eqs [(some .i64), (some .i64)] true (.t 20) (.t 24))], none⟩])
 (.cond (.t 25)
 (.seq (.reg [kv 4 (.mov (.c (.lit (.bool false))))])
 .ret)
 .skip)))
 (.reg [km 15 5,
 kv 16 (.bin .add (.t 15) (.c (ki 1))),
 km 5 16]))))))
 (.seq (.reg [kv 4 (.mov (.c (.lit (.bool true))))])
 .ret))))
theorem h26 : FdOk Try.prog 26 ⟨g26, [.t 4], 26, [], false⟩ := .of Try.func26 (by simp [Try.f26]) (by kernel_rfl)
def g27 : RC :=
 (.seq (.reg [ko 2 (.box 26 (.t 0)),
 kv 4 (.mov (.c (.lit (.slice none 0 0)))),
 kv 5 (.mov (.c kz))])
 (.seq (.seq (.reg [kv 8 (.load (.t 2) (some 6)),
 km 9 1,
 kc 10 (.c (.fn 70 [])) [(.t 8), (.t 9)],
 km 6 10])
 (.seq (.reg [km 11 6,
 kv 12 (.bin .neq (.t 11) (.c kz))])
 (.cond (.t 12)
 (.seq (.reg [km 13 6,
 kv 4 (.mov (.c (.lit (.slice none 0 0)))),
 km 5 13])
 .ret)
 .skip)))
 (.seq (.reg [kv 14 (.load (.t 2) (some 6)),
 ko 15 (.bld [kz, (.lit (.slice none 0 0)), kz, kz, kz, (.lit (.slice none 0 0))] [(0, 6, (.t 14))]),
 ko 7 (.new 89 [kz, (.lit (.slice none 0 0)), kz, kz, kz, (.lit (.slice none 0 0))]),
 ⟨none, none, .o (.store 6 (.t 7) (.t 15))⟩])
 (.seq (.seq (.reg [kv 16 (.load (.t 7) (some 6)),
 km 17 1,
 kc 18 (.c (.fn 75 [])) [(.t 16), (.t 17)]])
 (.cond (.t 18)
 (.seq (.reg [kv 4 (.mov (.c (.lit (.slice none 0 0)))),
 kv 5 (.mov (.c (ki 4)))])
 .ret)
 .skip))
 (.seq (.reg [kv 19 (.load (.t 7) (some 6)),
 km 20 1,
 kc 21 (.c (.fn 76 [])) [(.t 19), (.t 20)],
 km 4 21,
 kv 5 (.mov (.c kz))])
 .ret)))))
theorem h27 : FdOk Try.prog 27 ⟨g27, [.t 4, .t 5], 22, [], false⟩ := .of Try.func27 (by simp [Try.f27]) (by kernel_rfl)
def g29 : RC :=
 (.seq (.reg [kv 4 (.mov (.c (.lit (.bool false))))])
 (.seq (.seq (.reg [km 6 0,
 kv 7 (.len (.t 6)),
 km 8 1,
 kv 9 (.len (.t 8)),
 kv 10 (.bin .neq (.t 7) (.t 9))])
 (.cond (.t 10)
 (.seq (.reg [kv 4 (.mov (.c (.lit (.bool false))))])
 .ret)
 .skip))
 (.seq (.seq (.reg [kv 5 (.mov (.c kz))])
 (.block 0 (.loop
 (.seq (.seq (.reg [km 11 5,
 km 12 0,
 kv 13 (.len (.t 12)),
 kv 14 (.bin .lss (.t 11) (.t 13))])
 (.cond (.t 14)
 .skip
 (.exit 0)))
 (.seq (.block 1 (.seq (.drw [⟨[], 0, 0, [(km 17 0, ku),
 (km 18 5, ku),
 (kv 19 (.ixa (.t 17) (.t 18) 1), ku),
 (kl 20 19, ku),
 (km 21 1, ku),
 (km 22 5, ku),
 (kv 23 (.ixa (.t 21) (.t 22) 1), ku),
 (kl 24 23, ku)],
 [],
 [kv 25 (.bin .neq (.t 20) (.t 24))], none⟩])
 (.cond (.t 25)
 (.seq (.reg [kv 4 (.mov (.c (.lit (.bool false))))])
 .ret)
 .skip)))
 (.reg [km 15 5,
 kv 16 (.bin .add (.t 15) (.c (ki 1))),
 km 5 16]))))))
 (.seq (.reg [kv 4 (.mov (.c (.lit (.bool true))))])
 .ret))))
theorem h29 : FdOk Try.prog 29 ⟨g29, [.t 4], 26, [], false⟩ := .of Try.func29 (by simp [Try.f29]) (by kernel_rfl)
def g30 : RC :=
 (.seq (.reg [kv 4 (.mov (.c (.lit (.slice none 0 0)))),
 kv 5 (.mov (.c kz)),
 kv 6 (.mov (.c kz))])
 (.seq (.seq (.reg [km 9 0,
 kc 10 (.c (.fn 77 [])) [(.t 9)],
 kv 11 (.not (.t 10)),
 km 12 11,
 ⟨(some 13), (some (12, false)), .o (.v (.mov (.t 1)))⟩,
 ⟨(some 14), (some (12, false)), .o (.call (.c (.fn 78 [])) [(.t 13), (.c kz), (.c (ki 5000))])⟩,
 ⟨(some 15), (some (12, false)), .o (.v (.not (.t 14)))⟩,
 kv 16 (.pick (.t 12) (.c (.lit (.bool true))) (.t 15))])
 (.cond (.t 16)
 (.seq (.reg [kv 4 (.mov (.c (.lit (.slice none 0 0)))),
 kv 5 (.mov (.c kz)),
 kv 6 (.mov (.c (ki 55)))])
 .ret)
 .skip))
 (.seq (.reg [km 17 0,
 km 18 1,
 kc 19 (.c (.fn 79 [])) [(.t 17), (.t 18)],
 km 7 19])
 (.seq (.seq (.reg [km 20 7,
 kv 21 (.len (.t 20)),
 kv 22 (.bin .eql (.t 21) (.c kz))])
 (.cond (.t 22)
 (.seq (.reg [kv 4 (.mov (.c (.lit (.slice none 0 0)))),
 kv 5 (.mov (.c kz)),
 kv 6 (.mov (.c (ki 4)))])
 .ret)
 .skip))
 (.seq (.drw [⟨[7], 0, 1, [(km 23 7, ku),
 (kv 24 (.ixa (.t 23) (.c kz) 4), ku),
 (kv 25 (.load (.t 24) (some 4)), ku),
 (km 26 7, ku),
 (ko 27 (.slc (.t 26) (some (.c (ki 1))) none none 4), ku),
 (kc 28 (.c (.fn 80 [])) [(.c (.fn 81 [])), (.t 25), (.t 27)], .eff 0 [])],
 [],
 [ko 8 (.new 119 [kz, kz, kz, kz]),
 ⟨none, none, .o (.store 4 (.t 8) (.t 28))⟩], (some 8)⟩,
 ⟨[7], 1, 0, [(km 23 7, ku),
 (kv 24 (.ixa (.t 23) (.c kz) 4), ku),
 (kv 25 (.load (.t 24) (some 4)), ku),
 (km 26 7, ku),
 (ko 27 (.slc (.t 26) (some (.c (ki 1))) none none 4), ku),
 (kc 28 (.c (.fn 80 [])) [(.c (.fn 81 [])), (.t 25), (.t 27)], ku),
 (ko 8 (.new 119 [kz, kz, kz, kz]), .cre 0)],
 [0],
 [⟨none, none, .o (.store 4 (.t 8) (.t 28))⟩], none⟩])
 (.seq (.drw [⟨[], 0, 0, [(kf 29 8 0, ku),
 (⟨(some 30), none, .e1 (.sla 3 1) (.t 29)⟩, ku),
 (kf 31 8 3, ku),
 (kl 32 31, ku),
 (km 4 30, ku)],
 [],
 [km 5 32,
 kv 6 (.mov (.c kz))], none⟩])
 .ret))))))
theorem h30 : FdOk Try.prog 30 ⟨g30, [.t 4, .t 5, .t 6], 33, [], false⟩ := .of Try.func30 (by simp [Try.f30]) (by kernel_rfl)
def g40 : RC :=
 (.seq (.reg [ko 4 (.new 24 [kz, kz])])
 (.seq (.reg [km 5 0,
 km 6 1,
 ko 7 (.bld [kz, kz] [(0, 1, (.t 5)), (1, 1, (.t 6))]),
 ⟨none, none, .o (.store 2 (.t 4) (.t 7))⟩])
 .ret))
theorem h40 : FdOk Try.prog 40 ⟨g40, [.c 4 (some 2)], 8, [], false⟩ := .of Try.func40 (by simp [Try.f40]) (by kernel_rfl)
def g50 : RC :=
 (.seq (.reg [ko 0 (.new 26 [kz, (.lit (.slice none 0 0)), kz, kz, kz, (.lit (.slice none 0 0))])])
 (.seq (.reg [kc 1 (.c (.fn 40 [])) [(.c kz), (.c kz)],
 kc 2 (.c (.fn 40 [])) [(.c (ki (-10))), (.c (ki 10))],
 kc 3 (.c (.fn 40 [])) [(.c (ki 20)), (.c (ki 40))],
 ko 4 (.bsl 24 3 [kz, kz, kz, kz, kz, kz] [(0, 2, (.t 1)), (2, 2, (.t 2)), (4, 2, (.t 3))]),
 kc 5 (.c (.fn 40 [])) [(.c (ki (-30))), (.c (ki (-20)))],
 kc 6 (.c (.fn 40 [])) [(.c kz), (.c (ki 6))],
 kc 7 (.c (.fn 40 [])) [(.c (ki (-4))), (.c (ki 4))],
 ko 8 (.bsl 24 2 [kz, kz, kz, kz] [(0, 2, (.t 6)), (2, 2, (.t 7))]),
 ko 9 (.bld [kz, (.lit (.slice none 0 0)), kz, kz, kz, (.lit (.slice none 0 0))] [(0, 1, (.c (ki 36000))), (1, 1, (.t 4)), (2, 2, (.t 5)), (4, 1, (.c (ki 5))), (5, 1, (.t 8))]),
 ⟨none, none, .o (.store 6 (.t 0) (.t 9))⟩])
 .ret))
theorem h50 : FdOk Try.prog 50 ⟨g50, [.c 0 (some 6)], 10, [], true⟩ := .of Try.func50 (by simp [Try.f50]) (by kernel_rfl)
def g51 : RC :=
 (.seq (.reg [kv 0 (.mov (.c (.lit (.slice none 0 0))))])
 (.seq (.reg [ko 1 (.bld [kz, kz] [(0, 1, (.c (ki 1915))), (1, 1, (.c (ki 1865)))]),
 ko 2 (.bld [kz, kz] [(0, 1, (.c (ki 1912))), (1, 1, (.c (ki 1862)))]),
 ko 3 (.bsl 67 2 [kz, kz, kz, kz] [(0, 2, (.t 1)), (2, 2, (.t 2))]),
 km 0 3])
 .ret))
theorem h51 : FdOk Try.prog 51 ⟨g51, [.t 0], 4, [], false⟩ := .of Try.func51 (by simp [Try.f51]) (by kernel_rfl)
def g52 : RC :=
 (.seq (.reg [ko 4 (.new 84 [kz, kz, kz])])
 (.seq (.reg [km 5 0,
 ko 6 (.bld [kz, kz] [(0, 1, (.t 5))]),
 km 7 1,
 ko 8 (.bld [kz, kz, kz] [(0, 2, (.t 6)), (2, 1, (.t 7))]),
 ⟨none, none, .o (.store 3 (.t 4) (.t 8))⟩])
 .ret))
theorem h52 : FdOk Try.prog 52 ⟨g52, [.c 4 (some 3)], 9, [], false⟩ := .of Try.func52 (by simp [Try.f52]) (by kernel_rfl)
def g53 : RC :=
 (.seq (.reg [kv 0 (.mov (.c (.lit (.slice none 0 0))))])
 (.seq (.reg [kc 1 (.c (.fn 52 [])) [(.c (ki 36000)), (.c (ki 35985))],
 kc 2 (.c (.fn 52 [])) [(.c (ki 72000)), (.c (ki 72010))],
 kc 3 (.c (.fn 52 [])) [(.c (ki 36000)), (.c (ki 35960))],
 ko 4 (.bsl 84 3 [kz, kz, kz, kz, kz, kz, kz, kz, kz] [(0, 3, (.t 1)), (3, 3, (.t 2)), (6, 3, (.t 3))]),
 km 0 4])
 .ret))
theorem h53 : FdOk Try.prog 53 ⟨g53, [.t 0], 5, [], false⟩ := .of Try.func53 (by simp [Try.f53]) (by kernel_rfl)
def g54 : RC :=
 (.seq (.reg [kv 0 (.mov (.c (.lit (.slice none 0 0))))])
 (.seq (.reg [kc 1 (.c (.fn 40 [])) [(.c kz), (.c (ki 4))],
 kc 2 (.c (.fn 40 [])) [(.c kz), (.c (ki 10))],
 ko 3 (.bsl 24 2 [kz, kz, kz, kz] [(0, 2, (.t 1)), (2, 2, (.t 2))]),
 ko 4 (.bld [kz, kz, (.lit (.slice none 0 0))] [(0, 1, (.c kz)), (1, 1, (.c (ki 50))), (2, 1, (.t 3))]),
 kc 5 (.c (.fn 40 [])) [(.c (ki (-3))), (.c (ki 3))],
 kc 6 (.c (.fn 40 [])) [(.c (ki (-12))), (.c (ki 12))],
 ko 7 (.bsl 24 2 [kz, kz, kz, kz] [(0, 2, (.t 5)), (2, 2, (.t 6))]),
 ko 8 (.bld [kz, kz, (.lit (.slice none 0 0))] [(0, 1, (.c kz)), (1, 1, (.c (ki 30))), (2, 1, (.t 7))]),
 kc 9 (.c (.fn 40 [])) [(.c kz), (.c kz)],
 kc 10 (.c (.fn 40 [])) [(.c (ki 2)), (.c (ki 6))],
 ko 11 (.bsl 24 2 [kz, kz, kz, kz] [(0, 2, (.t 9)), (2, 2, (.t 10))]),
 ko 12 (.bld [kz, kz, (.lit (.slice none 0 0))] [(0, 1, (.c (ki 1))), (1, 1, (.c (ki 20))), (2, 1, (.t 11))]),
 kc 13 (.c (.fn 40 [])) [(.c (ki (-2))), (.c (ki 2))],
 kc 14 (.c (.fn 40 [])) [(.c (ki (-2))), (.c (ki 2))],
 ko 15 (.bsl 24 2 [kz, kz, kz, kz] [(0, 2, (.t 13)), (2, 2, (.t 14))]),
 ko 16 (.bld [kz, kz, (.lit (.slice none 0 0))] [(0, 1, (.c (ki 2))), (1, 1, (.c (ki 10))), (2, 1, (.t 15))]),
 kc 17 (.c (.fn 40 [])) [(.c kz), (.c (ki 1))],
 kc 18 (.c (.fn 40 [])) [(.c kz), (.c (ki 1))],
 ko 19 (.bsl 24 2 [kz, kz, kz, kz] [(0, 2, (.t 17)), (2, 2, (.t 18))]),
 ko 20 (.bld [kz, kz, (.lit (.slice none 0 0))] [(0, 1, (.c (ki 2))), (1, 1, (.c (ki 25))), (2, 1, (.t 19))]),
 ko 21 (.bsl 77 5 [kz, kz, (.lit (.slice none 0 0)), kz, kz, (.lit (.slice none 0 0)), kz, kz, (.lit (.slice none 0 0)), kz, kz, (.lit (.slice none 0 0)), kz, kz, (.lit (.slice none 0 0))] [(0, 3, (.t 4)), (3, 3, (.t 8)), (6, 3, (.t 12)), (9, 3, (.t 16)), (12, 3, (.t 20))]),
 km 0 21])
 .ret))
theorem h54 : FdOk Try.prog 54 ⟨g54, [.t 0], 22, [], true⟩ := .of Try.func54 (by simp [Try.f54]) (by kernel_rfl)
def g55 : RC :=
 (.seq (.reg [ko 2 (.box 89 (.t 0)),
 ko 3 (.box 28 (.t 1)),
 kv 4 (.mov (.c (.lit (.bool false))))])
 (.seq (.drw [⟨[], 0, 3, [(kf 5 3 0, ku),
 (kl 6 5, ku),
 (kv 7 (.load (.t 2) (some 6)), ku),
 (kc 8 (.c (.fn 87 [])) [(.t 7)], .eff 0 []),
 (kc 9 (.c (.fn 78 [])) [(.t 6), (.c kz), (.t 8)], .eff 1 []),
 (km 10 9, .val 2 []),
 (⟨(some 11), (some (10, true)), .o (.v (.off (.t 3) 1))⟩, .val 2 []),
 (⟨(some 12), (some (10, true)), .o (.v (.load (.t 11) none))⟩, .val 2 []),
 (⟨(some 13), (some (10, true)), .o (.v (.load (.t 2) (some 6)))⟩, .val 2 []),
 (⟨(some 14), (some (10, true)), .o (.call (.c (.fn 88 [])) [(.t 13)])⟩, .eff 2 [])],
 [],
 [⟨(some 15), (some (10, true)), .o (.call (.c (.fn 78 [])) [(.t 12), (.c kz), (.t 14)])⟩,
 kv 16 (.pick (.t 10) (.t 15) (.c (.lit (.bool false)))),
 km 4 16], none⟩])
 .ret))
theorem h55 : FdOk Try.prog 55 ⟨g55, [.t 4], 17, [], false⟩ := .of Try.func55 (by simp [Try.f55]) (by kernel_rfl)
def g56 : RC :=
 (.seq (.reg [ko 2 (.box 89 (.t 0)),
 ko 3 (.box 28 (.t 1)),
 ko 4 (.new 24 [kz, kz])])
 (.seq (.drw [⟨[], 0, 4, [(kf 5 3 0, ku),
 (kl 6 5, ku),
 (kc 7 (.c (.fn 90 [])) [(.t 6)], .eff 0 []),
 (kv 8 (.load (.t 2) (some 6)), ku),
 (kc 9 (.c (.fn 92 [])) [(.t 8)], .eff 1 []),
 (kv 10 (.load (.t 3) (some 2)), ku),
 (kc 11 (.c (.fn 91 [])) [(.t 9), (.t 10)], .eff 2 []),
 (kv 12 (.load (.t 2) (some 6)), ku),
 (kc 13 (.c (.fn 93 [])) [(.t 12)], .eff 3 []),
 (kv 14 (.load (.t 3) (some 2)), ku)],
 [],
 [kc 15 (.c (.fn 91 [])) [(.t 13), (.t 14)],
 ko 16 (.bsl 24 3 [kz, kz, kz, kz, kz, kz] [(0, 2, (.t 7)), (2, 2, (.t 11)), (4, 2, (.t 15))]),
 kc 17 (.c (.fn 89 [])) [(.t 16)],
 ⟨none, none, .o (.store 2 (.t 4) (.t 17))⟩], none⟩])
 .ret))
theorem h56 : FdOk Try.prog 56 ⟨g56, [.c 4 (some 2)], 18, [], false⟩ := .of Try.func56 (by simp [Try.f56]) (by kernel_rfl)
def g61 : RC :=
 (.seq (.reg [ko 1 (.box 89 (.t 0)),
 kv 2 (.mov (.c (.lit (.bool false))))])
 (.seq (.reg [kf 3 1 0,
 kf 4 3 0,
 kl 5 4,
 kc 6 (.c (.fn 78 [])) [(.t 5), (.c (ki 1)), (.c (ki 72000))],
 km 7 6,
 ⟨(some 8), (some (7, true)), .o (.v (.off (.t 1) 0))⟩,
 ⟨(some 9), (some (7, true)), .o (.v (.off (.t 8) 1))⟩,
 ⟨(some 10), (some (7, true)), .o (.v (.load (.t 9) none))⟩,
 ⟨(some 11), (some (7, true)), .o (.v (.len (.t 10)))⟩,
 ⟨(some 12), (some (7, true)), .o (.call (.c (.fn 78 [])) [(.t 11), (.c (ki 2)), (.c (ki 12))])⟩,
 kv 13 (.pick (.t 7) (.t 12) (.c (.lit (.bool false)))),
 km 14 13,
 ⟨(some 15), (some (14, true)), .o (.v (.off (.t 1) 0))⟩,
 ⟨(some 16), (some (14, true)), .o (.v (.off (.t 15) 1))⟩,
 ⟨(some 17), (some (14, true)), .o (.v (.load (.t 16) none))⟩,
 ⟨(some 18), (some (14, true)), .o (.call (.c (.fn 94 [])) [(.t 17), (.c (ki 600))])⟩,
 kv 19 (.pick (.t 14) (.t 18) (.c (.lit (.bool false)))),
 km 20 19,
 ⟨(some 21), (some (20, true)), .o (.v (.load (.t 1) (some 6)))⟩,
 ⟨(some 22), (some (20, true)), .o (.call (.c (.fn 87 [])) [(.t 21)])⟩,
 ⟨(some 23), (some (20, true)), .o (.v (.bin .leq (.t 22) (.c (ki 504000))))⟩,
 kv 24 (.pick (.t 20) (.t 23) (.c (.lit (.bool false)))),
 km 25 24,
 ⟨(some 26), (some (25, true)), .o (.v (.off (.t 1) 0))⟩,
 ⟨(some 27), (some (25, true)), .o (.v (.off (.t 26) 2))⟩,
 ⟨(some 28), (some (25, true)), .o (.v (.load (.t 27) (some 2)))⟩,
 ⟨(some 29), (some (25, true)), .o (.call (.c (.fn 65 [])) [(.t 28), (.c (ki (-1800))), (.c (ki 1800))])⟩,
 kv 30 (.pick (.t 25) (.t 29) (.c (.lit (.bool false)))),
 km 31 30,
 ⟨(some 32), (some (31, true)), .o (.v (.off (.t 1) 0))⟩,
 ⟨(some 33), (some (31, true)), .o (.v (.off (.t 32) 4))⟩,
 ⟨(some 34), (some (31, true)), .o (.v (.load (.t 33) none))⟩,
 ⟨(some 35), (some (31, true)), .o (.call (.c (.fn 78 [])) [(.t 34), (.c kz), (.c (ki 60))])⟩,
 kv 36 (.pick (.t 31) (.t 35) (.c (.lit (.bool false)))),
 km 37 36,
 ⟨(some 38), (some (37, true)), .o (.v (.off (.t 1) 0))⟩,
 ⟨(some 39), (some (37, true)), .o (.v (.off (.t 38) 5))⟩,
 ⟨(some 40), (some (37, true)), .o (.v (.load (.t 39) none))⟩,
 ⟨(some 41), (some (37, true)), .o (.v (.len (.t 40)))⟩,
 ⟨(some 42), (some (37, true)), .o (.v (.bin .leq (.t 41) (.c (ki 6))))⟩,
 kv 43 (.pick (.t 37) (.t 42) (.c (.lit (.bool false)))),
 km 44 43,
 ⟨(some 45), (some (44, true)), .o (.v (.off (.t 1) 0))⟩,
 ⟨(some 46), (some (44, true)), .o (.v (.off (.t 45) 5))⟩,
 ⟨(some 47), (some (44, true)), .o (.v (.load (.t 46) none))⟩,
 ⟨(some 48), (some (44, true)), .o (.call (.c (.fn 94 [])) [(.t 47), (.c (ki 120))])⟩,
 kv 49 (.pick (.t 44) (.t 48) (.c (.lit (.bool false)))),
 km 2 49])
 .ret))
theorem h61 : FdOk Try.prog 61 ⟨g61, [.t 2], 50, [], false⟩ := .of Try.func61 (by simp [Try.f61]) (by kernel_rfl)
def g63 : RC :=
 (.seq (.reg [ko 1 (.box 89 (.t 0)),
 kv 2 (.mov (.c kz))])
 (.seq (.reg [kv 3 (.mov (.c (.lit (.slice none 0 0))))])
 (.seq (.seq (.reg [kf 5 1 0,
 kf 6 5 1,
 kl 7 6,
 kv 8 (.len (.t 7)),
 kv 9 (.mov (.c kz))])
 (.block 0 (.loop
 (.seq (.reg [kv 10 (.bin .lss (.t 9) (.t 8))])
 (.seq (.cond (.t 10)
 .skip
 (.exit 0))
 (.seq (.block 1 (.seq (.reg [km 11 9,
 km 4 11])
 (.drw [⟨[], 1, 2, [(km 12 3, ku),
 (kv 13 (.load (.t 1) (some 6)), ku),
 (km 14 4, ku),
 (kf 15 1 0, ku),
 (kf 16 15 0, ku),
 (kl 17 16, ku),
 (kv 18 (.bin .mul (.t 14) (.t 17)), ku),
 (kv 19 (.load (.t 1) (some 6)), ku),
 (kc 20 (.c (.fn 88 [])) [(.t 19)], .eff 0 []),
 (ko 21 (.bld [kz, kz] [(0, 1, (.t 18)), (1, 1, (.t 20))]), .val 1 []),
 (kc 22 (.c (.fn 56 [])) [(.t 13), (.t 21)], .eff 1 []),
 (ko 23 (.bsl 24 1 [kz, kz] [(0, 2, (.t 22))]), .cre 0)],
 [0],
 [ko 24 (.app 24 2 16 (.t 12) (.t 23)),
 km 3 24], none⟩])))
 (.reg [kv 25 (.bin .add (.t 9) (.c (ki 1))),
 km 9 25])))))))
 (.seq (.drw [⟨[3], 0, 0, [(km 26 3, ku),
 (kv 27 (.ixa (.t 26) (.c kz) 2), ku),
 (kv 28 (.load (.t 27) (some 2)), ku),
 (km 29 3, ku),
 (ko 30 (.slc (.t 29) (some (.c (ki 1))) none none 2), ku)],
 [],
 [kc 31 (.c (.fn 96 [])) [(.c (.fn 97 [])), (.t 28), (.t 30)],
 kc 32 (.c (.fn 95 [])) [(.t 31)],
 km 2 32], none⟩])
 .ret))))
theorem h63 : FdOk Try.prog 63 ⟨g63, [.t 2], 33, [], false⟩ := .of Try.func63 (by simp [Try.f63]) (by kernel_rfl)
def g64 : RC :=
 (.seq (.reg [kv 2 (.mov (.c kz))])
 (.seq (.block 0 (.seq (.reg [km 4 0,
 kv 5 (.bin .leq (.t 4) (.c (ki 40))),
 km 3 5])
 (.cond (.t 3)
 (.seq (.reg [kv 2 (.mov (.c (ki 1)))])
 .ret)
 (.seq (.reg [km 7 0,
 kv 8 (.bin .leq (.t 7) (.c (ki 200))),
 km 6 8])
 (.cond (.t 6)
 (.seq (.reg [kv 2 (.mov (.c (ki 2)))])
 .ret)
 .skip)))))
 (.seq (.reg [kv 2 (.mov (.c (ki 3)))])
 .ret)))
theorem h64 : FdOk Try.prog 64 ⟨g64, [.t 2], 9, [], false⟩ := .of Try.func64 (by simp [Try.f64]) (by kernel_rfl)
def g65 : RC :=
 (.seq (.reg [ko 3 (.box 24 (.t 0)),
 kv 6 (.mov (.c (.lit (.bool false))))])
 (.seq (.reg [km 7 1,
 kf 8 3 0,
 kl 9 8,
 kv 10 (.bin .leq (.t 7) (.t 9)),
 km 11 10,
 ⟨(some 12), (some (11, true)), .o (.v (.off (.t 3) 0))⟩,
 ⟨(some 13), (some (11, true)), .o (.v (.load (.t 12) none))⟩,
 ⟨(some 14), (some (11, true)), .o (.v (.off (.t 3) 1))⟩,
 ⟨(some 15), (some (11, true)), .o (.v (.load (.t 14) none))⟩,
 ⟨(some 16), (some (11, true)), .o (.v (.bin .leq (.t 13) (.t 15)))⟩,
 kv 17 (.pick (.t 11) (.t 16) (.c (.lit (.bool false)))),
 km 18 17,
 ⟨(some 19), (some (18, true)), .o (.v (.off (.t 3) 1))⟩,
 ⟨(some 20), (some (18, true)), .o (.v (.load (.t 19) none))⟩,
 ⟨(some 21), (some (18, true)), .o (.v (.mov (.t 2)))⟩,
 ⟨(some 22), (some (18, true)), .o (.v (.bin .leq (.t 20) (.t 21)))⟩,
 kv 23 (.pick (.t 18) (.t 22) (.c (.lit (.bool false)))),
 km 6 23])
 .ret))
theorem h65 : FdOk Try.prog 65 ⟨g65, [.t 6], 24, [], false⟩ := .of Try.func65 (by simp [Try.f65]) (by kernel_rfl)
def g66 : RC :=
 (.seq (.reg [kv 2 (.mov (.c (.lit (.bool false))))])
 (.seq (.seq (.reg [km 5 0,
 kv 6 (.len (.t 5)),
 kc 7 (.c (.fn 78 [])) [(.t 6), (.c (ki 1)), (.c (ki 6))],
 kv 8 (.not (.t 7))])
 (.cond (.t 8)
 (.seq (.reg [kv 2 (.mov (.c (.lit (.bool false))))])
 .ret)
 .skip))
 (.seq (.seq (.reg [km 9 0,
 kv 10 (.len (.t 9)),
 kv 11 (.mov (.c kz))])
 (.block 0 (.loop
 (.seq (.reg [kv 12 (.bin .lss (.t 11) (.t 10))])
 (.seq (.cond (.t 12)
 .skip
 (.exit 0))
 (.seq (.block 1 (.seq (.reg [kv 13 (.ixa (.t 9) (.t 11) 2),
 kv 14 (.load (.t 13) (some 2)),
 ko 4 (.new 67 [kz, kz]),
 ⟨none, none, .o (.store 2 (.t 4) (.t 14))⟩])
 (.seq (.reg [kf 15 4 0,
 kl 16 15,
 kc 17 (.c (.fn 78 [])) [(.t 16), (.c kz), (.c (ki 6000))],
 kv 18 (.not (.t 17)),
 km 19 18,
 ⟨(some 20), (some (19, false)), .o (.v (.off (.t 4) 1))⟩,
 ⟨(some 21), (some (19, false)), .o (.v (.load (.t 20) none))⟩,
 ⟨(some 22), (some (19, false)), .o (.call (.c (.fn 78 [])) [(.t 21), (.c kz), (.c (ki 6000))])⟩,
 ⟨(some 23), (some (19, false)), .o (.v (.not (.t 22)))⟩,
 kv 24 (.pick (.t 19) (.c (.lit (.bool true))) (.t 23))])
 (.cond (.t 24)
 (.seq (.reg [kv 2 (.mov (.c (.lit (.bool false))))])
 .ret)
 .skip))))
 (.reg [kv 25 (.bin .add (.t 11) (.c (ki 1))),
 km 11 25])))))))
 (.seq (.reg [kv 2 (.mov (.c (.lit (.bool true))))])
 .ret))))
theorem h66 : FdOk Try.prog 66 ⟨g66, [.t 2], 26, [], false⟩ := .of Try.func66 (by simp [Try.f66]) (by kernel_rfl)
def g67 : RC :=
 (.seq (.reg [ko 3 (.box 89 (.t 0)),
 ko 4 (.box 24 (.t 1)),
 ko 5 (.box 37 (.t 2)),
 ko 6 (.new 24 [kz, kz]),
 ko 7 (.new 24 [kz, kz])])
 (.scp (.seq (.reg [kc 15 (.c (.fn 68 [])) [],
 kc 16 (.c (.fn 68 [])) [],
 ⟨none, none, .o (.store 2 (.t 6) (.t 15))⟩,
 ⟨none, none, .o (.store 2 (.t 7) (.t 16))⟩])
 (.seq (.reg [ko 17 (.bld [(.lit .nilFunc), (.lit .nilFunc)] [(0, 1, (.c (.fn 98 []))), (1, 1, (.c (.fn 99 [])))]),
 ko 8 (.new 138 [(.lit .nilFunc), (.lit .nilFunc)]),
 ⟨none, none, .o (.store 2 (.t 8) (.t 17))⟩])
 (.seq .skip
 (.seq (.seq (.reg [kv 18 (.load (.t 3) (some 6)),
 kc 19 (.c (.fn 100 [])) [(.t 18)]])
 (.block 0 (.rng (.t 19) [20]
 (.reg [km 9 20])
 (.block 1 (.seq (.reg [kv 21 (.load (.t 4) (some 2)),
 ko 10 (.new 24 [kz, kz]),
 ⟨none, none, .o (.store 2 (.t 10) (.t 21))⟩])
 (.seq (.seq (.reg [kl 22 5,
 kv 23 (.len (.t 22)),
 kv 24 (.mov (.c kz))])
 (.block 2 (.loop
 (.seq (.reg [kv 25 (.bin .lss (.t 24) (.t 23))])
 (.seq (.cond (.t 25)
 .skip
 (.exit 2))
 (.seq (.block 3 (.seq (.reg [kv 26 (.ixa (.t 22) (.t 24) 2),
 kv 27 (.load (.t 26) (some 2)),
 ko 12 (.new 67 [kz, kz]),
 ⟨none, none, .o (.store 2 (.t 12) (.t 27))⟩])
 (.seq (.seq (.reg [kv 28 (.load (.t 8) (some 2)),
 kv 29 (.mov (.c kz))])
 (.block 4 (.loop
 (.seq (.reg [kv 30 (.bin .lss (.t 29) (.c (ki 2)))])
 (.seq (.cond (.t 30)
 .skip
 (.exit 4))
 (.seq (.block 5 (.seq (.reg [kv 31 (.ixv (.t 28) (.t 29) 2 1 none),
 km 14 31])
 (.drw [⟨[], 1, 4, [(kv 32 (.load (.t 10) (some 2)), ku),
 (km 33 14, ku),
 (kv 34 (.load (.t 12) (some 2)), ku),
 (ko 35 (.bld [kz, kz] [(0, 2, (.t 34))]), ku),
 (km 36 9, ku),
 (kc 37 (.t 33) [(.t 35), (.t 36)], .eff 0 []),
 (kc 38 (.c (.fn 90 [])) [(.t 37)], .eff 1 []),
 (kf 39 3 0, ku),
 (kf 40 39 4, ku),
 (kl 41 40, ku),
 (kc 42 (.c (.fn 102 [])) [(.t 41)], .eff 2 []),
 (ko 43 (.bsl 24 2 [kz, kz, kz, kz] [(0, 2, (.t 38)), (2, 2, (.t 42))]), .cre 0),
 (kc 44 (.c (.fn 89 [])) [(.t 43)], .eff 3 [0])],
 [],
 [kc 45 (.c (.fn 101 [])) [(.t 32), (.t 44)],
 ⟨none, none, .o (.store 2 (.t 10) (.t 45))⟩], none⟩])))
 (.reg [kv 46 (.bin .add (.t 29) (.c (ki 1))),
 km 29 46])))))))
 (.seq (.drw [⟨[], 0, 1, [(kv 47 (.load (.t 10) (some 2)), ku),
 (kc 48 (.c (.fn 68 [])) [], .eff 0 [])],
 [],
 [kv 49 (.eqs [(some .i64), (some .i64)] false (.t 47) (.t 48))], none⟩])
 (.cond (.t 49)
 (.exit 1)
 .skip)))))
 (.reg [kv 50 (.bin .add (.t 24) (.c (ki 1))),
 km 24 50])))))))
 (.drw [⟨[], 0, 2, [(kv 51 (.load (.t 6) (some 2)), ku),
 (km 52 9, ku),
 (kc 53 (.c (.fn 90 [])) [(.t 52)], .eff 0 []),
 (kc 54 (.c (.fn 103 [])) [(.t 51), (.t 53)], .eff 1 []),
 (kv 55 (.load (.t 7) (some 2)), ku),
 (kv 56 (.load (.t 10) (some 2)), ku)],
 [],
 [kc 57 (.c (.fn 103 [])) [(.t 55), (.t 56)],
 ⟨none, none, .o (.store 2 (.t 6) (.t 54))⟩,
 ⟨none, none, .o (.store 2 (.t 7) (.t 57))⟩], none⟩])))))))
 (.seq (.drw [⟨[], 0, 1, [(kv 58 (.load (.t 6) (some 2)), ku),
 (kv 59 (.load (.t 7) (some 2)), .prd [6]),
 (⟨none, none, .o (.store 2 (.t 6) (.t 58))⟩, .efs 0 [] [])],
 [],
 [⟨none, none, .o (.store 2 (.t 7) (.t 59))⟩], none⟩,
 ⟨[], 0, 1, [(kv 58 (.load (.t 6) (some 2)), ku),
 (kv 59 (.load (.t 7) (some 2)), .prd [6]),
 (⟨none, none, .o (.store 2 (.t 6) (.t 58))⟩, .efs 0 [] [])],
 [],
 [⟨none, none, .o (.store 2 (.t 7) (.t 59))⟩], none⟩])
 .ret)))))))
theorem h67 : FdOk Try.prog 67 ⟨g67, [.c 6 (some 2), .c 7 (some 2)], 60, [], false⟩ := .of Try.func67 (by simp [Try.f67]) (by kernel_rfl)
def g68 : RC :=
 (.seq (.reg [ko 0 (.new 24 [kz, kz])])
 (.seq (.reg [ko 1 (.bld [kz, kz] [(0, 1, (.c (ki 1))), (1, 1, (.c kz))]),
 ⟨none, none, .o (.store 2 (.t 0) (.t 1))⟩])
 .ret))
theorem h68 : FdOk Try.prog 68 ⟨g68, [.c 0 (some 2)], 2, [], false⟩ := .of Try.func68 (by simp [Try.f68]) (by kernel_rfl)
def g70 : RC :=
 (.seq (.reg [ko 2 (.box 26 (.t 0)),
 kv 4 (.mov (.c kz))])
 (.seq (.seq (.reg [kv 6 (.load (.t 2) (some 6)),
 kc 7 (.c (.fn 17 [])) [(.t 6)],
 km 5 7])
 (.seq (.reg [km 8 5,
 kv 9 (.bin .neq (.t 8) (.c kz))])
 (.cond (.t 9)
 (.seq (.reg [km 10 5,
 km 4 10])
 .ret)
 .skip)))
 (.seq (.seq (.reg [kv 11 (.load (.t 2) (some 6)),
 ko 12 (.bld [kz, (.lit (.slice none 0 0)), kz, kz, kz, (.lit (.slice none 0 0))] [(0, 6, (.t 11))]),
 km 13 1,
 kc 14 (.c (.fn 104 [])) [(.t 12), (.t 13)],
 kv 15 (.not (.t 14))])
 (.cond (.t 15)
 (.seq (.reg [kv 4 (.mov (.c (ki 53)))])
 .ret)
 .skip))
 (.seq (.reg [kv 4 (.mov (.c kz))])
 .ret))))
theorem h70 : FdOk Try.prog 70 ⟨g70, [.t 4], 16, [], false⟩ := .of Try.func70 (by simp [Try.f70]) (by kernel_rfl)
def g71 : RC :=
 (.seq (.reg [ko 2 (.box 89 (.t 0)),
 ko 3 (.box 108 (.t 1)),
 ko 4 (.new 22 [(.lit (.slice none 0 0))]),
 ko 5 (.new 24 [kz, kz])])
 (.scp (.seq (.seq (.reg [kf 10 3 0,
 kv 11 (.load (.t 10) (some 12)),
 ko 12 (.bld [(.lit (.bool false)), (.lit (.bool false)), (.lit (.bool false)), (.lit (.bool false)), (.lit (.bool false)), (.lit (.bool false)), (.lit (.bool false)), (.lit (.bool false)), (.lit (.bool false)), (.lit (.bool false)), (.lit (.bool false)), (.lit (.bool false))] []),
 kv 13 (.eqs [none, none, none, none, none, none, none, none, none, none, none, none] false (.t 11) (.t 12))])
 (.cond (.t 13)
 (.seq (.drw [⟨[], 0, 2, [(kf 14 2 0, ku),
 (kf 15 14 1, ku),
 (kl 16 15, ku),
 (kc 17 (.c (.fn 105 [])) [(.t 16)], .efs 0 [] []),
 (kf 18 2 0, .pur),
 (kf 19 18 2, .pur),
 (kv 20 (.load (.t 19) (some 2)), .pur),
 (⟨none, none, .o (.store 1 (.t 4) (.t 17))⟩, .efs 1 [] [])],
 [],
 [⟨none, none, .o (.store 2 (.t 5) (.t 20))⟩], none⟩,
 ⟨[2, 4, 5], 0, 1, [(kf 14 2 0, ku),
 (kf 15 14 1, ku),
 (kl 16 15, ku),
 (kc 17 (.c (.fn 105 [])) [(.t 16)], ku),
 (kf 18 2 0, .prd [4]),
 (kf 19 18 2, .prd [4]),
 (kv 20 (.load (.t 19) (some 2)), .prd [4]),
 (⟨none, none, .o (.store 1 (.t 4) (.t 17))⟩, .efs 0 [] [])],
 [],
 [⟨none, none, .o (.store 2 (.t 5) (.t 20))⟩], none⟩])
 .ret)
 .skip))
 (.seq (.drw [⟨[], 1, 1, [(kc 21 (.c (.fn 68 [])) [], .eff 0 []),
 (ko 22 (.bsl 24 1 [kz, kz] [(0, 2, (.t 21))]), .cre 0),
 (kf 23 2 0, ku),
 (kf 24 23 1, ku),
 (kl 25 24, ku),
 (kv 26 (.len (.t 25)), ku)],
 [0],
 [kc 27 (.c (.fn 106 [])) [(.t 22), (.t 26)],
 kc 28 (.c (.fn 68 [])) [],
 ⟨none, none, .o (.store 1 (.t 4) (.t 27))⟩,
 ⟨none, none, .o (.store 2 (.t 5) (.t 28))⟩], none⟩])
 (.seq .skip
 (.seq (.seq (.reg [kv 29 (.load (.t 2) (some 6)),
 kc 30 (.c (.fn 100 [])) [(.t 29)]])
 (.block 0 (.rng (.t 30) [31]
 (.reg [km 6 31])
 (.block 1 (.seq (.reg [ko 7 (.new 144 (List.replicate 24 kz))])
 (.seq (.seq (.reg [kf 32 2 0,
 kf 33 32 1,
 kl 34 33,
 kv 35 (.len (.t 34)),
 kv 36 (.mov (.c kz))])
 (.block 2 (.loop
 (.seq (.reg [kv 37 (.bin .lss (.t 36) (.t 35))])
 (.seq (.cond (.t 37)
 .skip
 (.exit 2))
 (.seq (.block 3 (.seq (.reg [km 38 36,
 km 8 38])
 (.seq (.reg [km 39 8,
 kf 40 2 0,
 kf 41 40 1,
 kl 42 41,
 km 43 8,
 kv 44 (.ixa (.t 42) (.t 43) 2),
 kv 45 (.load (.t 44) (some 2)),
 kv 46 (.ixarr (.t 7) (.t 39) 12 2),
 ⟨none, none, .o (.store 2 (.t 46) (.t 45))⟩])
 (.seq (.seq (.reg [km 47 8,
 kf 48 3 0,
 kv 49 (.ixarr (.t 48) (.t 47) 12 1),
 kl 50 49])
 (.cond (.t 50)
 (.drw [⟨[], 1, 3, [(km 51 8, ku),
 (km 52 8, ku),
 (kv 53 (.ixarr (.t 7) (.t 52) 12 2), ku),
 (kv 54 (.load (.t 53) (some 2)), ku),
 (kf 55 3 12, ku),
 (kl 56 55, ku),
 (km 57 8, ku),
 (⟨(some 58), none, .lku (.i .i64) (.agg [kz, kz]) false (.t 56) (.t 57)⟩, ku),
 (km 59 6, ku),
 (kv 60 (.neg (.t 59)), ku),
 (kc 61 (.c (.fn 90 [])) [(.t 60)], .eff 0 []),
 (ko 62 (.bsl 24 2 [kz, kz, kz, kz] [(0, 2, (.t 58)), (2, 2, (.t 61))]), .cre 0),
 (kc 63 (.c (.fn 89 [])) [(.t 62)], .eff 1 [0]),
 (kc 64 (.c (.fn 101 [])) [(.t 54), (.t 63)], .eff 2 [])],
 [],
 [kv 65 (.ixarr (.t 7) (.t 51) 12 2),
 ⟨none, none, .o (.store 2 (.t 65) (.t 64))⟩], none⟩])
 .skip))
 (.seq (.drw [⟨[], 0, 1, [(km 66 8, ku),
 (kv 67 (.ixarr (.t 7) (.t 66) 12 2), ku),
 (kv 68 (.load (.t 67) (some 2)), ku),
 (kc 69 (.c (.fn 68 [])) [], .eff 0 [])],
 [],
 [kv 70 (.eqs [(some .i64), (some .i64)] false (.t 68) (.t 69))], none⟩])
 (.cond (.t 70)
 (.exit 1)
 .skip))))))
 (.reg [kv 71 (.bin .add (.t 36) (.c (ki 1))),
 km 36 71])))))))
 (.seq (.drw [⟨[], 0, 1, [(kv 72 (.load (.t 5) (some 2)), ku),
 (km 73 6, ku),
 (kc 74 (.c (.fn 90 [])) [(.t 73)], .eff 0 [])],
 [],
 [kc 75 (.c (.fn 103 [])) [(.t 72), (.t 74)],
 ⟨none, none, .o (.store 2 (.t 5) (.t 75))⟩], none⟩])
 (.seq (.reg [kf 76 2 0,
 kf 77 76 1,
 kl 78 77,
 kv 79 (.len (.t 78)),
 kv 80 (.mov (.c kz))])
 (.block 4 (.loop
 (.seq (.reg [kv 81 (.bin .lss (.t 80) (.t 79))])
 (.seq (.cond (.t 81)
 .skip
 (.exit 4))
 (.seq (.block 5 (.seq (.reg [km 82 80,
 km 9 82])
 (.drw [⟨[], 0, 1, [(kl 83 4, ku),
 (km 84 9, ku),
 (kl 85 4, ku),
 (km 86 9, ku),
 (kv 87 (.ixa (.t 85) (.t 86) 2), ku),
 (kv 88 (.load (.t 87) (some 2)), ku),
 (km 89 9, ku),
 (kv 90 (.ixarr (.t 7) (.t 89) 12 2), ku),
 (kv 91 (.load (.t 90) (some 2)), ku),
 (kc 92 (.c (.fn 103 [])) [(.t 88), (.t 91)], .eff 0 [])],
 [],
 [kv 93 (.ixa (.t 83) (.t 84) 2),
 ⟨none, none, .o (.store 2 (.t 93) (.t 92))⟩], none⟩])))
 (.reg [kv 94 (.bin .add (.t 80) (.c (ki 1))),
 km 80 94]))))))))))))))
 (.seq (.drw [⟨[], 0, 1, [(kl 95 4, ku),
 (kv 96 (.load (.t 5) (some 2)), .prd [4]),
 (⟨none, none, .o (.store 1 (.t 4) (.t 95))⟩, .efs 0 [] [])],
 [],
 [⟨none, none, .o (.store 2 (.t 5) (.t 96))⟩], none⟩,
 ⟨[], 0, 1, [(kl 95 4, ku),
 (kv 96 (.load (.t 5) (some 2)), .prd [4]),
 (⟨none, none, .o (.store 1 (.t 4) (.t 95))⟩, .efs 0 [] [])],
 [],
 [⟨none, none, .o (.store 2 (.t 5) (.t 96))⟩], none⟩])
 .ret)))))))
theorem h71 : FdOk Try.prog 71 ⟨g71, [.c 4 none, .c 5 (some 2)], 97, [], false⟩ := .of Try.func71 (by simp [Try.f71]) (by kernel_rfl)
def g72 : RC :=
 (.seq (.reg [ko 2 (.box 89 (.t 0)),
 ko 4 (.new 108 [(.lit (.bool false)), (.lit (.bool false)), (.lit (.bool false)), (.lit (.bool false)), (.lit (.bool false)), (.lit (.bool false)), (.lit (.bool false)), (.lit (.bool false)), (.lit (.bool false)), (.lit (.bool false)), (.lit (.bool false)), (.lit (.bool false)), (.lit (.map none))])])
 (.seq (.reg [⟨(some 11), none, .mkm⟩,
 ko 12 (.bld [(.lit (.bool false)), (.lit (.bool false)), (.lit (.bool false)), (.lit (.bool false)), (.lit (.bool false)), (.lit (.bool false)), (.lit (.bool false)), (.lit (.bool false)), (.lit (.bool false)), (.lit (.bool false)), (.lit (.bool false)), (.lit (.bool false)), (.lit (.map none))] [(12, 1, (.t 11))]),
 ko 5 (.new 108 [(.lit (.bool false)), (.lit (.bool false)), (.lit (.bool false)), (.lit (.bool false)), (.lit (.bool false)), (.lit (.bool false)), (.lit (.bool false)), (.lit (.bool false)), (.lit (.bool false)), (.lit (.bool false)), (.lit (.bool false)), (.lit (.bool false)), (.lit (.map none))]),
 ⟨none, none, .o (.store 13 (.t 5) (.t 12))⟩])
 (.seq (.seq (.reg [km 13 1,
 kv 14 (.len (.t 13)),
 kv 15 (.mov (.c kz))])
 (.block 0 (.loop
 (.seq (.reg [kv 16 (.bin .lss (.t 15) (.t 14))])
 (.seq (.cond (.t 16)
 .skip
 (.exit 0))
 (.seq (.block 1 (.seq (.reg [kv 17 (.ixa (.t 13) (.t 15) 3),
 kv 18 (.load (.t 17) (some 3)),
 ko 7 (.new 84 [kz, kz, kz]),
 ⟨none, none, .o (.store 3 (.t 7) (.t 18))⟩])
 (.seq (.reg [kf 19 7 0,
 kf 20 19 0,
 kl 21 20,
 kf 22 2 0,
 kf 23 22 0,
 kl 24 23,
 kv 25 (.bin .quo (.t 21) (.t 24)),
 km 8 25])
 (.seq (.drw [⟨[], 1, 4, [(kf 26 7 0, ku),
 (kf 27 26 0, ku),
 (kl 28 27, ku),
 (kc 29 (.c (.fn 90 [])) [(.t 28)], .eff 0 []),
 (kv 30 (.load (.t 2) (some 6)), ku),
 (kc 31 (.c (.fn 93 [])) [(.t 30)], .eff 1 []),
 (kf 32 7 0, ku),
 (kv 33 (.load (.t 32) (some 2)), ku),
 (kc 34 (.c (.fn 91 [])) [(.t 31), (.t 33)], .eff 2 []),
 (ko 35 (.bsl 24 2 [kz, kz, kz, kz] [(0, 2, (.t 29)), (2, 2, (.t 34))]), .cre 0),
 (kc 36 (.c (.fn 89 [])) [(.t 35)], .eff 3 [0])],
 [],
 [ko 9 (.new 24 [kz, kz]),
 ⟨none, none, .o (.store 2 (.t 9) (.t 36))⟩], (some 9)⟩,
 ⟨[7, 2], 2, 0, [(kf 26 7 0, ku),
 (kf 27 26 0, ku),
 (kl 28 27, ku),
 (kc 29 (.c (.fn 90 [])) [(.t 28)], ku),
 (kv 30 (.load (.t 2) (some 6)), ku),
 (kc 31 (.c (.fn 93 [])) [(.t 30)], ku),
 (kf 32 7 0, ku),
 (kv 33 (.load (.t 32) (some 2)), ku),
 (kc 34 (.c (.fn 91 [])) [(.t 31), (.t 33)], ku),
 (ko 35 (.bsl 24 2 [kz, kz, kz, kz] [(0, 2, (.t 29)), (2, 2, (.t 34))]), .cre 0),
 (kc 36 (.c (.fn 89 [])) [(.t 35)], .val 0 [0]),
 (ko 9 (.new 24 [kz, kz]), .cre 1)],
 [0, 1],
 [⟨none, none, .o (.store 2 (.t 9) (.t 36))⟩], none⟩])
 (.seq (.drw [⟨[], 1, 3, [(kf 37 7 2, ku),
 (kl 38 37, ku),
 (kc 39 (.c (.fn 90 [])) [(.t 38)], .eff 0 []),
 (kv 40 (.load (.t 9) (some 2)), ku),
 (kc 41 (.c (.fn 107 [])) [(.t 40)], .eff 1 []),
 (ko 42 (.bsl 24 2 [kz, kz, kz, kz] [(0, 2, (.t 39)), (2, 2, (.t 41))]), .cre 0),
 (kc 43 (.c (.fn 89 [])) [(.t 42)], .eff 2 [0])],
 [],
 [ko 10 (.new 24 [kz, kz]),
 ⟨none, none, .o (.store 2 (.t 10) (.t 43))⟩], (some 10)⟩,
 ⟨[7, 9], 2, 0, [(kf 37 7 2, ku),
 (kl 38 37, ku),
 (kc 39 (.c (.fn 90 [])) [(.t 38)], ku),
 (kv 40 (.load (.t 9) (some 2)), ku),
 (kc 41 (.c (.fn 107 [])) [(.t 40)], ku),
 (ko 42 (.bsl 24 2 [kz, kz, kz, kz] [(0, 2, (.t 39)), (2, 2, (.t 41))]), .cre 0),
 (kc 43 (.c (.fn 89 [])) [(.t 42)], .val 0 [0]),
 (ko 10 (.new 24 [kz, kz]), .cre 1)],
 [0, 1],
 [⟨none, none, .o (.store 2 (.t 10) (.t 43))⟩], none⟩])
 (.seq (.seq (.reg [km 44 8,
 kf 45 5 0,
 kv 46 (.ixarr (.t 45) (.t 44) 12 1),
 kl 47 46])
 (.cond (.t 47)
 (.reg [kv 48 (.load (.t 10) (some 2)),
 kf 49 5 12,
 kl 50 49,
 km 51 8,
 ⟨(some 52), none, .lku (.i .i64) (.agg [kz, kz]) false (.t 50) (.t 51)⟩,
 kc 53 (.c (.fn 101 [])) [(.t 48), (.t 52)],
 ⟨none, none, .o (.store 2 (.t 10) (.t 53))⟩])
 .skip))
 (.drw [⟨[], 0, 1, [(km 54 8, ku),
 (kf 55 5 12, ku),
 (kl 56 55, ku),
 (km 57 8, .prd [5]),
 (kv 58 (.load (.t 10) (some 2)), .prd [5]),
 (kf 59 5 0, ku),
 (kv 60 (.ixarr (.t 59) (.t 54) 12 1), ku),
 (⟨none, none, .o (.store 1 (.t 60) (.c (.lit (.bool true))))⟩, .efs 0 [] [])],
 [],
 [⟨none, none, .upd (.i .i64) (.t 56) (.t 57) (.t 58)⟩], none⟩,
 ⟨[], 0, 1, [(km 54 8, ku),
 (kf 55 5 12, ku),
 (kl 56 55, ku),
 (km 57 8, .prd [5]),
 (kv 58 (.load (.t 10) (some 2)), .prd [5]),
 (kf 59 5 0, ku),
 (kv 60 (.ixarr (.t 59) (.t 54) 12 1), ku),
 (⟨none, none, .o (.store 1 (.t 60) (.c (.lit (.bool true))))⟩, .efs 0 [] [])],
 [],
 [⟨none, none, .upd (.i .i64) (.t 56) (.t 57) (.t 58)⟩], none⟩])))))))
 (.reg [kv 61 (.bin .add (.t 15) (.c (ki 1))),
 km 15 61])))))))
 (.seq (.reg [kv 62 (.load (.t 5) (some 13)),
 ⟨none, none, .o (.store 13 (.t 4) (.t 62))⟩])
 .ret))))
theorem h72 : FdOk Try.prog 72 ⟨g72, [.c 4 (some 13)], 63, [], false⟩ := .of Try.func72 (by simp [Try.f72]) (by kernel_rfl)
def g75 : RC :=
 (.seq (.reg [ko 2 (.box 89 (.t 0)),
 kv 4 (.mov (.c (.lit (.bool false))))])
 (.seq (.drw [⟨[2, 1], 1, 0, [(kv 8 (.load (.t 2) (some 6)), ku),
 (kv 9 (.load (.t 2) (some 6)), ku),
 (km 10 1, ku),
 (kc 11 (.c (.fn 72 [])) [(.t 9), (.t 10)], ku),
 (kc 12 (.c (.fn 71 [])) [(.t 8), (.t 11)], ku),
 (km 7 12, ku),
 (kv 13 (.ext (.t 7) 0), ku),
 (kv 14 (.ext (.t 7) 1), ku),
 (ko 6 (.new 24 [kz, kz]), .cre 0),
 (km 5 13, .val 0 [0])],
 [0],
 [⟨none, none, .o (.store 2 (.t 6) (.t 14))⟩], none⟩])
 (.seq (.drw [⟨[], 0, 1, [(kv 15 (.load (.t 6) (some 2)), ku),
 (kc 16 (.c (.fn 68 [])) [], .eff 0 [])],
 [],
 [kv 17 (.eqs [(some .i64), (some .i64)] true (.t 15) (.t 16)),
 km 4 17], none⟩])
 .ret)))
theorem h75 : FdOk Try.prog 75 ⟨g75, [.t 4], 18, [], false⟩ := .of Try.func75 (by simp [Try.f75]) (by kernel_rfl)
def g76 : RC :=
 (.seq (.reg [ko 2 (.box 89 (.t 0)),
 ko 3 (.box 41 (.t 1)),
 kv 4 (.mov (.c (.lit (.slice none 0 0))))])
 (.seq (.reg [ko 5 (.new 147 [(.lit .nilFunc)])])
 (.seq (.reg [kv 8 (.mkfn 109 [(.t 2), (.t 3), (.t 5)]),
 ⟨none, none, .o (.store 1 (.t 5) (.t 8))⟩])
 (.seq (.seq (.reg [kl 9 3,
 kv 10 (.len (.t 9)),
 kv 11 (.bin .add (.t 10) (.c (ki 1))),
 kv 12 (.mov (.c kz))])
 (.block 0 (.loop
 (.seq (.reg [kv 13 (.bin .lss (.t 12) (.t 11))])
 (.seq (.cond (.t 13)
 .skip
 (.exit 0))
 (.seq (.block 1 (.seq (.reg [km 14 12,
 km 6 14])
 (.seq (.reg [kl 15 5,
 km 16 6,
 kc 17 (.t 15) [(.c (.lit (.slice none 0 0))), (.c (.lit (.slice none 0 0))), (.c kz), (.t 16)],
 km 7 17])
 (.seq (.reg [km 18 7,
 kv 19 (.isnil true (.t 18))])
 (.cond (.t 19)
 (.seq (.reg [km 20 7,
 km 4 20])
 .ret)
 .skip)))))
 (.reg [kv 21 (.bin .add (.t 12) (.c (ki 1))),
 km 12 21])))))))
 (.seq (.reg [kv 4 (.mov (.c (.lit (.slice none 0 0))))])
 .ret)))))
theorem h76 : FdOk Try.prog 76 ⟨g76, [.t 4], 22, [], false⟩ := .of Try.func76 (by simp [Try.f76]) (by kernel_rfl)
def g77 : RC :=
 (.seq (.reg [kv 2 (.mov (.c (.lit (.bool false))))])
 (.seq (.seq (.reg [km 5 0,
 kv 6 (.len (.t 5)),
 kc 7 (.c (.fn 78 [])) [(.t 6), (.c (ki 3)), (.c (ki 12))],
 kv 8 (.not (.t 7)),
 km 9 8,
 ⟨(some 10), (some (9, false)), .o (.v (.mov (.t 0)))⟩,
 ⟨(some 11), (some (9, false)), .o (.v (.ixa (.t 10) (.c kz) 3))⟩,
 ⟨(some 12), (some (9, false)), .o (.v (.off (.t 11) 2))⟩,
 ⟨(some 13), (some (9, false)), .o (.v (.load (.t 12) none))⟩,
 ⟨(some 14), (some (9, false)), .o (.v (.len (.t 13)))⟩,
 ⟨(some 15), (some (9, false)), .o (.call (.c (.fn 78 [])) [(.t 14), (.c (ki 2)), (.c (ki 12))])⟩,
 ⟨(some 16), (some (9, false)), .o (.v (.not (.t 15)))⟩,
 kv 17 (.pick (.t 9) (.c (.lit (.bool true))) (.t 16))])
 (.cond (.t 17)
 (.seq (.reg [kv 2 (.mov (.c (.lit (.bool false))))])
 .ret)
 .skip))
 (.seq (.seq (.reg [km 18 0,
 kv 19 (.len (.t 18)),
 kv 20 (.mov (.c kz))])
 (.block 0 (.loop
 (.seq (.reg [kv 21 (.bin .lss (.t 20) (.t 19))])
 (.seq (.cond (.t 21)
 .skip
 (.exit 0))
 (.seq (.block 1 (.seq (.reg [kv 22 (.ixa (.t 18) (.t 20) 3),
 kv 23 (.load (.t 22) (some 3)),
 ko 4 (.new 77 [kz, kz, (.lit (.slice none 0 0))]),
 ⟨none, none, .o (.store 3 (.t 4) (.t 23))⟩])
 (.seq (.seq (.reg [kf 24 4 0,
 kl 25 24,
 kc 26 (.c (.fn 78 [])) [(.t 25), (.c kz), (.c (ki 2))],
 kv 27 (.not (.t 26)),
 km 28 27,
 ⟨(some 29), (some (28, false)), .o (.v (.off (.t 4) 1))⟩,
 ⟨(some 30), (some (28, false)), .o (.v (.load (.t 29) none))⟩,
 ⟨(some 31), (some (28, false)), .o (.call (.c (.fn 78 [])) [(.t 30), (.c kz), (.c (ki 1000))])⟩,
 ⟨(some 32), (some (28, false)), .o (.v (.not (.t 31)))⟩,
 kv 33 (.pick (.t 28) (.c (.lit (.bool true))) (.t 32))])
 (.cond (.t 33)
 (.seq (.reg [kv 2 (.mov (.c (.lit (.bool false))))])
 .ret)
 .skip))
 (.seq (.drw [⟨[], 0, 0, [(kf 34 4 2, ku),
 (kl 35 34, ku),
 (kv 36 (.len (.t 35)), ku),
 (km 37 0, ku),
 (kv 38 (.ixa (.t 37) (.c kz) 3), ku),
 (kf 39 38 2, ku),
 (kl 40 39, ku),
 (kv 41 (.len (.t 40)), ku)],
 [],
 [kv 42 (.bin .neq (.t 36) (.t 41)),
 km 43 42,
 ⟨(some 44), (some (43, false)), .o (.v (.off (.t 4) 2))⟩,
 ⟨(some 45), (some (43, false)), .o (.v (.load (.t 44) none))⟩,
 ⟨(some 46), (some (43, false)), .o (.call (.c (.fn 94 [])) [(.t 45), (.c (ki 1000))])⟩,
 ⟨(some 47), (some (43, false)), .o (.v (.not (.t 46)))⟩,
 kv 48 (.pick (.t 43) (.c (.lit (.bool true))) (.t 47))], none⟩])
 (.cond (.t 48)
 (.seq (.reg [kv 2 (.mov (.c (.lit (.bool false))))])
 .ret)
 .skip)))))
 (.reg [kv 49 (.bin .add (.t 20) (.c (ki 1))),
 km 20 49])))))))
 (.seq (.reg [kv 2 (.mov (.c (.lit (.bool true))))])
 .ret))))
theorem h77 : FdOk Try.prog 77 ⟨g77, [.t 2], 50, [], false⟩ := .of Try.func77 (by simp [Try.f77]) (by kernel_rfl)
def g78 : RC :=
 (.seq (.reg [kv 6 (.mov (.c (.lit (.bool false))))])
 (.seq (.reg [km 7 1,
 km 8 0,
 kv 9 (.bin .leq (.t 7) (.t 8)),
 km 10 9,
 ⟨(some 11), (some (10, true)), .o (.v (.mov (.t 0)))⟩,
 ⟨(some 12), (some (10, true)), .o (.v (.mov (.t 2)))⟩,
 ⟨(some 13), (some (10, true)), .o (.v (.bin .leq (.t 11) (.t 12)))⟩,
 kv 14 (.pick (.t 10) (.t 13) (.c (.lit (.bool false)))),
 km 6 14])
 .ret))
theorem h78 : FdOk Try.prog 78 ⟨g78, [.t 6], 15, [], false⟩ := .of Try.func78 (by simp [Try.f78]) (by kernel_rfl)
def g79 : RC :=
 (.seq (.reg [kv 4 (.mov (.c (.lit (.slice none 0 0))))])
 (.seq (.reg [kc 15 (.c (.fn 112 [])) [(.c kz)],
 km 16 0,
 kc 17 (.c (.fn 113 [])) [(.t 15), (.t 16)],
 km 5 17])
 (.seq (.reg [kc 18 (.c (.fn 112 [])) [(.c (ki 1))],
 km 19 0,
 kc 20 (.c (.fn 113 [])) [(.t 18), (.t 19)],
 km 6 20])
 (.seq (.reg [kc 21 (.c (.fn 112 [])) [(.c (ki 2))],
 km 22 0,
 kc 23 (.c (.fn 113 [])) [(.t 21), (.t 22)],
 km 7 23])
 (.seq (.reg [kv 8 (.mov (.c (.lit (.slice none 0 0))))])
 (.seq (.seq (.reg [km 24 5,
 kv 25 (.len (.t 24)),
 kv 26 (.mov (.c kz))])
 (.block 0 (.loop
 (.seq (.reg [kv 27 (.bin .lss (.t 26) (.t 25))])
 (.seq (.cond (.t 27)
 .skip
 (.exit 0))
 (.seq (.block 1 (.seq (.reg [kv 28 (.ixa (.t 24) (.t 26) 1),
 kl 29 28,
 km 10 29])
 (.seq (.reg [km 30 6,
 kv 31 (.len (.t 30)),
 kv 32 (.mov (.c kz))])
 (.block 2 (.loop
 (.seq (.reg [kv 33 (.bin .lss (.t 32) (.t 31))])
 (.seq (.cond (.t 33)
 .skip
 (.exit 2))
 (.seq (.block 3 (.seq (.reg [kv 34 (.ixa (.t 30) (.t 32) 1),
 kl 35 34,
 km 12 35])
 (.seq (.reg [km 36 7,
 kv 37 (.len (.t 36)),
 kv 38 (.mov (.c kz))])
 (.block 4 (.loop
 (.seq (.reg [kv 39 (.bin .lss (.t 38) (.t 37))])
 (.seq (.cond (.t 39)
 .skip
 (.exit 4))
 (.seq (.block 5 (.seq (.reg [kv 40 (.ixa (.t 36) (.t 38) 1),
 kl 41 40,
 km 14 41])
 (.seq (.drw [⟨[], 0, 0, [(km 42 0, ku),
 (km 43 10, ku),
 (kv 44 (.ixa (.t 42) (.t 43) 3), ku),
 (kv 45 (.load (.t 44) (some 3)), ku),
 (km 46 0, ku),
 (km 47 12, ku),
 (kv 48 (.ixa (.t 46) (.t 47) 3), ku),
 (kv 49 (.load (.t 48) (some 3)), ku),
 (km 50 0, ku),
 (km 51 14, ku),
 (kv 52 (.ixa (.t 50) (.t 51) 3), ku),
 (kv 53 (.load (.t 52) (some 3)), ku),
 (km 54 1, ku)],
 [],
 [kc 55 (.c (.fn 114 [])) [(.t 45), (.t 49), (.t 53), (.t 54)]], none⟩])
 (.cond (.t 55)
 (.drw [⟨[], 1, 0, [(km 56 8, ku),
 (km 57 10, ku),
 (km 58 12, ku),
 (km 59 14, ku),
 (ko 60 (.bld [kz, kz, kz] [(0, 1, (.t 57)), (1, 1, (.t 58)), (2, 1, (.t 59))]), ku),
 (km 61 0, ku),
 (km 62 10, ku),
 (kv 63 (.ixa (.t 61) (.t 62) 3), ku),
 (kf 64 63 1, ku),
 (kl 65 64, ku),
 (km 66 0, ku),
 (km 67 12, ku),
 (kv 68 (.ixa (.t 66) (.t 67) 3), ku),
 (kf 69 68 1, ku),
 (kl 70 69, ku),
 (kv 71 (.bin .add (.t 65) (.t 70)), ku),
 (km 72 0, ku),
 (km 73 14, ku),
 (kv 74 (.ixa (.t 72) (.t 73) 3), ku),
 (kf 75 74 1, ku),
 (kl 76 75, ku),
 (kv 77 (.bin .add (.t 71) (.t 76)), ku),
 (ko 78 (.bld [kz, kz, kz, kz] [(0, 3, (.t 60)), (3, 1, (.t 77))]), ku),
 (ko 79 (.bsl 119 1 [kz, kz, kz, kz] [(0, 4, (.t 78))]), .cre 0)],
 [0],
 [ko 80 (.app 119 4 32 (.t 56) (.t 79)),
 km 8 80], none⟩])
 .skip))))
 (.reg [kv 81 (.bin .add (.t 38) (.c (ki 1))),
 km 38 81])))))))))
 (.reg [kv 82 (.bin .add (.t 32) (.c (ki 1))),
 km 32 82])))))))))
 (.reg [kv 83 (.bin .add (.t 26) (.c (ki 1))),
 km 26 83])))))))
 (.seq (.reg [km 84 8,
 km 4 84])
 .ret)))))))
theorem h79 : FdOk Try.prog 79 ⟨g79, [.t 4], 85, [], false⟩ := .of Try.func79 (by simp [Try.f79]) (by kernel_rfl)
def g80 : RC :=
 (.seq (.reg [ko 4 (.box 119 (.t 1)),
 ko 6 (.new 119 [kz, kz, kz, kz])])
 (.seq (.seq (.reg [km 9 2,
 kv 10 (.len (.t 9)),
 kv 11 (.mov (.c kz))])
 (.block 0 (.loop
 (.seq (.reg [kv 12 (.bin .lss (.t 11) (.t 10))])
 (.seq (.cond (.t 12)
 .skip
 (.exit 0))
 (.seq (.block 1 (.seq (.reg [kv 13 (.ixa (.t 9) (.t 11) 4),
 kv 14 (.load (.t 13) (some 4)),
 ko 8 (.new 119 [kz, kz, kz, kz]),
 ⟨none, none, .o (.store 4 (.t 8) (.t 14))⟩])
 (.seq (.reg [km 15 0,
 kv 16 (.load (.t 8) (some 4)),
 kv 17 (.load (.t 4) (some 4)),
 kc 18 (.t 15) [(.t 16), (.t 17)]])
 (.cond (.t 18)
 (.reg [kv 19 (.load (.t 8) (some 4)),
 ⟨none, none, .o (.store 4 (.t 4) (.t 19))⟩])
 .skip))))
 (.reg [kv 20 (.bin .add (.t 11) (.c (ki 1))),
 km 11 20])))))))
 (.seq (.reg [kv 21 (.load (.t 4) (some 4)),
 ⟨none, none, .o (.store 4 (.t 6) (.t 21))⟩])
 .ret)))
theorem h80 : FdOk Try.prog 80 ⟨g80, [.c 6 (some 4)], 22, [], false⟩ := .of Try.func80 (by simp [Try.f80]) (by kernel_rfl)
def g81 : RC :=
 (.seq (.reg [ko 2 (.box 119 (.t 0)),
 ko 3 (.box 119 (.t 1)),
 kv 4 (.mov (.c (.lit (.bool false))))])
 (.seq (.reg [kf 5 2 3,
 kl 6 5,
 kf 7 3 3,
 kl 8 7,
 kv 9 (.bin .lss (.t 6) (.t 8)),
 km 4 9])
 .ret))
theorem h81 : FdOk Try.prog 81 ⟨g81, [.t 4], 10, [], false⟩ := .of Try.func81 (by simp [Try.f81]) (by kernel_rfl)
def g87 : RC :=
 (.seq (.reg [ko 1 (.box 89 (.t 0)),
 kv 2 (.mov (.c kz))])
 (.seq (.reg [kf 3 1 0,
 kf 4 3 0,
 kl 5 4,
 kf 6 1 0,
 kf 7 6 1,
 kl 8 7,
 kv 9 (.len (.t 8)),
 kv 10 (.bin .sub (.t 9) (.c (ki 1))),
 kv 11 (.bin .mul (.t 5) (.t 10)),
 km 2 11])
 .ret))
theorem h87 : FdOk Try.prog 87 ⟨g87, [.t 2], 12, [], false⟩ := .of Try.func87 (by simp [Try.f87]) (by kernel_rfl)
def g88 : RC :=
 (.seq (.reg [ko 1 (.box 89 (.t 0)),
 kv 2 (.mov (.c kz))])
 (.seq (.reg [kf 3 1 0,
 kf 4 3 5,
 kl 5 4,
 kv 6 (.len (.t 5)),
 kv 7 (.bin .shl (.c (ki 1)) (.t 6)),
 kv 8 (.bin .sub (.t 7) (.c (ki 1))),
 km 2 8])
 .ret))
theorem h88 : FdOk Try.prog 88 ⟨g88, [.t 2], 9, [], false⟩ := .of Try.func88 (by simp [Try.f88]) (by kernel_rfl)
def g89 : RC :=
 (.seq (.reg [ko 2 (.new 24 [kz, kz])])
 (.seq (.reg [ko 3 (.new 24 [kz, kz])])
 (.seq (.seq (.reg [km 6 0,
 kv 7 (.len (.t 6)),
 kv 8 (.mov (.c kz))])
 (.block 0 (.loop
 (.seq (.reg [kv 9 (.bin .lss (.t 8) (.t 7))])
 (.seq (.cond (.t 9)
 .skip
 (.exit 0))
 (.seq (.block 1 (.seq (.reg [kv 10 (.ixa (.t 6) (.t 8) 2),
 kv 11 (.load (.t 10) (some 2)),
 ko 5 (.new 24 [kz, kz]),
 ⟨none, none, .o (.store 2 (.t 5) (.t 11))⟩])
 (.seq (.reg [kf 12 3 0,
 kl 13 12,
 kf 14 5 0,
 kl 15 14,
 kv 16 (.bin .add (.t 13) (.t 15)),
 kf 17 3 0,
 ⟨none, none, .o (.store 1 (.t 17) (.t 16))⟩])
 (.reg [kf 18 3 1,
 kl 19 18,
 kf 20 5 1,
 kl 21 20,
 kv 22 (.bin .add (.t 19) (.t 21)),
 kf 23 3 1,
 ⟨none, none, .o (.store 1 (.t 23) (.t 22))⟩]))))
 (.reg [kv 24 (.bin .add (.t 8) (.c (ki 1))),
 km 8 24])))))))
 (.seq (.reg [kv 25 (.load (.t 3) (some 2)),
 ⟨none, none, .o (.store 2 (.t 2) (.t 25))⟩])
 .ret))))
theorem h89 : FdOk Try.prog 89 ⟨g89, [.c 2 (some 2)], 26, [], true⟩ := .of Try.func89 (by simp [Try.f89]) (by kernel_rfl)
def g90 : RC :=
 (.seq (.reg [ko 2 (.new 24 [kz, kz])])
 (.seq (.reg [km 3 0,
 km 4 0,
 ko 5 (.bld [kz, kz] [(0, 1, (.t 3)), (1, 1, (.t 4))]),
 ⟨none, none, .o (.store 2 (.t 2) (.t 5))⟩])
 .ret))
theorem h90 : FdOk Try.prog 90 ⟨g90, [.c 2 (some 2)], 6, [], false⟩ := .of Try.func90 (by simp [Try.f90]) (by kernel_rfl)
def g91 : RC :=
 (.seq (.reg [ko 3 (.box 28 (.t 1)),
 ko 4 (.new 24 [kz, kz])])
 (.seq (.reg [kv 5 (.mov (.c (.lit (.slice none 0 0))))])
 (.seq (.seq (.reg [km 8 0,
 kv 9 (.len (.t 8)),
 kv 10 (.mov (.c kz))])
 (.block 0 (.loop
 (.seq (.reg [kv 11 (.bin .lss (.t 10) (.t 9))])
 (.seq (.cond (.t 11)
 .skip
 (.exit 0))
 (.seq (.block 1 (.seq (.reg [kv 12 (.ixa (.t 8) (.t 10) 1),
 kl 13 12,
 km 7 13])
 (.reg [km 14 5,
 km 15 7,
 kv 16 (.load (.t 3) (some 2)),
 ko 17 (.inv [(157, 135), (159, 136), (161, 139)] (.t 15) [(.t 16)]),
 ko 18 (.bsl 24 1 [kz, kz] [(0, 2, (.t 17))]),
 ko 19 (.app 24 2 16 (.t 14) (.t 18)),
 km 5 19])))
 (.reg [kv 20 (.bin .add (.t 10) (.c (ki 1))),
 km 10 20])))))))
 (.seq (.reg [km 21 5,
 kc 22 (.c (.fn 89 [])) [(.t 21)],
 ⟨none, none, .o (.store 2 (.t 4) (.t 22))⟩])
 .ret))))
theorem h91 : FdOk Try.prog 91 ⟨g91, [.c 4 (some 2)], 23, [], false⟩ := .of Try.func91 (by simp [Try.f91]) (by kernel_rfl)
def g92 : RC :=
 (.seq (.reg [ko 1 (.box 89 (.t 0)),
 kv 2 (.mov (.c (.lit (.slice none 0 0))))])
 (.seq (.reg [kf 4 1 0,
 kf 5 4 1,
 kl 6 5,
 kv 7 (.len (.t 6)),
 km 3 7])
 (.seq (.drw [⟨[1, 3], 0, 0, [(kf 8 1 0, ku),
 (kf 9 8 2, ku),
 (kv 10 (.load (.t 9) (some 2)), ku),
 (kv 11 (.ifc 157 (.t 10)), ku),
 (kf 12 1 0, ku),
 (kf 13 12 0, ku),
 (kl 14 13, ku),
 (kf 15 1 0, ku),
 (kf 16 15 1, ku),
 (kl 17 16, ku),
 (km 18 3, ku),
 (km 19 3, ku),
 (ko 20 (.slc (.t 17) none (some (.t 18)) (some (.t 19)) 2), ku),
 (ko 21 (.bld [kz, (.lit (.slice none 0 0))] [(0, 1, (.t 14)), (1, 1, (.t 20))]), ku),
 (kv 22 (.ifc 159 (.t 21)), ku)],
 [],
 [ko 23 (.bsl 156 2 [(.lit .nilIface), (.lit .nilIface)] [(0, 1, (.t 11)), (1, 1, (.t 22))]),
 km 2 23], none⟩])
 .ret)))
theorem h92 : FdOk Try.prog 92 ⟨g92, [.t 2], 24, [], false⟩ := .of Try.func92 (by simp [Try.f92]) (by kernel_rfl)
def g93 : RC :=
 (.seq (.reg [ko 1 (.box 89 (.t 0)),
 kv 2 (.mov (.c (.lit (.slice none 0 0))))])
 (.seq (.reg [kf 6 1 0,
 kf 7 6 4,
 kl 8 7,
 kc 9 (.c (.fn 102 [])) [(.t 8)],
 kv 10 (.ifc 157 (.t 9)),
 ko 11 (.bsl 156 1 [(.lit .nilIface)] [(0, 1, (.t 10))]),
 km 3 11])
 (.seq (.seq (.reg [kf 12 1 0,
 kf 13 12 5,
 kl 14 13,
 kv 15 (.len (.t 14)),
 kv 16 (.mov (.c kz))])
 (.block 0 (.loop
 (.seq (.reg [kv 17 (.bin .lss (.t 16) (.t 15))])
 (.seq (.cond (.t 17)
 .skip
 (.exit 0))
 (.seq (.block 1 (.seq (.reg [km 18 16,
 kv 19 (.ixa (.t 14) (.t 16) 2),
 kv 20 (.load (.t 19) (some 2)),
 ko 5 (.new 24 [kz, kz]),
 km 4 18,
 ⟨none, none, .o (.store 2 (.t 5) (.t 20))⟩])
 (.reg [km 21 3,
 km 22 4,
 kv 23 (.load (.t 5) (some 2)),
 ko 24 (.bld [kz, kz, kz] [(0, 1, (.t 22)), (1, 2, (.t 23))]),
 kv 25 (.ifc 161 (.t 24)),
 ko 26 (.bsl 156 1 [(.lit .nilIface)] [(0, 1, (.t 25))]),
 ko 27 (.app 156 1 16 (.t 21) (.t 26)),
 km 3 27])))
 (.reg [kv 28 (.bin .add (.t 16) (.c (ki 1))),
 km 16 28])))))))
 (.seq (.reg [km 29 3,
 km 2 29])
 .ret))))
theorem h93 : FdOk Try.prog 93 ⟨g93, [.t 2], 30, [], false⟩ := .of Try.func93 (by simp [Try.f93]) (by kernel_rfl)
def g94 : RC :=
 (.seq (.reg [kv 4 (.mov (.c (.lit (.bool false))))])
 (.seq (.seq (.reg [km 7 0,
 kv 8 (.len (.t 7)),
 kv 9 (.mov (.c kz))])
 (.block 0 (.loop
 (.seq (.reg [kv 10 (.bin .lss (.t 9) (.t 8))])
 (.seq (.cond (.t 10)
 .skip
 (.exit 0))
 (.seq (.block 1 (.seq (.reg [kv 11 (.ixa (.t 7) (.t 9) 2),
 kv 12 (.load (.t 11) (some 2)),
 ko 6 (.new 24 [kz, kz]),
 ⟨none, none, .o (.store 2 (.t 6) (.t 12))⟩])
 (.seq (.reg [kv 13 (.load (.t 6) (some 2)),
 km 14 1,
 kv 15 (.neg (.t 14)),
 km 16 1,
 kc 17 (.c (.fn 65 [])) [(.t 13), (.t 15), (.t 16)],
 kv 18 (.not (.t 17))])
 (.cond (.t 18)
 (.seq (.reg [kv 4 (.mov (.c (.lit (.bool false))))])
 .ret)
 .skip))))
 (.reg [kv 19 (.bin .add (.t 9) (.c (ki 1))),
 km 9 19])))))))
 (.seq (.reg [kv 4 (.mov (.c (.lit (.bool true))))])
 .ret)))
theorem h94 : FdOk Try.prog 94 ⟨g94, [.t 4], 20, [], false⟩ := .of Try.func94 (by simp [Try.f94]) (by kernel_rfl)
def g95 : RC :=
 (.seq (.reg [ko 1 (.box 24 (.t 0)),
 kv 2 (.mov (.c kz))])
 (.seq (.reg [kf 3 1 1,
 kl 4 3,
 kf 5 1 0,
 kl 6 5,
 kv 7 (.bin .sub (.t 4) (.t 6)),
 km 2 7])
 .ret))
theorem h95 : FdOk Try.prog 95 ⟨g95, [.t 2], 8, [], false⟩ := .of Try.func95 (by simp [Try.f95]) (by kernel_rfl)
def g96 : RC :=
 (.seq (.reg [ko 4 (.box 24 (.t 1)),
 ko 6 (.new 24 [kz, kz])])
 (.seq (.seq (.reg [km 9 2,
 kv 10 (.len (.t 9)),
 kv 11 (.mov (.c kz))])
 (.block 0 (.loop
 (.seq (.reg [kv 12 (.bin .lss (.t 11) (.t 10))])
 (.seq (.cond (.t 12)
 .skip
 (.exit 0))
 (.seq (.block 1 (.seq (.reg [kv 13 (.ixa (.t 9) (.t 11) 2),
 kv 14 (.load (.t 13) (some 2)),
 ko 8 (.new 24 [kz, kz]),
 ⟨none, none, .o (.store 2 (.t 8) (.t 14))⟩])
 (.seq (.reg [km 15 0,
 kv 16 (.load (.t 8) (some 2)),
 kv 17 (.load (.t 4) (some 2)),
 kc 18 (.t 15) [(.t 16), (.t 17)]])
 (.cond (.t 18)
 (.reg [kv 19 (.load (.t 8) (some 2)),
 ⟨none, none, .o (.store 2 (.t 4) (.t 19))⟩])
 .skip))))
 (.reg [kv 20 (.bin .add (.t 11) (.c (ki 1))),
 km 11 20])))))))
 (.seq (.reg [kv 21 (.load (.t 4) (some 2)),
 ⟨none, none, .o (.store 2 (.t 6) (.t 21))⟩])
 .ret)))
theorem h96 : FdOk Try.prog 96 ⟨g96, [.c 6 (some 2)], 22, [], false⟩ := .of Try.func96 (by simp [Try.f96]) (by kernel_rfl)
def g97 : RC :=
 (.seq (.reg [ko 2 (.box 24 (.t 0)),
 ko 3 (.box 24 (.t 1)),
 kv 4 (.mov (.c (.lit (.bool false))))])
 (.seq (.drw [⟨[], 0, 1, [(kv 5 (.load (.t 2) (some 2)), ku),
 (kc 6 (.c (.fn 95 [])) [(.t 5)], .eff 0 []),
 (kv 7 (.load (.t 3) (some 2)), ku)],
 [],
 [kc 8 (.c (.fn 95 [])) [(.t 7)],
 kv 9 (.bin .gtr (.t 6) (.t 8)),
 km 4 9], none⟩])
 .ret))
theorem h97 : FdOk Try.prog 97 ⟨g97, [.t 4], 10, [], false⟩ := .of Try.func97 (by simp [Try.f97]) (by kernel_rfl)
def g98 : RC :=
 (.seq (.reg [ko 2 (.box 137 (.t 0)),
 kv 4 (.mov (.c kz))])
 (.seq (.reg [kf 5 2 0,
 kf 6 5 0,
 kl 7 6,
 km 8 1,
 kv 9 (.bin .add (.t 7) (.t 8)),
 km 4 9])
 .ret))
theorem h98 : FdOk Try.prog 98 ⟨g98, [.t 4], 10, [], false⟩ := .of Try.func98 (by simp [Try.f98]) (by kernel_rfl)
def g99 : RC :=
 (.seq (.reg [ko 2 (.box 137 (.t 0)),
 kv 4 (.mov (.c kz))])
 (.seq (.reg [kf 5 2 0,
 kf 6 5 1,
 kl 7 6,
 km 8 1,
 kv 9 (.bin .sub (.t 7) (.t 8)),
 km 4 9])
 .ret))
theorem h99 : FdOk Try.prog 99 ⟨g99, [.t 4], 10, [], false⟩ := .of Try.func99 (by simp [Try.f99]) (by kernel_rfl)
def g100 : RC :=
 (.seq (.reg [ko 1 (.box 89 (.t 0)),
 kv 2 (.mov (.c (.lit .nilFunc)))])
 (.seq (.reg [kv 3 (.mkfn 115 [(.t 1)]),
 km 2 3])
 .ret))
theorem h100 : FdOk Try.prog 100 ⟨g100, [.t 2], 4, [], false⟩ := .of Try.func100 (by simp [Try.f100]) (by kernel_rfl)
def g101 : RC :=
 (.seq (.reg [ko 2 (.box 24 (.t 0)),
 ko 3 (.box 24 (.t 1)),
 ko 4 (.new 24 [kz, kz])])
 (.seq (.reg [kf 6 2 0,
 kl 7 6,
 kf 8 3 0,
 kl 9 8,
 kv 10 (.max2 (.t 7) (.t 9)),
 kf 11 2 1,
 kl 12 11,
 kf 13 3 1,
 kl 14 13,
 kv 15 (.min2 (.t 12) (.t 14)),
 ko 16 (.bld [kz, kz] [(0, 1, (.t 10)), (1, 1, (.t 15))]),
 ko 5 (.new 24 [kz, kz]),
 ⟨none, none, .o (.store 2 (.t 5) (.t 16))⟩])
 (.seq (.seq (.reg [kf 17 5 0,
 kl 18 17,
 kf 19 5 1,
 kl 20 19,
 kv 21 (.bin .gtr (.t 18) (.t 20))])
 (.cond (.t 21)
 (.seq (.reg [kc 22 (.c (.fn 68 [])) [],
 ⟨none, none, .o (.store 2 (.t 4) (.t 22))⟩])
 .ret)
 .skip))
 (.seq (.reg [kv 23 (.load (.t 5) (some 2)),
 ⟨none, none, .o (.store 2 (.t 4) (.t 23))⟩])
 .ret))))
theorem h101 : FdOk Try.prog 101 ⟨g101, [.c 4 (some 2)], 24, [], false⟩ := .of Try.func101 (by simp [Try.f101]) (by kernel_rfl)
def g102 : RC :=
 (.seq (.reg [ko 2 (.new 24 [kz, kz])])
 (.seq (.reg [km 3 0,
 kv 4 (.neg (.t 3)),
 km 5 0,
 ko 6 (.bld [kz, kz] [(0, 1, (.t 4)), (1, 1, (.t 5))]),
 ⟨none, none, .o (.store 2 (.t 2) (.t 6))⟩])
 .ret))
theorem h102 : FdOk Try.prog 102 ⟨g102, [.c 2 (some 2)], 7, [], false⟩ := .of Try.func102 (by simp [Try.f102]) (by kernel_rfl)
def g103 : RC :=
 (.seq (.reg [ko 2 (.box 24 (.t 0)),
 ko 3 (.box 24 (.t 1)),
 ko 4 (.new 24 [kz, kz])])
 (.seq (.seq (.drw [⟨[], 0, 1, [(kv 5 (.load (.t 2) (some 2)), ku),
 (kc 6 (.c (.fn 68 [])) [], .eff 0 [])],
 [],
 [kv 7 (.eqs [(some .i64), (some .i64)] false (.t 5) (.t 6))], none⟩])
 (.cond (.t 7)
 (.seq (.reg [kv 8 (.load (.t 3) (some 2)),
 ⟨none, none, .o (.store 2 (.t 4) (.t 8))⟩])
 .ret)
 .skip))
 (.seq (.reg [kf 9 2 0,
 kl 10 9,
 kf 11 3 0,
 kl 12 11,
 kv 13 (.min2 (.t 10) (.t 12)),
 kf 14 2 1,
 kl 15 14,
 kf 16 3 1,
 kl 17 16,
 kv 18 (.max2 (.t 15) (.t 17)),
 ko 19 (.bld [kz, kz] [(0, 1, (.t 13)), (1, 1, (.t 18))]),
 ⟨none, none, .o (.store 2 (.t 4) (.t 19))⟩])
 .ret)))
theorem h103 : FdOk Try.prog 103 ⟨g103, [.c 4 (some 2)], 20, [], false⟩ := .of Try.func103 (by simp [Try.f103]) (by kernel_rfl)
def g104 : RC :=
 (.seq (.reg [ko 2 (.box 89 (.t 0)),
 kv 4 (.mov (.c (.lit (.bool false))))])
 (.seq (.seq (.reg [km 7 1,
 kv 8 (.len (.t 7)),
 kc 9 (.c (.fn 78 [])) [(.t 8), (.c (ki 1)), (.c (ki 8))],
 kv 10 (.not (.t 9))])
 (.cond (.t 10)
 (.seq (.reg [kv 4 (.mov (.c (.lit (.bool false))))])
 .ret)
 .skip))
 (.seq (.seq (.reg [km 11 1,
 kv 12 (.len (.t 11)),
 kv 13 (.mov (.c kz))])
 (.block 0 (.loop
 (.seq (.reg [kv 14 (.bin .lss (.t 13) (.t 12))])
 (.seq (.cond (.t 14)
 .skip
 (.exit 0))
 (.seq (.block 1 (.seq (.reg [kv 15 (.ixa (.t 11) (.t 13) 3),
 kv 16 (.load (.t 15) (some 3)),
 ko 6 (.new 84 [kz, kz, kz]),
 ⟨none, none, .o (.store 3 (.t 6) (.t 16))⟩])
 (.seq (.reg [kv 17 (.load (.t 2) (some 6)),
 kf 18 6 0,
 kv 19 (.load (.t 18) (some 2)),
 kc 20 (.c (.fn 55 [])) [(.t 17), (.t 19)],
 kv 21 (.not (.t 20)),
 km 22 21,
 ⟨(some 23), (some (22, false)), .o (.v (.off (.t 6) 0))⟩,
 ⟨(some 24), (some (22, false)), .o (.v (.off (.t 23) 0))⟩,
 ⟨(some 25), (some (22, false)), .o (.v (.load (.t 24) none))⟩,
 ⟨(some 26), (some (22, false)), .o (.v (.off (.t 2) 0))⟩,
 ⟨(some 27), (some (22, false)), .o (.v (.off (.t 26) 0))⟩,
 ⟨(some 28), (some (22, false)), .o (.v (.load (.t 27) none))⟩,
 ⟨(some 29), (some (22, false)), .o (.v (.bin .rem (.t 25) (.t 28)))⟩,
 ⟨(some 30), (some (22, false)), .o (.v (.bin .neq (.t 29) (.c kz)))⟩,
 kv 31 (.pick (.t 22) (.c (.lit (.bool true))) (.t 30)),
 km 32 31,
 ⟨(some 33), (some (32, false)), .o (.v (.off (.t 6) 2))⟩,
 ⟨(some 34), (some (32, false)), .o (.v (.load (.t 33) none))⟩,
 ⟨(some 35), (some (32, false)), .o (.call (.c (.fn 78 [])) [(.t 34), (.c (ki (-10000))), (.c (ki 510000))])⟩,
 ⟨(some 36), (some (32, false)), .o (.v (.not (.t 35)))⟩,
 kv 37 (.pick (.t 32) (.c (.lit (.bool true))) (.t 36))])
 (.cond (.t 37)
 (.seq (.reg [kv 4 (.mov (.c (.lit (.bool false))))])
 .ret)
 .skip))))
 (.reg [kv 38 (.bin .add (.t 13) (.c (ki 1))),
 km 13 38])))))))
 (.seq (.reg [kv 4 (.mov (.c (.lit (.bool true))))])
 .ret))))
theorem h104 : FdOk Try.prog 104 ⟨g104, [.t 4], 39, [], false⟩ := .of Try.func104 (by simp [Try.f104]) (by kernel_rfl)
def g105 : RC :=
 (.seq (.reg [kv 2 (.mov (.c (.lit (.slice none 0 0))))])
 (.seq (.seq (.reg [km 3 0,
 kv 4 (.isnil false (.t 3))])
 (.cond (.t 4)
 (.seq (.reg [kv 2 (.mov (.c (.lit (.slice none 0 0))))])
 .ret)
 .skip))
 (.seq (.reg [⟨(some 5), none, (.bs0 2)⟩,
 km 6 0,
 ko 7 (.app 24 2 16 (.t 5) (.t 6)),
 km 2 7])
 .ret)))
theorem h105 : FdOk Try.prog 105 ⟨g105, [.t 2], 8, [], false⟩ := .of Try.func105 (by simp [Try.f105]) (by kernel_rfl)
def g106 : RC :=
 (.seq (.reg [kv 4 (.mov (.c (.lit (.slice none 0 0))))])
 (.seq (.seq (.reg [km 9 1,
 kv 10 (.bin .lss (.t 9) (.c kz))])
 (.cond (.t 10)
 (.reg [⟨(some 11), none, .o (.v (.ifc 9 (.c (.lit (.string ⟨#[99, 97, 110, 110, 111, 116, 32, 98, 101, 32, 110, 101, 103, 97, 116, 105, 118, 101]⟩)))))⟩,
 ⟨none, none, .e1 .bad (.c .any)⟩])
 .skip))
 (.seq (.reg [km 13 0,
 kv 14 (.len (.t 13)),
 kv 15 (.conv .u64 (.t 14)),
 km 16 1,
 kv 17 (.conv .u64 (.t 16)),
 kc 18 (.c (.fn 116 [])) [(.t 15), (.t 17)],
 km 12 18,
 kv 19 (.ext (.t 12) 0),
 kv 20 (.ext (.t 12) 1),
 km 5 19,
 km 6 20])
 (.seq (.seq (.reg [km 21 5,
 kv 22 (.bin .gtr (.t 21) (.c (.int .u64 (0)))),
 km 23 22,
 ⟨(some 24), (some (23, false)), .o (.v (.mov (.t 6)))⟩,
 ⟨(some 25), (some (23, false)), .o (.v (.bin .gtr (.t 24) (.c (.int .u64 (9223372036854775807)))))⟩,
 kv 26 (.pick (.t 23) (.c (.lit (.bool true))) (.t 25))])
 (.cond (.t 26)
 (.reg [⟨(some 27), none, .o (.v (.ifc 9 (.c (.lit (.string ⟨#[116, 104, 101, 32, 114, 101, 115, 117, 108, 116, 32, 111, 102, 32, 40, 108, 101, 110, 40, 120, 41, 32, 42, 32, 99, 111, 117, 110, 116, 41, 32, 111, 118, 101, 114, 102, 108, 111, 119, 115]⟩)))))⟩,
 ⟨none, none, .e1 .bad (.c .any)⟩])
 .skip))
 (.seq (.reg [km 28 6,
 kv 29 (.conv .i64 (.t 28)),
 ⟨(some 30), none, .msl 24 2 [kz, kz] (.t 29) (.t 29)⟩,
 km 7 30])
 (.seq (.reg [km 31 7,
 km 32 0,
 ⟨(some 33), none, .cpy 2 (.t 31) (.t 32)⟩,
 km 8 33])
 (.seq (.block 0 (.loop
 (.seq (.seq (.reg [km 34 8,
 km 35 7,
 kv 36 (.len (.t 35)),
 kv 37 (.bin .lss (.t 34) (.t 36))])
 (.cond (.t 37)
 .skip
 (.exit 0)))
 (.block 1 (.drw [⟨[], 0, 1, [(km 38 8, .pur),
 (km 39 7, ku),
 (km 40 8, ku),
 (⟨(some 41), none, .slb (.t 39) (some (.t 40)) none 2⟩, ku),
 (km 42 7, ku),
 (km 43 8, ku),
 (⟨(some 44), none, .slb (.t 42) none (some (.t 43)) 2⟩, ku),
 (⟨(some 45), none, .cpy 2 (.t 41) (.t 44)⟩, .efs 0 [] [])],
 [],
 [kv 46 (.bin .add (.t 38) (.t 45)),
 km 8 46], none⟩,
 ⟨[], 0, 1, [(km 38 8, .pur),
 (km 39 7, ku),
 (km 40 8, ku),
 (⟨(some 41), none, .slb (.t 39) (some (.t 40)) none 2⟩, ku),
 (km 42 7, ku),
 (km 43 8, ku),
 (⟨(some 44), none, .slb (.t 42) none (some (.t 43)) 2⟩, ku),
 (⟨(some 45), none, .cpy 2 (.t 41) (.t 44)⟩, .efs 0 [] [])],
 [],
 [kv 46 (.bin .add (.t 38) (.t 45)),
 km 8 46], none⟩])))))
 (.seq (.reg [km 47 7,
 km 4 47])
 .ret))))))))
theorem h106 : FdOk Try.prog 106 ⟨g106, [.t 4], 48, [], true⟩ := .of Try.func106 (by simp [Try.f106]) (by kernel_rfl)
def g107 : RC :=
 (.seq (.reg [ko 1 (.box 24 (.t 0)),
 ko 2 (.new 24 [kz, kz])])
 (.seq (.reg [kf 3 1 1,
 kl 4 3,
 kv 5 (.neg (.t 4)),
 kf 6 1 0,
 kl 7 6,
 kv 8 (.neg (.t 7)),
 ko 9 (.bld [kz, kz] [(0, 1, (.t 5)), (1, 1, (.t 8))]),
 ⟨none, none, .o (.store 2 (.t 2) (.t 9))⟩])
 .ret))
theorem h107 : FdOk Try.prog 107 ⟨g107, [.c 2 (some 2)], 10, [], false⟩ := .of Try.func107 (by simp [Try.f107]) (by kernel_rfl)
def g109 : RC :=
 (.seq (.reg [kv 11 (.mov (.c (.lit (.slice none 0 0))))])
 (.seq (.seq (.reg [km 14 3,
 kv 15 (.bin .eql (.t 14) (.c kz))])
 (.cond (.t 15)
 (.seq (.seq (.reg [kv 16 (.load (.t 4) (some 6)),
 km 17 1,
 kc 18 (.c (.fn 75 [])) [(.t 16), (.t 17)]])
 (.cond (.t 18)
 (.seq (.reg [kv 11 (.mov (.c (.lit (.slice none 0 0))))])
 .ret)
 .skip))
 (.seq (.reg [km 19 0,
 km 11 19])
 .ret))
 .skip))
 (.seq (.seq (.reg [km 20 2,
 km 12 20])
 (.block 0 (.loop
 (.seq (.seq (.reg [km 21 12,
 kl 22 5,
 kv 23 (.len (.t 22)),
 kv 24 (.bin .lss (.t 21) (.t 23))])
 (.cond (.t 24)
 .skip
 (.exit 0)))
 (.seq (.block 1 (.seq (.drw [⟨[6, 0, 12, 1, 5, 3], 2, 0, [(kl 27 6, ku),
 (km 28 0, ku),
 (kc 29 (.c (.fn 110 [])) [(.t 28)], ku),
 (km 30 12, ku),
 (ko 31 (.bsl 3 1 [kz] [(0, 1, (.t 30))]), .cre 0),
 (ko 32 (.app 3 1 8 (.t 29) (.t 31)), .val 0 [0]),
 (km 33 1, ku),
 (kc 34 (.c (.fn 111 [])) [(.t 33)], .val 0 [0]),
 (kl 35 5, ku),
 (km 36 12, ku),
 (kv 37 (.ixa (.t 35) (.t 36) 3), ku),
 (kv 38 (.load (.t 37) (some 3)), ku),
 (ko 39 (.bsl 84 1 [kz, kz, kz] [(0, 3, (.t 38))]), .cre 1),
 (ko 40 (.app 84 3 24 (.t 34) (.t 39)), .val 0 [0, 1]),
 (km 41 12, ku),
 (kv 42 (.bin .add (.t 41) (.c (ki 1))), ku),
 (km 43 3, ku),
 (kv 44 (.bin .sub (.t 43) (.c (ki 1))), ku)],
 [0, 1],
 [kc 45 (.t 27) [(.t 32), (.t 40), (.t 42), (.t 44)],
 km 13 45], none⟩,
 ⟨[6, 0, 12, 1, 5, 3], 0, 0, [(kl 27 6, ku),
 (km 28 0, ku),
 (kc 29 (.c (.fn 110 [])) [(.t 28)], ku),
 (km 30 12, ku),
 (ko 31 (.bsl 3 1 [kz] [(0, 1, (.t 30))]), ku),
 (ko 32 (.app 3 1 8 (.t 29) (.t 31)), ku),
 (km 33 1, ku),
 (kc 34 (.c (.fn 111 [])) [(.t 33)], ku),
 (kl 35 5, ku),
 (km 36 12, ku),
 (kv 37 (.ixa (.t 35) (.t 36) 3), ku),
 (kv 38 (.load (.t 37) (some 3)), ku),
 (ko 39 (.bsl 84 1 [kz, kz, kz] [(0, 3, (.t 38))]), ku),
 (ko 40 (.app 84 3 24 (.t 34) (.t 39)), ku),
 (km 41 12, ku),
 (kv 42 (.bin .add (.t 41) (.c (ki 1))), ku),
 (km 43 3, ku),
 (kv 44 (.bin .sub (.t 43) (.c (ki 1))), ku)],
 [],
 [kc 45 (.t 27) [(.t 32), (.t 40), (.t 42), (.t 44)],
 km 13 45], none⟩])
 (.seq (.reg [km 46 13,
 kv 47 (.isnil true (.t 46))])
 (.cond (.t 47)
 (.seq (.reg [km 48 13,
 km 11 48])
 .ret)
 .skip))))
 (.reg [km 25 12,
 kv 26 (.bin .add (.t 25) (.c (ki 1))),
 km 12 26]))))))
 (.seq (.reg [kv 11 (.mov (.c (.lit (.slice none 0 0))))])
 .ret))))
theorem h109 : FdOk Try.prog 109 ⟨g109, [.t 11], 49, [], false⟩ := .of Try.func109 (by simp [Try.f109]) (by kernel_rfl)
def g110 : RC :=
 (.seq (.reg [kv 2 (.mov (.c (.lit (.slice none 0 0))))])
 (.seq (.reg [km 3 0,
 km 4 0,
 kv 5 (.len (.t 4)),
 km 6 0,
 kv 7 (.len (.t 6)),
 ko 8 (.slc (.t 3) none (some (.t 5)) (some (.t 7)) 1),
 km 2 8])
 .ret))
theorem h110 : FdOk Try.prog 110 ⟨g110, [.t 2], 9, [], false⟩ := .of Try.func110 (by simp [Try.f110]) (by kernel_rfl)
def g111 : RC :=
 (.seq (.reg [kv 2 (.mov (.c (.lit (.slice none 0 0))))])
 (.seq (.reg [km 3 0,
 km 4 0,
 kv 5 (.len (.t 4)),
 km 6 0,
 kv 7 (.len (.t 6)),
 ko 8 (.slc (.t 3) none (some (.t 5)) (some (.t 7)) 3),
 km 2 8])
 .ret))
theorem h111 : FdOk Try.prog 111 ⟨g111, [.t 2], 9, [], false⟩ := .of Try.func111 (by simp [Try.f111]) (by kernel_rfl)
def g112 : RC :=
 (.seq (.reg [ko 1 (.box 3 (.t 0)),
 ko 2 (.new 152 [(.lit .nilFunc)])])
 (.seq (.reg [kv 3 (.mkfn 117 [(.t 1)]),
 ko 4 (.bld [(.lit .nilFunc)] [(0, 1, (.t 3))]),
 ⟨none, none, .o (.store 1 (.t 2) (.t 4))⟩])
 .ret))
theorem h112 : FdOk Try.prog 112 ⟨g112, [.c 2 (some 1)], 5, [], false⟩ := .of Try.func112 (by simp [Try.f112]) (by kernel_rfl)
def g113 : RC :=
 (.seq (.reg [ko 2 (.box 152 (.t 0)),
 kv 4 (.mov (.c (.lit (.slice none 0 0))))])
 (.seq (.reg [kv 5 (.mov (.c (.lit (.slice none 0 0))))])
 (.seq (.seq (.reg [km 8 1,
 kv 9 (.len (.t 8)),
 kv 10 (.mov (.c kz))])
 (.block 0 (.loop
 (.seq (.reg [kv 11 (.bin .lss (.t 10) (.t 9))])
 (.seq (.cond (.t 11)
 .skip
 (.exit 0))
 (.seq (.block 1 (.seq (.reg [km 12 10,
 kv 13 (.ixa (.t 8) (.t 10) 3),
 kv 14 (.load (.t 13) (some 3)),
 ko 7 (.new 77 [kz, kz, (.lit (.slice none 0 0))]),
 km 6 12,
 ⟨none, none, .o (.store 3 (.t 7) (.t 14))⟩])
 (.seq (.reg [kf 15 2 0,
 kl 16 15,
 kv 17 (.load (.t 7) (some 3)),
 kc 18 (.t 16) [(.t 17)]])
 (.cond (.t 18)
 (.reg [km 19 5,
 km 20 6,
 ko 21 (.bsl 3 1 [kz] [(0, 1, (.t 20))]),
 ko 22 (.app 3 1 8 (.t 19) (.t 21)),
 km 5 22])
 .skip))))
 (.reg [kv 23 (.bin .add (.t 10) (.c (ki 1))),
 km 10 23])))))))
 (.seq (.reg [km 24 5,
 km 4 24])
 .ret))))
theorem h113 : FdOk Try.prog 113 ⟨g113, [.t 4], 25, [], false⟩ := .of Try.func113 (by simp [Try.f113]) (by kernel_rfl)
def g114 : RC :=
 (.seq (.reg [ko 4 (.box 77 (.t 0)),
 ko 5 (.box 77 (.t 1)),
 ko 6 (.box 77 (.t 2)),
 kv 8 (.mov (.c (.lit (.bool false))))])
 (.seq (.seq (.reg [kf 10 4 2,
 kl 11 10,
 kv 12 (.len (.t 11)),
 kv 13 (.mov (.c kz))])
 (.block 0 (.loop
 (.seq (.reg [kv 14 (.bin .lss (.t 13) (.t 12))])
 (.seq (.cond (.t 14)
 .skip
 (.exit 0))
 (.seq (.block 1 (.seq (.reg [km 15 13,
 km 9 15])
 (.seq (.drw [⟨[], 1, 1, [(kf 16 4 2, ku),
 (kl 17 16, ku),
 (km 18 9, ku),
 (kv 19 (.ixa (.t 17) (.t 18) 2), ku),
 (kv 20 (.load (.t 19) (some 2)), ku),
 (kf 21 5 2, ku),
 (kl 22 21, ku),
 (km 23 9, ku),
 (kv 24 (.ixa (.t 22) (.t 23) 2), ku),
 (kv 25 (.load (.t 24) (some 2)), ku),
 (kf 26 6 2, ku),
 (kl 27 26, ku),
 (km 28 9, ku),
 (kv 29 (.ixa (.t 27) (.t 28) 2), ku),
 (kv 30 (.load (.t 29) (some 2)), ku),
 (ko 31 (.bsl 24 3 [kz, kz, kz, kz, kz, kz] [(0, 2, (.t 20)), (2, 2, (.t 25)), (4, 2, (.t 30))]), .cre 0),
 (kc 32 (.c (.fn 89 [])) [(.t 31)], .eff 0 [0]),
 (km 33 3, ku),
 (kv 34 (.neg (.t 33)), ku),
 (km 35 3, ku)],
 [],
 [kc 36 (.c (.fn 65 [])) [(.t 32), (.t 34), (.t 35)],
 kv 37 (.not (.t 36))], none⟩])
 (.cond (.t 37)
 (.seq (.reg [kv 8 (.mov (.c (.lit (.bool false))))])
 .ret)
 .skip))))
 (.reg [kv 38 (.bin .add (.t 13) (.c (ki 1))),
 km 13 38])))))))
 (.seq (.reg [kv 8 (.mov (.c (.lit (.bool true))))])
 .ret)))
theorem h114 : FdOk Try.prog 114 ⟨g114, [.t 8], 39, [], false⟩ := .of Try.func114 (by simp [Try.f114]) (by kernel_rfl)
def g115 : RC :=
 (.seq (.reg [kf 4 1 0,
 kf 5 4 2,
 kf 6 5 0,
 kl 7 6,
 km 3 7])
 (.block 0 (.loop
 (.seq (.seq (.reg [km 8 3,
 kf 9 1 0,
 kf 10 9 2,
 kf 11 10 1,
 kl 12 11,
 kv 13 (.bin .leq (.t 8) (.t 12))])
 (.cond (.t 13)
 .skip
 (.exit 0)))
 (.seq (.block 1 (.seq (.reg [km 16 0,
 km 17 3,
 kc 18 (.t 16) [(.t 17)],
 kv 19 (.not (.t 18))])
 (.cond (.t 19)
 .ret
 .skip)))
 (.reg [km 14 3,
 kv 15 (.bin .add (.t 14) (.c (ki 1))),
 km 3 15]))))))
theorem h115 : FdOk Try.prog 115 ⟨g115, [], 20, [], false⟩ := .of Try.func115 (by simp [Try.f115]) (by kernel_rfl)
def g116 : RC :=
 (.seq (.reg [kv 4 (.mov (.c (.int .u64 (0)))),
 kv 5 (.mov (.c (.int .u64 (0))))])
 (.seq (.cond (.c (.lit (.bool false)))
 (.seq (.reg [km 11 0,
 kv 12 (.conv .u32 (.t 11)),
 km 13 1,
 kv 14 (.conv .u32 (.t 13)),
 kc 15 (.c (.fn 118 [])) [(.t 12), (.t 14)],
 km 10 15,
 kv 16 (.ext (.t 10) 0),
 kv 17 (.ext (.t 10) 1),
 km 6 16,
 km 7 17])
 (.seq (.reg [km 18 6,
 kv 19 (.conv .u64 (.t 18)),
 km 20 7,
 kv 21 (.conv .u64 (.t 20)),
 km 4 19,
 km 5 21])
 .ret))
 .skip)
 (.seq (.reg [km 23 0,
 km 24 1,
 kc 25 (.c (.fn 119 [])) [(.t 23), (.t 24)],
 km 22 25,
 kv 26 (.ext (.t 22) 0),
 kv 27 (.ext (.t 22) 1),
 km 8 26,
 km 9 27])
 (.seq (.reg [km 28 8,
 km 29 9,
 km 4 28,
 km 5 29])
 .ret))))
theorem h116 : FdOk Try.prog 116 ⟨g116, [.t 4, .t 5], 30, [], false⟩ := .of Try.func116 (by simp [Try.f116]) (by kernel_rfl)
def g117 : RC :=
 (.seq (.reg [ko 2 (.box 77 (.t 0)),
 kv 3 (.mov (.c (.lit (.bool false))))])
 (.seq (.reg [kf 4 2 0,
 kl 5 4,
 kl 6 1,
 kv 7 (.bin .eql (.t 5) (.t 6)),
 km 3 7])
 .ret))
theorem h117 : FdOk Try.prog 117 ⟨g117, [.t 3], 8, [], false⟩ := .of Try.func117 (by simp [Try.f117]) (by kernel_rfl)
def g118 : RC :=
 (.seq (.reg [kv 4 (.mov (.c (.int .u32 (0)))),
 kv 5 (.mov (.c (.int .u32 (0))))])
 (.seq (.reg [km 7 0,
 kv 8 (.conv .u64 (.t 7)),
 km 9 1,
 kv 10 (.conv .u64 (.t 9)),
 kv 11 (.bin .mul (.t 8) (.t 10)),
 km 6 11])
 (.seq (.reg [km 12 6,
 kv 13 (.bin .shr (.t 12) (.c (.int .u64 (32)))),
 kv 14 (.conv .u32 (.t 13)),
 km 15 6,
 kv 16 (.conv .u32 (.t 15)),
 km 4 14,
 km 5 16])
 .ret)))
theorem h118 : FdOk Try.prog 118 ⟨g118, [.t 4, .t 5], 17, [], false⟩ := .of Try.func118 (by simp [Try.f118]) (by kernel_rfl)
def g119 : RC :=
 (.seq (.reg [kv 4 (.mov (.c (.int .u64 (0)))),
 kv 5 (.mov (.c (.int .u64 (0))))])
 (.seq (.reg [km 14 0,
 kv 15 (.bin .and (.t 14) (.c (.int .u64 (4294967295)))),
 km 6 15])
 (.seq (.reg [km 16 0,
 kv 17 (.bin .shr (.t 16) (.c (.int .u64 (32)))),
 km 7 17])
 (.seq (.reg [km 18 1,
 kv 19 (.bin .and (.t 18) (.c (.int .u64 (4294967295)))),
 km 8 19])
 (.seq (.reg [km 20 1,
 kv 21 (.bin .shr (.t 20) (.c (.int .u64 (32)))),
 km 9 21])
 (.seq (.reg [km 22 6,
 km 23 8,
 kv 24 (.bin .mul (.t 22) (.t 23)),
 km 10 24])
 (.seq (.reg [km 25 7,
 km 26 8,
 kv 27 (.bin .mul (.t 25) (.t 26)),
 km 28 10,
 kv 29 (.bin .shr (.t 28) (.c (.int .u64 (32)))),
 kv 30 (.bin .add (.t 27) (.t 29)),
 km 11 30])
 (.seq (.reg [km 31 11,
 kv 32 (.bin .and (.t 31) (.c (.int .u64 (4294967295)))),
 km 12 32])
 (.seq (.reg [km 33 11,
 kv 34 (.bin .shr (.t 33) (.c (.int .u64 (32)))),
 km 13 34])
 (.seq (.reg [km 35 12,
 km 36 6,
 km 37 9,
 kv 38 (.bin .mul (.t 36) (.t 37)),
 kv 39 (.bin .add (.t 35) (.t 38)),
 km 12 39])
 (.seq (.reg [km 40 7,
 km 41 9,
 kv 42 (.bin .mul (.t 40) (.t 41)),
 km 43 13,
 kv 44 (.bin .add (.t 42) (.t 43)),
 km 45 12,
 kv 46 (.bin .shr (.t 45) (.c (.int .u64 (32)))),
 kv 47 (.bin .add (.t 44) (.t 46)),
 km 4 47])
 (.seq (.reg [km 48 0,
 km 49 1,
 kv 50 (.bin .mul (.t 48) (.t 49)),
 km 5 50])
 .ret))))))))))))
theorem h119 : FdOk Try.prog 119 ⟨g119, [.t 4, .t 5], 51, [], false⟩ := .of Try.func119 (by simp [Try.f119]) (by kernel_rfl)
def g135 : RC :=
 (.seq (.reg [ko 2 (.box 157 (.t 0)),
 ko 3 (.box 28 (.t 1)),
 ko 4 (.new 24 [kz, kz])])
 (.seq (.reg [kv 5 (.load (.t 2) (some 2)),
 ⟨none, none, .o (.store 2 (.t 4) (.t 5))⟩])
 .ret))
theorem h135 : FdOk Try.prog 135 ⟨g135, [.c 4 (some 2)], 6, [], false⟩ := .of Try.func135 (by simp [Try.f135]) (by kernel_rfl)
def g136 : RC :=
 (.seq (.reg [ko 2 (.box 159 (.t 0)),
 ko 3 (.box 28 (.t 1)),
 ko 4 (.new 24 [kz, kz])])
 (.seq (.drw [⟨[], 0, 0, [(kf 9 3 0, ku),
 (kl 10 9, ku),
 (kf 11 2 0, ku),
 (kl 12 11, ku),
 (kv 13 (.bin .quo (.t 10) (.t 12)), ku),
 (kf 14 3 0, ku),
 (kl 15 14, ku),
 (kf 16 2 0, ku),
 (kl 17 16, ku),
 (kv 18 (.bin .rem (.t 15) (.t 17)), ku),
 (km 5 13, ku)],
 [],
 [km 6 18], none⟩])
 (.seq (.seq (.reg [km 19 6,
 kv 20 (.bin .eql (.t 19) (.c kz))])
 (.cond (.t 20)
 (.seq (.reg [kf 21 2 1,
 kl 22 21,
 km 23 5,
 kv 24 (.ixa (.t 22) (.t 23) 2),
 kv 25 (.load (.t 24) (some 2)),
 ⟨none, none, .o (.store 2 (.t 4) (.t 25))⟩])
 .ret)
 .skip))
 (.seq (.drw [⟨[], 2, 1, [(kf 26 2 1, ku),
 (kl 27 26, ku),
 (km 28 5, ku),
 (kv 29 (.ixa (.t 27) (.t 28) 2), ku),
 (kv 30 (.load (.t 29) (some 2)), ku),
 (kf 31 2 1, .prd []),
 (kl 32 31, .prd []),
 (km 33 5, .prd []),
 (kv 34 (.bin .add (.t 33) (.c (ki 1))), .prd []),
 (kv 35 (.ixa (.t 32) (.t 34) 2), .prd []),
 (kv 36 (.load (.t 35) (some 2)), .prd []),
 (ko 7 (.new 24 [kz, kz]), .cre 0),
 (ko 8 (.new 24 [kz, kz]), .cre 1),
 (⟨none, none, .o (.store 2 (.t 7) (.t 30))⟩, .efs 0 [0, 1] [])],
 [],
 [⟨none, none, .o (.store 2 (.t 8) (.t 36))⟩], none⟩,
 ⟨[], 2, 1, [(kf 26 2 1, ku),
 (kl 27 26, ku),
 (km 28 5, ku),
 (kv 29 (.ixa (.t 27) (.t 28) 2), ku),
 (kv 30 (.load (.t 29) (some 2)), ku),
 (kf 31 2 1, .prd []),
 (kl 32 31, .prd []),
 (km 33 5, .prd []),
 (kv 34 (.bin .add (.t 33) (.c (ki 1))), .prd []),
 (kv 35 (.ixa (.t 32) (.t 34) 2), .prd []),
 (kv 36 (.load (.t 35) (some 2)), .prd []),
 (ko 7 (.new 24 [kz, kz]), .cre 0),
 (ko 8 (.new 24 [kz, kz]), .cre 1),
 (⟨none, none, .o (.store 2 (.t 7) (.t 30))⟩, .efs 0 [0, 1] [])],
 [],
 [⟨none, none, .o (.store 2 (.t 8) (.t 36))⟩], none⟩])
 (.seq (.drw [⟨[], 0, 1, [(kv 37 (.load (.t 2) (some 2)), ku),
 (kf 38 7 0, ku),
 (kl 39 38, ku),
 (kf 40 8 0, ku),
 (kl 41 40, ku),
 (km 42 6, ku),
 (kc 43 (.c (.fn 137 [])) [(.t 37), (.t 39), (.t 41), (.t 42)], .eff 0 []),
 (kv 44 (.load (.t 2) (some 2)), ku),
 (kf 45 7 1, ku),
 (kl 46 45, ku),
 (kf 47 8 1, ku),
 (kl 48 47, ku),
 (km 49 6, ku)],
 [],
 [kc 50 (.c (.fn 137 [])) [(.t 44), (.t 46), (.t 48), (.t 49)],
 ko 51 (.bld [kz, kz] [(0, 1, (.t 43)), (1, 1, (.t 50))]),
 ⟨none, none, .o (.store 2 (.t 4) (.t 51))⟩], none⟩])
 .ret)))))
theorem h136 : FdOk Try.prog 136 ⟨g136, [.c 4 (some 2)], 52, [], false⟩ := .of Try.func136 (by simp [Try.f136]) (by kernel_rfl)
def g137 : RC :=
 (.seq (.reg [ko 4 (.box 159 (.t 0)),
 kv 8 (.mov (.c kz))])
 (.seq (.reg [km 9 1,
 kf 10 4 0,
 kl 11 10,
 km 12 3,
 kv 13 (.bin .sub (.t 11) (.t 12)),
 kv 14 (.bin .mul (.t 9) (.t 13)),
 km 15 2,
 km 16 3,
 kv 17 (.bin .mul (.t 15) (.t 16)),
 kv 18 (.bin .add (.t 14) (.t 17)),
 kf 19 4 0,
 kl 20 19,
 kc 21 (.c (.fn 138 [])) [(.t 18), (.t 20)],
 km 8 21])
 .ret))
theorem h137 : FdOk Try.prog 137 ⟨g137, [.t 8], 22, [], false⟩ := .of Try.func137 (by simp [Try.f137]) (by kernel_rfl)
def g138 : RC :=
 (.seq (.reg [kv 4 (.mov (.c kz))])
 (.seq (.reg [km 6 0,
 km 7 1,
 kv 8 (.bin .quo (.t 6) (.t 7)),
 km 5 8])
 (.seq (.seq (.reg [km 9 0,
 km 10 1,
 kv 11 (.bin .rem (.t 9) (.t 10)),
 kv 12 (.bin .lss (.t 11) (.c kz))])
 (.cond (.t 12)
 (.reg [km 13 5,
 kv 14 (.bin .sub (.t 13) (.c (ki 1))),
 km 5 14])
 .skip))
 (.seq (.reg [km 15 5,
 km 4 15])
 .ret))))
theorem h138 : FdOk Try.prog 138 ⟨g138, [.t 4], 16, [], false⟩ := .of Try.func138 (by simp [Try.f138]) (by kernel_rfl)
def g139 : RC :=
 (.seq (.reg [ko 2 (.box 161 (.t 0)),
 ko 3 (.box 28 (.t 1)),
 ko 4 (.new 24 [kz, kz])])
 (.seq (.seq (.reg [kf 5 3 1,
 kl 6 5,
 kf 7 2 0,
 kl 8 7,
 kv 9 (.bin .shr (.t 6) (.t 8)),
 kv 10 (.bin .and (.t 9) (.c (ki 1))),
 kv 11 (.bin .eql (.t 10) (.c kz))])
 (.cond (.t 11)
 (.seq (.reg [kc 12 (.c (.fn 90 [])) [(.c kz)],
 ⟨none, none, .o (.store 2 (.t 4) (.t 12))⟩])
 .ret)
 .skip))
 (.seq (.reg [kf 13 2 1,
 kv 14 (.load (.t 13) (some 2)),
 ⟨none, none, .o (.store 2 (.t 4) (.t 14))⟩])
 .ret)))
theorem h139 : FdOk Try.prog 139 ⟨g139, [.c 4 (some 2)], 15, [], false⟩ := .of Try.func139 (by simp [Try.f139]) (by kernel_rfl)
end Go.Proofs.Ytjagiieconpgbaa
