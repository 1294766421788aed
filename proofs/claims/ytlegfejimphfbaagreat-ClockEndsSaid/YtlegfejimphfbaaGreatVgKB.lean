import Derived.Test.YtlegfejimphfbaaGreatVgR18
import Derived.Test.YtlegfejimphfbaaGreatChecked
import Derived.KernelRfl
section
namespace Go.Proofs.YtlegfejimphfbaaGreat
open Go Go.Vg
set_option maxRecDepth 100000
set_option maxHeartbeats 4000000
def ki (n : Int) : SV := .int .i64 n
def kz : SV := .int .i64 0
def km (d n : Nat) : Opq := ⟨some d, none, .o (.v (.mov (.t n)))⟩
def kl (d n : Nat) : Opq := ⟨some d, none, .o (.v (.load (.t n) none))⟩
def kf (d n k : Nat) : Opq := ⟨some d, none, .o (.v (.off (.t n) k))⟩
def kn (d n : Nat) : Opq := ⟨some d, none, .nck (.t n)⟩
def kv (d : Nat) (v : VOp) : Opq := ⟨some d, none, .o (.v v)⟩
def kc (d : Nat) (f : X) (l : List X) : Opq := ⟨some d, none, .o (.call f l)⟩
def ko (d : Nat) (o : Op1) : Opq := ⟨some d, none, .o o⟩
def ku : Kd := .val 0 []
def kb0 : SV := .lit (.bool false)
def kb1 : SV := .lit (.bool true)
def kG (d g : Nat) (b : Bool) (v : VOp) : Opq := ⟨some d, some (g, b), .o (.v v)⟩
def kF (n : Nat) : X := .c (.fn n [])
def ks (n a b : Nat) : Opq := ⟨none, none, .o (.store n (.t a) (.t b))⟩
def sr (l : List Opq) (b : RC) : RC := .seq (.reg l) b
def kns : SV := .lit (.slice none 0 0)
def kI (n : Int) : X := .c (ki n)
def kx : X := .c kz
def kx0 : X := .c kb0
def kx1 : X := .c kb1
abbrev FO := FdOk Tryz.prog
def g14 : RC :=
 (sr [ko 3 (.box 27 (.t 0)),
 ko 6 (.new 25 [kz, kz]),
 kv 7 (.mov kx)]
 (.seq (sr [kv 10 (.load (.t 3) (some 6)),
 kc 11 (kF 16) [(.t 10)],
 km 8 11]
 (sr [km 12 8,
 kv 13 (.bin .neq (.t 12) kx)]
 (.cond (.t 13)
 (sr [ko 14 (.bld [kz, kz] []),
 km 15 8,
 ks 2 6 14,
 km 7 15]
 .ret)
 .skip)))
 (sr [kv 16 (.load (.t 3) (some 6)),
 ko 17 (.bld [kns, kns, kz, kz, kz, kz] [(0, 6, (.t 16))]),
 ko 9 (.new 77 [kns, kns, kz, kz, kz, kz]),
 ks 6 9 17]
 (.seq (.seq (.drw [⟨[], 0, 2, [(km 18 1, ku),
 (kv 19 (.load (.t 9) (some 6)), ku),
 (kc 20 (kF 47) [(.t 19)], .eff 0 []),
 (kv 21 (.load (.t 9) (some 6)), ku),
 (kc 22 (kF 48) [(.t 21)], .eff 1 [])],
 [],
 [kc 23 (kF 46) [(.t 18), (.t 20), (.t 22)],
 kv 24 (.not (.t 23)),
 km 25 24,
 kG 26 25 false (.mov (.t 2)),
 ⟨(some 27), (some (25, false)), .o (.call (kF 46) [(.t 26), kx, (kI 59)])⟩,
 kG 28 25 false (.not (.t 27)),
 kv 29 (.pick (.t 25) kx1 (.t 28))], none⟩])
 (.cond (.t 29)
 (sr [ko 30 (.bld [kz, kz] []),
 ks 2 6 30,
 kv 7 (.mov (kI 7))]
 .ret)
 .skip))
 (sr [kv 31 (.load (.t 9) (some 6)),
 km 32 1,
 km 33 2,
 kc 34 (kF 49) [(.t 31), (.t 32), (.t 33)],
 ks 2 6 34,
 kv 7 (.mov kx)]
 .ret)))))
theorem h14 : FO 14 ⟨g14, [.c 6 (some 2), .t 7], 35, [], false⟩ := .of Tryz.func14 (by simp [Tryz.f14]) (by kernel_rfl)
def g18 : RC :=
 (sr [ko 2 (.box 27 (.t 0)),
 kv 4 (.mov (.c kns)),
 kv 5 (.mov kx)]
 (.seq (sr [kv 7 (.load (.t 2) (some 6)),
 km 8 1,
 kc 9 (kF 53) [(.t 7), (.t 8)],
 km 6 9]
 (sr [km 10 6,
 kv 11 (.bin .neq (.t 10) kx)]
 (.cond (.t 11)
 (sr [km 12 6,
 kv 4 (.mov (.c kns)),
 km 5 12]
 .ret)
 .skip)))
 (sr [kv 13 (.load (.t 2) (some 6)),
 ko 14 (.bld [kns, kns, kz, kz, kz, kz] [(0, 6, (.t 13))]),
 km 15 1,
 kc 16 (kF 54) [(.t 14), (.t 15)],
 km 4 16,
 kv 5 (.mov kx)]
 .ret)))
theorem h18 : FO 18 ⟨g18, [.t 4, .t 5], 17, [], false⟩ := .of Tryz.func18 (by simp [Tryz.f18]) (by kernel_rfl)
def g20 : RC :=
 (sr [kv 4 (.mov kx0)]
 (.seq (sr [km 6 0,
 kv 7 (.len (.t 6)),
 km 8 1,
 kv 9 (.len (.t 8)),
 kv 10 (.bin .neq (.t 7) (.t 9))]
 (.cond (.t 10)
 (sr [kv 4 (.mov kx0)]
 .ret)
 .skip))
 (.seq (sr [kv 5 (.mov kx)]
 (.block 0 (.loop
 (.seq (sr [km 11 5,
 km 12 0,
 kv 13 (.len (.t 12)),
 kv 14 (.bin .lss (.t 11) (.t 13))]
 (.cond (.t 14)
 .skip
 (.exit 0)))
 (.seq (.block 1 (.seq (.drw [⟨[], 0, 0, [(km 17 0, ku),
 (km 18 5, ku),
 (kv 19 (.ixa (.t 17) (.t 18) 2), ku),
 (kv 20 (.load (.t 19) (some 2)), ku),
 (km 21 1, ku),
 (km 22 5, ku),
 (kv 23 (.ixa (.t 21) (.t 22) 2), ku),
 (kv 24 (.load (.t 23) (some 2)), ku)],
 [],
 [kv 25 (.eqs [(some .i64), (some .i64)] true (.t 20) (.t 24))], none⟩])
 (.cond (.t 25)
 (sr [kv 4 (.mov kx0)]
 .ret)
 .skip)))
 (.reg [km 15 5,
 kv 16 (.bin .add (.t 15) (kI 1)),
 km 5 16]))))))
 (sr [kv 4 (.mov kx1)]
 .ret))))
theorem h20 : FO 20 ⟨g20, [.t 4], 26, [], false⟩ := .of Tryz.func20 (by simp [Tryz.f20]) (by kernel_rfl)
def g21 : RC :=
 (sr [kv 0 (.mov kx0)]
 (sr [kc 14 (kF 57) [],
 kc 15 (kF 14) [(.t 14), (kI 15), (kI 10)],
 km 13 15,
 kv 16 (.ext (.t 13) 0),
 kv 17 (.ext (.t 13) 1),
 ko 1 (.new 25 [kz, kz]),
 ks 2 1 16,
 km 2 17]
 (sr [kc 19 (kF 57) [],
 kc 20 (kF 58) [],
 kc 21 (kF 18) [(.t 19), (.t 20)],
 km 18 21,
 kv 22 (.ext (.t 18) 0),
 kv 23 (.ext (.t 18) 1),
 km 3 22,
 km 4 23]
 (sr [kc 25 (kF 57) [],
 kc 26 (kF 58) [],
 ko 27 (.bsl 3 3 [kz, kz, kz] [(0, 1, (kI 550)), (1, 1, (kI 250)), (2, 1, (kI 850))]),
 ko 28 (.bsl 3 2 [kz, kz] [(0, 1, (kI 20)), (1, 1, (kI 25))]),
 ko 29 (.bld [kns, kz, kz, kns] [(0, 1, (.t 27)), (1, 1, (kI 5)), (2, 1, (kI 100)), (3, 1, (.t 28))]),
 kc 30 (kF 22) [(.t 25), (.t 26), (.t 29)],
 km 24 30,
 kv 31 (.ext (.t 24) 0),
 kv 32 (.ext (.t 24) 1),
 km 5 31,
 km 6 32]
 (sr [kc 34 (kF 59) [],
 kc 35 (kF 25) [(.t 34)],
 km 33 35,
 kv 36 (.ext (.t 33) 0),
 kv 37 (.ext (.t 33) 1),
 kv 38 (.ext (.t 33) 2),
 km 7 36,
 km 8 37,
 km 9 38]
 (.seq (.seq (.drw [⟨[2, 4, 6, 9, 1, 3, 5, 7, 8], 0, 0, [(km 39 2, ku),
 (kv 40 (.bin .neq (.t 39) kx), ku),
 (km 41 40, ku),
 (kG 42 41 false (.mov (.t 4)), ku),
 (kG 43 41 false (.bin .neq (.t 42) kx), ku),
 (kv 44 (.pick (.t 41) kx1 (.t 43)), ku),
 (km 45 44, ku),
 (kG 46 45 false (.mov (.t 6)), ku),
 (kG 47 45 false (.bin .neq (.t 46) kx), ku),
 (kv 48 (.pick (.t 45) kx1 (.t 47)), ku),
 (km 49 48, ku),
 (kG 50 49 false (.mov (.t 9)), ku),
 (kG 51 49 false (.bin .neq (.t 50) kx), ku),
 (kv 52 (.pick (.t 49) kx1 (.t 51)), ku),
 (km 53 52, ku),
 (kG 54 53 false (.load (.t 1) (some 2)), ku),
 (⟨(some 55), (some (53, false)), .o (.call (kF 34) [(kI 350), (kI 550)])⟩, ku),
 (kG 56 53 false (.eqs [(some .i64), (some .i64)] true (.t 54) (.t 55)), ku),
 (kv 57 (.pick (.t 53) kx1 (.t 56)), ku),
 (km 58 57, ku),
 (kG 59 58 false (.mov (.t 3)), ku),
 (⟨(some 60), (some (58, false)), .o (.call (kF 34) [(kI (-800)), (kI 1600)])⟩, ku),
 (⟨(some 61), (some (58, false)), .o (.call (kF 34) [(kI (-600)), (kI 2210)])⟩, ku),
 (⟨(some 62), (some (58, false)), .o (.bsl 25 2 [kz, kz, kz, kz] [(0, 2, (.t 60)), (2, 2, (.t 61))])⟩, ku),
 (⟨(some 63), (some (58, false)), .o (.call (kF 20) [(.t 59), (.t 62)])⟩, ku),
 (kG 64 58 false (.not (.t 63)), ku),
 (kv 65 (.pick (.t 58) kx1 (.t 64)), ku),
 (km 66 65, ku),
 (kG 67 66 false (.mov (.t 5)), ku),
 (⟨(some 68), (some (66, false)), .o (.bsl 3 2 [kz, kz] [(0, 1, (kI 350)), (1, 1, (kI 905))])⟩, ku),
 (⟨(some 69), (some (66, false)), .o (.call (kF 24) [(.t 67), (.t 68)])⟩, ku),
 (kG 70 66 false (.not (.t 69)), ku),
 (kv 71 (.pick (.t 66) kx1 (.t 70)), ku),
 (km 72 71, ku),
 (kG 73 72 false (.mov (.t 7)), ku),
 (⟨(some 74), (some (72, false)), .o (.bsl 3 3 [kz, kz, kz] [(0, 1, (kI 1)), (1, 1, (kI 2)), (2, 1, kx)])⟩, ku),
 (⟨(some 75), (some (72, false)), .o (.call (kF 24) [(.t 73), (.t 74)])⟩, ku),
 (kG 76 72 false (.not (.t 75)), ku),
 (kv 77 (.pick (.t 72) kx1 (.t 76)), ku),
 (km 78 77, ku),
 (kG 79 78 false (.mov (.t 8)), ku),
 (⟨(some 80), (some (78, false)), .o (.bsl 3 3 [kz, kz, kz] [(0, 1, (kI 13)), (1, 1, (kI 7)), (2, 1, (kI 9))])⟩, ku)],
 [],
 [⟨(some 81), (some (78, false)), .o (.call (kF 24) [(.t 79), (.t 80)])⟩,
 kG 82 78 false (.not (.t 81)),
 kv 83 (.pick (.t 78) kx1 (.t 82))], none⟩])
 (.cond (.t 83)
 (sr [kv 0 (.mov kx0)]
 .ret)
 .skip))
 (sr [kc 85 (kF 60) [(kI 30), (kI 1)],
 kc 86 (kF 27) [(.t 85)],
 km 84 86,
 kv 87 (.ext (.t 84) 0),
 kv 88 (.ext (.t 84) 1),
 km 10 87,
 km 2 88]
 (sr [kc 90 (kF 60) [(kI 30), (kI (-26))],
 kc 91 (kF 27) [(.t 90)],
 km 89 91,
 kv 92 (.ext (.t 89) 0),
 kv 93 (.ext (.t 89) 1),
 km 11 92,
 km 4 93]
 (sr [kc 95 (kF 60) [(kI 30), (kI 1)],
 kc 96 (kF 29) [(.t 95)],
 km 94 96,
 kv 97 (.ext (.t 94) 0),
 kv 98 (.ext (.t 94) 1),
 km 12 97,
 km 6 98]
 (sr [km 99 2,
 kv 100 (.bin .eql (.t 99) kx),
 km 101 100,
 kG 102 101 true (.mov (.t 4)),
 kG 103 101 true (.bin .eql (.t 102) kx),
 kv 104 (.pick (.t 101) (.t 103) kx0),
 km 105 104,
 kG 106 105 true (.mov (.t 6)),
 kG 107 105 true (.bin .eql (.t 106) kx),
 kv 108 (.pick (.t 105) (.t 107) kx0),
 km 109 108,
 kG 110 109 true (.mov (.t 10)),
 ⟨(some 111), (some (109, true)), .o (.bsl 3 1 [kz] [(0, 1, (kI 1))])⟩,
 ⟨(some 112), (some (109, true)), .o (.call (kF 24) [(.t 110), (.t 111)])⟩,
 kv 113 (.pick (.t 109) (.t 112) kx0),
 km 114 113,
 kG 115 114 true (.mov (.t 11)),
 ⟨(some 116), (some (114, true)), .o (.bsl 3 1 [kz] [(0, 1, (kI 2))])⟩,
 ⟨(some 117), (some (114, true)), .o (.call (kF 24) [(.t 115), (.t 116)])⟩,
 kv 118 (.pick (.t 114) (.t 117) kx0),
 km 119 118,
 kG 120 119 true (.mov (.t 12)),
 kG 121 119 true (.bin .eql (.t 120) (kI 3)),
 kv 122 (.pick (.t 119) (.t 121) kx0),
 km 0 122]
 .ret))))))))))
theorem h21 : FO 21 ⟨g21, [.t 0], 123, [], false⟩ := .of Tryz.func21 (by simp [Tryz.f21]) (by kernel_rfl)
def g22 : RC :=
 (sr [ko 3 (.box 27 (.t 0)),
 ko 5 (.box 39 (.t 2)),
 kv 6 (.mov (.c kns)),
 kv 7 (.mov kx)]
 (.seq (sr [kv 10 (.load (.t 3) (some 6)),
 km 11 1,
 kc 12 (kF 53) [(.t 10), (.t 11)],
 km 8 12]
 (sr [km 13 8,
 kv 14 (.bin .neq (.t 13) kx)]
 (.cond (.t 14)
 (sr [km 15 8,
 kv 6 (.mov (.c kns)),
 km 7 15]
 .ret)
 .skip)))
 (sr [kv 16 (.load (.t 3) (some 6)),
 ko 17 (.bld [kns, kns, kz, kz, kz, kz] [(0, 6, (.t 16))]),
 ko 9 (.new 77 [kns, kns, kz, kz, kz, kz]),
 ks 6 9 17]
 (.seq (sr [kv 18 (.load (.t 9) (some 6)),
 km 19 1,
 kv 20 (.load (.t 5) (some 4)),
 kc 21 (kF 61) [(.t 18), (.t 19), (.t 20)],
 kv 22 (.not (.t 21))]
 (.cond (.t 22)
 (sr [kv 6 (.mov (.c kns)),
 kv 7 (.mov (kI 74))]
 .ret)
 .skip))
 (sr [kv 23 (.load (.t 9) (some 6)),
 kv 24 (.load (.t 5) (some 4)),
 kc 25 (kF 62) [(.t 23), (.t 24)],
 km 6 25,
 kv 7 (.mov kx)]
 .ret)))))
theorem h22 : FO 22 ⟨g22, [.t 6, .t 7], 26, [], false⟩ := .of Tryz.func22 (by simp [Tryz.f22]) (by kernel_rfl)
def g24 : RC :=
 (sr [kv 4 (.mov kx0)]
 (.seq (sr [km 6 0,
 kv 7 (.len (.t 6)),
 km 8 1,
 kv 9 (.len (.t 8)),
 kv 10 (.bin .neq (.t 7) (.t 9))]
 (.cond (.t 10)
 (sr [kv 4 (.mov kx0)]
 .ret)
 .skip))
 (.seq (sr [kv 5 (.mov kx)]
 (.block 0 (.loop
 (.seq (sr [km 11 5,
 km 12 0,
 kv 13 (.len (.t 12)),
 kv 14 (.bin .lss (.t 11) (.t 13))]
 (.cond (.t 14)
 .skip
 (.exit 0)))
 (.seq (.block 1 (.seq (.drw [⟨[], 0, 0, [(km 17 0, ku),
 (km 18 5, ku),
 (kv 19 (.ixa (.t 17) (.t 18) 1), ku),
 (kl 20 19, ku),
 (km 21 1, ku),
 (km 22 5, ku),
 (kv 23 (.ixa (.t 21) (.t 22) 1), ku),
 (kl 24 23, ku)],
 [],
 [kv 25 (.bin .neq (.t 20) (.t 24))], none⟩])
 (.cond (.t 25)
 (sr [kv 4 (.mov kx0)]
 .ret)
 .skip)))
 (.reg [km 15 5,
 kv 16 (.bin .add (.t 15) (kI 1)),
 km 5 16]))))))
 (sr [kv 4 (.mov kx1)]
 .ret))))
theorem h24 : FO 24 ⟨g24, [.t 4], 26, [], false⟩ := .of Tryz.func24 (by simp [Tryz.f24]) (by kernel_rfl)
def g25 : RC :=
 (sr [kv 2 (.mov (.c kns)),
 kv 3 (.mov (.c kns)),
 kv 4 (.mov kx)]
 (.seq (sr [km 5 0,
 kc 6 (kF 64) [(.t 5)],
 kv 7 (.not (.t 6))]
 (.cond (.t 7)
 (sr [kv 2 (.mov (.c kns)),
 kv 3 (.mov (.c kns)),
 kv 4 (.mov (kI 72))]
 .ret)
 .skip))
 (sr [km 9 0,
 kc 10 (kF 65) [(.t 9)],
 km 8 10,
 kv 11 (.ext (.t 8) 0),
 kv 12 (.ext (.t 8) 1),
 km 2 11,
 km 3 12]
 (sr [km 13 2,
 km 14 3,
 km 2 13,
 km 3 14,
 kv 4 (.mov kx)]
 .ret))))
theorem h25 : FO 25 ⟨g25, [.t 2, .t 3, .t 4], 15, [], false⟩ := .of Tryz.func25 (by simp [Tryz.f25]) (by kernel_rfl)
def g27 : RC :=
 (sr [ko 1 (.box 50 (.t 0)),
 kv 2 (.mov (.c kns)),
 kv 3 (.mov kx)]
 (sr [kv 5 (.load (.t 1) (some 9)),
 ko 6 (.bld [kns, kns, kz, kz, kz, kz, kz, kz, kz] [(0, 9, (.t 5))]),
 ko 4 (.new 94 [kns, kns, kz, kz, kz, kz, kz, kz, kz]),
 ks 9 4 6]
 (.seq (sr [kv 7 (.load (.t 4) (some 9)),
 kc 8 (kF 68) [(.t 7)],
 kv 9 (.not (.t 8))]
 (.cond (.t 9)
 (sr [kv 2 (.mov (.c kns)),
 kv 3 (.mov (kI 73))]
 .ret)
 .skip))
 (sr [kv 10 (.load (.t 4) (some 9)),
 kc 11 (kF 69) [(.t 10)],
 km 2 11,
 kv 3 (.mov kx)]
 .ret))))
theorem h27 : FO 27 ⟨g27, [.t 2, .t 3], 12, [], false⟩ := .of Tryz.func27 (by simp [Tryz.f27]) (by kernel_rfl)
def g29 : RC :=
 (sr [ko 1 (.box 50 (.t 0)),
 kv 2 (.mov kx),
 kv 3 (.mov kx)]
 (sr [kv 7 (.load (.t 1) (some 9)),
 ko 8 (.bld [kns, kns, kz, kz, kz, kz, kz, kz, kz] [(0, 9, (.t 7))]),
 ko 4 (.new 94 [kns, kns, kz, kz, kz, kz, kz, kz, kz]),
 ks 9 4 8]
 (.seq (sr [kv 9 (.load (.t 4) (some 9)),
 kc 10 (kF 68) [(.t 9)],
 kv 11 (.not (.t 10))]
 (.cond (.t 11)
 (sr [kv 2 (.mov kx),
 kv 3 (.mov (kI 73))]
 .ret)
 .skip))
 (sr [kv 13 (.load (.t 4) (some 9)),
 kc 14 (kF 72) [(.t 13)],
 km 12 14,
 kv 15 (.ext (.t 12) 0),
 kv 16 (.ext (.t 12) 1),
 km 5 15,
 km 6 16]
 (.seq (sr [km 17 6,
 kv 18 (.not (.t 17))]
 (.cond (.t 18)
 (sr [kv 2 (.mov kx),
 kv 3 (.mov (kI 4))]
 .ret)
 .skip))
 (sr [km 19 5,
 km 2 19,
 kv 3 (.mov kx)]
 .ret))))))
theorem h29 : FO 29 ⟨g29, [.t 2, .t 3], 20, [], false⟩ := .of Tryz.func29 (by simp [Tryz.f29]) (by kernel_rfl)
def g34 : RC :=
 (sr [ko 4 (.new 25 [kz, kz])]
 (sr [km 5 0,
 km 6 1,
 ko 7 (.bld [kz, kz] [(0, 1, (.t 5)), (1, 1, (.t 6))]),
 ks 2 4 7]
 .ret))
theorem h34 : FO 34 ⟨g34, [.c 4 (some 2)], 8, [], false⟩ := .of Tryz.func34 (by simp [Tryz.f34]) (by kernel_rfl)
def g46 : RC :=
 (sr [kv 6 (.mov kx0)]
 (sr [km 7 1,
 km 8 0,
 kv 9 (.bin .leq (.t 7) (.t 8)),
 km 10 9,
 kG 11 10 true (.mov (.t 0)),
 kG 12 10 true (.mov (.t 2)),
 kG 13 10 true (.bin .leq (.t 11) (.t 12)),
 kv 14 (.pick (.t 10) (.t 13) kx0),
 km 6 14]
 .ret))
theorem h46 : FO 46 ⟨g46, [.t 6], 15, [], false⟩ := .of Tryz.func46 (by simp [Tryz.f46]) (by kernel_rfl)
def g57 : RC :=
 (sr [ko 0 (.new 27 [kns, kns, kz, kz, kz, kz])]
 (sr [ko 1 (.bsl 3 3 [kz, kz, kz] [(0, 1, (kI 10)), (1, 1, (kI 20)), (2, 1, (kI 30))]),
 kc 2 (kF 34) [(kI 500), (kI 600)],
 kc 3 (kF 34) [(kI 200), (kI 300)],
 kc 4 (kF 34) [(kI 800), (kI 900)],
 ko 5 (.bsl 25 3 [kz, kz, kz, kz, kz, kz] [(0, 2, (.t 2)), (2, 2, (.t 3)), (4, 2, (.t 4))]),
 kc 6 (kF 34) [kx, (kI 10)],
 kc 7 (kF 34) [(kI (-1000)), (kI 1000)],
 ko 8 (.bld [kns, kns, kz, kz, kz, kz] [(0, 1, (.t 1)), (1, 1, (.t 5)), (2, 2, (.t 6)), (4, 2, (.t 7))]),
 ks 6 0 8]
 .ret))
theorem h57 : FO 57 ⟨g57, [.c 0 (some 6)], 9, [], false⟩ := .of Tryz.func57 (by simp [Tryz.f57]) (by kernel_rfl)
def g58 : RC :=
 (sr [kv 0 (.mov (.c kns))]
 (sr [kc 1 (kF 34) [(kI 10), (kI 20)],
 kc 2 (kF 34) [(kI 15), (kI 25)],
 ko 3 (.bsl 25 2 [kz, kz, kz, kz] [(0, 2, (.t 1)), (2, 2, (.t 2))]),
 km 0 3]
 .ret))
theorem h58 : FO 58 ⟨g58, [.t 0], 4, [], false⟩ := .of Tryz.func58 (by simp [Tryz.f58]) (by kernel_rfl)
def g59 : RC :=
 (sr [kv 0 (.mov (.c kns))]
 (sr [ko 1 (.bsl 3 4 [kz, kz, kz, kz] [(0, 1, (kI 10)), (1, 1, (kI 12)), (2, 1, (kI 11)), (3, 1, (kI 15))]),
 ⟨(some 2), none, .o (.bld [(.lit (.string ⟨#[]⟩)), kns] [(0, 1, (.c (.lit (.string ⟨#[97, 114, 110, 111, 108, 100]⟩)))), (1, 1, (.t 1))])⟩,
 ko 3 (.bsl 3 4 [kz, kz, kz, kz] [(0, 1, (kI 20)), (1, 1, (kI 21)), (2, 1, (kI 23)), (3, 1, (kI 22))]),
 ⟨(some 4), none, .o (.bld [(.lit (.string ⟨#[]⟩)), kns] [(0, 1, (.c (.lit (.string ⟨#[101, 97, 114, 110, 115, 104, 97, 119]⟩)))), (1, 1, (.t 3))])⟩,
 ko 5 (.bsl 3 4 [kz, kz, kz, kz] [(0, 1, kx), (1, 1, kx), (2, 1, (kI 3)), (3, 1, (kI 1))]),
 ⟨(some 6), none, .o (.bld [(.lit (.string ⟨#[]⟩)), kns] [(0, 1, (.c (.lit (.string ⟨#[107, 101, 110, 100, 97, 108, 108]⟩)))), (1, 1, (.t 5))])⟩,
 ⟨(some 7), none, .o (.bsl 67 3 [(.lit (.string ⟨#[]⟩)), kns, (.lit (.string ⟨#[]⟩)), kns, (.lit (.string ⟨#[]⟩)), kns] [(0, 2, (.t 2)), (2, 2, (.t 4)), (4, 2, (.t 6))])⟩,
 km 0 7]
 .ret))
theorem h59 : FO 59 ⟨g59, [.t 0], 8, [], false⟩ := .of Tryz.func59 (by simp [Tryz.f59]) (by kernel_rfl)
def g60 : RC :=
 (sr [ko 4 (.new 50 [kns, kns, kz, kz, kz, kz, kz, kz, kz])]
 (sr [km 5 0,
 ko 6 (.bsl 3 4 [kz, kz, kz, kz] [(0, 1, kx), (1, 1, (kI 2)), (2, 1, (kI 4)), (3, 1, (.t 5))]),
 km 7 1,
 ko 8 (.bsl 3 4 [kz, kz, kz, kz] [(0, 1, kx), (1, 1, (kI 1)), (2, 1, kx), (3, 1, (.t 7))]),
 kc 9 (kF 34) [(kI (-5)), (kI 5)],
 kc 10 (kF 34) [(kI (-5)), (kI 5)],
 kc 11 (kF 34) [(kI (-5)), (kI 5)],
 ko 12 (.bld [kz, kz, kz, kz, kz, kz] [(0, 2, (.t 9)), (2, 2, (.t 10)), (4, 2, (.t 11))]),
 ko 13 (.bld [kns, kns, kz, kz, kz, kz, kz, kz, kz] [(0, 1, (.t 6)), (1, 1, (.t 8)), (2, 1, (kI 1)), (3, 6, (.t 12))]),
 ks 9 4 13]
 .ret))
theorem h60 : FO 60 ⟨g60, [.c 4 (some 9)], 14, [], false⟩ := .of Tryz.func60 (by simp [Tryz.f60]) (by kernel_rfl)
def g64 : RC :=
 (sr [kv 2 (.mov kx0)]
 (.seq (sr [km 6 0,
 kv 7 (.len (.t 6)),
 kc 8 (kF 46) [(.t 7), (kI 1), (kI 12)],
 kv 9 (.not (.t 8))]
 (.cond (.t 9)
 (sr [kv 2 (.mov kx0)]
 .ret)
 .skip))
 (sr [⟨(some 10), none, .mkm⟩,
 km 3 10]
 (.seq (sr [km 11 0,
 kv 12 (.len (.t 11)),
 kv 13 (.mov kx)]
 (.block 0 (.loop
 (sr [kv 14 (.bin .lss (.t 13) (.t 12))]
 (.seq (.cond (.t 14)
 .skip
 (.exit 0))
 (.seq (.block 1 (sr [kv 15 (.ixa (.t 11) (.t 13) 2),
 kv 16 (.load (.t 15) (some 2)),
 ⟨(some 5), none, .o (.new 67 [(.lit (.string ⟨#[]⟩)), kns])⟩,
 ks 2 5 16]
 (.seq (sr [kf 17 5 0,
 kl 18 17,
 kc 19 (kF 88) [(.t 18)],
 kv 20 (.not (.t 19)),
 km 21 20,
 kG 22 21 false (.mov (.t 3)),
 kG 23 21 false (.off (.t 5) 0),
 kG 24 21 false (.load (.t 23) none),
 ⟨(some 25), (some (21, false)), .lku .s kb0 false (.t 22) (.t 24)⟩,
 kv 26 (.pick (.t 21) kx1 (.t 25))]
 (.cond (.t 26)
 (sr [kv 2 (.mov kx0)]
 .ret)
 .skip))
 (sr [km 27 3,
 kf 28 5 0,
 kl 29 28,
 ⟨none, none, .upd .s (.t 27) (.t 29) kx1⟩]
 (.seq (.drw [⟨[], 0, 0, [(kf 30 5 1, ku),
 (kl 31 30, ku),
 (kv 32 (.len (.t 31)), ku),
 (km 33 0, ku),
 (kv 34 (.ixa (.t 33) kx 2), ku),
 (kf 35 34 1, ku),
 (kl 36 35, ku),
 (kv 37 (.len (.t 36)), ku)],
 [],
 [kv 38 (.bin .neq (.t 32) (.t 37)),
 km 39 38,
 kG 40 39 false (.off (.t 5) 1),
 kG 41 39 false (.load (.t 40) none),
 ⟨(some 42), (some (39, false)), .o (.call (kF 89) [(.t 41)])⟩,
 kG 43 39 false (.not (.t 42)),
 kv 44 (.pick (.t 39) kx1 (.t 43))], none⟩])
 (.cond (.t 44)
 (sr [kv 2 (.mov kx0)]
 .ret)
 .skip))))))
 (.reg [kv 45 (.bin .add (.t 13) (kI 1)),
 km 13 45])))))))
 (sr [kv 2 (.mov kx1)]
 .ret)))))
theorem h64 : FO 64 ⟨g64, [.t 2], 46, [], false⟩ := .of Tryz.func64 (by simp [Tryz.f64]) (by kernel_rfl)
def g65 : RC :=
 (sr [kv 2 (.mov (.c kns)),
 kv 3 (.mov (.c kns))]
 (sr [kv 4 (.mov (.c kns))]
 (.seq (sr [km 9 0,
 kv 10 (.len (.t 9)),
 kv 11 (.mov kx)]
 (.block 0 (.loop
 (sr [kv 12 (.bin .lss (.t 11) (.t 10))]
 (.seq (.cond (.t 12)
 .skip
 (.exit 0))
 (.seq (.block 1 (sr [km 13 11,
 kv 14 (.ixa (.t 9) (.t 11) 2),
 kv 15 (.load (.t 14) (some 2)),
 ⟨(some 6), none, .o (.new 67 [(.lit (.string ⟨#[]⟩)), kns])⟩,
 km 5 13,
 ks 2 6 15]
 (sr [km 16 4,
 kv 17 (.load (.t 6) (some 2)),
 km 18 5,
 kc 19 (kF 90) [(.t 17), (.t 18)],
 ⟨(some 20), none, .o (.bsl 123 1 [(.lit (.string ⟨#[]⟩)), kns, kz, kz] [(0, 4, (.t 19))])⟩,
 ko 21 (.app 123 4 56 (.t 16) (.t 20)),
 km 4 21]
 (.reg [km 22 3,
 km 23 4,
 km 24 5,
 kv 25 (.ixa (.t 23) (.t 24) 4),
 kf 26 25 3,
 kl 27 26,
 ko 28 (.bsl 3 1 [kz] [(0, 1, (.t 27))]),
 ko 29 (.app 3 1 8 (.t 22) (.t 28)),
 km 3 29]))))
 (.reg [kv 30 (.bin .add (.t 11) (kI 1)),
 km 11 30])))))))
 (sr [km 31 4,
 kc 32 (kF 91) [(.t 31), (kF 92)]]
 (.seq (sr [km 33 4,
 kv 34 (.len (.t 33)),
 kv 35 (.mov kx)]
 (.block 2 (.loop
 (sr [kv 36 (.bin .lss (.t 35) (.t 34))]
 (.seq (.cond (.t 36)
 .skip
 (.exit 2))
 (.seq (.block 3 (sr [kv 37 (.ixa (.t 33) (.t 35) 4),
 kv 38 (.load (.t 37) (some 4)),
 ⟨(some 8), none, .o (.new 123 [(.lit (.string ⟨#[]⟩)), kns, kz, kz])⟩,
 ks 4 8 38]
 (.reg [km 39 2,
 kf 40 8 2,
 kl 41 40,
 ko 42 (.bsl 3 1 [kz] [(0, 1, (.t 41))]),
 ko 43 (.app 3 1 8 (.t 39) (.t 42)),
 km 2 43])))
 (.reg [kv 44 (.bin .add (.t 35) (kI 1)),
 km 35 44])))))))
 (sr [km 45 2,
 km 46 3,
 km 2 45,
 km 3 46]
 .ret))))))
theorem h65 : FO 65 ⟨g65, [.t 2, .t 3], 47, [], false⟩ := .of Tryz.func65 (by simp [Tryz.f65]) (by kernel_rfl)
def g68 : RC :=
 (sr [ko 1 (.box 94 (.t 0)),
 kv 2 (.mov kx0)]
 (sr [kf 3 1 0,
 kf 4 3 0,
 kl 5 4,
 kv 6 (.len (.t 5)),
 kc 7 (kF 46) [(.t 6), (kI 2), (kI 20)],
 km 8 7,
 kG 9 8 true (.off (.t 1) 0),
 kG 10 8 true (.off (.t 9) 1),
 kG 11 8 true (.load (.t 10) none),
 kG 12 8 true (.len (.t 11)),
 kG 13 8 true (.off (.t 1) 0),
 kG 14 8 true (.off (.t 13) 0),
 kG 15 8 true (.load (.t 14) none),
 kG 16 8 true (.len (.t 15)),
 kG 17 8 true (.bin .eql (.t 12) (.t 16)),
 kv 18 (.pick (.t 8) (.t 17) kx0),
 km 19 18,
 kG 20 19 true (.off (.t 1) 0),
 kG 21 19 true (.off (.t 20) 0),
 kG 22 19 true (.load (.t 21) none),
 ⟨(some 23), (some (19, true)), .o (.call (kF 94) [(.t 22), (kI (-1000000000)), (kI 1000000000)])⟩,
 kv 24 (.pick (.t 19) (.t 23) kx0),
 km 25 24,
 kG 26 25 true (.off (.t 1) 0),
 kG 27 25 true (.off (.t 26) 1),
 kG 28 25 true (.load (.t 27) none),
 ⟨(some 29), (some (25, true)), .o (.call (kF 94) [(.t 28), (kI (-1000000000)), (kI 1000000000)])⟩,
 kv 30 (.pick (.t 25) (.t 29) kx0),
 km 31 30,
 kG 32 31 true (.off (.t 1) 0),
 kG 33 31 true (.off (.t 32) 2),
 kG 34 31 true (.load (.t 33) none),
 ⟨(some 35), (some (31, true)), .o (.call (kF 46) [(.t 34), kx, (kI 1000)])⟩,
 kv 36 (.pick (.t 31) (.t 35) kx0),
 km 37 36,
 kG 38 37 true (.off (.t 1) 0),
 kG 39 37 true (.off (.t 38) 3),
 ⟨(some 40), (some (37, true)), .e1 (.sla 3 2) (.t 39)⟩,
 ⟨(some 41), (some (37, true)), .o (.call (kF 81) [(.t 40), (kI (-100000)), (kI 100000)])⟩,
 kv 42 (.pick (.t 37) (.t 41) kx0),
 km 2 42]
 .ret))
theorem h68 : FO 68 ⟨g68, [.t 2], 43, [], false⟩ := .of Tryz.func68 (by simp [Tryz.f68]) (by kernel_rfl)
def g69 : RC :=
 (sr [ko 1 (.box 94 (.t 0)),
 kv 2 (.mov (.c kns))]
 (sr [kv 6 (.mkfn 95 [(.t 1)]),
 km 3 6]
 (sr [kv 4 (.mov (.c kns))]
 (.seq (sr [kv 7 (.mov kx)]
 (.block 0 (.loop
 (sr [kv 8 (.bin .lss (.t 7) (kI 3))]
 (.seq (.cond (.t 8)
 .skip
 (.exit 0))
 (.seq (.block 1 (sr [km 9 7,
 km 5 9]
 (sr [km 10 3,
 km 11 5,
 kc 12 (.t 10) [(.t 11)],
 km 4 12]
 (sr [km 13 4,
 kv 14 (.len (.t 13)),
 kv 15 (.bin .gtr (.t 14) kx)]
 (.cond (.t 15)
 (.exit 0)
 .skip)))))
 (.reg [kv 16 (.bin .add (.t 7) (kI 1)),
 km 7 16])))))))
 (sr [km 17 4,
 km 2 17]
 .ret)))))
theorem h69 : FO 69 ⟨g69, [.t 2], 18, [], false⟩ := .of Tryz.func69 (by simp [Tryz.f69]) (by kernel_rfl)
def g72 : RC :=
 (sr [ko 1 (.box 94 (.t 0)),
 kv 2 (.mov kx),
 kv 3 (.mov kx0)]
 (.seq (sr [kf 5 1 0,
 kf 6 5 0,
 kl 7 6,
 kv 8 (.len (.t 7)),
 kv 9 (.mov kx)]
 (.block 0 (.loop
 (sr [kv 10 (.bin .lss (.t 9) (.t 8))]
 (.seq (.cond (.t 10)
 .skip
 (.exit 0))
 (.seq (.block 1 (sr [km 11 9,
 km 4 11]
 (sr [kv 12 (.load (.t 1) (some 9)),
 km 13 4,
 kc 14 (kF 100) [(.t 12), (.t 13)],
 kc 15 (kF 97) [(.t 14), kx],
 kv 16 (.not (.t 15))]
 (.cond (.t 16)
 (sr [km 17 4,
 km 2 17,
 kv 3 (.mov kx1)]
 .ret)
 .skip))))
 (.reg [kv 18 (.bin .add (.t 9) (kI 1)),
 km 9 18])))))))
 (sr [kv 2 (.mov kx),
 kv 3 (.mov kx0)]
 .ret)))
theorem h72 : FO 72 ⟨g72, [.t 2, .t 3], 19, [], false⟩ := .of Tryz.func72 (by simp [Tryz.f72]) (by kernel_rfl)
def g81 : RC :=
 (sr [kv 6 (.mov kx0)]
 (.seq (sr [km 9 0,
 kv 10 (.len (.t 9)),
 kv 11 (.mov kx)]
 (.block 0 (.loop
 (sr [kv 12 (.bin .lss (.t 11) (.t 10))]
 (.seq (.cond (.t 12)
 .skip
 (.exit 0))
 (.seq (.block 1 (sr [kv 13 (.ixa (.t 9) (.t 11) 2),
 kv 14 (.load (.t 13) (some 2)),
 ko 8 (.new 25 [kz, kz]),
 ks 2 8 14]
 (sr [kv 15 (.load (.t 8) (some 2)),
 km 16 1,
 km 17 2,
 kc 18 (kF 82) [(.t 15), (.t 16), (.t 17)],
 kv 19 (.not (.t 18))]
 (.cond (.t 19)
 (sr [kv 6 (.mov kx0)]
 .ret)
 .skip))))
 (.reg [kv 20 (.bin .add (.t 11) (kI 1)),
 km 11 20])))))))
 (sr [kv 6 (.mov kx1)]
 .ret)))
theorem h81 : FO 81 ⟨g81, [.t 6], 21, [], false⟩ := .of Tryz.func81 (by simp [Tryz.f81]) (by kernel_rfl)
def g82 : RC :=
 (sr [ko 3 (.box 25 (.t 0)),
 kv 6 (.mov kx0)]
 (sr [km 7 1,
 kf 8 3 0,
 kl 9 8,
 kv 10 (.bin .leq (.t 7) (.t 9)),
 km 11 10,
 kG 12 11 true (.off (.t 3) 0),
 kG 13 11 true (.load (.t 12) none),
 kG 14 11 true (.off (.t 3) 1),
 kG 15 11 true (.load (.t 14) none),
 kG 16 11 true (.bin .leq (.t 13) (.t 15)),
 kv 17 (.pick (.t 11) (.t 16) kx0),
 km 18 17,
 kG 19 18 true (.off (.t 3) 1),
 kG 20 18 true (.load (.t 19) none),
 kG 21 18 true (.mov (.t 2)),
 kG 22 18 true (.bin .leq (.t 20) (.t 21)),
 kv 23 (.pick (.t 18) (.t 22) kx0),
 km 6 23]
 .ret))
theorem h82 : FO 82 ⟨g82, [.t 6], 24, [], false⟩ := .of Tryz.func82 (by simp [Tryz.f82]) (by kernel_rfl)
def g88 : RC :=
 (sr [kv 2 (.mov kx0)]
 (.seq (sr [km 4 0,
 kv 5 (.strl (.t 4)),
 kc 6 (kF 46) [(.t 5), (kI 1), (kI 16)],
 kv 7 (.not (.t 6)),
 km 8 7,
 kG 9 8 false (.mov (.t 0)),
 kG 10 8 false (.stri (.t 9) kx),
 ⟨(some 11), (some (8, false)), .o (.call (kF 104) [(.t 10)])⟩,
 kG 12 8 false (.not (.t 11)),
 kv 13 (.pick (.t 8) kx1 (.t 12))]
 (.cond (.t 13)
 (sr [kv 2 (.mov kx0)]
 .ret)
 .skip))
 (.seq (sr [km 14 0,
 kv 15 (.strl (.t 14)),
 kv 16 (.mov kx)]
 (.block 0 (.loop
 (sr [kv 17 (.bin .lss (.t 16) (.t 15))]
 (.seq (.cond (.t 17)
 .skip
 (.exit 0))
 (.seq (.block 1 (sr [km 18 16,
 km 3 18]
 (sr [km 19 0,
 km 20 3,
 kv 21 (.stri (.t 19) (.t 20)),
 kc 22 (kF 104) [(.t 21)],
 kv 23 (.not (.t 22)),
 km 24 23,
 kG 25 24 true (.mov (.t 0)),
 kG 26 24 true (.mov (.t 3)),
 kG 27 24 true (.stri (.t 25) (.t 26)),
 ⟨(some 28), (some (24, true)), .o (.call (kF 105) [(.t 27)])⟩,
 kG 29 24 true (.not (.t 28)),
 kv 30 (.pick (.t 24) (.t 29) kx0),
 km 31 30,
 kG 32 31 true (.mov (.t 0)),
 kG 33 31 true (.mov (.t 3)),
 kG 34 31 true (.stri (.t 32) (.t 33)),
 kG 35 31 true (.bin .neq (.t 34) (.c (.int .u8 (45)))),
 kv 36 (.pick (.t 31) (.t 35) kx0)]
 (.cond (.t 36)
 (sr [kv 2 (.mov kx0)]
 .ret)
 .skip))))
 (.reg [kv 37 (.bin .add (.t 16) (kI 1)),
 km 16 37])))))))
 (sr [kv 2 (.mov kx1)]
 .ret))))
theorem h88 : FO 88 ⟨g88, [.t 2], 38, [], false⟩ := .of Tryz.func88 (by simp [Tryz.f88]) (by kernel_rfl)
def g89 : RC :=
 (sr [kv 2 (.mov kx0)]
 (sr [km 3 0,
 kv 4 (.len (.t 3)),
 kc 5 (kF 46) [(.t 4), (kI 2), (kI 30)],
 km 6 5,
 kG 7 6 true (.mov (.t 0)),
 ⟨(some 8), (some (6, true)), .o (.call (kF 94) [(.t 7), (kI (-100000)), (kI 100000)])⟩,
 kv 9 (.pick (.t 6) (.t 8) kx0),
 km 2 9]
 .ret))
theorem h89 : FO 89 ⟨g89, [.t 2], 10, [], false⟩ := .of Tryz.func89 (by simp [Tryz.f89]) (by kernel_rfl)
def g90 : RC :=
 (sr [ko 2 (.box 67 (.t 0)),
 ⟨(some 4), none, .o (.new 123 [(.lit (.string ⟨#[]⟩)), kns, kz, kz])⟩]
 (sr [kv 5 (.mov (.c kns))]
 (.seq (sr [kf 9 2 1,
 kl 10 9,
 kv 11 (.len (.t 10)),
 kv 12 (.bin .sub (.t 11) (kI 1)),
 kv 13 (.mov kx)]
 (.block 0 (.loop
 (sr [kv 14 (.bin .lss (.t 13) (.t 12))]
 (.seq (.cond (.t 14)
 .skip
 (.exit 0))
 (.seq (.block 1 (sr [km 15 13,
 km 6 15]
 (.drw [⟨[], 1, 0, [(km 16 5, ku),
 (kf 17 2 1, ku),
 (kl 18 17, ku),
 (km 19 6, ku),
 (kv 20 (.bin .add (.t 19) (kI 1)), ku),
 (kv 21 (.ixa (.t 18) (.t 20) 1), ku),
 (kl 22 21, ku),
 (kf 23 2 1, ku),
 (kl 24 23, ku),
 (km 25 6, ku),
 (kv 26 (.ixa (.t 24) (.t 25) 1), ku),
 (kl 27 26, ku),
 (kv 28 (.bin .sub (.t 22) (.t 27)), ku),
 (ko 29 (.bsl 3 1 [kz] [(0, 1, (.t 28))]), .cre 0)],
 [0],
 [ko 30 (.app 3 1 8 (.t 16) (.t 29)),
 km 5 30], none⟩])))
 (.reg [kv 31 (.bin .add (.t 13) (kI 1)),
 km 13 31])))))))
 (.seq (.drw [⟨[2], 0, 1, [(kf 32 2 1, ku),
 (kl 33 32, ku),
 (kv 34 (.ixa (.t 33) kx 1), ku),
 (kl 35 34, ku),
 (kf 36 2 1, ku),
 (kl 37 36, ku),
 (ko 38 (.slc (.t 37) (some (kI 1)) none none 1), ku),
 (kc 39 (kF 106) [(kF 107), (.t 35), (.t 38)], .eff 0 [])],
 [],
 [ko 7 (.new 25 [kz, kz]),
 ks 2 7 39], (some 7)⟩,
 ⟨[2], 1, 0, [(kf 32 2 1, ku),
 (kl 33 32, ku),
 (kv 34 (.ixa (.t 33) kx 1), ku),
 (kl 35 34, ku),
 (kf 36 2 1, ku),
 (kl 37 36, ku),
 (ko 38 (.slc (.t 37) (some (kI 1)) none none 1), ku),
 (kc 39 (kF 106) [(kF 107), (.t 35), (.t 38)], ku),
 (ko 7 (.new 25 [kz, kz]), .cre 0)],
 [0],
 [ks 2 7 39], none⟩])
 (.seq (.drw [⟨[5], 0, 0, [(km 40 5, ku),
 (kv 41 (.ixa (.t 40) kx 1), ku),
 (kl 42 41, ku),
 (km 43 5, ku),
 (ko 44 (.slc (.t 43) (some (kI 1)) none none 1), ku)],
 [],
 [kc 45 (kF 106) [(kF 108), (.t 42), (.t 44)],
 kv 46 (.fld (.t 45) 1 none),
 km 8 46], none⟩])
 (sr [kv 47 (.load (.t 2) (some 2)),
 km 48 1,
 kf 49 7 1,
 kl 50 49,
 kf 51 7 0,
 kl 52 51,
 kv 53 (.bin .sub (.t 50) (.t 52)),
 km 54 8,
 kv 55 (.bin .mul (kI 2) (.t 54)),
 kv 56 (.bin .add (.t 53) (.t 55)),
 ⟨(some 57), none, .o (.bld [(.lit (.string ⟨#[]⟩)), kns, kz, kz] [(0, 2, (.t 47)), (2, 1, (.t 48)), (3, 1, (.t 56))])⟩,
 ks 4 4 57]
 .ret))))))
theorem h90 : FO 90 ⟨g90, [.c 4 (some 4)], 58, [], false⟩ := .of Tryz.func90 (by simp [Tryz.f90]) (by kernel_rfl)
def g91 : RC :=
 (sr [km 5 0,
 kv 6 (.len (.t 5)),
 km 4 6]
 (.reg [km 7 0,
 km 8 4,
 km 9 4,
 kv 10 (.conv .u64 (.t 9)),
 kc 11 (kF 110) [(.t 10)],
 km 12 1,
 kc 13 (kF 109) [(.t 7), kx, (.t 8), (.t 11), (.t 12)]]))
theorem h91 : FO 91 ⟨g91, [], 14, [], false⟩ := .of Tryz.func91 (by simp [Tryz.f91]) (by kernel_rfl)
def g92 : RC :=
 (sr [ko 2 (.box 123 (.t 0)),
 ko 3 (.box 123 (.t 1)),
 kv 4 (.mov kx)]
 (.seq (.drw [⟨[], 0, 1, [(kf 5 2 3, ku),
 (kl 6 5, ku),
 (kf 7 3 3, ku),
 (kl 8 7, ku),
 (kc 9 (kF 112) [(.t 6), (.t 8)], .eff 0 []),
 (kf 10 2 0, ku),
 (kf 11 10 0, ku),
 (kl 12 11, ku),
 (kf 13 3 0, ku),
 (kf 14 13 0, ku),
 (kl 15 14, ku)],
 [],
 [kc 16 (kF 113) [(.t 12), (.t 15)],
 ko 17 (.bsl 3 2 [kz, kz] [(0, 1, (.t 9)), (1, 1, (.t 16))]),
 kc 18 (kF 111) [(.t 17)],
 km 4 18], none⟩])
 .ret))
theorem h92 : FO 92 ⟨g92, [.t 4], 19, [], false⟩ := .of Tryz.func92 (by simp [Tryz.f92]) (by kernel_rfl)
def g94 : RC :=
 (sr [kv 6 (.mov kx0)]
 (.seq (sr [km 9 0,
 kv 10 (.len (.t 9)),
 kv 11 (.mov kx)]
 (.block 0 (.loop
 (sr [kv 12 (.bin .lss (.t 11) (.t 10))]
 (.seq (.cond (.t 12)
 .skip
 (.exit 0))
 (.seq (.block 1 (sr [kv 13 (.ixa (.t 9) (.t 11) 1),
 kl 14 13,
 km 8 14]
 (sr [km 15 8,
 km 16 1,
 km 17 2,
 kc 18 (kF 46) [(.t 15), (.t 16), (.t 17)],
 kv 19 (.not (.t 18))]
 (.cond (.t 19)
 (sr [kv 6 (.mov kx0)]
 .ret)
 .skip))))
 (.reg [kv 20 (.bin .add (.t 11) (kI 1)),
 km 11 20])))))))
 (sr [kv 6 (.mov kx1)]
 .ret)))
theorem h94 : FO 94 ⟨g94, [.t 6], 21, [], false⟩ := .of Tryz.func94 (by simp [Tryz.f94]) (by kernel_rfl)
def g95 : RC :=
 (sr [kv 3 (.mov (.c kns))]
 (sr [kv 4 (.mov (.c kns))]
 (.seq (sr [kv 6 (.mov kx)]
 (.block 0 (.loop
 (sr [kv 7 (.bin .lss (.t 6) (kI 8))]
 (.seq (.cond (.t 7)
 .skip
 (.exit 0))
 (.seq (.block 1 (sr [km 8 6,
 km 5 8]
 (sr [km 9 5,
 kv 10 (.conv .u64 (.t 9)),
 kc 11 (kF 96) [(.t 10)],
 km 12 0,
 kv 13 (.bin .eql (.t 11) (.t 12)),
 km 14 13,
 kG 15 14 true (.load (.t 1) (some 9)),
 kG 16 14 true (.mov (.t 5)),
 ⟨(some 17), (some (14, true)), .o (.call (kF 97) [(.t 15), (.t 16)])⟩,
 kv 18 (.pick (.t 14) (.t 17) kx0)]
 (.cond (.t 18)
 (.reg [km 19 4,
 km 20 5,
 ko 21 (.bsl 3 1 [kz] [(0, 1, (.t 20))]),
 ko 22 (.app 3 1 8 (.t 19) (.t 21)),
 km 4 22])
 .skip))))
 (.reg [kv 23 (.bin .add (.t 6) (kI 1)),
 km 6 23])))))))
 (sr [km 24 4,
 km 3 24]
 .ret))))
theorem h95 : FO 95 ⟨g95, [.t 3], 25, [], false⟩ := .of Tryz.func95 (by simp [Tryz.f95]) (by kernel_rfl)
def g96 : RC :=
 (sr [kv 2 (.mov kx)]
 (.seq (.cond kx0
 (sr [km 3 0,
 kv 4 (.conv .u32 (.t 3)),
 kc 5 (kF 114) [(.t 4)],
 km 2 5]
 .ret)
 .skip)
 (sr [km 6 0,
 kc 7 (kF 115) [(.t 6)],
 km 2 7]
 .ret)))
theorem h96 : FO 96 ⟨g96, [.t 2], 8, [], false⟩ := .of Tryz.func96 (by simp [Tryz.f96]) (by kernel_rfl)
def g97 : RC :=
 (sr [ko 2 (.box 94 (.t 0)),
 kv 4 (.mov kx0)]
 (.scp (sr [ko 5 (.new 155 (List.replicate 60 kz))]
 (sr [kv 11 (.load (.t 2) (some 9)),
 km 12 1,
 kc 13 (kF 116) [(.t 11), (.t 12)],
 km 6 13]
 (sr [kv 7 (.mov kx0)]
 (.seq .skip
 (.seq (sr [kv 14 (.mov kx)]
 (.block 0 (.loop
 (sr [kv 15 (.bin .lss (.t 14) (kI 60))]
 (.seq (.cond (.t 15)
 .skip
 (.exit 0))
 (.seq (.block 1 (sr [kv 16 (.load (.t 5) (some 60)),
 ko 8 (.new 155 (List.replicate 60 kz)),
 ks 60 8 16]
 (.seq (sr [km 17 6,
 kv 18 (.len (.t 17)),
 kv 19 (.mov kx)]
 (.block 2 (.loop
 (sr [kv 20 (.bin .lss (.t 19) (.t 18))]
 (.seq (.cond (.t 20)
 .skip
 (.exit 2))
 (.seq (.block 3 (sr [kv 21 (.ixa (.t 17) (.t 19) 4),
 kv 22 (.load (.t 21) (some 4)),
 ko 10 (.new 159 [kz, kz, kz, kz]),
 ks 4 10 22]
 (.reg [kv 23 (.load (.t 10) (some 4)),
 kc 24 (kF 117) [(.t 5), (.t 23)]])))
 (.reg [kv 25 (.bin .add (.t 19) (kI 1)),
 km 19 25])))))))
 (sr [kv 26 (.load (.t 5) (some 60)),
 kv 27 (.load (.t 8) (some 60)),
 kv 28 (.eqs (List.replicate 60 (some .i64)) false (.t 26) (.t 27)),
 km 7 28]
 (sr [km 29 7]
 (.cond (.t 29)
 (.exit 0)
 .skip))))))
 (.reg [kv 30 (.bin .add (.t 14) (kI 1)),
 km 14 30])))))))
 (sr [km 31 7,
 km 4 31]
 .ret))))))))
theorem h97 : FO 97 ⟨g97, [.t 4], 32, [], false⟩ := .of Tryz.func97 (by simp [Tryz.f97]) (by kernel_rfl)
def g100 : RC :=
 (sr [ko 2 (.box 94 (.t 0)),
 ko 4 (.new 94 [kns, kns, kz, kz, kz, kz, kz, kz, kz])]
 (sr [km 6 1,
 kv 7 (.bin .add (.t 6) (kI 1)),
 km 5 7]
 (.seq (.drw [⟨[2, 5], 0, 1, [(kf 8 2 0, ku),
 (kf 9 8 0, ku),
 (kl 10 9, ku),
 (km 11 5, ku),
 (km 12 5, ku),
 (ko 13 (.slc (.t 10) none (some (.t 11)) (some (.t 12)) 1), ku),
 (kf 14 2 0, ku),
 (kf 15 14 1, ku),
 (kl 16 15, ku),
 (km 17 5, .prd [2]),
 (km 18 5, .prd [2]),
 (ko 19 (.slc (.t 16) none (some (.t 17)) (some (.t 18)) 1), .prd [2]),
 (kf 20 2 0, ku),
 (kf 21 20 0, ku),
 (ks 1 21 13, .efs 0 [] [])],
 [],
 [kf 22 2 0,
 kf 23 22 1,
 ks 1 23 19], none⟩,
 ⟨[2, 5], 0, 1, [(kf 8 2 0, ku),
 (kf 9 8 0, ku),
 (kl 10 9, ku),
 (km 11 5, ku),
 (km 12 5, ku),
 (ko 13 (.slc (.t 10) none (some (.t 11)) (some (.t 12)) 1), ku),
 (kf 14 2 0, ku),
 (kf 15 14 1, ku),
 (kl 16 15, ku),
 (km 17 5, .prd [2]),
 (km 18 5, .prd [2]),
 (ko 19 (.slc (.t 16) none (some (.t 17)) (some (.t 18)) 1), .prd [2]),
 (kf 20 2 0, ku),
 (kf 21 20 0, ku),
 (ks 1 21 13, .efs 0 [] [])],
 [],
 [kf 22 2 0,
 kf 23 22 1,
 ks 1 23 19], none⟩])
 (sr [kv 24 (.load (.t 2) (some 9)),
 ks 9 4 24]
 .ret))))
theorem h100 : FO 100 ⟨g100, [.c 4 (some 9)], 25, [], false⟩ := .of Tryz.func100 (by simp [Tryz.f100]) (by kernel_rfl)
def g104 : RC :=
 (sr [kv 2 (.mov kx0)]
 (sr [km 3 0,
 kv 4 (.bin .leq (.c (.int .u8 (97))) (.t 3)),
 km 5 4,
 kG 6 5 true (.mov (.t 0)),
 kG 7 5 true (.bin .leq (.t 6) (.c (.int .u8 (122)))),
 kv 8 (.pick (.t 5) (.t 7) kx0),
 km 2 8]
 .ret))
theorem h104 : FO 104 ⟨g104, [.t 2], 9, [], false⟩ := .of Tryz.func104 (by simp [Tryz.f104]) (by kernel_rfl)
def g105 : RC :=
 (sr [kv 2 (.mov kx0)]
 (sr [km 3 0,
 kv 4 (.bin .leq (.c (.int .u8 (48))) (.t 3)),
 km 5 4,
 kG 6 5 true (.mov (.t 0)),
 kG 7 5 true (.bin .leq (.t 6) (.c (.int .u8 (57)))),
 kv 8 (.pick (.t 5) (.t 7) kx0),
 km 2 8]
 .ret))
theorem h105 : FO 105 ⟨g105, [.t 2], 9, [], false⟩ := .of Tryz.func105 (by simp [Tryz.f105]) (by kernel_rfl)
def g106 : RC :=
 (sr [ko 6 (.new 25 [kz, kz])]
 (sr [km 10 0,
 km 11 1,
 kc 12 (.t 10) [(.t 11)],
 km 13 0,
 km 14 1,
 kc 15 (.t 13) [(.t 14)],
 ko 16 (.bld [kz, kz] [(0, 1, (.t 12)), (1, 1, (.t 15))]),
 ko 7 (.new 25 [kz, kz]),
 ks 2 7 16]
 (.seq (sr [km 17 2,
 kv 18 (.len (.t 17)),
 kv 19 (.mov kx)]
 (.block 0 (.loop
 (sr [kv 20 (.bin .lss (.t 19) (.t 18))]
 (.seq (.cond (.t 20)
 .skip
 (.exit 0))
 (.seq (.block 1 (sr [kv 21 (.ixa (.t 17) (.t 19) 1),
 kl 22 21,
 km 9 22]
 (.drw [⟨[], 0, 3, [(kf 23 7 0, .pur),
 (kl 24 23, .pur),
 (km 25 0, ku),
 (km 26 9, ku),
 (kc 27 (.t 25) [(.t 26)], .efs 0 [] []),
 (kv 28 (.min2 (.t 24) (.t 27)), .pur),
 (kf 29 7 1, .pur),
 (kl 30 29, .pur),
 (km 31 0, .pur),
 (km 32 9, .pur),
 (kc 33 (.t 31) [(.t 32)], .efs 1 [] []),
 (kv 34 (.max2 (.t 30) (.t 33)), .pur),
 (kf 35 7 0, .pur),
 (ks 1 35 28, .efs 2 [] [])],
 [],
 [kf 36 7 1,
 ks 1 36 34], none⟩,
 ⟨[7, 0, 9], 0, 1, [(kf 23 7 0, ku),
 (kl 24 23, ku),
 (km 25 0, ku),
 (km 26 9, ku),
 (kc 27 (.t 25) [(.t 26)], ku),
 (kv 28 (.min2 (.t 24) (.t 27)), ku),
 (kf 29 7 1, ku),
 (kl 30 29, ku),
 (km 31 0, ku),
 (km 32 9, ku),
 (kc 33 (.t 31) [(.t 32)], ku),
 (kv 34 (.max2 (.t 30) (.t 33)), .prd [7]),
 (kf 35 7 0, ku),
 (ks 1 35 28, .efs 0 [] [])],
 [],
 [kf 36 7 1,
 ks 1 36 34], none⟩])))
 (.reg [kv 37 (.bin .add (.t 19) (kI 1)),
 km 19 37])))))))
 (sr [kv 38 (.load (.t 7) (some 2)),
 ks 2 6 38]
 .ret))))
theorem h106 : FO 106 ⟨g106, [.c 6 (some 2)], 39, [], false⟩ := .of Tryz.func106 (by simp [Tryz.f106]) (by kernel_rfl)
def g107 : RC :=
 (sr [kv 2 (.mov kx)]
 (sr [km 3 0,
 km 2 3]
 .ret))
theorem h107 : FO 107 ⟨g107, [.t 2], 4, [], false⟩ := .of Tryz.func107 (by simp [Tryz.f107]) (by kernel_rfl)
def g108 : RC :=
 (sr [kv 2 (.mov kx)]
 (sr [km 3 0,
 km 4 0,
 kv 5 (.neg (.t 4)),
 kv 6 (.max2 (.t 3) (.t 5)),
 km 2 6]
 .ret))
theorem h108 : FO 108 ⟨g108, [.t 2], 7, [], false⟩ := .of Tryz.func108 (by simp [Tryz.f108]) (by kernel_rfl)
def g109 : RC :=
 (sr [kv 10 (.mov kx1)]
 (sr [kv 11 (.mov kx1)]
 (.block 0 (.loop
 (.block 1 (sr [km 21 2,
 km 22 1,
 kv 23 (.bin .sub (.t 21) (.t 22)),
 km 12 23]
 (.seq (sr [km 24 12,
 kv 25 (.bin .leq (.t 24) (kI 12))]
 (.cond (.t 25)
 (sr [km 26 0,
 km 27 1,
 km 28 2,
 km 29 4,
 kc 30 (kF 120) [(.t 26), (.t 27), (.t 28), (.t 29)]]
 .ret)
 .skip))
 (.seq (sr [km 31 3,
 kv 32 (.bin .eql (.t 31) kx)]
 (.cond (.t 32)
 (sr [km 33 0,
 km 34 1,
 km 35 2,
 km 36 4,
 kc 37 (kF 121) [(.t 33), (.t 34), (.t 35), (.t 36)]]
 .ret)
 .skip))
 (.seq (sr [km 38 10,
 kv 39 (.not (.t 38))]
 (.cond (.t 39)
 (sr [km 40 0,
 km 41 1,
 km 42 2,
 km 43 4,
 kc 44 (kF 122) [(.t 40), (.t 41), (.t 42), (.t 43)]]
 (.reg [km 45 3,
 kv 46 (.bin .sub (.t 45) (kI 1)),
 km 3 46]))
 .skip))
 (sr [km 48 0,
 km 49 1,
 km 50 2,
 km 51 4,
 kc 52 (kF 123) [(.t 48), (.t 49), (.t 50), (.t 51)],
 km 47 52,
 kv 53 (.ext (.t 47) 0),
 kv 54 (.ext (.t 47) 1),
 km 13 53,
 km 14 54]
 (.seq (sr [km 55 14,
 kv 56 (.bin .eql (.t 55) (kI 2))]
 (.cond (.t 56)
 (sr [km 57 0,
 km 58 1,
 km 59 2,
 km 60 4,
 kc 61 (kF 124) [(.t 57), (.t 58), (.t 59), (.t 60)]]
 (sr [km 62 2,
 kv 63 (.bin .sub (.t 62) (kI 1)),
 km 64 13,
 km 65 1,
 kv 66 (.bin .sub (.t 64) (.t 65)),
 kv 67 (.bin .sub (.t 63) (.t 66)),
 km 13 67]
 (.reg [kv 14 (.mov (kI 1))])))
 .skip))
 (.seq (sr [km 68 10,
 km 69 68,
 kG 70 69 true (.mov (.t 11)),
 kv 71 (.pick (.t 69) (.t 70) kx0),
 km 72 71,
 kG 73 72 true (.mov (.t 14)),
 kG 74 72 true (.bin .eql (.t 73) (kI 1)),
 kv 75 (.pick (.t 72) (.t 74) kx0)]
 (.cond (.t 75)
 (sr [km 76 0,
 km 77 1,
 km 78 2,
 km 79 4,
 kc 80 (kF 125) [(.t 76), (.t 77), (.t 78), (.t 79)]]
 (.cond (.t 80)
 .ret
 .skip))
 .skip))
 (.seq (.seq (.drw [⟨[], 0, 0, [(km 81 1, ku),
 (kv 82 (.bin .gtr (.t 81) kx), ku),
 (km 83 82, ku),
 (kG 84 83 true (.mov (.t 4)), ku),
 (kG 85 83 true (.mov (.t 0)), ku),
 (kG 86 83 true (.mov (.t 1)), ku),
 (kG 87 83 true (.bin .sub (.t 86) (kI 1)), ku),
 (kG 88 83 true (.ixa (.t 85) (.t 87) 4), ku),
 (kG 89 83 true (.load (.t 88) (some 4)), ku),
 (kG 90 83 true (.mov (.t 0)), ku),
 (kG 91 83 true (.mov (.t 13)), ku),
 (kG 92 83 true (.ixa (.t 90) (.t 91) 4), ku),
 (kG 93 83 true (.load (.t 92) (some 4)), ku)],
 [],
 [⟨(some 94), (some (83, true)), .o (.call (.t 84) [(.t 89), (.t 93)])⟩,
 kG 95 83 true (.bin .lss (.t 94) kx),
 kG 96 83 true (.not (.t 95)),
 kv 97 (.pick (.t 83) (.t 96) kx0)], none⟩])
 (.cond (.t 97)
 (sr [km 98 0,
 km 99 1,
 km 100 2,
 km 101 13,
 km 102 4,
 kc 103 (kF 126) [(.t 98), (.t 99), (.t 100), (.t 101), (.t 102)],
 km 15 103]
 (sr [km 104 15,
 km 1 104]
 (.exit 1)))
 .skip))
 (sr [km 106 0,
 km 107 1,
 km 108 2,
 km 109 13,
 km 110 4,
 kc 111 (kF 127) [(.t 106), (.t 107), (.t 108), (.t 109), (.t 110)],
 km 105 111,
 kv 112 (.ext (.t 105) 0),
 kv 113 (.ext (.t 105) 1),
 km 16 112,
 km 17 113]
 (sr [km 114 17,
 km 11 114]
 (sr [km 115 16,
 km 116 1,
 kv 117 (.bin .sub (.t 115) (.t 116)),
 km 118 2,
 km 119 16,
 kv 120 (.bin .sub (.t 118) (.t 119)),
 km 18 117,
 km 19 120]
 (sr [km 121 12,
 kv 122 (.bin .quo (.t 121) (kI 8)),
 km 20 122]
 (sr [km 123 18,
 km 124 19,
 kv 125 (.bin .lss (.t 123) (.t 124))]
 (.cond (.t 125)
 (sr [km 126 18,
 km 127 20,
 kv 128 (.bin .geq (.t 126) (.t 127)),
 km 10 128]
 (sr [km 129 0,
 km 130 1,
 km 131 16,
 km 132 3,
 km 133 4,
 kc 134 (kF 109) [(.t 129), (.t 130), (.t 131), (.t 132), (.t 133)]]
 (.reg [km 135 16,
 kv 136 (.bin .add (.t 135) (kI 1)),
 km 1 136])))
 (sr [km 137 19,
 km 138 20,
 kv 139 (.bin .geq (.t 137) (.t 138)),
 km 10 139]
 (sr [km 140 0,
 km 141 16,
 kv 142 (.bin .add (.t 141) (kI 1)),
 km 143 2,
 km 144 3,
 km 145 4,
 kc 146 (kF 109) [(.t 140), (.t 142), (.t 143), (.t 144), (.t 145)]]
 (.reg [km 147 16,
 km 2 147]))))))))))))))))))))))
theorem h109 : FO 109 ⟨g109, [], 148, [], false⟩ := .of Tryz.func109 (by simp [Tryz.f109]) (by kernel_rfl)
def g110 : RC :=
 (sr [kv 2 (.mov kx)]
 (.seq (.cond kx0
 (sr [km 3 0,
 kv 4 (.conv .u32 (.t 3)),
 kc 5 (kF 128) [(.t 4)],
 km 2 5]
 .ret)
 .skip)
 (sr [km 6 0,
 kc 7 (kF 129) [(.t 6)],
 km 2 7]
 .ret)))
theorem h110 : FO 110 ⟨g110, [.t 2], 8, [], false⟩ := .of Tryz.func110 (by simp [Tryz.f110]) (by kernel_rfl)
def g111 : RC :=
 (sr [kv 2 (.mov kx)]
 (sr [kv 3 (.mov kx)]
 (.seq (sr [km 6 0,
 kv 7 (.len (.t 6)),
 kv 8 (.mov kx)]
 (.block 0 (.loop
 (sr [kv 9 (.bin .lss (.t 8) (.t 7))]
 (.seq (.cond (.t 9)
 .skip
 (.exit 0))
 (.seq (.block 1 (sr [kv 10 (.ixa (.t 6) (.t 8) 1),
 kl 11 10,
 km 5 11]
 (sr [km 12 5,
 km 13 3,
 kv 14 (.bin .neq (.t 12) (.t 13))]
 (.cond (.t 14)
 (sr [km 15 5,
 km 2 15]
 .ret)
 .skip))))
 (.reg [kv 16 (.bin .add (.t 8) (kI 1)),
 km 8 16])))))))
 (sr [km 17 3,
 km 2 17]
 .ret))))
theorem h111 : FO 111 ⟨g111, [.t 2], 18, [], false⟩ := .of Tryz.func111 (by simp [Tryz.f111]) (by kernel_rfl)
def g112 : RC :=
 (sr [kv 4 (.mov kx)]
 (sr [km 7 0,
 kc 8 (kF 130) [(.t 7)],
 km 5 8]
 (sr [km 9 1,
 kc 10 (kF 130) [(.t 9)],
 km 6 10]
 (.seq (sr [km 11 5]
 (.cond (.t 11)
 (.seq (sr [km 12 6]
 (.cond (.t 12)
 (sr [kv 4 (.mov kx)]
 .ret)
 .skip))
 (sr [kv 4 (.mov (kI (-1)))]
 .ret))
 .skip))
 (.seq (sr [km 13 6]
 (.cond (.t 13)
 (sr [kv 4 (.mov (kI 1))]
 .ret)
 .skip))
 (.seq (sr [km 14 0,
 km 15 1,
 kv 16 (.bin .lss (.t 14) (.t 15))]
 (.cond (.t 16)
 (sr [kv 4 (.mov (kI (-1)))]
 .ret)
 .skip))
 (.seq (sr [km 17 0,
 km 18 1,
 kv 19 (.bin .gtr (.t 17) (.t 18))]
 (.cond (.t 19)
 (sr [kv 4 (.mov (kI 1))]
 .ret)
 .skip))
 (sr [kv 4 (.mov kx)]
 .ret))))))))
theorem h112 : FO 112 ⟨g112, [.t 4], 20, [], false⟩ := .of Tryz.func112 (by simp [Tryz.f112]) (by kernel_rfl)
def g113 : RC :=
 (sr [kv 4 (.mov kx)]
 (sr [km 7 0,
 kc 8 (kF 131) [(.t 7)],
 km 5 8]
 (sr [km 9 1,
 kc 10 (kF 131) [(.t 9)],
 km 6 10]
 (.seq (sr [km 11 5]
 (.cond (.t 11)
 (.seq (sr [km 12 6]
 (.cond (.t 12)
 (sr [kv 4 (.mov kx)]
 .ret)
 .skip))
 (sr [kv 4 (.mov (kI (-1)))]
 .ret))
 .skip))
 (.seq (sr [km 13 6]
 (.cond (.t 13)
 (sr [kv 4 (.mov (kI 1))]
 .ret)
 .skip))
 (.seq (sr [km 14 0,
 km 15 1,
 kv 16 (.strb .lss (.t 14) (.t 15))]
 (.cond (.t 16)
 (sr [kv 4 (.mov (kI (-1)))]
 .ret)
 .skip))
 (.seq (sr [km 17 0,
 km 18 1,
 kv 19 (.strb .gtr (.t 17) (.t 18))]
 (.cond (.t 19)
 (sr [kv 4 (.mov (kI 1))]
 .ret)
 .skip))
 (sr [kv 4 (.mov kx)]
 .ret))))))))
theorem h113 : FO 113 ⟨g113, [.t 4], 20, [], false⟩ := .of Tryz.func113 (by simp [Tryz.f113]) (by kernel_rfl)
def g115 : RC :=
 (sr [kv 2 (.mov kx)]
 (sr [km 3 0,
 kv 4 (.bin .shr (.t 3) (.c (.int .u64 (1)))),
 kv 5 (.bin .and (.t 4) (.c (.int .u64 (6148914691236517205)))),
 km 6 0,
 kv 7 (.bin .and (.t 6) (.c (.int .u64 (6148914691236517205)))),
 kv 8 (.bin .add (.t 5) (.t 7)),
 km 0 8]
 (sr [km 9 0,
 kv 10 (.bin .shr (.t 9) (.c (.int .u64 (2)))),
 kv 11 (.bin .and (.t 10) (.c (.int .u64 (3689348814741910323)))),
 km 12 0,
 kv 13 (.bin .and (.t 12) (.c (.int .u64 (3689348814741910323)))),
 kv 14 (.bin .add (.t 11) (.t 13)),
 km 0 14]
 (sr [km 15 0,
 kv 16 (.bin .shr (.t 15) (.c (.int .u64 (4)))),
 km 17 0,
 kv 18 (.bin .add (.t 16) (.t 17)),
 kv 19 (.bin .and (.t 18) (.c (.int .u64 (1085102592571150095)))),
 km 0 19]
 (sr [km 20 0,
 km 21 0,
 kv 22 (.bin .shr (.t 21) (.c (.int .u64 (8)))),
 kv 23 (.bin .add (.t 20) (.t 22)),
 km 0 23]
 (sr [km 24 0,
 km 25 0,
 kv 26 (.bin .shr (.t 25) (.c (.int .u64 (16)))),
 kv 27 (.bin .add (.t 24) (.t 26)),
 km 0 27]
 (sr [km 28 0,
 km 29 0,
 kv 30 (.bin .shr (.t 29) (.c (.int .u64 (32)))),
 kv 31 (.bin .add (.t 28) (.t 30)),
 km 0 31]
 (sr [km 32 0,
 kv 33 (.conv .i64 (.t 32)),
 kv 34 (.bin .and (.t 33) (kI 127)),
 km 2 34]
 .ret))))))))
theorem h115 : FO 115 ⟨g115, [.t 2], 35, [], false⟩ := .of Tryz.func115 (by simp [Tryz.f115]) (by kernel_rfl)
def g116 : RC :=
 (sr [ko 2 (.box 94 (.t 0)),
 kv 4 (.mov (.c kns))]
 (sr [kv 11 (.load (.t 2) (some 9)),
 kc 12 (kF 132) [(.t 11)],
 km 5 12]
 (sr [kv 6 (.mov (.c kns))]
 (.seq (sr [kf 13 2 0,
 kf 14 13 0,
 kl 15 14,
 kv 16 (.len (.t 15)),
 kv 17 (.mov kx)]
 (.block 0 (.loop
 (sr [kv 18 (.bin .lss (.t 17) (.t 16))]
 (.seq (.cond (.t 18)
 .skip
 (.exit 0))
 (.seq (.block 1 (sr [km 19 17,
 km 7 19]
 (.drw [⟨[], 1, 2, [(km 20 6, ku),
 (km 21 5, ku),
 (km 22 7, ku),
 (ko 23 (.bld [kz, kz] [(0, 1, kx), (1, 1, (.t 22))]), ku),
 (⟨(some 24), none, .lku (.w [(some .i64), (some .i64)]) kz false (.t 21) (.t 23)⟩, ku),
 (km 25 5, ku),
 (km 26 7, ku),
 (ko 27 (.bld [kz, kz] [(0, 1, (kI 1)), (1, 1, (.t 26))]), ku),
 (⟨(some 28), none, .lku (.w [(some .i64), (some .i64)]) kz false (.t 25) (.t 27)⟩, ku),
 (kv 29 (.load (.t 2) (some 9)), ku),
 (kf 30 2 0, ku),
 (kf 31 30 0, ku),
 (kl 32 31, ku),
 (km 33 7, ku),
 (kv 34 (.ixa (.t 32) (.t 33) 1), ku),
 (kl 35 34, ku),
 (kc 36 (kF 133) [(.t 29), (.t 35)], .eff 0 []),
 (ko 37 (.bld [kz, kz, kz, kz] [(0, 1, (.t 24)), (1, 1, (.t 28)), (2, 2, (.t 36))]), .val 1 []),
 (km 38 5, ku),
 (km 39 7, ku),
 (ko 40 (.bld [kz, kz] [(0, 1, (kI 1)), (1, 1, (.t 39))]), ku),
 (⟨(some 41), none, .lku (.w [(some .i64), (some .i64)]) kz false (.t 38) (.t 40)⟩, ku),
 (km 42 5, ku),
 (km 43 7, ku),
 (ko 44 (.bld [kz, kz] [(0, 1, (kI 2)), (1, 1, (.t 43))]), ku),
 (⟨(some 45), none, .lku (.w [(some .i64), (some .i64)]) kz false (.t 42) (.t 44)⟩, ku),
 (kv 46 (.load (.t 2) (some 9)), ku),
 (kf 47 2 0, ku),
 (kf 48 47 1, ku),
 (kl 49 48, ku),
 (km 50 7, ku),
 (kv 51 (.ixa (.t 49) (.t 50) 1), ku),
 (kl 52 51, ku),
 (kc 53 (kF 133) [(.t 46), (.t 52)], .eff 1 []),
 (ko 54 (.bld [kz, kz, kz, kz] [(0, 1, (.t 41)), (1, 1, (.t 45)), (2, 2, (.t 53))]), .val 2 []),
 (ko 55 (.bsl 159 2 [kz, kz, kz, kz, kz, kz, kz, kz] [(0, 4, (.t 37)), (4, 4, (.t 54))]), .cre 0)],
 [0],
 [ko 56 (.app 159 4 32 (.t 20) (.t 55)),
 km 6 56], none⟩])))
 (.reg [kv 57 (.bin .add (.t 17) (kI 1)),
 km 17 57])))))))
 (.seq (sr [kf 58 2 0,
 kf 59 58 3,
 kv 60 (.load (.t 59) (some 6)),
 kv 61 (.mov kx)]
 (.block 2 (.loop
 (sr [kv 62 (.bin .lss (.t 61) (kI 3))]
 (.seq (.cond (.t 62)
 .skip
 (.exit 2))
 (.seq (.block 3 (sr [km 63 61,
 kv 64 (.ixv (.t 60) (.t 61) 3 2 (some 2)),
 ko 9 (.new 25 [kz, kz]),
 km 8 63,
 ks 2 9 64]
 (.seq (sr [km 65 1,
 km 66 8,
 kv 67 (.bin .shr (.t 65) (.t 66)),
 kv 68 (.bin .and (.t 67) (kI 1)),
 kv 69 (.bin .neq (.t 68) kx)]
 (.cond (.t 69)
 (.exit 3)
 .skip))
 (sr [kf 70 2 0,
 kf 71 70 0,
 kl 72 71,
 kv 73 (.len (.t 72)),
 kv 74 (.bin .sub (.t 73) (kI 1)),
 kv 75 (.mov kx)]
 (.block 4 (.loop
 (sr [kv 76 (.bin .lss (.t 75) (.t 74))]
 (.seq (.cond (.t 76)
 .skip
 (.exit 4))
 (.seq (.block 5 (sr [km 77 75,
 km 10 77]
 (.drw [⟨[], 1, 0, [(km 78 6, ku),
 (km 79 5, ku),
 (km 80 8, ku),
 (km 81 10, ku),
 (kv 82 (.bin .add (.t 81) (kI 1)), ku),
 (ko 83 (.bld [kz, kz] [(0, 1, (.t 80)), (1, 1, (.t 82))]), ku),
 (⟨(some 84), none, .lku (.w [(some .i64), (some .i64)]) kz false (.t 79) (.t 83)⟩, ku),
 (km 85 5, ku),
 (km 86 8, ku),
 (km 87 10, ku),
 (ko 88 (.bld [kz, kz] [(0, 1, (.t 86)), (1, 1, (.t 87))]), ku),
 (⟨(some 89), none, .lku (.w [(some .i64), (some .i64)]) kz false (.t 85) (.t 88)⟩, ku),
 (kv 90 (.load (.t 9) (some 2)), ku),
 (ko 91 (.bld [kz, kz, kz, kz] [(0, 1, (.t 84)), (1, 1, (.t 89)), (2, 2, (.t 90))]), ku),
 (ko 92 (.bsl 159 1 [kz, kz, kz, kz] [(0, 4, (.t 91))]), .cre 0)],
 [0],
 [ko 93 (.app 159 4 32 (.t 78) (.t 92)),
 km 6 93], none⟩])))
 (.reg [kv 94 (.bin .add (.t 75) (kI 1)),
 km 75 94]))))))))))
 (.reg [kv 95 (.bin .add (.t 61) (kI 1)),
 km 61 95])))))))
 (sr [km 96 6,
 km 4 96]
 .ret))))))
theorem h116 : FO 116 ⟨g116, [.t 4], 97, [], false⟩ := .of Tryz.func116 (by simp [Tryz.f116]) (by kernel_rfl)
def g117 : RC :=
 (sr [ko 3 (.box 159 (.t 1))]
 (.seq (.drw [⟨[], 0, 0, [(km 4 0, ku),
 (kf 5 3 0, ku),
 (kl 6 5, ku),
 (km 7 0, ku),
 (kf 8 3 0, ku),
 (kl 9 8, ku),
 (kn 10 7, ku),
 (kv 11 (.ixarr (.t 10) (.t 9) 60 1), ku),
 (kl 12 11, ku),
 (km 13 0, ku),
 (kf 14 3 1, ku),
 (kl 15 14, ku),
 (kn 16 13, ku),
 (kv 17 (.ixarr (.t 16) (.t 15) 60 1), ku),
 (kl 18 17, ku),
 (kf 19 3 2, ku),
 (kf 20 19 1, ku),
 (kl 21 20, ku),
 (kv 22 (.bin .add (.t 18) (.t 21)), ku),
 (kv 23 (.min2 (.t 12) (.t 22)), ku),
 (kn 24 4, ku)],
 [],
 [kv 25 (.ixarr (.t 24) (.t 6) 60 1),
 ks 1 25 23], none⟩])
 (.drw [⟨[], 0, 0, [(km 26 0, ku),
 (kf 27 3 1, ku),
 (kl 28 27, ku),
 (km 29 0, ku),
 (kf 30 3 1, ku),
 (kl 31 30, ku),
 (kn 32 29, ku),
 (kv 33 (.ixarr (.t 32) (.t 31) 60 1), ku),
 (kl 34 33, ku),
 (km 35 0, ku),
 (kf 36 3 0, ku),
 (kl 37 36, ku),
 (kn 38 35, ku),
 (kv 39 (.ixarr (.t 38) (.t 37) 60 1), ku),
 (kl 40 39, ku),
 (kf 41 3 2, ku),
 (kf 42 41 0, ku),
 (kl 43 42, ku),
 (kv 44 (.bin .sub (.t 40) (.t 43)), ku),
 (kv 45 (.min2 (.t 34) (.t 44)), ku),
 (kn 46 26, ku)],
 [],
 [kv 47 (.ixarr (.t 46) (.t 28) 60 1),
 ks 1 47 45], none⟩])))
theorem h117 : FO 117 ⟨g117, [], 48, [], false⟩ := .of Tryz.func117 (by simp [Tryz.f117]) (by kernel_rfl)
def g120 : RC :=
 (sr [km 10 1,
 kv 11 (.bin .add (.t 10) (kI 1)),
 km 8 11]
 (.block 0 (.loop
 (.seq (sr [km 12 8,
 km 13 2,
 kv 14 (.bin .lss (.t 12) (.t 13))]
 (.cond (.t 14)
 .skip
 (.exit 0)))
 (.seq (.block 1 (sr [km 17 8,
 km 9 17]
 (.block 2 (.loop
 (.seq (.seq (.drw [⟨[], 0, 0, [(km 18 9, ku),
 (km 19 1, ku),
 (kv 20 (.bin .gtr (.t 18) (.t 19)), ku),
 (km 21 20, ku),
 (kG 22 21 true (.mov (.t 3)), ku),
 (kG 23 21 true (.mov (.t 0)), ku),
 (kG 24 21 true (.mov (.t 9)), ku),
 (kG 25 21 true (.ixa (.t 23) (.t 24) 4), ku),
 (kG 26 21 true (.load (.t 25) (some 4)), ku),
 (kG 27 21 true (.mov (.t 0)), ku),
 (kG 28 21 true (.mov (.t 9)), ku),
 (kG 29 21 true (.bin .sub (.t 28) (kI 1)), ku),
 (kG 30 21 true (.ixa (.t 27) (.t 29) 4), ku),
 (kG 31 21 true (.load (.t 30) (some 4)), ku)],
 [],
 [⟨(some 32), (some (21, true)), .o (.call (.t 22) [(.t 26), (.t 31)])⟩,
 kG 33 21 true (.bin .lss (.t 32) kx),
 kv 34 (.pick (.t 21) (.t 33) kx0)], none⟩])
 (.cond (.t 34)
 .skip
 (.exit 2)))
 (.seq (.block 3 (.drw [⟨[], 0, 1, [(km 37 0, ku),
 (km 38 9, ku),
 (km 39 0, .pur),
 (km 40 9, .pur),
 (kv 41 (.bin .sub (.t 40) (kI 1)), .pur),
 (km 42 0, ku),
 (km 43 9, ku),
 (kv 44 (.bin .sub (.t 43) (kI 1)), ku),
 (kv 45 (.ixa (.t 42) (.t 44) 4), ku),
 (kv 46 (.load (.t 45) (some 4)), ku),
 (km 47 0, ku),
 (km 48 9, ku),
 (kv 49 (.ixa (.t 47) (.t 48) 4), ku),
 (kv 50 (.load (.t 49) (some 4)), ku),
 (kv 51 (.ixa (.t 37) (.t 38) 4), ku),
 (ks 4 51 46, .efs 0 [] [])],
 [],
 [kv 52 (.ixa (.t 39) (.t 41) 4),
 ks 4 52 50], none⟩,
 ⟨[], 0, 1, [(km 37 0, ku),
 (km 38 9, ku),
 (km 39 0, .pur),
 (km 40 9, .pur),
 (kv 41 (.bin .sub (.t 40) (kI 1)), .pur),
 (km 42 0, ku),
 (km 43 9, ku),
 (kv 44 (.bin .sub (.t 43) (kI 1)), ku),
 (kv 45 (.ixa (.t 42) (.t 44) 4), ku),
 (kv 46 (.load (.t 45) (some 4)), ku),
 (km 47 0, ku),
 (km 48 9, ku),
 (kv 49 (.ixa (.t 47) (.t 48) 4), ku),
 (kv 50 (.load (.t 49) (some 4)), ku),
 (kv 51 (.ixa (.t 37) (.t 38) 4), ku),
 (ks 4 51 46, .efs 0 [] [])],
 [],
 [kv 52 (.ixa (.t 39) (.t 41) 4),
 ks 4 52 50], none⟩]))
 (.reg [km 35 9,
 kv 36 (.bin .sub (.t 35) (kI 1)),
 km 9 36])))))))
 (.reg [km 15 8,
 kv 16 (.bin .add (.t 15) (kI 1)),
 km 8 16]))))))
theorem h120 : FO 120 ⟨g120, [], 53, [], false⟩ := .of Tryz.func120 (by simp [Tryz.f120]) (by kernel_rfl)
def g129 : RC :=
 (sr [kv 2 (.mov kx)]
 (.seq (sr [km 3 0,
 kv 4 (.bin .geq (.t 3) (.c (.int .u64 (4294967296))))]
 (.cond (.t 4)
 (sr [km 5 0,
 kv 6 (.bin .shr (.t 5) (.c (.int .u64 (32)))),
 km 0 6]
 (.reg [kv 2 (.mov (kI 32))]))
 .skip))
 (.seq (sr [km 7 0,
 kv 8 (.bin .geq (.t 7) (.c (.int .u64 (65536))))]
 (.cond (.t 8)
 (sr [km 9 0,
 kv 10 (.bin .shr (.t 9) (.c (.int .u64 (16)))),
 km 0 10]
 (.reg [km 11 2,
 kv 12 (.bin .add (.t 11) (kI 16)),
 km 2 12]))
 .skip))
 (.seq (sr [km 13 0,
 kv 14 (.bin .geq (.t 13) (.c (.int .u64 (256))))]
 (.cond (.t 14)
 (sr [km 15 0,
 kv 16 (.bin .shr (.t 15) (.c (.int .u64 (8)))),
 km 0 16]
 (.reg [km 17 2,
 kv 18 (.bin .add (.t 17) (kI 8)),
 km 2 18]))
 .skip))
 (sr [km 19 2,
 km 20 0,
 kv 21 (.conv .u8 (.t 20)),
 ⟨(some 22), none, .o (.v (.stri (.c (.lit (.string ⟨#[0, 1, 2, 2, 3, 3, 3, 3, 4, 4, 4, 4, 4, 4, 4, 4, 5, 5, 5, 5, 5, 5, 5, 5, 5, 5, 5, 5, 5, 5, 5, 5, 6, 6, 6, 6, 6, 6, 6, 6, 6, 6, 6, 6, 6, 6, 6, 6, 6, 6, 6, 6, 6, 6, 6, 6, 6, 6, 6, 6, 6, 6, 6, 6, 7, 7, 7, 7, 7, 7, 7, 7, 7, 7, 7, 7, 7, 7, 7, 7, 7, 7, 7, 7, 7, 7, 7, 7, 7, 7, 7, 7, 7, 7, 7, 7, 7, 7, 7, 7, 7, 7, 7, 7, 7, 7, 7, 7, 7, 7, 7, 7, 7, 7, 7, 7, 7, 7, 7, 7, 7, 7, 7, 7, 7, 7, 7, 7, 8, 8, 8, 8, 8, 8, 8, 8, 8, 8, 8, 8, 8, 8, 8, 8, 8, 8, 8, 8, 8, 8, 8, 8, 8, 8, 8, 8, 8, 8, 8, 8, 8, 8, 8, 8, 8, 8, 8, 8, 8, 8, 8, 8, 8, 8, 8, 8, 8, 8, 8, 8, 8, 8, 8, 8, 8, 8, 8, 8, 8, 8, 8, 8, 8, 8, 8, 8, 8, 8, 8, 8, 8, 8, 8, 8, 8, 8, 8, 8, 8, 8, 8, 8, 8, 8, 8, 8, 8, 8, 8, 8, 8, 8, 8, 8, 8, 8, 8, 8, 8, 8, 8, 8, 8, 8, 8, 8, 8, 8, 8, 8, 8, 8, 8, 8, 8, 8, 8, 8, 8, 8, 8, 8, 8, 8, 8, 8]⟩))) (.t 21)))⟩,
 kv 23 (.conv .i64 (.t 22)),
 kv 24 (.bin .add (.t 19) (.t 23)),
 km 2 24]
 .ret)))))
theorem h129 : FO 129 ⟨g129, [.t 2], 25, [], false⟩ := .of Tryz.func129 (by simp [Tryz.f129]) (by kernel_rfl)
def g130 : RC :=
 (sr [kv 2 (.mov kx0)]
 (sr [km 3 0,
 km 4 0,
 kv 5 (.bin .neq (.t 3) (.t 4)),
 km 2 5]
 .ret))
theorem h130 : FO 130 ⟨g130, [.t 2], 6, [], false⟩ := .of Tryz.func130 (by simp [Tryz.f130]) (by kernel_rfl)
def g131 : RC :=
 (sr [kv 2 (.mov kx0)]
 (sr [km 3 0,
 km 4 0,
 kv 5 (.strb .neq (.t 3) (.t 4)),
 km 2 5]
 .ret))
theorem h131 : FO 131 ⟨g131, [.t 2], 6, [], false⟩ := .of Tryz.func131 (by simp [Tryz.f131]) (by kernel_rfl)
def g132 : RC :=
 (sr [ko 1 (.box 94 (.t 0)),
 kv 2 (.mov (.c (.lit (.map none))))]
 (sr [⟨(some 6), none, .mkm⟩,
 km 3 6]
 (.seq (sr [kf 7 1 0,
 kf 8 7 0,
 kl 9 8,
 kv 10 (.len (.t 9)),
 kv 11 (.mov kx)]
 (.block 0 (.loop
 (sr [kv 12 (.bin .lss (.t 11) (.t 10))]
 (.seq (.cond (.t 12)
 .skip
 (.exit 0))
 (.seq (.block 1 (sr [km 13 11,
 km 4 13]
 (sr [kv 14 (.mov kx)]
 (.block 2 (.loop
 (sr [kv 15 (.bin .lss (.t 14) (kI 3))]
 (.seq (.cond (.t 15)
 .skip
 (.exit 2))
 (.seq (.block 3 (sr [km 16 14,
 km 5 16]
 (.reg [km 17 3,
 km 18 5,
 km 19 4,
 ko 20 (.bld [kz, kz] [(0, 1, (.t 18)), (1, 1, (.t 19))]),
 km 21 4,
 kv 22 (.bin .mul (kI 3) (.t 21)),
 km 23 5,
 kv 24 (.bin .add (.t 22) (.t 23)),
 ⟨none, none, .upd (.w [(some .i64), (some .i64)]) (.t 17) (.t 20) (.t 24)⟩])))
 (.reg [kv 25 (.bin .add (.t 14) (kI 1)),
 km 14 25])))))))))
 (.reg [kv 26 (.bin .add (.t 11) (kI 1)),
 km 11 26])))))))
 (sr [km 27 3,
 km 2 27]
 .ret))))
theorem h132 : FO 132 ⟨g132, [.t 2], 28, [], false⟩ := .of Tryz.func132 (by simp [Tryz.f132]) (by kernel_rfl)
def g133 : RC :=
 (sr [ko 2 (.box 94 (.t 0)),
 ko 4 (.new 25 [kz, kz])]
 (sr [km 5 1,
 kf 6 2 0,
 kf 7 6 2,
 kl 8 7,
 kv 9 (.bin .sub (.t 5) (.t 8)),
 km 10 1,
 kf 11 2 0,
 kf 12 11 2,
 kl 13 12,
 kv 14 (.bin .add (.t 10) (.t 13)),
 ko 15 (.bld [kz, kz] [(0, 1, (.t 9)), (1, 1, (.t 14))]),
 ks 2 4 15]
 .ret))
theorem h133 : FO 133 ⟨g133, [.c 4 (some 2)], 16, [], false⟩ := .of Tryz.func133 (by simp [Tryz.f133]) (by kernel_rfl)

end Go.Proofs.YtlegfejimphfbaaGreat
end
section
namespace Go.Proofs.YtlegfejimphfbaaGreat
open Go Go.Vg
set_option maxRecDepth 100000
set_option maxHeartbeats 4000000

def te : TT := .nd none .e .e
theorem tI : True := trivial
def tab : TT := (.nd none (.nd none (.nd none (.nd none (.nd none (.nd none (.nd none te .e) (.nd (some ⟨g95, [.t 3], 25, [], false⟩) .e .e)) (.nd none te (.nd (some ⟨g111, [.t 2], 18, [], false⟩) .e .e))) (.nd none (.nd none te te) (.nd none te te))) (.nd none (.nd none (.nd none (.nd none (.nd (some ⟨g131, [.t 2], 6, [], false⟩) .e .e) .e) te) (.nd none te (.nd (some ⟨g115, [.t 2], 35, [], false⟩) .e .e))) (.nd (some ⟨g27, [.t 2, .t 3], 12, [], false⟩) (.nd none te (.nd (some ⟨g107, [.t 2], 4, [], false⟩) .e .e)) (.nd (some ⟨g59, [.t 0], 8, [], false⟩) (.nd (some ⟨g91, [], 14, [], false⟩) .e .e) te)))) (.nd none (.nd none (.nd none (.nd none (.nd (some ⟨g65, [.t 2, .t 3], 47, [], false⟩) (.nd (some ⟨g129, [.t 2], 25, [], false⟩) .e .e) .e) (.nd (some ⟨g97, [.t 4], 32, [], false⟩) .e .e)) (.nd none (.nd (some ⟨g81, [.t 6], 21, [], false⟩) .e .e) (.nd (some ⟨g113, [.t 4], 20, [], false⟩) .e .e))) (.nd (some ⟨g25, [.t 2, .t 3, .t 4], 15, [], false⟩) (.nd none te (.nd (some ⟨g105, [.t 2], 9, [], false⟩) .e .e)) (.nd (some ⟨g57, [.c 0 (some 6)], 9, [], false⟩) (.nd (some ⟨g89, [.t 2], 10, [], false⟩) .e .e) te))) (.nd none (.nd (some ⟨g21, [.t 0], 123, [], false⟩) (.nd none (.nd (some ⟨g69, [.t 2], 18, [], false⟩) (.nd (some ⟨g133, [.c 4 (some 2)], 16, [], false⟩) .e .e) .e) te) (.nd none te (.nd (some ⟨g117, [], 48, [], false⟩) .e .e))) (.nd (some ⟨g29, [.t 2, .t 3], 20, [], false⟩) (.nd none te (.nd (some ⟨g109, [], 148, [], false⟩) .e .e)) (.nd none te te))))) (.nd none (.nd none (.nd none (.nd none (.nd none (.nd (some ⟨g64, [.t 2], 46, [], false⟩) te .e) (.nd (some ⟨g96, [.t 2], 8, [], false⟩) .e .e)) (.nd none te (.nd (some ⟨g112, [.t 4], 20, [], false⟩) .e .e))) (.nd (some ⟨g24, [.t 4], 26, [], false⟩) (.nd none (.nd (some ⟨g72, [.t 2, .t 3], 19, [], false⟩) .e .e) (.nd (some ⟨g104, [.t 2], 9, [], false⟩) .e .e)) (.nd none (.nd (some ⟨g88, [.t 2], 38, [], false⟩) .e .e) (.nd (some ⟨g120, [], 53, [], false⟩) .e .e)))) (.nd none (.nd (some ⟨g20, [.t 4], 26, [], false⟩) (.nd none (.nd (some ⟨g68, [.t 2], 43, [], false⟩) (.nd (some ⟨g132, [.t 2], 28, [], false⟩) .e .e) .e) (.nd (some ⟨g100, [.c 4 (some 9)], 25, [], false⟩) .e .e)) (.nd none te (.nd (some ⟨g116, [.t 4], 97, [], false⟩) .e .e))) (.nd none (.nd none te (.nd (some ⟨g108, [.t 2], 7, [], false⟩) .e .e)) (.nd (some ⟨g60, [.c 4 (some 9)], 14, [], false⟩) (.nd (some ⟨g92, [.t 4], 19, [], false⟩) .e .e) te)))) (.nd none (.nd none (.nd (some ⟨g18, [.t 4, .t 5], 17, [], false⟩) (.nd (some ⟨g34, [.c 4 (some 2)], 8, [], false⟩) (.nd none (.nd (some ⟨g130, [.t 2], 6, [], false⟩) .e .e) .e) te) (.nd none (.nd (some ⟨g82, [.t 6], 24, [], false⟩) .e .e) te)) (.nd none (.nd none te (.nd (some ⟨g106, [.c 6 (some 2)], 39, [], false⟩) .e .e)) (.nd (some ⟨g58, [.t 0], 4, [], false⟩) (.nd (some ⟨g90, [.c 4 (some 4)], 58, [], false⟩) .e .e) te))) (.nd (some ⟨g14, [.c 6 (some 2), .t 7], 35, [], false⟩) (.nd (some ⟨g22, [.t 6, .t 7], 26, [], false⟩) (.nd none te te) (.nd none te te)) (.nd none (.nd (some ⟨g46, [.t 6], 15, [], false⟩) te (.nd (some ⟨g110, [.t 2], 8, [], false⟩) .e .e)) (.nd none (.nd (some ⟨g94, [.t 6], 21, [], false⟩) .e .e) te))))))
theorem tabOk : AllTT Tryz.prog tab (fun i => i) := ⟨tI, ⟨tI, ⟨tI, ⟨tI, ⟨tI, ⟨tI, ⟨tI, ⟨tI, tI, tI⟩, tI⟩, ⟨h95, tI, tI⟩⟩, ⟨tI, ⟨tI, tI, tI⟩, ⟨h111, tI, tI⟩⟩⟩, ⟨tI, ⟨tI, ⟨tI, tI, tI⟩, ⟨tI, tI, tI⟩⟩, ⟨tI, ⟨tI, tI, tI⟩, ⟨tI, tI, tI⟩⟩⟩⟩, ⟨tI, ⟨tI, ⟨tI, ⟨tI, ⟨h131, tI, tI⟩, tI⟩, ⟨tI, tI, tI⟩⟩, ⟨tI, ⟨tI, tI, tI⟩, ⟨h115, tI, tI⟩⟩⟩, ⟨h27, ⟨tI, ⟨tI, tI, tI⟩, ⟨h107, tI, tI⟩⟩, ⟨h59, ⟨h91, tI, tI⟩, ⟨tI, tI, tI⟩⟩⟩⟩⟩, ⟨tI, ⟨tI, ⟨tI, ⟨tI, ⟨h65, ⟨h129, tI, tI⟩, tI⟩, ⟨h97, tI, tI⟩⟩, ⟨tI, ⟨h81, tI, tI⟩, ⟨h113, tI, tI⟩⟩⟩, ⟨h25, ⟨tI, ⟨tI, tI, tI⟩, ⟨h105, tI, tI⟩⟩, ⟨h57, ⟨h89, tI, tI⟩, ⟨tI, tI, tI⟩⟩⟩⟩, ⟨tI, ⟨h21, ⟨tI, ⟨h69, ⟨h133, tI, tI⟩, tI⟩, ⟨tI, tI, tI⟩⟩, ⟨tI, ⟨tI, tI, tI⟩, ⟨h117, tI, tI⟩⟩⟩, ⟨h29, ⟨tI, ⟨tI, tI, tI⟩, ⟨h109, tI, tI⟩⟩, ⟨tI, ⟨tI, tI, tI⟩, ⟨tI, tI, tI⟩⟩⟩⟩⟩⟩, ⟨tI, ⟨tI, ⟨tI, ⟨tI, ⟨tI, ⟨h64, ⟨tI, tI, tI⟩, tI⟩, ⟨h96, tI, tI⟩⟩, ⟨tI, ⟨tI, tI, tI⟩, ⟨h112, tI, tI⟩⟩⟩, ⟨h24, ⟨tI, ⟨h72, tI, tI⟩, ⟨h104, tI, tI⟩⟩, ⟨tI, ⟨h88, tI, tI⟩, ⟨h120, tI, tI⟩⟩⟩⟩, ⟨tI, ⟨h20, ⟨tI, ⟨h68, ⟨h132, tI, tI⟩, tI⟩, ⟨h100, tI, tI⟩⟩, ⟨tI, ⟨tI, tI, tI⟩, ⟨h116, tI, tI⟩⟩⟩, ⟨tI, ⟨tI, ⟨tI, tI, tI⟩, ⟨h108, tI, tI⟩⟩, ⟨h60, ⟨h92, tI, tI⟩, ⟨tI, tI, tI⟩⟩⟩⟩⟩, ⟨tI, ⟨tI, ⟨h18, ⟨h34, ⟨tI, ⟨h130, tI, tI⟩, tI⟩, ⟨tI, tI, tI⟩⟩, ⟨tI, ⟨h82, tI, tI⟩, ⟨tI, tI, tI⟩⟩⟩, ⟨tI, ⟨tI, ⟨tI, tI, tI⟩, ⟨h106, tI, tI⟩⟩, ⟨h58, ⟨h90, tI, tI⟩, ⟨tI, tI, tI⟩⟩⟩⟩, ⟨h14, ⟨h22, ⟨tI, ⟨tI, tI, tI⟩, ⟨tI, tI, tI⟩⟩, ⟨tI, ⟨tI, tI, tI⟩, ⟨tI, tI, tI⟩⟩⟩, ⟨tI, ⟨h46, ⟨tI, tI, tI⟩, ⟨h110, tI, tI⟩⟩, ⟨tI, ⟨h94, tI, tI⟩, ⟨tI, tI, tI⟩⟩⟩⟩⟩⟩⟩
end Go.Proofs.YtlegfejimphfbaaGreat
end
