import Derived.Test.YtbbbpdajikblbaaVgR18
import Derived.Test.YtbbbpdajikblbaaChecked
import Derived.KernelRfl
namespace Go.Proofs.Ytbbbpdajikblbaa
open Go Go.Vg
set_option maxRecDepth 100000
set_option maxHeartbeats 4000000
def ki (n : Int) : SV := .int .i64 n
def kz : SV := .int .i64 0
def km (d n : Nat) : Opq := ⟨some d, none, .o (.v (.mov (.t n)))⟩
def kl (d n : Nat) : Opq := ⟨some d, none, .o (.v (.load (.t n) none))⟩
def kf (d n k : Nat) : Opq := ⟨some d, none, .o (.v (.off (.t n) k))⟩
def kn (d n : Nat) : Opq := ⟨some d, none, .nck (.t n)⟩
def kv (d : Nat) (v : VOp) : Opq := ⟨some d, none, .o (.v v)⟩
def kc (d : Nat) (f : X) (l : List X) : Opq := ⟨some d, none, .o (.call f l)⟩
def ko (d : Nat) (o : Op1) : Opq := ⟨some d, none, .o o⟩
def ku : Kd := .val 0 []
def kb0 : SV := .lit (.bool false)
def kb1 : SV := .lit (.bool true)
def kG (d g : Nat) (b : Bool) (v : VOp) : Opq := ⟨some d, some (g, b), .o (.v v)⟩
def kF (n : Nat) : X := .c (.fn n [])
def ks (n a b : Nat) : Opq := ⟨none, none, .o (.store n (.t a) (.t b))⟩
def sr (l : List Opq) (b : RC) : RC := .seq (.reg l) b
def g15 : RC :=
 (sr [ko 2 (.box 24 (.t 0)),
 kv 4 (.mov (.c kz)),
 kv 5 (.mov (.c kz)),
 kv 6 (.mov (.c kz))]
 (.seq (sr [kv 9 (.load (.t 2) (some 3)),
 kc 10 (kF 17) [(.t 9)],
 km 7 10]
 (sr [km 11 7,
 kv 12 (.bin .neq (.t 11) (.c kz))]
 (.cond (.t 12)
 (sr [km 13 7,
 kv 4 (.mov (.c kz)),
 kv 5 (.mov (.c kz)),
 km 6 13]
 .ret)
 .skip)))
 (sr [kv 14 (.load (.t 2) (some 3)),
 ko 15 (.bld [(.lit (.slice none 0 0)), kz, kz] [(0, 3, (.t 14))]),
 ko 8 (.new 78 [(.lit (.slice none 0 0)), kz, kz]),
 ks 3 8 15]
 (.seq (sr [kv 16 (.load (.t 8) (some 3)),
 km 17 1,
 kc 18 (kF 55) [(.t 16), (.t 17)],
 kv 19 (.not (.t 18))]
 (.cond (.t 19)
 (sr [kv 4 (.mov (.c kz)),
 kv 5 (.mov (.c kz)),
 kv 6 (.mov (.c (ki 22)))]
 .ret)
 .skip))
 (sr [kv 21 (.load (.t 8) (some 3)),
 km 22 1,
 kc 23 (kF 56) [(.t 21), (.t 22)],
 km 20 23,
 kv 24 (.ext (.t 20) 0),
 kv 25 (.ext (.t 20) 1),
 km 4 24,
 km 5 25]
 (sr [km 26 4,
 km 27 5,
 km 4 26,
 km 5 27,
 kv 6 (.mov (.c kz))]
 .ret))))))
theorem h15 : FdOk Try.prog 15 ⟨g15, [.t 4, .t 5, .t 6], 28, [], false⟩ := .of Try.func15 (by simp [Try.f15]) (by kernel_rfl)
def g17 : RC :=
 (sr [ko 1 (.box 24 (.t 0)),
 kv 2 (.mov (.c kz))]
 (.seq (sr [kf 6 1 0,
 kl 7 6,
 kv 8 (.len (.t 7)),
 kc 9 (kF 60) [(.t 8), (.c (ki 2)), (.c (ki 10))],
 kv 10 (.not (.t 9)),
 km 11 10,
 kG 12 11 false (.off (.t 1) 1),
 kG 13 11 false (.load (.t 12) none),
 kG 14 11 false (.off (.t 1) 2),
 kG 15 11 false (.load (.t 14) none),
 ⟨(some 16), (some (11, false)), .o (.call (kF 61) [(.t 13), (.t 15)])⟩,
 kG 17 11 false (.not (.t 16)),
 kv 18 (.pick (.t 11) (.c (.lit (.bool true))) (.t 17))]
 (.cond (.t 18)
 (sr [kv 2 (.mov (.c (ki 20)))]
 .ret)
 .skip))
 (sr [kv 3 (.mov (.c (ki 10)))]
 (.seq (sr [kf 19 1 0,
 kl 20 19,
 kv 21 (.len (.t 20)),
 kv 22 (.mov (.c kz))]
 (.block 0 (.loop
 (sr [kv 23 (.bin .lss (.t 22) (.t 21))]
 (.seq (.cond (.t 23)
 .skip
 (.exit 0))
 (.seq (.block 1 (sr [kv 24 (.ixa (.t 20) (.t 22) 1),
 kl 25 24,
 km 5 25]
 (.seq (sr [km 26 5,
 km 27 3,
 kc 28 (kF 60) [(.t 26), (.t 27), (.c (ki 200))],
 kv 29 (.not (.t 28))]
 (.cond (.t 29)
 (sr [kv 2 (.mov (.c (ki 20)))]
 .ret)
 .skip))
 (.reg [km 30 5,
 km 3 30]))))
 (.reg [kv 31 (.bin .add (.t 22) (.c (ki 1))),
 km 22 31])))))))
 (sr [kv 2 (.mov (.c kz))]
 .ret)))))
theorem h17 : FdOk Try.prog 17 ⟨g17, [.t 2], 32, [], false⟩ := .of Try.func17 (by simp [Try.f17]) (by kernel_rfl)
def g19 : RC :=
 (sr [ko 3 (.box 24 (.t 0)),
 kv 6 (.mov (.c (.lit (.slice none 0 0)))),
 kv 7 (.mov (.c kz))]
 (.seq (sr [kv 11 (.load (.t 3) (some 3)),
 km 12 1,
 km 13 2,
 kc 14 (kF 62) [(.t 11), (.t 12), (.t 13)],
 km 8 14]
 (sr [km 15 8,
 kv 16 (.bin .neq (.t 15) (.c kz))]
 (.cond (.t 16)
 (sr [km 17 8,
 kv 6 (.mov (.c (.lit (.slice none 0 0)))),
 km 7 17]
 .ret)
 .skip)))
 (sr [kv 18 (.load (.t 3) (some 3)),
 ko 19 (.bld [(.lit (.slice none 0 0)), kz, kz] [(0, 3, (.t 18))]),
 ko 9 (.new 78 [(.lit (.slice none 0 0)), kz, kz]),
 ks 3 9 19]
 (.seq (.drw [⟨[], 0, 1, [(kv 20 (.load (.t 9) (some 3)), ku),
 (kv 21 (.load (.t 9) (some 3)), ku),
 (km 22 1, ku),
 (km 23 2, ku),
 (kc 24 (kF 64) [(.t 21), (.t 22), (.t 23)], .eff 0 [])],
 [],
 [kc 25 (kF 63) [(.t 20), (.t 24)],
 km 10 25], none⟩])
 (.seq (sr [km 26 10,
 kv 27 (.isnil false (.t 26))]
 (.cond (.t 27)
 (sr [kv 6 (.mov (.c (.lit (.slice none 0 0)))),
 kv 7 (.mov (.c (ki 4)))]
 .ret)
 .skip))
 (sr [km 28 10,
 km 6 28,
 kv 7 (.mov (.c kz))]
 .ret))))))
theorem h19 : FdOk Try.prog 19 ⟨g19, [.t 6, .t 7], 29, [], false⟩ := .of Try.func19 (by simp [Try.f19]) (by kernel_rfl)
def g21 : RC :=
 (sr [kv 4 (.mov (.c (.lit (.bool false))))]
 (.seq (sr [km 6 0,
 kv 7 (.len (.t 6)),
 km 8 1,
 kv 9 (.len (.t 8)),
 kv 10 (.bin .neq (.t 7) (.t 9))]
 (.cond (.t 10)
 (sr [kv 4 (.mov (.c (.lit (.bool false))))]
 .ret)
 .skip))
 (.seq (sr [kv 5 (.mov (.c kz))]
 (.block 0 (.loop
 (.seq (sr [km 11 5,
 km 12 0,
 kv 13 (.len (.t 12)),
 kv 14 (.bin .lss (.t 11) (.t 13))]
 (.cond (.t 14)
 .skip
 (.exit 0)))
 (.seq (.block 1 (.seq (.drw [⟨[], 0, 0, [(km 17 0, ku),
 (km 18 5, ku),
 (kv 19 (.ixa (.t 17) (.t 18) 1), ku),
 (kl 20 19, ku),
 (km 21 1, ku),
 (km 22 5, ku),
 (kv 23 (.ixa (.t 21) (.t 22) 1), ku),
 (kl 24 23, ku)],
 [],
 [kv 25 (.bin .neq (.t 20) (.t 24))], none⟩])
 (.cond (.t 25)
 (sr [kv 4 (.mov (.c (.lit (.bool false))))]
 .ret)
 .skip)))
 (.reg [km 15 5,
 kv 16 (.bin .add (.t 15) (.c (ki 1))),
 km 5 16]))))))
 (sr [kv 4 (.mov (.c (.lit (.bool true))))]
 .ret))))
theorem h21 : FdOk Try.prog 21 ⟨g21, [.t 4], 26, [], false⟩ := .of Try.func21 (by simp [Try.f21]) (by kernel_rfl)
def g22 : RC :=
 (sr [ko 3 (.box 24 (.t 0)),
 kv 6 (.mov (.c (.lit (.slice none 0 0)))),
 kv 7 (.mov (.c kz))]
 (.seq (sr [kv 10 (.load (.t 3) (some 3)),
 km 11 1,
 km 12 2,
 kc 13 (kF 62) [(.t 10), (.t 11), (.t 12)],
 km 8 13]
 (sr [km 14 8,
 kv 15 (.bin .neq (.t 14) (.c kz))]
 (.cond (.t 15)
 (sr [km 16 8,
 kv 6 (.mov (.c (.lit (.slice none 0 0)))),
 km 7 16]
 .ret)
 .skip)))
 (sr [kv 17 (.load (.t 3) (some 3)),
 ko 18 (.bld [(.lit (.slice none 0 0)), kz, kz] [(0, 3, (.t 17))]),
 ko 9 (.new 78 [(.lit (.slice none 0 0)), kz, kz]),
 ks 3 9 18]
 (.seq (.drw [⟨[9, 1, 2], 0, 0, [(kv 19 (.load (.t 9) (some 3)), ku),
 (kv 20 (.load (.t 9) (some 3)), ku),
 (km 21 1, ku),
 (km 22 2, ku),
 (kc 23 (kF 64) [(.t 20), (.t 21), (.t 22)], ku)],
 [],
 [kc 24 (kF 67) [(.t 19), (.t 23)],
 km 6 24,
 kv 7 (.mov (.c kz))], none⟩,
 ⟨[], 0, 1, [(kv 19 (.load (.t 9) (some 3)), ku),
 (kv 20 (.load (.t 9) (some 3)), ku),
 (km 21 1, ku),
 (km 22 2, ku),
 (kc 23 (kF 64) [(.t 20), (.t 21), (.t 22)], .eff 0 [])],
 [],
 [kc 24 (kF 67) [(.t 19), (.t 23)],
 km 6 24,
 kv 7 (.mov (.c kz))], none⟩])
 .ret))))
theorem h22 : FdOk Try.prog 22 ⟨g22, [.t 6, .t 7], 25, [], false⟩ := .of Try.func22 (by simp [Try.f22]) (by kernel_rfl)
def g24 : RC :=
 (sr [kv 0 (.mov (.c (.lit (.bool false))))]
 (sr [kc 17 (kF 52) [],
 ko 18 (.bsl 3 4 [kz, kz, kz, kz] [(0, 1, (.c kz)), (1, 1, (.c (ki 1))), (2, 1, (.c (ki 2))), (3, 1, (.c (ki 3)))]),
 kc 19 (kF 15) [(.t 17), (.t 18)],
 km 16 19,
 kv 20 (.ext (.t 16) 0),
 kv 21 (.ext (.t 16) 1),
 kv 22 (.ext (.t 16) 2),
 km 1 20,
 km 2 21,
 km 3 22]
 (sr [kc 24 (kF 52) [],
 kc 25 (kF 19) [(.t 24), (.c (ki 1)), (.c (ki 6))],
 km 23 25,
 kv 26 (.ext (.t 23) 0),
 kv 27 (.ext (.t 23) 1),
 km 4 26,
 km 5 27]
 (sr [kc 29 (kF 52) [],
 kc 30 (kF 22) [(.t 29), (.c (ki 1)), (.c (ki 15))],
 km 28 30,
 kv 31 (.ext (.t 28) 0),
 kv 32 (.ext (.t 28) 1),
 km 6 31,
 km 7 32]
 (sr [kc 34 (kF 53) [],
 kc 35 (kF 54) [(.c (ki 3))],
 kc 36 (kF 27) [(.t 34), (.t 35)],
 km 33 36,
 kv 37 (.ext (.t 33) 0),
 kv 38 (.ext (.t 33) 1),
 km 8 37,
 km 9 38]
 (.seq (sr [km 39 3,
 kv 40 (.bin .neq (.t 39) (.c kz)),
 km 41 40,
 kG 42 41 false (.mov (.t 5)),
 kG 43 41 false (.bin .neq (.t 42) (.c kz)),
 kv 44 (.pick (.t 41) (.c (.lit (.bool true))) (.t 43)),
 km 45 44,
 kG 46 45 false (.mov (.t 7)),
 kG 47 45 false (.bin .neq (.t 46) (.c kz)),
 kv 48 (.pick (.t 45) (.c (.lit (.bool true))) (.t 47)),
 km 49 48,
 kG 50 49 false (.mov (.t 9)),
 kG 51 49 false (.bin .neq (.t 50) (.c kz)),
 kv 52 (.pick (.t 49) (.c (.lit (.bool true))) (.t 51)),
 km 53 52,
 kG 54 53 false (.mov (.t 1)),
 kG 55 53 false (.bin .neq (.t 54) (.c (ki 2))),
 kv 56 (.pick (.t 53) (.c (.lit (.bool true))) (.t 55)),
 km 57 56,
 kG 58 57 false (.mov (.t 2)),
 kG 59 57 false (.bin .neq (.t 58) (.c (ki 15))),
 kv 60 (.pick (.t 57) (.c (.lit (.bool true))) (.t 59)),
 km 61 60,
 kG 62 61 false (.mov (.t 4)),
 ⟨(some 63), (some (61, false)), .o (.bsl 3 2 [kz, kz] [(0, 1, (.c kz)), (1, 1, (.c (ki 1)))])⟩,
 ⟨(some 64), (some (61, false)), .o (.call (kF 21) [(.t 62), (.t 63)])⟩,
 kG 65 61 false (.not (.t 64)),
 kv 66 (.pick (.t 61) (.c (.lit (.bool true))) (.t 65)),
 km 67 66,
 kG 68 67 false (.mov (.t 6)),
 ⟨(some 69), (some (67, false)), .o (.bsl 3 4 [kz, kz, kz, kz] [(0, 1, (.c kz)), (1, 1, (.c (ki 2))), (2, 1, (.c (ki 1))), (3, 1, (.c (ki 3)))])⟩,
 ⟨(some 70), (some (67, false)), .o (.call (kF 21) [(.t 68), (.t 69)])⟩,
 kG 71 67 false (.not (.t 70)),
 kv 72 (.pick (.t 67) (.c (.lit (.bool true))) (.t 71)),
 km 73 72,
 kG 74 73 false (.mov (.t 8)),
 ⟨(some 75), (some (73, false)), .o (.call (kF 51) [(.c kz), (.c kz)])⟩,
 ⟨(some 76), (some (73, false)), .o (.call (kF 51) [(.c (ki 15)), (.c (ki 25))])⟩,
 ⟨(some 77), (some (73, false)), .o (.bsl 63 2 [kz, kz, kz, kz] [(0, 2, (.t 75)), (2, 2, (.t 76))])⟩,
 ⟨(some 78), (some (73, false)), .o (.call (kF 51) [(.c kz), (.c kz)])⟩,
 ⟨(some 79), (some (73, false)), .o (.call (kF 51) [(.c (ki 3)), (.c (ki 17))])⟩,
 ⟨(some 80), (some (73, false)), .o (.call (kF 51) [(.c (ki 19)), (.c (ki 31))])⟩,
 ⟨(some 81), (some (73, false)), .o (.bsl 63 3 [kz, kz, kz, kz, kz, kz] [(0, 2, (.t 78)), (2, 2, (.t 79)), (4, 2, (.t 80))])⟩,
 ⟨(some 82), (some (73, false)), .o (.bsl 51 2 [(.lit (.slice none 0 0)), (.lit (.slice none 0 0))] [(0, 1, (.t 77)), (1, 1, (.t 81))])⟩,
 ⟨(some 83), (some (73, false)), .o (.call (kF 45) [(.t 74), (.t 82)])⟩,
 kG 84 73 false (.not (.t 83)),
 kv 85 (.pick (.t 73) (.c (.lit (.bool true))) (.t 84))]
 (.cond (.t 85)
 (sr [kv 0 (.mov (.c (.lit (.bool false))))]
 .ret)
 .skip))
 (sr [kc 87 (kF 53) [],
 kc 88 (kF 54) [(.c (ki 3))],
 ko 89 (.bsl 3 2 [kz, kz] [(0, 1, (.c kz)), (1, 1, (.c (ki 20)))]),
 ko 90 (.bsl 3 3 [kz, kz, kz] [(0, 1, (.c kz)), (1, 1, (.c (ki 10))), (2, 1, (.c (ki 25)))]),
 ko 91 (.bsl 22 2 [(.lit (.slice none 0 0)), (.lit (.slice none 0 0))] [(0, 1, (.t 89)), (1, 1, (.t 90))]),
 kc 92 (kF 25) [(.t 87), (.t 88), (.t 91)],
 km 86 92,
 kv 93 (.ext (.t 86) 0),
 kv 94 (.ext (.t 86) 1),
 km 10 93,
 km 3 94]
 (sr [kc 96 (kF 53) [],
 kc 97 (kF 54) [(.c (ki 4))],
 kc 98 (kF 30) [(.t 96), (.t 97)],
 km 95 98,
 kv 99 (.ext (.t 95) 0),
 kv 100 (.ext (.t 95) 1),
 km 11 99,
 km 5 100]
 (sr [ko 102 (.bsl 3 5 [kz, kz, kz, kz, kz] [(0, 1, (.c (ki 3))), (1, 1, (.c (ki (-1)))), (2, 1, (.c (ki 3))), (3, 1, (.c (ki (-1)))), (4, 1, (.c (ki 3)))]),
 kc 103 (kF 32) [(.t 102), (.c (ki 3))],
 km 101 103,
 kv 104 (.ext (.t 101) 0),
 kv 105 (.ext (.t 101) 1),
 km 12 104,
 km 7 105]
 (sr [ko 107 (.bsl 3 5 [kz, kz, kz, kz, kz] [(0, 1, (.c (ki 3))), (1, 1, (.c (ki (-1)))), (2, 1, (.c (ki 3))), (3, 1, (.c (ki (-1)))), (4, 1, (.c (ki 3)))]),
 kc 108 (kF 34) [(.t 107), (.c (ki 3)), (.c (ki 1))],
 km 106 108,
 kv 109 (.ext (.t 106) 0),
 kv 110 (.ext (.t 106) 1),
 km 13 109,
 km 9 110]
 (sr [kc 112 (kF 51) [(.c kz), (.c (ki 1))],
 kc 113 (kF 51) [(.c (ki 5)), (.c (ki 6))],
 kc 114 (kF 51) [(.c (ki 1)), (.c (ki 2))],
 kc 115 (kF 51) [(.c (ki 6)), (.c (ki 7))],
 ko 116 (.bsl 63 4 [kz, kz, kz, kz, kz, kz, kz, kz] [(0, 2, (.t 112)), (2, 2, (.t 113)), (4, 2, (.t 114)), (6, 2, (.t 115))]),
 kc 117 (kF 36) [(.t 116)],
 km 111 117,
 kv 118 (.ext (.t 111) 0),
 kv 119 (.ext (.t 111) 1),
 km 14 118,
 km 15 119]
 (sr [km 120 3,
 kv 121 (.bin .eql (.t 120) (.c kz)),
 km 122 121,
 kG 123 122 true (.mov (.t 5)),
 kG 124 122 true (.bin .eql (.t 123) (.c kz)),
 kv 125 (.pick (.t 122) (.t 124) (.c (.lit (.bool false)))),
 km 126 125,
 kG 127 126 true (.mov (.t 7)),
 kG 128 126 true (.bin .eql (.t 127) (.c kz)),
 kv 129 (.pick (.t 126) (.t 128) (.c (.lit (.bool false)))),
 km 130 129,
 kG 131 130 true (.mov (.t 9)),
 kG 132 130 true (.bin .eql (.t 131) (.c kz)),
 kv 133 (.pick (.t 130) (.t 132) (.c (.lit (.bool false)))),
 km 134 133,
 kG 135 134 true (.mov (.t 15)),
 kG 136 134 true (.bin .eql (.t 135) (.c kz)),
 kv 137 (.pick (.t 134) (.t 136) (.c (.lit (.bool false)))),
 km 138 137,
 kG 139 138 true (.mov (.t 10)),
 kv 140 (.pick (.t 138) (.t 139) (.c (.lit (.bool false)))),
 km 141 140,
 kG 142 141 true (.mov (.t 11)),
 ⟨(some 143), (some (141, true)), .o (.bsl 3 3 [kz, kz, kz] [(0, 1, (.c kz)), (1, 1, (.c (ki 2))), (2, 1, (.c (ki 3)))])⟩,
 ⟨(some 144), (some (141, true)), .o (.call (kF 21) [(.t 142), (.t 143)])⟩,
 kv 145 (.pick (.t 141) (.t 144) (.c (.lit (.bool false)))),
 km 146 145,
 kG 147 146 true (.mov (.t 12)),
 ⟨(some 148), (some (146, true)), .o (.bsl 3 3 [kz, kz, kz] [(0, 1, (.c (ki 5))), (1, 1, (.c (ki 1))), (2, 1, (.c (ki 5)))])⟩,
 ⟨(some 149), (some (146, true)), .o (.call (kF 21) [(.t 147), (.t 148)])⟩,
 kv 150 (.pick (.t 146) (.t 149) (.c (.lit (.bool false)))),
 km 151 150,
 kG 152 151 true (.mov (.t 13)),
 kG 153 151 true (.bin .eql (.t 152) (.c (ki 2))),
 kv 154 (.pick (.t 151) (.t 153) (.c (.lit (.bool false)))),
 km 155 154,
 kG 156 155 true (.mov (.t 14)),
 ⟨(some 157), (some (155, true)), .o (.bsl 3 2 [kz, kz] [(0, 1, (.c (ki 2))), (1, 1, (.c (ki 4)))])⟩,
 ⟨(some 158), (some (155, true)), .o (.call (kF 21) [(.t 156), (.t 157)])⟩,
 kv 159 (.pick (.t 155) (.t 158) (.c (.lit (.bool false)))),
 km 0 159]
 .ret))))))))))))
theorem h24 : FdOk Try.prog 24 ⟨g24, [.t 0], 160, [], false⟩ := .of Try.func24 (by simp [Try.f24]) (by kernel_rfl)
def g25 : RC :=
 (sr [ko 3 (.box 36 (.t 0)),
 kv 6 (.mov (.c (.lit (.bool false)))),
 kv 7 (.mov (.c kz))]
 (.seq (sr [kv 9 (.load (.t 3) (some 2)),
 km 10 1,
 kc 11 (kF 68) [(.t 9), (.t 10)],
 km 8 11]
 (sr [km 12 8,
 kv 13 (.bin .neq (.t 12) (.c kz))]
 (.cond (.t 13)
 (sr [km 14 8,
 kv 6 (.mov (.c (.lit (.bool false)))),
 km 7 14]
 .ret)
 .skip)))
 (sr [kv 15 (.load (.t 3) (some 2)),
 ko 16 (.bld [(.lit (.slice none 0 0)), kz] [(0, 2, (.t 15))]),
 km 17 2,
 kc 18 (kF 69) [(.t 16), (.t 17)],
 km 19 18,
 kG 20 19 true (.mov (.t 1)),
 kG 21 19 true (.mov (.t 2)),
 ⟨(some 22), (some (19, true)), .o (.call (kF 70) [(.t 20), (.t 21)])⟩,
 kv 23 (.pick (.t 19) (.t 22) (.c (.lit (.bool false)))),
 km 6 23,
 kv 7 (.mov (.c kz))]
 .ret)))
theorem h25 : FdOk Try.prog 25 ⟨g25, [.t 6, .t 7], 24, [], false⟩ := .of Try.func25 (by simp [Try.f25]) (by kernel_rfl)
def g27 : RC :=
 (sr [ko 2 (.box 36 (.t 0)),
 kv 4 (.mov (.c (.lit (.slice none 0 0)))),
 kv 5 (.mov (.c kz))]
 (.seq (sr [kv 10 (.load (.t 2) (some 2)),
 km 11 1,
 kc 12 (kF 68) [(.t 10), (.t 11)],
 km 6 12]
 (sr [km 13 6,
 kv 14 (.bin .neq (.t 13) (.c kz))]
 (.cond (.t 14)
 (sr [km 15 6,
 kv 4 (.mov (.c (.lit (.slice none 0 0)))),
 km 5 15]
 .ret)
 .skip)))
 (sr [kv 16 (.load (.t 2) (some 2)),
 ko 17 (.bld [(.lit (.slice none 0 0)), kz] [(0, 2, (.t 16))]),
 ko 7 (.new 93 [(.lit (.slice none 0 0)), kz]),
 ks 2 7 17]
 (sr [kv 19 (.load (.t 7) (some 2)),
 km 20 1,
 kc 21 (kF 73) [(.t 19), (.t 20)],
 km 18 21,
 kv 22 (.ext (.t 18) 0),
 kv 23 (.ext (.t 18) 1),
 ko 8 (.new 98 (List.replicate 72 kz)),
 ks 72 8 22,
 km 9 23]
 (.seq (sr [km 24 9,
 kv 25 (.not (.t 24))]
 (.cond (.t 25)
 (sr [kv 4 (.mov (.c (.lit (.slice none 0 0)))),
 kv 5 (.mov (.c (ki 4)))]
 .ret)
 .skip))
 (sr [kv 26 (.load (.t 7) (some 2)),
 kv 27 (.load (.t 8) (some 72)),
 kc 28 (kF 74) [(.t 26), (.t 27)],
 km 4 28,
 kv 5 (.mov (.c kz))]
 .ret))))))
theorem h27 : FdOk Try.prog 27 ⟨g27, [.t 4, .t 5], 29, [], false⟩ := .of Try.func27 (by simp [Try.f27]) (by kernel_rfl)
def g30 : RC :=
 (sr [ko 2 (.box 36 (.t 0)),
 kv 4 (.mov (.c (.lit (.slice none 0 0)))),
 kv 5 (.mov (.c kz))]
 (.seq (sr [kv 10 (.load (.t 2) (some 2)),
 km 11 1,
 kc 12 (kF 68) [(.t 10), (.t 11)],
 km 6 12]
 (sr [km 13 6,
 kv 14 (.bin .neq (.t 13) (.c kz))]
 (.cond (.t 14)
 (sr [km 15 6,
 kv 4 (.mov (.c (.lit (.slice none 0 0)))),
 km 5 15]
 .ret)
 .skip)))
 (sr [kv 16 (.load (.t 2) (some 2)),
 ko 17 (.bld [(.lit (.slice none 0 0)), kz] [(0, 2, (.t 16))]),
 ko 7 (.new 93 [(.lit (.slice none 0 0)), kz]),
 ks 2 7 17]
 (.seq (sr [kv 19 (.load (.t 7) (some 2)),
 km 20 1,
 kc 21 (kF 73) [(.t 19), (.t 20)],
 km 18 21,
 kv 22 (.ext (.t 18) 0),
 kv 23 (.ext (.t 18) 1),
 ko 8 (.new 98 (List.replicate 72 kz)),
 ks 72 8 22,
 km 9 23]
 (sr [km 24 9]
 (.cond (.t 24)
 (sr [kv 4 (.mov (.c (.lit (.slice none 0 0)))),
 kv 5 (.mov (.c (ki 4)))]
 .ret)
 .skip)))
 (sr [kv 25 (.load (.t 7) (some 2)),
 km 26 1,
 kc 27 (kF 78) [(.t 25), (.t 26)],
 km 4 27,
 kv 5 (.mov (.c kz))]
 .ret)))))
theorem h30 : FdOk Try.prog 30 ⟨g30, [.t 4, .t 5], 28, [], false⟩ := .of Try.func30 (by simp [Try.f30]) (by kernel_rfl)
def g32 : RC :=
 (sr [kv 4 (.mov (.c (.lit (.slice none 0 0)))),
 kv 5 (.mov (.c kz))]
 (.seq (sr [km 6 0,
 kc 7 (kF 79) [(.t 6)],
 kv 8 (.not (.t 7)),
 km 9 8,
 kG 10 9 false (.mov (.t 1)),
 kG 11 9 false (.mov (.t 0)),
 kG 12 9 false (.len (.t 11)),
 ⟨(some 13), (some (9, false)), .o (.call (kF 60) [(.t 10), (.c (ki 1)), (.t 12)])⟩,
 kG 14 9 false (.not (.t 13)),
 kv 15 (.pick (.t 9) (.c (.lit (.bool true))) (.t 14))]
 (.cond (.t 15)
 (sr [kv 4 (.mov (.c (.lit (.slice none 0 0)))),
 kv 5 (.mov (.c (ki 25)))]
 .ret)
 .skip))
 (sr [km 16 1,
 km 17 0,
 kc 18 (kF 80) [(.t 16), (.t 17)],
 km 4 18,
 kv 5 (.mov (.c kz))]
 .ret)))
theorem h32 : FdOk Try.prog 32 ⟨g32, [.t 4, .t 5], 19, [], false⟩ := .of Try.func32 (by simp [Try.f32]) (by kernel_rfl)
def g34 : RC :=
 (sr [kv 6 (.mov (.c kz)),
 kv 7 (.mov (.c kz))]
 (.seq (sr [km 10 0,
 kc 11 (kF 79) [(.t 10)],
 kv 12 (.not (.t 11)),
 km 13 12,
 kG 14 13 false (.mov (.t 1)),
 kG 15 13 false (.mov (.t 0)),
 kG 16 13 false (.len (.t 15)),
 ⟨(some 17), (some (13, false)), .o (.call (kF 60) [(.t 14), (.c (ki 1)), (.t 16)])⟩,
 kG 18 13 false (.not (.t 17)),
 kv 19 (.pick (.t 13) (.c (.lit (.bool true))) (.t 18))]
 (.cond (.t 19)
 (sr [kv 6 (.mov (.c kz)),
 kv 7 (.mov (.c (ki 25)))]
 .ret)
 .skip))
 (.seq (sr [km 20 2,
 kc 21 (kF 60) [(.t 20), (.c kz), (.c (ki 2000000))],
 kv 22 (.not (.t 21))]
 (.cond (.t 22)
 (sr [kv 6 (.mov (.c kz)),
 kv 7 (.mov (.c (ki 7)))]
 .ret)
 .skip))
 (sr [km 24 1,
 km 25 0,
 km 26 2,
 kc 27 (kF 83) [(.t 24), (.t 25), (.t 26)],
 km 23 27,
 kv 28 (.ext (.t 23) 0),
 kv 29 (.ext (.t 23) 1),
 km 8 28,
 km 9 29]
 (.seq (sr [km 30 9,
 kv 31 (.not (.t 30))]
 (.cond (.t 31)
 (sr [kv 6 (.mov (.c kz)),
 kv 7 (.mov (.c (ki 4)))]
 .ret)
 .skip))
 (sr [km 32 8,
 km 6 32,
 kv 7 (.mov (.c kz))]
 .ret))))))
theorem h34 : FdOk Try.prog 34 ⟨g34, [.t 6, .t 7], 33, [], false⟩ := .of Try.func34 (by simp [Try.f34]) (by kernel_rfl)
def g36 : RC :=
 (sr [kv 2 (.mov (.c (.lit (.slice none 0 0)))),
 kv 3 (.mov (.c kz))]
 (.seq (sr [km 6 0,
 kc 7 (kF 85) [(.t 6)],
 kv 8 (.not (.t 7))]
 (.cond (.t 8)
 (sr [kv 2 (.mov (.c (.lit (.slice none 0 0)))),
 kv 3 (.mov (.c (ki 25)))]
 .ret)
 .skip))
 (sr [kv 4 (.mov (.c (.lit (.slice none 0 0))))]
 (.seq (sr [km 9 0,
 kv 10 (.len (.t 9)),
 kv 11 (.mov (.c kz))]
 (.block 0 (.loop
 (sr [kv 12 (.bin .lss (.t 11) (.t 10))]
 (.seq (.cond (.t 12)
 .skip
 (.exit 0))
 (.seq (.block 1 (sr [km 13 11,
 km 5 13]
 (sr [km 14 0,
 km 15 5,
 kv 16 (.bin .add (.t 15) (.c (ki 1))),
 kc 17 (kF 86) [(.t 14), (.t 16)]]
 (.cond (.t 17)
 (.reg [km 18 4,
 km 19 5,
 kv 20 (.bin .add (.t 19) (.c (ki 1))),
 ko 21 (.bsl 3 1 [kz] [(0, 1, (.t 20))]),
 ko 22 (.app 3 1 8 (.t 18) (.t 21)),
 km 4 22])
 .skip))))
 (.reg [kv 23 (.bin .add (.t 11) (.c (ki 1))),
 km 11 23])))))))
 (sr [km 24 4,
 km 25 4,
 kv 26 (.len (.t 25)),
 km 27 4,
 kv 28 (.len (.t 27)),
 ko 29 (.slc (.t 24) none (some (.t 26)) (some (.t 28)) 1),
 km 2 29,
 kv 3 (.mov (.c kz))]
 .ret)))))
theorem h36 : FdOk Try.prog 36 ⟨g36, [.t 2, .t 3], 30, [], false⟩ := .of Try.func36 (by simp [Try.f36]) (by kernel_rfl)
def g45 : RC :=
 (sr [kv 4 (.mov (.c (.lit (.bool false))))]
 (sr [km 7 0,
 kv 8 (.len (.t 7)),
 km 9 1,
 kv 10 (.len (.t 9)),
 kv 11 (.bin .eql (.t 8) (.t 10)),
 km 5 11]
 (.seq (sr [kv 6 (.mov (.c kz))]
 (.block 0 (.loop
 (.seq (sr [km 12 5,
 km 13 12,
 kG 14 13 true (.mov (.t 6)),
 kG 15 13 true (.mov (.t 0)),
 kG 16 13 true (.len (.t 15)),
 kG 17 13 true (.bin .lss (.t 14) (.t 16)),
 kv 18 (.pick (.t 13) (.t 17) (.c (.lit (.bool false))))]
 (.cond (.t 18)
 .skip
 (.exit 0)))
 (.seq (.block 1 (.drw [⟨[], 0, 0, [(km 21 0, ku),
 (km 22 6, ku),
 (kv 23 (.ixa (.t 21) (.t 22) 1), ku),
 (kl 24 23, ku),
 (km 25 1, ku),
 (km 26 6, ku),
 (kv 27 (.ixa (.t 25) (.t 26) 1), ku),
 (kl 28 27, ku)],
 [],
 [kc 29 (kF 77) [(.t 24), (.t 28)],
 km 5 29], none⟩]))
 (.reg [km 19 6,
 kv 20 (.bin .add (.t 19) (.c (ki 1))),
 km 6 20]))))))
 (sr [km 30 5,
 km 4 30]
 .ret))))
theorem h45 : FdOk Try.prog 45 ⟨g45, [.t 4], 31, [], false⟩ := .of Try.func45 (by simp [Try.f45]) (by kernel_rfl)
def g51 : RC :=
 (sr [ko 4 (.new 63 [kz, kz])]
 (sr [km 5 0,
 km 6 1,
 ko 7 (.bld [kz, kz] [(0, 1, (.t 5)), (1, 1, (.t 6))]),
 ks 2 4 7]
 .ret))
theorem h51 : FdOk Try.prog 51 ⟨g51, [.c 4 (some 2)], 8, [], false⟩ := .of Try.func51 (by simp [Try.f51]) (by kernel_rfl)
def g52 : RC :=
 (sr [ko 0 (.new 24 [(.lit (.slice none 0 0)), kz, kz])]
 (sr [ko 1 (.bsl 3 4 [kz, kz, kz, kz] [(0, 1, (.c (ki 20))), (1, 1, (.c (ki 30))), (2, 1, (.c (ki 40))), (3, 1, (.c (ki 50)))]),
 ko 2 (.bld [(.lit (.slice none 0 0)), kz, kz] [(0, 1, (.t 1)), (1, 1, (.c (ki 1))), (2, 1, (.c (ki 4)))]),
 ks 3 0 2]
 .ret))
theorem h52 : FdOk Try.prog 52 ⟨g52, [.c 0 (some 3)], 3, [], false⟩ := .of Try.func52 (by simp [Try.f52]) (by kernel_rfl)
def g53 : RC :=
 (sr [ko 0 (.new 36 [(.lit (.slice none 0 0)), kz])]
 (sr [ko 1 (.bsl 3 2 [kz, kz] [(0, 1, (.c (ki 1))), (1, 1, (.c (ki 2)))]),
 ko 2 (.bld [(.lit (.slice none 0 0)), kz] [(0, 1, (.t 1)), (1, 1, (.c (ki 100)))]),
 ks 2 0 2]
 .ret))
theorem h53 : FdOk Try.prog 53 ⟨g53, [.c 0 (some 2)], 3, [], false⟩ := .of Try.func53 (by simp [Try.f53]) (by kernel_rfl)
def g54 : RC :=
 (sr [kv 2 (.mov (.c (.lit (.slice none 0 0))))]
 (sr [ko 3 (.bld [kz, kz, kz, kz, kz, kz] [(0, 1, (.c kz)), (1, 1, (.c (ki 1))), (2, 1, (.c (ki 1))), (3, 1, (.c (ki 1))), (4, 1, (.c (ki 10))), (5, 1, (.c (ki 2)))]),
 ko 4 (.bld [kz, kz, kz, kz, kz, kz] [(0, 1, (.c (ki 1))), (1, 1, (.c (ki 2))), (2, 1, (.c kz)), (3, 1, (.c (ki 1))), (4, 1, (.c (ki 5))), (5, 1, (.c (ki 1)))]),
 ko 5 (.bld [kz, kz, kz, kz, kz, kz] [(0, 1, (.c kz)), (1, 1, (.c (ki 1))), (4, 1, (.c (ki 20))), (5, 1, (.c (ki 5)))]),
 ko 6 (.bld [kz, kz, kz, kz, kz, kz] [(0, 1, (.c (ki 1))), (1, 1, (.c (ki 1))), (2, 1, (.c (ki 1))), (5, 1, (.c (ki 1)))]),
 ko 7 (.bsl 65 4 (List.replicate 24 kz) [(0, 6, (.t 3)), (6, 6, (.t 4)), (12, 6, (.t 5)), (18, 6, (.t 6))]),
 km 8 0,
 ko 9 (.slc (.t 7) none (some (.t 8)) none 6),
 km 2 9]
 .ret))
theorem h54 : FdOk Try.prog 54 ⟨g54, [.t 2], 10, [], false⟩ := .of Try.func54 (by simp [Try.f54]) (by kernel_rfl)
def g55 : RC :=
 (sr [ko 2 (.box 78 (.t 0)),
 kv 4 (.mov (.c (.lit (.bool false))))]
 (.seq (sr [km 7 1,
 kv 8 (.len (.t 7)),
 kv 9 (.bin .neq (.t 8) (.c (ki 2))),
 km 10 9,
 kG 11 10 true (.mov (.t 1)),
 kG 12 10 true (.len (.t 11)),
 kG 13 10 true (.bin .neq (.t 12) (.c (ki 4))),
 kv 14 (.pick (.t 10) (.t 13) (.c (.lit (.bool false))))]
 (.cond (.t 14)
 (sr [kv 4 (.mov (.c (.lit (.bool false))))]
 .ret)
 .skip))
 (.seq (sr [km 15 1,
 kv 16 (.len (.t 15)),
 kv 17 (.mov (.c kz))]
 (.block 0 (.loop
 (sr [kv 18 (.bin .lss (.t 17) (.t 16))]
 (.seq (.cond (.t 18)
 .skip
 (.exit 0))
 (.seq (.block 1 (sr [km 19 17,
 kv 20 (.ixa (.t 15) (.t 17) 1),
 kl 21 20,
 km 5 19,
 km 6 21]
 (sr [km 22 6,
 kf 23 2 0,
 kf 24 23 0,
 kl 25 24,
 kv 26 (.len (.t 25)),
 kv 27 (.bin .sub (.t 26) (.c (ki 1))),
 kc 28 (kF 60) [(.t 22), (.c kz), (.t 27)],
 kv 29 (.not (.t 28)),
 km 30 29,
 kG 31 30 false (.mov (.t 1)),
 kG 32 30 false (.mov (.t 5)),
 ⟨(some 33), (some (30, false)), .o (.slc (.t 31) none (some (.t 32)) none 1)⟩,
 kG 34 30 false (.mov (.t 6)),
 ⟨(some 35), (some (30, false)), .o (.call (kF 89) [(.t 33), (.t 34)])⟩,
 kv 36 (.pick (.t 30) (.c (.lit (.bool true))) (.t 35))]
 (.cond (.t 36)
 (sr [kv 4 (.mov (.c (.lit (.bool false))))]
 .ret)
 .skip))))
 (.reg [kv 37 (.bin .add (.t 17) (.c (ki 1))),
 km 17 37])))))))
 (sr [kv 4 (.mov (.c (.lit (.bool true))))]
 .ret))))
theorem h55 : FdOk Try.prog 55 ⟨g55, [.t 4], 38, [], false⟩ := .of Try.func55 (by simp [Try.f55]) (by kernel_rfl)
def g56 : RC :=
 (sr [ko 2 (.box 78 (.t 0)),
 kv 4 (.mov (.c kz)),
 kv 5 (.mov (.c kz))]
 (sr [kv 8 (.load (.t 2) (some 3)),
 km 9 1,
 kc 10 (kF 90) [(.t 8), (.t 9)],
 ko 6 (.new 87 [kz, kz]),
 ks 2 6 10]
 (sr [kf 11 2 0,
 kf 12 11 1,
 kl 13 12,
 kf 14 6 0,
 kl 15 14,
 kv 16 (.bin .mul (.t 13) (.t 15)),
 kf 17 2 0,
 kf 18 17 2,
 kl 19 18,
 kf 20 6 1,
 kl 21 20,
 kv 22 (.bin .mul (.t 19) (.t 21)),
 kc 23 (kF 91) [(.t 16), (.t 22)],
 ko 7 (.new 87 [kz, kz]),
 ks 2 7 23]
 (.seq (.drw [⟨[], 0, 0, [(kf 24 7 0, ku),
 (kl 25 24, ku),
 (kf 26 7 1, ku),
 (kl 27 26, ku),
 (km 4 25, ku)],
 [],
 [km 5 27], none⟩])
 .ret))))
theorem h56 : FdOk Try.prog 56 ⟨g56, [.t 4, .t 5], 28, [], false⟩ := .of Try.func56 (by simp [Try.f56]) (by kernel_rfl)
def g60 : RC :=
 (sr [kv 6 (.mov (.c (.lit (.bool false))))]
 (sr [km 7 1,
 km 8 0,
 kv 9 (.bin .leq (.t 7) (.t 8)),
 km 10 9,
 kG 11 10 true (.mov (.t 0)),
 kG 12 10 true (.mov (.t 2)),
 kG 13 10 true (.bin .leq (.t 11) (.t 12)),
 kv 14 (.pick (.t 10) (.t 13) (.c (.lit (.bool false)))),
 km 6 14]
 .ret))
theorem h60 : FdOk Try.prog 60 ⟨g60, [.t 6], 15, [], false⟩ := .of Try.func60 (by simp [Try.f60]) (by kernel_rfl)
def g61 : RC :=
 (sr [kv 4 (.mov (.c (.lit (.bool false))))]
 (sr [km 5 0,
 kc 6 (kF 60) [(.t 5), (.c (ki 1)), (.c (ki 1000))],
 km 7 6,
 kG 8 7 true (.mov (.t 1)),
 ⟨(some 9), (some (7, true)), .o (.call (kF 60) [(.t 8), (.c (ki 1)), (.c (ki 1000))])⟩,
 kv 10 (.pick (.t 7) (.t 9) (.c (.lit (.bool false)))),
 km 4 10]
 .ret))
theorem h61 : FdOk Try.prog 61 ⟨g61, [.t 4], 11, [], false⟩ := .of Try.func61 (by simp [Try.f61]) (by kernel_rfl)
def g62 : RC :=
 (sr [ko 3 (.box 24 (.t 0)),
 kv 6 (.mov (.c kz))]
 (.seq (sr [kv 8 (.load (.t 3) (some 3)),
 kc 9 (kF 17) [(.t 8)],
 km 7 9]
 (sr [km 10 7,
 kv 11 (.bin .neq (.t 10) (.c kz))]
 (.cond (.t 11)
 (sr [km 12 7,
 km 6 12]
 .ret)
 .skip)))
 (.seq (sr [km 13 1,
 km 14 2,
 kc 15 (kF 61) [(.t 13), (.t 14)],
 kv 16 (.not (.t 15))]
 (.cond (.t 16)
 (sr [kv 6 (.mov (.c (ki 21)))]
 .ret)
 .skip))
 (sr [kv 6 (.mov (.c kz))]
 .ret))))
theorem h62 : FdOk Try.prog 62 ⟨g62, [.t 6], 17, [], false⟩ := .of Try.func62 (by simp [Try.f62]) (by kernel_rfl)
def g63 : RC :=
 (sr [ko 2 (.box 78 (.t 0)),
 ko 3 (.box 87 (.t 1)),
 ko 4 (.new 22 [(.lit (.slice none 0 0))])]
 (.seq (sr [kv 6 (.load (.t 2) (some 3)),
 kc 7 (kF 92) [(.t 6)]]
 (.block 0 (.rng (.t 7) [8]
 (.reg [km 5 8])
 (.block 1 (.seq (.drw [⟨[], 0, 1, [(kv 9 (.load (.t 2) (some 3)), ku),
 (km 10 5, ku),
 (kc 11 (kF 90) [(.t 9), (.t 10)], .eff 0 []),
 (kv 12 (.load (.t 3) (some 2)), ku)],
 [],
 [kv 13 (.eqs [(some .i64), (some .i64)] false (.t 11) (.t 12))], none⟩])
 (.cond (.t 13)
 (sr [km 14 5,
 ks 1 4 14]
 .ret)
 .skip))))))
 (sr [⟨none, none, .o (.store 1 (.t 4) (.c (.lit (.slice none 0 0))))⟩]
 .ret)))
theorem h63 : FdOk Try.prog 63 ⟨g63, [.c 4 none], 15, [], false⟩ := .of Try.func63 (by simp [Try.f63]) (by kernel_rfl)
def g64 : RC :=
 (sr [ko 3 (.box 78 (.t 0)),
 ko 6 (.new 87 [kz, kz])]
 (sr [km 7 1,
 kf 8 3 0,
 kf 9 8 2,
 kl 10 9,
 kv 11 (.bin .mul (.t 7) (.t 10)),
 km 12 2,
 kf 13 3 0,
 kf 14 13 1,
 kl 15 14,
 kv 16 (.bin .mul (.t 12) (.t 15)),
 kc 17 (kF 91) [(.t 11), (.t 16)],
 ks 2 6 17]
 .ret))
theorem h64 : FdOk Try.prog 64 ⟨g64, [.c 6 (some 2)], 18, [], false⟩ := .of Try.func64 (by simp [Try.f64]) (by kernel_rfl)
def g67 : RC :=
 (sr [ko 2 (.box 78 (.t 0)),
 ko 3 (.box 87 (.t 1)),
 kv 4 (.mov (.c (.lit (.slice none 0 0))))]
 (sr [ko 5 (.new 120 [(.lit (.slice none 0 0))])]
 (sr [⟨(some 11), none, .mkm⟩,
 ko 6 (.new 121 [(.lit (.map none))]),
 ks 1 6 11]
 (.seq (sr [kv 12 (.load (.t 2) (some 3)),
 kc 13 (kF 92) [(.t 12)]]
 (.block 0 (.rng (.t 13) [14]
 (.reg [km 7 14])
 (.block 1 (sr [kv 15 (.load (.t 2) (some 3)),
 km 16 7,
 kc 17 (kF 90) [(.t 15), (.t 16)],
 ko 8 (.new 87 [kz, kz]),
 ks 2 8 17]
 (sr [kl 19 6,
 kv 20 (.load (.t 8) (some 2)),
 ⟨(some 21), none, .lku (.w [(some .i64), (some .i64)]) (.lit (.slice none 0 0)) true (.t 19) (.t 20)⟩,
 km 18 21,
 kv 22 (.ext (.t 18) 0),
 kv 23 (.ext (.t 18) 1),
 km 9 22,
 km 10 23]
 (sr [km 24 10,
 kv 25 (.not (.t 24))]
 (.cond (.t 25)
 (sr [kl 26 6,
 kv 27 (.load (.t 8) (some 2)),
 km 28 7,
 ⟨none, none, .upd (.w [(some .i64), (some .i64)]) (.t 26) (.t 27) (.t 28)⟩]
 (.reg [kl 29 5,
 kv 30 (.load (.t 8) (some 2)),
 ko 31 (.bsl 87 1 [kz, kz] [(0, 2, (.t 30))]),
 ko 32 (.app 87 2 16 (.t 29) (.t 31)),
 ks 1 5 32]))
 .skip))))))))
 (.seq (.drw [⟨[6, 3, 5], 0, 1, [(kl 33 6, ku),
 (kv 34 (.load (.t 3) (some 2)), ku),
 (kv 35 (.mkmv 95 [(.t 34)] []), ku),
 (kl 36 5, ku),
 (kv 37 (.ixa (.t 36) (.c kz) 2), ku),
 (kv 38 (.load (.t 37) (some 2)), ku),
 (kl 39 5, ku),
 (ko 40 (.slc (.t 39) (some (.c (ki 1))) none none 2), ku),
 (kc 41 (kF 94) [(.t 35), (.t 38), (.t 40)], .eff 0 [])],
 [],
 [⟨(some 42), none, .lku (.w [(some .i64), (some .i64)]) (.lit (.slice none 0 0)) false (.t 33) (.t 41)⟩,
 km 4 42], none⟩])
 .ret)))))
theorem h67 : FdOk Try.prog 67 ⟨g67, [.t 4], 43, [], false⟩ := .of Try.func67 (by simp [Try.f67]) (by kernel_rfl)
def g68 : RC :=
 (sr [ko 2 (.box 36 (.t 0)),
 kv 4 (.mov (.c kz))]
 (sr [kv 6 (.load (.t 2) (some 2)),
 ko 7 (.bld [(.lit (.slice none 0 0)), kz] [(0, 2, (.t 6))]),
 ko 5 (.new 93 [(.lit (.slice none 0 0)), kz]),
 ks 2 5 7]
 (.seq (sr [kv 8 (.load (.t 5) (some 2)),
 kc 9 (kF 96) [(.t 8)],
 kv 10 (.not (.t 9))]
 (.cond (.t 10)
 (sr [kv 4 (.mov (.c (ki 23)))]
 .ret)
 .skip))
 (.seq (sr [kv 11 (.load (.t 5) (some 2)),
 km 12 1,
 kc 13 (kF 97) [(.t 11), (.t 12)],
 kv 14 (.not (.t 13))]
 (.cond (.t 14)
 (sr [kv 4 (.mov (.c (ki 24)))]
 .ret)
 .skip))
 (sr [kv 4 (.mov (.c kz))]
 .ret)))))
theorem h68 : FdOk Try.prog 68 ⟨g68, [.t 4], 15, [], false⟩ := .of Try.func68 (by simp [Try.f68]) (by kernel_rfl)
def g69 : RC :=
 (sr [ko 2 (.box 93 (.t 0)),
 kv 4 (.mov (.c (.lit (.bool false))))]
 (.seq (sr [km 9 1,
 kv 10 (.len (.t 9)),
 kf 11 2 0,
 kf 12 11 0,
 kl 13 12,
 kv 14 (.len (.t 13)),
 kv 15 (.bin .neq (.t 10) (.t 14))]
 (.cond (.t 15)
 (sr [kv 4 (.mov (.c (.lit (.bool false))))]
 .ret)
 .skip))
 (.seq (sr [km 16 1,
 kv 17 (.len (.t 16)),
 kv 18 (.mov (.c kz))]
 (.block 0 (.loop
 (sr [kv 19 (.bin .lss (.t 18) (.t 17))]
 (.seq (.cond (.t 19)
 .skip
 (.exit 0))
 (.seq (.block 1 (sr [km 20 18,
 kv 21 (.ixa (.t 16) (.t 18) 1),
 kl 22 21,
 km 5 20,
 km 6 22]
 (.seq (sr [km 23 6,
 kv 24 (.len (.t 23)),
 kf 25 2 0,
 kf 26 25 0,
 kl 27 26,
 km 28 5,
 kv 29 (.ixa (.t 27) (.t 28) 1),
 kl 30 29,
 kv 31 (.bin .add (.t 30) (.c (ki 1))),
 kv 32 (.bin .neq (.t 24) (.t 31)),
 km 33 32,
 kG 34 33 false (.mov (.t 6)),
 kG 35 33 false (.ixa (.t 34) (.c kz) 1),
 kG 36 33 false (.load (.t 35) none),
 kG 37 33 false (.bin .neq (.t 36) (.c kz)),
 kv 38 (.pick (.t 33) (.c (.lit (.bool true))) (.t 37))]
 (.cond (.t 38)
 (sr [kv 4 (.mov (.c (.lit (.bool false))))]
 .ret)
 .skip))
 (sr [km 39 6,
 kv 40 (.len (.t 39)),
 kv 41 (.mov (.c kz))]
 (.block 2 (.loop
 (sr [kv 42 (.bin .lss (.t 41) (.t 40))]
 (.seq (.cond (.t 42)
 .skip
 (.exit 2))
 (.seq (.block 3 (sr [kv 43 (.ixa (.t 39) (.t 41) 1),
 kl 44 43,
 km 8 44]
 (sr [km 45 8,
 kf 46 2 0,
 kf 47 46 1,
 kl 48 47,
 kv 49 (.neg (.t 48)),
 kf 50 2 0,
 kf 51 50 1,
 kl 52 51,
 kc 53 (kF 60) [(.t 45), (.t 49), (.t 52)],
 kv 54 (.not (.t 53))]
 (.cond (.t 54)
 (sr [kv 4 (.mov (.c (.lit (.bool false))))]
 .ret)
 .skip))))
 (.reg [kv 55 (.bin .add (.t 41) (.c (ki 1))),
 km 41 55]))))))))))
 (.reg [kv 56 (.bin .add (.t 18) (.c (ki 1))),
 km 18 56])))))))
 (sr [kv 4 (.mov (.c (.lit (.bool true))))]
 .ret))))
theorem h69 : FdOk Try.prog 69 ⟨g69, [.t 4], 57, [], false⟩ := .of Try.func69 (by simp [Try.f69]) (by kernel_rfl)
def g70 : RC :=
 (sr [kv 4 (.mov (.c (.lit (.bool false))))]
 (.seq (sr [km 7 0,
 kv 8 (.len (.t 7)),
 kv 9 (.mov (.c kz))]
 (.block 0 (.loop
 (sr [kv 10 (.bin .lss (.t 9) (.t 8))]
 (.seq (.cond (.t 10)
 .skip
 (.exit 0))
 (.seq (.block 1 (sr [kv 11 (.ixa (.t 7) (.t 9) 6),
 kv 12 (.load (.t 11) (some 6)),
 ko 6 (.new 65 [kz, kz, kz, kz, kz, kz]),
 ks 6 6 12]
 (.seq (.drw [⟨[], 0, 0, [(km 13 1, ku),
 (kf 14 6 0, ku),
 (kl 15 14, ku),
 (kv 16 (.ixa (.t 13) (.t 15) 1), ku),
 (kl 17 16, ku),
 (kf 18 6 1, ku),
 (kl 19 18, ku),
 (kv 20 (.ixa (.t 17) (.t 19) 1), ku),
 (kl 21 20, ku),
 (km 22 1, ku),
 (kf 23 6 2, ku),
 (kl 24 23, ku),
 (kv 25 (.ixa (.t 22) (.t 24) 1), ku),
 (kl 26 25, ku),
 (kf 27 6 3, ku),
 (kl 28 27, ku),
 (kv 29 (.ixa (.t 26) (.t 28) 1), ku),
 (kl 30 29, ku),
 (kv 31 (.bin .sub (.t 21) (.t 30)), ku),
 (kf 32 6 4, ku),
 (kl 33 32, ku),
 (kv 34 (.bin .sub (.t 31) (.t 33)), ku),
 (kf 35 6 5, ku),
 (kl 36 35, ku),
 (kv 37 (.neg (.t 36)), ku),
 (kf 38 6 5, ku),
 (kl 39 38, ku)],
 [],
 [kc 40 (kF 60) [(.t 34), (.t 37), (.t 39)],
 kv 41 (.not (.t 40))], none⟩])
 (.cond (.t 41)
 (sr [kv 4 (.mov (.c (.lit (.bool false))))]
 .ret)
 .skip))))
 (.reg [kv 42 (.bin .add (.t 9) (.c (ki 1))),
 km 9 42])))))))
 (sr [kv 4 (.mov (.c (.lit (.bool true))))]
 .ret)))
theorem h70 : FdOk Try.prog 70 ⟨g70, [.t 4], 43, [], false⟩ := .of Try.func70 (by simp [Try.f70]) (by kernel_rfl)
def g73 : RC :=
 (sr [ko 2 (.box 93 (.t 0)),
 ko 4 (.new 98 (List.replicate 72 kz)),
 kv 5 (.mov (.c (.lit (.bool false))))]
 (.scp (sr [kv 9 (.load (.t 2) (some 2)),
 kc 10 (kF 98) [(.t 9)],
 ks 72 4 10]
 (.seq .skip
 (.seq (sr [kv 11 (.mov (.c kz))]
 (.block 0 (.loop
 (sr [kv 12 (.bin .lss (.t 11) (.c (ki 36)))]
 (.seq (.cond (.t 12)
 .skip
 (.exit 0))
 (.seq (.block 1 (sr [kv 13 (.load (.t 4) (some 72)),
 ko 6 (.new 98 (List.replicate 72 kz)),
 ks 72 6 13]
 (.seq (sr [km 14 1,
 kv 15 (.len (.t 14)),
 kv 16 (.mov (.c kz))]
 (.block 2 (.loop
 (sr [kv 17 (.bin .lss (.t 16) (.t 15))]
 (.seq (.cond (.t 17)
 .skip
 (.exit 2))
 (.seq (.block 3 (sr [kv 18 (.ixa (.t 14) (.t 16) 6),
 kv 19 (.load (.t 18) (some 6)),
 ko 8 (.new 65 [kz, kz, kz, kz, kz, kz]),
 ks 6 8 19]
 (sr [kv 20 (.load (.t 8) (some 6)),
 kc 21 (kF 99) [(.t 4), (.t 20)],
 kv 22 (.not (.t 21))]
 (.cond (.t 22)
 (.exit 0)
 .skip))))
 (.reg [kv 23 (.bin .add (.t 16) (.c (ki 1))),
 km 16 23])))))))
 (sr [kv 24 (.load (.t 4) (some 72)),
 kv 25 (.load (.t 6) (some 72)),
 kv 26 (.eqs (List.replicate 72 (some .i64)) false (.t 24) (.t 25))]
 (.cond (.t 26)
 (sr [kv 27 (.load (.t 4) (some 72)),
 ks 72 4 27,
 kv 5 (.mov (.c (.lit (.bool true))))]
 .ret)
 .skip)))))
 (.reg [kv 28 (.bin .add (.t 11) (.c (ki 1))),
 km 11 28])))))))
 (sr [ko 29 (.bld (List.replicate 72 kz) []),
 ks 72 4 29,
 kv 5 (.mov (.c (.lit (.bool false))))]
 .ret))))))
theorem h73 : FdOk Try.prog 73 ⟨g73, [.c 4 (some 72), .t 5], 30, [], false⟩ := .of Try.func73 (by simp [Try.f73]) (by kernel_rfl)
def g74 : RC :=
 (sr [ko 2 (.box 93 (.t 0)),
 ko 3 (.box 98 (.t 1)),
 kv 4 (.mov (.c (.lit (.slice none 0 0))))]
 (sr [kv 5 (.mov (.c (.lit (.slice none 0 0))))]
 (.seq (sr [kf 10 2 0,
 kf 11 10 0,
 kl 12 11,
 kv 13 (.len (.t 12)),
 kv 14 (.mov (.c kz))]
 (.block 0 (.loop
 (sr [kv 15 (.bin .lss (.t 14) (.t 13))]
 (.seq (.cond (.t 15)
 .skip
 (.exit 0))
 (.seq (.block 1 (sr [km 16 14,
 kv 17 (.ixa (.t 12) (.t 14) 1),
 kl 18 17,
 km 6 16,
 km 7 18]
 (sr [kv 8 (.mov (.c (.lit (.slice none 0 0))))]
 (.seq (sr [km 19 7,
 kv 20 (.bin .add (.t 19) (.c (ki 1))),
 kv 21 (.mov (.c kz))]
 (.block 2 (.loop
 (sr [kv 22 (.bin .lss (.t 21) (.t 20))]
 (.seq (.cond (.t 22)
 .skip
 (.exit 2))
 (.seq (.block 3 (sr [km 23 21,
 km 9 23]
 (.reg [km 24 8,
 km 25 6,
 km 26 9,
 kc 27 (kF 100) [(.t 25), (.t 26)],
 kv 28 (.ixarr (.t 3) (.t 27) 36 2),
 kv 29 (.load (.t 28) (some 2)),
 ko 30 (.bsl 63 1 [kz, kz] [(0, 2, (.t 29))]),
 ko 31 (.app 63 2 16 (.t 24) (.t 30)),
 km 8 31])))
 (.reg [kv 32 (.bin .add (.t 21) (.c (ki 1))),
 km 21 32])))))))
 (.reg [km 33 5,
 km 34 8,
 km 35 8,
 kv 36 (.len (.t 35)),
 km 37 8,
 kv 38 (.len (.t 37)),
 ko 39 (.slc (.t 34) none (some (.t 36)) (some (.t 38)) 2),
 ko 40 (.bsl 51 1 [(.lit (.slice none 0 0))] [(0, 1, (.t 39))]),
 ko 41 (.app 51 1 24 (.t 33) (.t 40)),
 km 5 41])))))
 (.reg [kv 42 (.bin .add (.t 14) (.c (ki 1))),
 km 14 42])))))))
 (sr [km 43 5,
 km 44 5,
 kv 45 (.len (.t 44)),
 km 46 5,
 kv 47 (.len (.t 46)),
 ko 48 (.slc (.t 43) none (some (.t 45)) (some (.t 47)) 1),
 km 4 48]
 .ret))))
theorem h74 : FdOk Try.prog 74 ⟨g74, [.t 4], 49, [], false⟩ := .of Try.func74 (by simp [Try.f74]) (by kernel_rfl)
def g77 : RC :=
 (sr [kv 4 (.mov (.c (.lit (.bool false))))]
 (.seq (sr [km 6 0,
 kv 7 (.len (.t 6)),
 km 8 1,
 kv 9 (.len (.t 8)),
 kv 10 (.bin .neq (.t 7) (.t 9))]
 (.cond (.t 10)
 (sr [kv 4 (.mov (.c (.lit (.bool false))))]
 .ret)
 .skip))
 (.seq (sr [kv 5 (.mov (.c kz))]
 (.block 0 (.loop
 (.seq (sr [km 11 5,
 km 12 0,
 kv 13 (.len (.t 12)),
 kv 14 (.bin .lss (.t 11) (.t 13))]
 (.cond (.t 14)
 .skip
 (.exit 0)))
 (.seq (.block 1 (.seq (.drw [⟨[], 0, 0, [(km 17 0, ku),
 (km 18 5, ku),
 (kv 19 (.ixa (.t 17) (.t 18) 2), ku),
 (kv 20 (.load (.t 19) (some 2)), ku),
 (km 21 1, ku),
 (km 22 5, ku),
 (kv 23 (.ixa (.t 21) (.t 22) 2), ku),
 (kv 24 (.load (.t 23) (some 2)), ku)],
 [],
 [kv 25 (.eqs [(some .i64), (some .i64)] true (.t 20) (.t 24))], none⟩])
 (.cond (.t 25)
 (sr [kv 4 (.mov (.c (.lit (.bool false))))]
 .ret)
 .skip)))
 (.reg [km 15 5,
 kv 16 (.bin .add (.t 15) (.c (ki 1))),
 km 5 16]))))))
 (sr [kv 4 (.mov (.c (.lit (.bool true))))]
 .ret))))
theorem h77 : FdOk Try.prog 77 ⟨g77, [.t 4], 26, [], false⟩ := .of Try.func77 (by simp [Try.f77]) (by kernel_rfl)
def g78 : RC :=
 (sr [ko 2 (.box 93 (.t 0)),
 ko 3 (.box 37 (.t 1)),
 kv 4 (.mov (.c (.lit (.slice none 0 0))))]
 (sr [kv 8 (.mkfn 101 [(.t 2), (.t 3)]),
 km 5 8]
 (sr [kv 6 (.mov (.c (.lit (.slice none 0 0))))]
 (.seq (sr [kl 9 3,
 kv 10 (.len (.t 9)),
 kv 11 (.mov (.c kz))]
 (.block 0 (.loop
 (sr [kv 12 (.bin .lss (.t 11) (.t 10))]
 (.seq (.cond (.t 12)
 .skip
 (.exit 0))
 (.seq (.block 1 (sr [km 13 11,
 km 7 13]
 (sr [km 14 5,
 km 15 7,
 kc 16 (.t 14) [(.t 15)]]
 (.cond (.t 16)
 (.reg [km 17 6,
 km 18 7,
 ko 19 (.bsl 3 1 [kz] [(0, 1, (.t 18))]),
 ko 20 (.app 3 1 8 (.t 17) (.t 19)),
 km 6 20])
 .skip))))
 (.reg [kv 21 (.bin .add (.t 11) (.c (ki 1))),
 km 11 21])))))))
 (sr [km 22 6,
 km 23 6,
 kv 24 (.len (.t 23)),
 km 25 6,
 kv 26 (.len (.t 25)),
 ko 27 (.slc (.t 22) none (some (.t 24)) (some (.t 26)) 1),
 km 4 27]
 .ret)))))
theorem h78 : FdOk Try.prog 78 ⟨g78, [.t 4], 28, [], false⟩ := .of Try.func78 (by simp [Try.f78]) (by kernel_rfl)
def g79 : RC :=
 (sr [kv 2 (.mov (.c (.lit (.bool false))))]
 (.seq (sr [km 5 0,
 kv 6 (.len (.t 5)),
 kc 7 (kF 60) [(.t 6), (.c (ki 1)), (.c (ki 64))],
 kv 8 (.not (.t 7))]
 (.cond (.t 8)
 (sr [kv 2 (.mov (.c (.lit (.bool false))))]
 .ret)
 .skip))
 (.seq (sr [km 9 0,
 kv 10 (.len (.t 9)),
 kv 11 (.mov (.c kz))]
 (.block 0 (.loop
 (sr [kv 12 (.bin .lss (.t 11) (.t 10))]
 (.seq (.cond (.t 12)
 .skip
 (.exit 0))
 (.seq (.block 1 (sr [kv 13 (.ixa (.t 9) (.t 11) 1),
 kl 14 13,
 km 4 14]
 (sr [km 15 4,
 kc 16 (kF 60) [(.t 15), (.c (ki (-1000000))), (.c (ki 1000000))],
 kv 17 (.not (.t 16))]
 (.cond (.t 17)
 (sr [kv 2 (.mov (.c (.lit (.bool false))))]
 .ret)
 .skip))))
 (.reg [kv 18 (.bin .add (.t 11) (.c (ki 1))),
 km 11 18])))))))
 (sr [kv 2 (.mov (.c (.lit (.bool true))))]
 .ret))))
theorem h79 : FdOk Try.prog 79 ⟨g79, [.t 2], 19, [], false⟩ := .of Try.func79 (by simp [Try.f79]) (by kernel_rfl)
def g80 : RC :=
 (sr [kv 4 (.mov (.c (.lit (.slice none 0 0))))]
 (sr [kv 5 (.mov (.c (.lit (.slice none 0 0))))]
 (.seq (sr [km 8 1,
 kv 9 (.len (.t 8)),
 km 10 0,
 kv 11 (.bin .sub (.t 9) (.t 10)),
 kv 12 (.bin .add (.t 11) (.c (ki 1))),
 kv 13 (.mov (.c kz))]
 (.block 0 (.loop
 (sr [kv 14 (.bin .lss (.t 13) (.t 12))]
 (.seq (.cond (.t 14)
 .skip
 (.exit 0))
 (.seq (.block 1 (sr [km 15 13,
 km 6 15]
 (sr [km 16 6,
 km 17 0,
 kv 18 (.bin .add (.t 16) (.t 17)),
 km 7 18]
 (.reg [km 19 5,
 km 20 1,
 km 21 6,
 km 22 7,
 km 23 7,
 ko 24 (.slc (.t 20) (some (.t 21)) (some (.t 22)) (some (.t 23)) 1),
 kc 25 (kF 102) [(.t 24)],
 ko 26 (.bsl 3 1 [kz] [(0, 1, (.t 25))]),
 ko 27 (.app 3 1 8 (.t 19) (.t 26)),
 km 5 27]))))
 (.reg [kv 28 (.bin .add (.t 13) (.c (ki 1))),
 km 13 28])))))))
 (sr [km 29 5,
 km 30 5,
 kv 31 (.len (.t 30)),
 km 32 5,
 kv 33 (.len (.t 32)),
 ko 34 (.slc (.t 29) none (some (.t 31)) (some (.t 33)) 1),
 km 4 34]
 .ret))))
theorem h80 : FdOk Try.prog 80 ⟨g80, [.t 4], 35, [], false⟩ := .of Try.func80 (by simp [Try.f80]) (by kernel_rfl)
def g83 : RC :=
 (sr [kv 6 (.mov (.c kz)),
 kv 7 (.mov (.c (.lit (.bool false))))]
 (sr [km 10 0,
 kv 11 (.mkmv 80 [(.t 10)] []),
 km 8 11]
 (.seq (sr [kv 12 (.mov (.c kz))]
 (.block 0 (.loop
 (sr [kv 13 (.bin .lss (.t 12) (.c (ki 5)))]
 (.seq (.cond (.t 13)
 .skip
 (.exit 0))
 (.seq (.block 1 (sr [km 14 12,
 km 9 14]
 (.seq (sr [km 15 1,
 kc 16 (kF 103) [(.t 15)],
 km 17 2,
 kv 18 (.bin .leq (.t 16) (.t 17))]
 (.cond (.t 18)
 (sr [km 19 9,
 km 6 19,
 kv 7 (.mov (.c (.lit (.bool true))))]
 .ret)
 .skip))
 (.seq (sr [km 20 1,
 kv 21 (.len (.t 20)),
 km 22 0,
 kv 23 (.bin .lss (.t 21) (.t 22))]
 (.cond (.t 23)
 (.exit 0)
 .skip))
 (sr [km 24 8,
 km 25 1,
 kc 26 (.t 24) [(.t 25)],
 km 1 26]
 (.reg [km 27 2,
 km 28 0,
 kv 29 (.bin .mul (.t 27) (.t 28)),
 km 2 29]))))))
 (.reg [kv 30 (.bin .add (.t 12) (.c (ki 1))),
 km 12 30])))))))
 (sr [kv 6 (.mov (.c kz)),
 kv 7 (.mov (.c (.lit (.bool false))))]
 .ret))))
theorem h83 : FdOk Try.prog 83 ⟨g83, [.t 6, .t 7], 31, [], false⟩ := .of Try.func83 (by simp [Try.f83]) (by kernel_rfl)
def g85 : RC :=
 (sr [kv 2 (.mov (.c (.lit (.bool false))))]
 (.seq (sr [km 5 0,
 kv 6 (.len (.t 5)),
 kc 7 (kF 60) [(.t 6), (.c (ki 1)), (.c (ki 64))],
 kv 8 (.not (.t 7))]
 (.cond (.t 8)
 (sr [kv 2 (.mov (.c (.lit (.bool false))))]
 .ret)
 .skip))
 (.seq (sr [km 9 0,
 kv 10 (.len (.t 9)),
 kv 11 (.mov (.c kz))]
 (.block 0 (.loop
 (sr [kv 12 (.bin .lss (.t 11) (.t 10))]
 (.seq (.cond (.t 12)
 .skip
 (.exit 0))
 (.seq (.block 1 (sr [kv 13 (.ixa (.t 9) (.t 11) 2),
 kv 14 (.load (.t 13) (some 2)),
 ko 4 (.new 63 [kz, kz]),
 ks 2 4 14]
 (sr [kf 15 4 0,
 kl 16 15,
 kf 17 4 1,
 kl 18 17,
 kv 19 (.bin .gtr (.t 16) (.t 18)),
 km 20 19,
 kG 21 20 false (.off (.t 4) 0),
 kG 22 20 false (.load (.t 21) none),
 kG 23 20 false (.bin .lss (.t 22) (.c (ki (-1000000)))),
 kv 24 (.pick (.t 20) (.c (.lit (.bool true))) (.t 23)),
 km 25 24,
 kG 26 25 false (.off (.t 4) 1),
 kG 27 25 false (.load (.t 26) none),
 kG 28 25 false (.bin .gtr (.t 27) (.c (ki 1000000))),
 kv 29 (.pick (.t 25) (.c (.lit (.bool true))) (.t 28))]
 (.cond (.t 29)
 (sr [kv 2 (.mov (.c (.lit (.bool false))))]
 .ret)
 .skip))))
 (.reg [kv 30 (.bin .add (.t 11) (.c (ki 1))),
 km 11 30])))))))
 (sr [kv 2 (.mov (.c (.lit (.bool true))))]
 .ret))))
theorem h85 : FdOk Try.prog 85 ⟨g85, [.t 2], 31, [], false⟩ := .of Try.func85 (by simp [Try.f85]) (by kernel_rfl)
def g86 : RC :=
 (sr [kv 4 (.mov (.c (.lit (.bool false))))]
 (.seq (sr [km 8 1,
 kv 9 (.mov (.c kz))]
 (.block 0 (.loop
 (sr [kv 10 (.bin .lss (.t 9) (.t 8))]
 (.seq (.cond (.t 10)
 .skip
 (.exit 0))
 (.seq (.block 1 (sr [km 11 9,
 km 5 11]
 (sr [km 12 0,
 km 13 5,
 kv 14 (.ixa (.t 12) (.t 13) 2),
 kv 15 (.load (.t 14) (some 2)),
 ko 6 (.new 63 [kz, kz]),
 ks 2 6 15]
 (.seq (sr [km 16 5,
 km 7 16]
 (.block 2 (.loop
 (.seq (sr [km 17 7,
 km 18 0,
 kv 19 (.len (.t 18)),
 kv 20 (.bin .lss (.t 17) (.t 19))]
 (.cond (.t 20)
 .skip
 (.exit 2)))
 (.seq (.block 3 (.seq (.drw [⟨[], 1, 0, [(kf 24 6 0, ku),
 (kl 25 24, ku),
 (km 26 0, ku),
 (km 27 7, ku),
 (kv 28 (.ixa (.t 26) (.t 27) 2), ku),
 (kf 29 28 0, ku),
 (kl 30 29, ku),
 (ko 31 (.bsl 3 1 [kz] [(0, 1, (.t 30))]), .cre 0)],
 [0],
 [kc 32 (kF 104) [(.t 25), (.t 31)],
 kf 33 6 0,
 ks 1 33 32], none⟩])
 (.drw [⟨[], 1, 0, [(kf 34 6 1, ku),
 (kl 35 34, ku),
 (km 36 0, ku),
 (km 37 7, ku),
 (kv 38 (.ixa (.t 36) (.t 37) 2), ku),
 (kf 39 38 1, ku),
 (kl 40 39, ku),
 (ko 41 (.bsl 3 1 [kz] [(0, 1, (.t 40))]), .cre 0)],
 [0],
 [kc 42 (kF 105) [(.t 35), (.t 41)],
 kf 43 6 1,
 ks 1 43 42], none⟩])))
 (.reg [km 21 7,
 km 22 1,
 kv 23 (.bin .add (.t 21) (.t 22)),
 km 7 23]))))))
 (sr [kf 44 6 0,
 kl 45 44,
 kf 46 6 1,
 kl 47 46,
 kv 48 (.bin .gtr (.t 45) (.t 47))]
 (.cond (.t 48)
 (sr [kv 4 (.mov (.c (.lit (.bool false))))]
 .ret)
 .skip))))))
 (.reg [kv 49 (.bin .add (.t 9) (.c (ki 1))),
 km 9 49])))))))
 (sr [kv 4 (.mov (.c (.lit (.bool true))))]
 .ret)))
theorem h86 : FdOk Try.prog 86 ⟨g86, [.t 4], 50, [], false⟩ := .of Try.func86 (by simp [Try.f86]) (by kernel_rfl)
def g89 : RC :=
 (sr [kv 4 (.mov (.c (.lit (.bool false))))]
 (sr [km 5 0,
 km 6 1,
 kc 7 (kF 106) [(.t 5), (.t 6)],
 kv 8 (.bin .geq (.t 7) (.c kz)),
 km 4 8]
 .ret))
theorem h89 : FdOk Try.prog 89 ⟨g89, [.t 4], 9, [], false⟩ := .of Try.func89 (by simp [Try.f89]) (by kernel_rfl)
def g90 : RC :=
 (sr [ko 2 (.box 78 (.t 0)),
 ko 4 (.new 87 [kz, kz])]
 (sr [ko 8 (.bld [kz, kz] [(0, 1, (.c (ki 1))), (1, 1, (.c (ki 1)))]),
 ko 5 (.new 25 [kz, kz]),
 ks 2 5 8]
 (.seq (sr [km 9 1,
 kv 10 (.len (.t 9)),
 kv 11 (.mov (.c kz))]
 (.block 0 (.loop
 (sr [kv 12 (.bin .lss (.t 11) (.t 10))]
 (.seq (.cond (.t 12)
 .skip
 (.exit 0))
 (.seq (.block 1 (sr [km 13 11,
 kv 14 (.ixa (.t 9) (.t 11) 1),
 kl 15 14,
 km 6 13,
 km 7 15]
 (.drw [⟨[], 0, 0, [(km 16 6, ku),
 (kv 17 (.bin .rem (.t 16) (.c (ki 2))), ku),
 (kv 18 (.ixarr (.t 5) (.t 17) 2 1), ku),
 (kl 19 18, ku),
 (kf 20 2 0, ku),
 (kf 21 20 0, ku),
 (kl 22 21, ku),
 (km 23 7, ku),
 (kv 24 (.ixa (.t 22) (.t 23) 1), ku),
 (kl 25 24, ku)],
 [],
 [kv 26 (.bin .mul (.t 19) (.t 25)),
 kv 27 (.ixarr (.t 5) (.t 17) 2 1),
 ks 1 27 26], none⟩])))
 (.reg [kv 28 (.bin .add (.t 11) (.c (ki 1))),
 km 11 28])))))))
 (sr [kv 29 (.ixarr (.t 5) (.c kz) 2 1),
 kl 30 29,
 kv 31 (.ixarr (.t 5) (.c (ki 1)) 2 1),
 kl 32 31,
 kc 33 (kF 91) [(.t 30), (.t 32)],
 ks 2 4 33]
 .ret))))
theorem h90 : FdOk Try.prog 90 ⟨g90, [.c 4 (some 2)], 34, [], false⟩ := .of Try.func90 (by simp [Try.f90]) (by kernel_rfl)
def g91 : RC :=
 (sr [ko 4 (.new 87 [kz, kz])]
 (sr [km 7 0,
 km 8 1,
 km 5 7,
 km 6 8]
 (.seq (.block 0 (.loop
 (.seq (sr [km 9 6,
 kv 10 (.bin .neq (.t 9) (.c kz))]
 (.cond (.t 10)
 .skip
 (.exit 0)))
 (.block 1 (.drw [⟨[], 0, 0, [(km 11 6, ku),
 (km 12 5, ku),
 (km 13 6, ku),
 (kv 14 (.bin .rem (.t 12) (.t 13)), ku),
 (km 5 11, ku)],
 [],
 [km 6 14], none⟩])))))
 (.seq (.drw [⟨[], 0, 0, [(km 15 0, ku),
 (km 16 5, ku),
 (kv 17 (.bin .quo (.t 15) (.t 16)), ku),
 (km 18 1, ku),
 (km 19 5, ku),
 (kv 20 (.bin .quo (.t 18) (.t 19)), ku)],
 [],
 [ko 21 (.bld [kz, kz] [(0, 1, (.t 17)), (1, 1, (.t 20))]),
 ks 2 4 21], none⟩])
 .ret))))
theorem h91 : FdOk Try.prog 91 ⟨g91, [.c 4 (some 2)], 22, [], false⟩ := .of Try.func91 (by simp [Try.f91]) (by kernel_rfl)
def g92 : RC :=
 (sr [ko 1 (.box 78 (.t 0)),
 kv 2 (.mov (.c (.lit .nilFunc)))]
 (sr [kv 3 (.mkfn 107 [(.t 1)]),
 km 2 3]
 .ret))
theorem h92 : FdOk Try.prog 92 ⟨g92, [.t 2], 4, [], false⟩ := .of Try.func92 (by simp [Try.f92]) (by kernel_rfl)
def g94 : RC :=
 (sr [ko 4 (.box 87 (.t 1)),
 ko 6 (.new 87 [kz, kz])]
 (.seq (sr [km 9 2,
 kv 10 (.len (.t 9)),
 kv 11 (.mov (.c kz))]
 (.block 0 (.loop
 (sr [kv 12 (.bin .lss (.t 11) (.t 10))]
 (.seq (.cond (.t 12)
 .skip
 (.exit 0))
 (.seq (.block 1 (sr [kv 13 (.ixa (.t 9) (.t 11) 2),
 kv 14 (.load (.t 13) (some 2)),
 ko 8 (.new 87 [kz, kz]),
 ks 2 8 14]
 (sr [km 15 0,
 kv 16 (.load (.t 8) (some 2)),
 kv 17 (.load (.t 4) (some 2)),
 kc 18 (.t 15) [(.t 16), (.t 17)]]
 (.cond (.t 18)
 (.reg [kv 19 (.load (.t 8) (some 2)),
 ks 2 4 19])
 .skip))))
 (.reg [kv 20 (.bin .add (.t 11) (.c (ki 1))),
 km 11 20])))))))
 (sr [kv 21 (.load (.t 4) (some 2)),
 ks 2 6 21]
 .ret)))
theorem h94 : FdOk Try.prog 94 ⟨g94, [.c 6 (some 2)], 22, [], false⟩ := .of Try.func94 (by simp [Try.f94]) (by kernel_rfl)
def g95 : RC :=
 (sr [ko 3 (.box 87 (.t 0)),
 ko 4 (.box 87 (.t 1)),
 ko 5 (.box 87 (.t 2)),
 kv 6 (.mov (.c (.lit (.bool false))))]
 (.seq (.drw [⟨[], 0, 2, [(kv 7 (.load (.t 3) (some 2)), ku),
 (kv 8 (.load (.t 4) (some 2)), ku),
 (kc 9 (kF 109) [(.t 7), (.t 8)], .eff 0 []),
 (kf 10 5 1, ku),
 (kl 11 10, ku),
 (kv 12 (.bin .mul (.t 9) (.t 11)), .val 1 []),
 (kv 13 (.load (.t 3) (some 2)), ku),
 (kv 14 (.load (.t 5) (some 2)), ku),
 (kc 15 (kF 109) [(.t 13), (.t 14)], .eff 1 []),
 (kf 16 4 1, ku),
 (kl 17 16, ku),
 (kv 18 (.bin .mul (.t 15) (.t 17)), .val 2 [])],
 [],
 [kv 19 (.bin .lss (.t 12) (.t 18)),
 km 6 19], none⟩])
 .ret))
theorem h95 : FdOk Try.prog 95 ⟨g95, [.t 6], 20, [], false⟩ := .of Try.func95 (by simp [Try.f95]) (by kernel_rfl)
def g96 : RC :=
 (sr [ko 1 (.box 93 (.t 0)),
 kv 2 (.mov (.c (.lit (.bool false))))]
 (.seq (sr [kf 5 1 0,
 kf 6 5 0,
 kl 7 6,
 kv 8 (.len (.t 7)),
 kc 9 (kF 60) [(.t 8), (.c (ki 1)), (.c (ki 4))],
 kv 10 (.not (.t 9)),
 km 11 10,
 kG 12 11 false (.off (.t 1) 0),
 kG 13 11 false (.off (.t 12) 1),
 kG 14 11 false (.load (.t 13) none),
 ⟨(some 15), (some (11, false)), .o (.call (kF 60) [(.t 14), (.c kz), (.c (ki 100000))])⟩,
 kG 16 11 false (.not (.t 15)),
 kv 17 (.pick (.t 11) (.c (.lit (.bool true))) (.t 16))]
 (.cond (.t 17)
 (sr [kv 2 (.mov (.c (.lit (.bool false))))]
 .ret)
 .skip))
 (.seq (sr [kf 18 1 0,
 kf 19 18 0,
 kl 20 19,
 kv 21 (.len (.t 20)),
 kv 22 (.mov (.c kz))]
 (.block 0 (.loop
 (sr [kv 23 (.bin .lss (.t 22) (.t 21))]
 (.seq (.cond (.t 23)
 .skip
 (.exit 0))
 (.seq (.block 1 (sr [kv 24 (.ixa (.t 20) (.t 22) 1),
 kl 25 24,
 km 4 25]
 (sr [km 26 4,
 kc 27 (kF 60) [(.t 26), (.c (ki 1)), (.c (ki 8))],
 kv 28 (.not (.t 27))]
 (.cond (.t 28)
 (sr [kv 2 (.mov (.c (.lit (.bool false))))]
 .ret)
 .skip))))
 (.reg [kv 29 (.bin .add (.t 22) (.c (ki 1))),
 km 22 29])))))))
 (sr [kv 2 (.mov (.c (.lit (.bool true))))]
 .ret))))
theorem h96 : FdOk Try.prog 96 ⟨g96, [.t 2], 30, [], false⟩ := .of Try.func96 (by simp [Try.f96]) (by kernel_rfl)
def g97 : RC :=
 (sr [ko 2 (.box 93 (.t 0)),
 kv 4 (.mov (.c (.lit (.bool false))))]
 (.seq (sr [km 7 1,
 kv 8 (.len (.t 7)),
 kv 9 (.bin .gtr (.t 8) (.c (ki 24)))]
 (.cond (.t 9)
 (sr [kv 4 (.mov (.c (.lit (.bool false))))]
 .ret)
 .skip))
 (.seq (sr [km 10 1,
 kv 11 (.len (.t 10)),
 kv 12 (.mov (.c kz))]
 (.block 0 (.loop
 (sr [kv 13 (.bin .lss (.t 12) (.t 11))]
 (.seq (.cond (.t 13)
 .skip
 (.exit 0))
 (.seq (.block 1 (sr [kv 14 (.ixa (.t 10) (.t 12) 6),
 kv 15 (.load (.t 14) (some 6)),
 ko 6 (.new 65 [kz, kz, kz, kz, kz, kz]),
 ks 6 6 15]
 (.seq (sr [kv 16 (.load (.t 2) (some 2)),
 kf 17 6 0,
 kl 18 17,
 kf 19 6 1,
 kl 20 19,
 kc 21 (kF 110) [(.t 16), (.t 18), (.t 20)],
 kv 22 (.not (.t 21)),
 km 23 22,
 kG 24 23 false (.load (.t 2) (some 2)),
 kG 25 23 false (.off (.t 6) 2),
 kG 26 23 false (.load (.t 25) none),
 kG 27 23 false (.off (.t 6) 3),
 kG 28 23 false (.load (.t 27) none),
 ⟨(some 29), (some (23, false)), .o (.call (kF 110) [(.t 24), (.t 26), (.t 28)])⟩,
 kG 30 23 false (.not (.t 29)),
 kv 31 (.pick (.t 23) (.c (.lit (.bool true))) (.t 30))]
 (.cond (.t 31)
 (sr [kv 4 (.mov (.c (.lit (.bool false))))]
 .ret)
 .skip))
 (sr [kf 32 6 4,
 kl 33 32,
 kc 34 (kF 60) [(.t 33), (.c (ki (-200000))), (.c (ki 200000))],
 kv 35 (.not (.t 34)),
 km 36 35,
 kG 37 36 false (.off (.t 6) 5),
 kG 38 36 false (.load (.t 37) none),
 ⟨(some 39), (some (36, false)), .o (.call (kF 60) [(.t 38), (.c kz), (.c (ki 100000))])⟩,
 kG 40 36 false (.not (.t 39)),
 kv 41 (.pick (.t 36) (.c (.lit (.bool true))) (.t 40))]
 (.cond (.t 41)
 (sr [kv 4 (.mov (.c (.lit (.bool false))))]
 .ret)
 .skip)))))
 (.reg [kv 42 (.bin .add (.t 12) (.c (ki 1))),
 km 12 42])))))))
 (sr [kv 4 (.mov (.c (.lit (.bool true))))]
 .ret))))
theorem h97 : FdOk Try.prog 97 ⟨g97, [.t 4], 43, [], false⟩ := .of Try.func97 (by simp [Try.f97]) (by kernel_rfl)
def g98 : RC :=
 (sr [ko 1 (.box 93 (.t 0)),
 ko 2 (.new 98 (List.replicate 72 kz))]
 (sr [ko 3 (.new 98 (List.replicate 72 kz))]
 (.seq (sr [kf 7 1 0,
 kf 8 7 0,
 kl 9 8,
 kv 10 (.len (.t 9)),
 kv 11 (.mov (.c kz))]
 (.block 0 (.loop
 (sr [kv 12 (.bin .lss (.t 11) (.t 10))]
 (.seq (.cond (.t 12)
 .skip
 (.exit 0))
 (.seq (.block 1 (sr [km 13 11,
 kv 14 (.ixa (.t 9) (.t 11) 1),
 kl 15 14,
 km 4 13,
 km 5 15]
 (sr [km 16 5,
 kv 17 (.mov (.c kz))]
 (.block 2 (.loop
 (sr [kv 18 (.bin .lss (.t 17) (.t 16))]
 (.seq (.cond (.t 18)
 .skip
 (.exit 2))
 (.seq (.block 3 (sr [km 19 17,
 km 6 19]
 (.drw [⟨[], 0, 1, [(km 20 4, ku),
 (km 21 6, ku),
 (kv 22 (.bin .add (.t 21) (.c (ki 1))), ku),
 (kc 23 (kF 100) [(.t 20), (.t 22)], .eff 0 []),
 (kf 24 1 0, ku),
 (kf 25 24 1, ku),
 (kl 26 25, ku),
 (kv 27 (.neg (.t 26)), ku),
 (kf 28 1 0, ku),
 (kf 29 28 1, ku),
 (kl 30 29, ku),
 (ko 31 (.bld [kz, kz] [(0, 1, (.t 27)), (1, 1, (.t 30))]), ku)],
 [],
 [kv 32 (.ixarr (.t 3) (.t 23) 36 2),
 ks 2 32 31], none⟩])))
 (.reg [kv 33 (.bin .add (.t 17) (.c (ki 1))),
 km 17 33])))))))))
 (.reg [kv 34 (.bin .add (.t 11) (.c (ki 1))),
 km 11 34])))))))
 (sr [kv 35 (.load (.t 3) (some 72)),
 ks 72 2 35]
 .ret))))
theorem h98 : FdOk Try.prog 98 ⟨g98, [.c 2 (some 72)], 36, [], false⟩ := .of Try.func98 (by simp [Try.f98]) (by kernel_rfl)
def g99 : RC :=
 (sr [ko 3 (.box 65 (.t 1)),
 kv 4 (.mov (.c (.lit (.bool false))))]
 (.seq (.drw [⟨[], 0, 2, [(km 9 0, ku),
 (kf 10 3 0, ku),
 (kl 11 10, ku),
 (kf 12 3 1, ku),
 (kl 13 12, ku),
 (kc 14 (kF 100) [(.t 11), (.t 13)], .eff 0 []),
 (kv 15 (.nckv (.t 9)), ku),
 (kv 16 (.ixarr (.t 15) (.t 14) 36 2), .val 1 []),
 (km 17 0, ku),
 (kf 18 3 2, ku),
 (kl 19 18, ku),
 (kf 20 3 3, ku),
 (kl 21 20, ku),
 (kc 22 (kF 100) [(.t 19), (.t 21)], .eff 1 []),
 (kv 23 (.nckv (.t 17)), ku),
 (kv 24 (.ixarr (.t 23) (.t 22) 36 2), .val 2 []),
 (km 5 16, .val 2 [])],
 [],
 [km 6 24], none⟩])
 (.seq (.drw [⟨[], 0, 0, [(kf 25 3 4, ku),
 (kl 26 25, ku),
 (kf 27 3 5, ku),
 (kl 28 27, ku),
 (kv 29 (.bin .sub (.t 26) (.t 28)), ku),
 (kf 30 3 4, ku),
 (kl 31 30, ku),
 (kf 32 3 5, ku),
 (kl 33 32, ku),
 (kv 34 (.bin .add (.t 31) (.t 33)), ku),
 (km 7 29, ku)],
 [],
 [km 8 34], none⟩])
 (.seq (.drw [⟨[], 0, 1, [(km 35 5, ku),
 (km 36 5, .pur),
 (km 37 5, ku),
 (kv 38 (.nckv (.t 37)), ku),
 (kf 39 38 0, ku),
 (kl 40 39, ku),
 (km 41 6, ku),
 (kv 42 (.nckv (.t 41)), ku),
 (kf 43 42 0, ku),
 (kl 44 43, ku),
 (km 45 7, ku),
 (kv 46 (.bin .add (.t 44) (.t 45)), ku),
 (kv 47 (.max2 (.t 40) (.t 46)), ku),
 (km 48 5, ku),
 (kv 49 (.nckv (.t 48)), ku),
 (kf 50 49 1, ku),
 (kl 51 50, ku),
 (km 52 6, ku),
 (kv 53 (.nckv (.t 52)), ku),
 (kf 54 53 1, ku),
 (kl 55 54, ku),
 (km 56 8, .pur),
 (kv 57 (.bin .add (.t 55) (.t 56)), .pur),
 (kv 58 (.min2 (.t 51) (.t 57)), .pur),
 (kv 59 (.nckv (.t 35)), ku),
 (kf 60 59 0, ku),
 (ks 1 60 47, .efs 0 [] [])],
 [],
 [kv 61 (.nckv (.t 36)),
 kf 62 61 1,
 ks 1 62 58], none⟩,
 ⟨[], 0, 1, [(km 35 5, ku),
 (km 36 5, .pur),
 (km 37 5, ku),
 (kv 38 (.nckv (.t 37)), ku),
 (kf 39 38 0, ku),
 (kl 40 39, ku),
 (km 41 6, ku),
 (kv 42 (.nckv (.t 41)), ku),
 (kf 43 42 0, ku),
 (kl 44 43, ku),
 (km 45 7, ku),
 (kv 46 (.bin .add (.t 44) (.t 45)), ku),
 (kv 47 (.max2 (.t 40) (.t 46)), ku),
 (km 48 5, ku),
 (kv 49 (.nckv (.t 48)), ku),
 (kf 50 49 1, ku),
 (kl 51 50, ku),
 (km 52 6, ku),
 (kv 53 (.nckv (.t 52)), ku),
 (kf 54 53 1, ku),
 (kl 55 54, ku),
 (km 56 8, .pur),
 (kv 57 (.bin .add (.t 55) (.t 56)), .pur),
 (kv 58 (.min2 (.t 51) (.t 57)), .pur),
 (kv 59 (.nckv (.t 35)), ku),
 (kf 60 59 0, ku),
 (ks 1 60 47, .efs 0 [] [])],
 [],
 [kv 61 (.nckv (.t 36)),
 kf 62 61 1,
 ks 1 62 58], none⟩])
 (.seq (.drw [⟨[], 0, 1, [(km 63 6, ku),
 (km 64 6, .pur),
 (km 65 6, ku),
 (kv 66 (.nckv (.t 65)), ku),
 (kf 67 66 0, ku),
 (kl 68 67, ku),
 (km 69 5, ku),
 (kv 70 (.nckv (.t 69)), ku),
 (kf 71 70 0, ku),
 (kl 72 71, ku),
 (km 73 8, ku),
 (kv 74 (.bin .sub (.t 72) (.t 73)), ku),
 (kv 75 (.max2 (.t 68) (.t 74)), ku),
 (km 76 6, ku),
 (kv 77 (.nckv (.t 76)), ku),
 (kf 78 77 1, ku),
 (kl 79 78, ku),
 (km 80 5, ku),
 (kv 81 (.nckv (.t 80)), ku),
 (kf 82 81 1, ku),
 (kl 83 82, ku),
 (km 84 7, .pur),
 (kv 85 (.bin .sub (.t 83) (.t 84)), .pur),
 (kv 86 (.min2 (.t 79) (.t 85)), .pur),
 (kv 87 (.nckv (.t 63)), ku),
 (kf 88 87 0, ku),
 (ks 1 88 75, .efs 0 [] [])],
 [],
 [kv 89 (.nckv (.t 64)),
 kf 90 89 1,
 ks 1 90 86], none⟩,
 ⟨[], 0, 1, [(km 63 6, ku),
 (km 64 6, .pur),
 (km 65 6, ku),
 (kv 66 (.nckv (.t 65)), ku),
 (kf 67 66 0, ku),
 (kl 68 67, ku),
 (km 69 5, ku),
 (kv 70 (.nckv (.t 69)), ku),
 (kf 71 70 0, ku),
 (kl 72 71, ku),
 (km 73 8, ku),
 (kv 74 (.bin .sub (.t 72) (.t 73)), ku),
 (kv 75 (.max2 (.t 68) (.t 74)), ku),
 (km 76 6, ku),
 (kv 77 (.nckv (.t 76)), ku),
 (kf 78 77 1, ku),
 (kl 79 78, ku),
 (km 80 5, ku),
 (kv 81 (.nckv (.t 80)), ku),
 (kf 82 81 1, ku),
 (kl 83 82, ku),
 (km 84 7, .pur),
 (kv 85 (.bin .sub (.t 83) (.t 84)), .pur),
 (kv 86 (.min2 (.t 79) (.t 85)), .pur),
 (kv 87 (.nckv (.t 63)), ku),
 (kf 88 87 0, ku),
 (ks 1 88 75, .efs 0 [] [])],
 [],
 [kv 89 (.nckv (.t 64)),
 kf 90 89 1,
 ks 1 90 86], none⟩])
 (.seq (.drw [⟨[], 0, 0, [(km 91 5, ku),
 (kv 92 (.nckv (.t 91)), ku),
 (kf 93 92 0, ku),
 (kl 94 93, ku),
 (km 95 5, ku),
 (kv 96 (.nckv (.t 95)), ku),
 (kf 97 96 1, ku),
 (kl 98 97, ku)],
 [],
 [kv 99 (.bin .leq (.t 94) (.t 98)),
 km 4 99], none⟩])
 .ret))))))
theorem h99 : FdOk Try.prog 99 ⟨g99, [.t 4], 100, [], false⟩ := .of Try.func99 (by simp [Try.f99]) (by kernel_rfl)
def g100 : RC :=
 (sr [kv 4 (.mov (.c kz))]
 (sr [km 5 0,
 kv 6 (.bin .mul (.t 5) (.c (ki 9))),
 km 7 1,
 kv 8 (.bin .add (.t 6) (.t 7)),
 km 4 8]
 .ret))
theorem h100 : FdOk Try.prog 100 ⟨g100, [.t 4], 9, [], false⟩ := .of Try.func100 (by simp [Try.f100]) (by kernel_rfl)
def g101 : RC :=
 (sr [kv 4 (.mov (.c (.lit (.bool false))))]
 (.seq (.drw [⟨[1, 2, 0], 1, 1, [(kv 8 (.load (.t 1) (some 2)), ku),
 (kl 9 2, ku),
 (km 10 0, ku),
 (km 11 0, ku),
 (ko 12 (.slc (.t 9) none (some (.t 10)) (some (.t 11)) 6), ku),
 (kl 13 2, ku),
 (km 14 0, ku),
 (kv 15 (.bin .add (.t 14) (.c (ki 1))), ku),
 (ko 16 (.slc (.t 13) (some (.t 15)) none none 6), ku),
 (ko 17 (.app 65 6 48 (.t 12) (.t 16)), ku),
 (kc 18 (kF 73) [(.t 8), (.t 17)], ku),
 (km 7 18, ku),
 (kv 19 (.ext (.t 7) 0), ku),
 (kv 20 (.ext (.t 7) 1), .prd []),
 (ko 5 (.new 98 (List.replicate 72 kz)), .cre 0),
 (ks 72 5 19, .efs 0 [0] [])],
 [],
 [km 6 20], none⟩])
 (sr [km 21 6,
 km 4 21]
 .ret)))
theorem h101 : FdOk Try.prog 101 ⟨g101, [.t 4], 22, [], false⟩ := .of Try.func101 (by simp [Try.f101]) (by kernel_rfl)
def g102 : RC :=
 (sr [kv 2 (.mov (.c kz))]
 (sr [kv 3 (.mov (.c kz))]
 (.seq (sr [km 6 0,
 kv 7 (.len (.t 6)),
 kv 8 (.mov (.c kz))]
 (.block 0 (.loop
 (sr [kv 9 (.bin .lss (.t 8) (.t 7))]
 (.seq (.cond (.t 9)
 .skip
 (.exit 0))
 (.seq (.block 1 (sr [kv 10 (.ixa (.t 6) (.t 8) 1),
 kl 11 10,
 km 5 11]
 (.reg [km 12 3,
 km 13 5,
 kv 14 (.bin .add (.t 12) (.t 13)),
 km 3 14])))
 (.reg [kv 15 (.bin .add (.t 8) (.c (ki 1))),
 km 8 15])))))))
 (sr [km 16 3,
 km 2 16]
 .ret))))
theorem h102 : FdOk Try.prog 102 ⟨g102, [.t 2], 17, [], false⟩ := .of Try.func102 (by simp [Try.f102]) (by kernel_rfl)
def g103 : RC :=
 (sr [kv 2 (.mov (.c kz))]
 (.seq (.drw [⟨[0], 0, 1, [(km 3 0, ku),
 (kv 4 (.ixa (.t 3) (.c kz) 1), ku),
 (kl 5 4, ku),
 (km 6 0, ku),
 (ko 7 (.slc (.t 6) (some (.c (ki 1))) none none 1), ku),
 (kc 8 (kF 104) [(.t 5), (.t 7)], .eff 0 []),
 (km 9 0, ku),
 (kv 10 (.ixa (.t 9) (.c kz) 1), ku),
 (kl 11 10, ku),
 (km 12 0, ku),
 (ko 13 (.slc (.t 12) (some (.c (ki 1))) none none 1), ku)],
 [],
 [kc 14 (kF 105) [(.t 11), (.t 13)],
 kv 15 (.bin .sub (.t 8) (.t 14)),
 km 2 15], none⟩])
 .ret))
theorem h103 : FdOk Try.prog 103 ⟨g103, [.t 2], 16, [], false⟩ := .of Try.func103 (by simp [Try.f103]) (by kernel_rfl)
def g104 : RC :=
 (sr [kv 4 (.mov (.c kz))]
 (sr [km 5 0,
 km 6 1,
 kc 7 (kF 111) [(kF 112), (.t 5), (.t 6)],
 km 4 7]
 .ret))
theorem h104 : FdOk Try.prog 104 ⟨g104, [.t 4], 8, [], false⟩ := .of Try.func104 (by simp [Try.f104]) (by kernel_rfl)
def g105 : RC :=
 (sr [kv 4 (.mov (.c kz))]
 (sr [km 5 0,
 km 6 1,
 kc 7 (kF 111) [(kF 113), (.t 5), (.t 6)],
 km 4 7]
 .ret))
theorem h105 : FdOk Try.prog 105 ⟨g105, [.t 4], 8, [], false⟩ := .of Try.func105 (by simp [Try.f105]) (by kernel_rfl)
def g106 : RC :=
 (sr [kv 4 (.mov (.c kz))]
 (.seq (sr [km 6 0,
 kv 7 (.len (.t 6)),
 kv 8 (.mov (.c kz))]
 (.block 0 (.loop
 (sr [kv 9 (.bin .lss (.t 8) (.t 7))]
 (.seq (.cond (.t 9)
 .skip
 (.exit 0))
 (.seq (.block 1 (sr [km 10 8,
 km 5 10]
 (sr [km 11 1,
 km 12 0,
 km 13 5,
 kv 14 (.ixa (.t 12) (.t 13) 1),
 kl 15 14,
 kv 16 (.bin .eql (.t 11) (.t 15))]
 (.cond (.t 16)
 (sr [km 17 5,
 km 4 17]
 .ret)
 .skip))))
 (.reg [kv 18 (.bin .add (.t 8) (.c (ki 1))),
 km 8 18])))))))
 (sr [kv 4 (.mov (.c (ki (-1))))]
 .ret)))
theorem h106 : FdOk Try.prog 106 ⟨g106, [.t 4], 19, [], false⟩ := .of Try.func106 (by simp [Try.f106]) (by kernel_rfl)
def g107 : RC :=
 (sr [ko 5 (.bld [kz, kz] [(0, 1, (.c (ki 2))), (1, 1, (.c (ki 4)))]),
 kv 6 (.mov (.c kz))]
 (.block 0 (.loop
 (sr [kv 7 (.bin .lss (.t 6) (.c (ki 2)))]
 (.seq (.cond (.t 7)
 .skip
 (.exit 0))
 (.seq (.block 1 (sr [kv 8 (.ixv (.t 5) (.t 6) 2 1 none),
 km 4 8]
 (sr [kv 9 (.load (.t 1) (some 3)),
 km 10 4,
 km 11 0,
 kc 12 (kF 108) [(.t 9), (.c (.lit (.slice none 0 0))), (.t 10), (.t 11)],
 kv 13 (.not (.t 12))]
 (.cond (.t 13)
 .ret
 .skip))))
 (.reg [kv 14 (.bin .add (.t 6) (.c (ki 1))),
 km 6 14])))))))
theorem h107 : FdOk Try.prog 107 ⟨g107, [], 15, [], false⟩ := .of Try.func107 (by simp [Try.f107]) (by kernel_rfl)
def g108 : RC :=
 (sr [ko 4 (.box 78 (.t 0)),
 kv 8 (.mov (.c (.lit (.bool false))))]
 (.seq (sr [km 10 1,
 kv 11 (.len (.t 10)),
 km 12 2,
 kv 13 (.bin .eql (.t 11) (.t 12))]
 (.cond (.t 13)
 (sr [km 14 3,
 km 15 1,
 km 16 2,
 km 17 2,
 ko 18 (.slc (.t 15) none (some (.t 16)) (some (.t 17)) 1),
 kc 19 (.t 14) [(.t 18)],
 km 8 19]
 .ret)
 .skip))
 (.seq (sr [kf 20 4 0,
 kf 21 20 0,
 kl 22 21,
 kv 23 (.len (.t 22)),
 kv 24 (.mov (.c kz))]
 (.block 0 (.loop
 (sr [kv 25 (.bin .lss (.t 24) (.t 23))]
 (.seq (.cond (.t 25)
 .skip
 (.exit 0))
 (.seq (.block 1 (sr [km 26 24,
 km 9 26]
 (.seq (sr [km 27 1,
 km 28 9,
 kc 29 (kF 89) [(.t 27), (.t 28)]]
 (.cond (.t 29)
 (.exit 1)
 .skip))
 (.seq (.drw [⟨[4, 1, 9, 2, 3], 1, 1, [(kv 30 (.load (.t 4) (some 3)), ku),
 (km 31 1, ku),
 (km 32 1, ku),
 (kv 33 (.len (.t 32)), ku),
 (km 34 1, ku),
 (kv 35 (.len (.t 34)), ku),
 (ko 36 (.slc (.t 31) none (some (.t 33)) (some (.t 35)) 1), ku),
 (km 37 9, ku),
 (ko 38 (.bsl 3 1 [kz] [(0, 1, (.t 37))]), .cre 0),
 (ko 39 (.app 3 1 8 (.t 36) (.t 38)), .eff 0 [0]),
 (km 40 2, ku),
 (km 41 3, ku)],
 [],
 [kc 42 (kF 108) [(.t 30), (.t 39), (.t 40), (.t 41)],
 kv 43 (.not (.t 42))], none⟩])
 (.cond (.t 43)
 (sr [kv 8 (.mov (.c (.lit (.bool false))))]
 .ret)
 .skip)))))
 (.reg [kv 44 (.bin .add (.t 24) (.c (ki 1))),
 km 24 44])))))))
 (sr [kv 8 (.mov (.c (.lit (.bool true))))]
 .ret))))
theorem h108 : FdOk Try.prog 108 ⟨g108, [.t 8], 45, [], false⟩ := .of Try.func108 (by simp [Try.f108]) (by kernel_rfl)
def g109 : RC :=
 (sr [ko 2 (.box 87 (.t 0)),
 ko 3 (.box 87 (.t 1)),
 kv 4 (.mov (.c kz))]
 (sr [kf 6 2 0,
 kl 7 6,
 kf 8 3 1,
 kl 9 8,
 kv 10 (.bin .mul (.t 7) (.t 9)),
 kf 11 3 0,
 kl 12 11,
 kf 13 2 1,
 kl 14 13,
 kv 15 (.bin .mul (.t 12) (.t 14)),
 kv 16 (.bin .sub (.t 10) (.t 15)),
 km 5 16]
 (sr [km 17 5,
 km 18 5,
 kv 19 (.neg (.t 18)),
 kv 20 (.max2 (.t 17) (.t 19)),
 km 4 20]
 .ret)))
theorem h109 : FdOk Try.prog 109 ⟨g109, [.t 4], 21, [], false⟩ := .of Try.func109 (by simp [Try.f109]) (by kernel_rfl)
def g110 : RC :=
 (sr [ko 3 (.box 93 (.t 0)),
 kv 6 (.mov (.c (.lit (.bool false))))]
 (sr [km 7 1,
 kf 8 3 0,
 kf 9 8 0,
 kl 10 9,
 kv 11 (.len (.t 10)),
 kv 12 (.bin .sub (.t 11) (.c (ki 1))),
 kc 13 (kF 60) [(.t 7), (.c kz), (.t 12)],
 km 14 13,
 kG 15 14 true (.mov (.t 2)),
 kG 16 14 true (.off (.t 3) 0),
 kG 17 14 true (.off (.t 16) 0),
 kG 18 14 true (.load (.t 17) none),
 kG 19 14 true (.mov (.t 1)),
 kG 20 14 true (.ixa (.t 18) (.t 19) 1),
 kG 21 14 true (.load (.t 20) none),
 ⟨(some 22), (some (14, true)), .o (.call (kF 60) [(.t 15), (.c kz), (.t 21)])⟩,
 kv 23 (.pick (.t 14) (.t 22) (.c (.lit (.bool false)))),
 km 6 23]
 .ret))
theorem h110 : FdOk Try.prog 110 ⟨g110, [.t 6], 24, [], false⟩ := .of Try.func110 (by simp [Try.f110]) (by kernel_rfl)
def g111 : RC :=
 (sr [kv 6 (.mov (.c kz))]
 (.seq (sr [km 9 2,
 kv 10 (.len (.t 9)),
 kv 11 (.mov (.c kz))]
 (.block 0 (.loop
 (sr [kv 12 (.bin .lss (.t 11) (.t 10))]
 (.seq (.cond (.t 12)
 .skip
 (.exit 0))
 (.seq (.block 1 (sr [kv 13 (.ixa (.t 9) (.t 11) 1),
 kl 14 13,
 km 8 14]
 (sr [km 15 0,
 km 16 8,
 km 17 1,
 kc 18 (.t 15) [(.t 16), (.t 17)]]
 (.cond (.t 18)
 (.reg [km 19 8,
 km 1 19])
 .skip))))
 (.reg [kv 20 (.bin .add (.t 11) (.c (ki 1))),
 km 11 20])))))))
 (sr [km 21 1,
 km 6 21]
 .ret)))
theorem h111 : FdOk Try.prog 111 ⟨g111, [.t 6], 22, [], false⟩ := .of Try.func111 (by simp [Try.f111]) (by kernel_rfl)
def g112 : RC :=
 (sr [kv 4 (.mov (.c (.lit (.bool false))))]
 (sr [km 5 0,
 km 6 1,
 kv 7 (.bin .gtr (.t 5) (.t 6)),
 km 4 7]
 .ret))
theorem h112 : FdOk Try.prog 112 ⟨g112, [.t 4], 8, [], false⟩ := .of Try.func112 (by simp [Try.f112]) (by kernel_rfl)
def g113 : RC :=
 (sr [kv 4 (.mov (.c (.lit (.bool false))))]
 (sr [km 5 0,
 km 6 1,
 kv 7 (.bin .lss (.t 5) (.t 6)),
 km 4 7]
 .ret))
theorem h113 : FdOk Try.prog 113 ⟨g113, [.t 4], 8, [], false⟩ := .of Try.func113 (by simp [Try.f113]) (by kernel_rfl)
end Go.Proofs.Ytbbbpdajikblbaa
