import Derived.Test.YtgdihdiadlmjiaaVgR18
import Derived.Test.YtgdihdiadlmjiaaChecked
import Derived.KernelRfl
namespace Go.Proofs.Ytgdihdiadlmjiaa
open Go Go.Vg
set_option maxRecDepth 100000
set_option maxHeartbeats 4000000
def ki (n : Int) : SV := .int .i64 n
def kz : SV := .int .i64 0
def km (d n : Nat) : Opq := ⟨some d, none, .o (.v (.mov (.t n)))⟩
def kl (d n : Nat) : Opq := ⟨some d, none, .o (.v (.load (.t n) none))⟩
def kf (d n k : Nat) : Opq := ⟨some d, none, .o (.v (.off (.t n) k))⟩
def kn (d n : Nat) : Opq := ⟨some d, none, .nck (.t n)⟩
def kv (d : Nat) (v : VOp) : Opq := ⟨some d, none, .o (.v v)⟩
def kc (d : Nat) (f : X) (l : List X) : Opq := ⟨some d, none, .o (.call f l)⟩
def ko (d : Nat) (o : Op1) : Opq := ⟨some d, none, .o o⟩
def ku : Kd := .val 0 []
def kb0 : SV := .lit (.bool false)
def kb1 : SV := .lit (.bool true)
def kG (d g : Nat) (b : Bool) (v : VOp) : Opq := ⟨some d, some (g, b), .o (.v v)⟩
def kF (n : Nat) : X := .c (.fn n [])
def ks (n a b : Nat) : Opq := ⟨none, none, .o (.store n (.t a) (.t b))⟩
def sr (l : List Opq) (b : RC) : RC := .seq (.reg l) b
instance (n : Nat) : OfNat X n := ⟨.t n⟩
def g16 : RC :=
 (sr [ko 3 (.box 25 0),
 ko 5 (.box 28 2),
 kv 6 (.mov (.c (.lit (.bool false)))),
 kv 7 (.mov (.c kz))]
 (.seq (sr [kv 10 (.load 3 (some 8)),
 km 11 1,
 kc 12 (kF 47) [10, 11],
 km 8 12]
 (sr [km 13 8,
 kv 14 (.bin .neq 13 (.c kz))]
 (.cond 14
 (sr [km 15 8,
 kv 6 (.mov (.c (.lit (.bool false)))),
 km 7 15]
 .ret)
 .skip)))
 (sr [kv 16 (.load 3 (some 8)),
 ko 17 (.bld [kz, kz, kz, kz, kz, kz, kz, kz] [(0, 8, 16)]),
 ko 9 (.new 78 [kz, kz, kz, kz, kz, kz, kz, kz]),
 ks 8 9 17]
 (.seq (sr [kv 18 (.load 9 (some 8)),
 kv 19 (.load 5 (some 3)),
 kc 20 (kF 48) [18, 19],
 kv 21 (.not 20)]
 (.cond 21
 (sr [kv 6 (.mov (.c (.lit (.bool false)))),
 kv 7 (.mov (.c (ki 32)))]
 .ret)
 .skip))
 (.seq (.drw [⟨[], 0, 1, [(kv 22 (.load 9 (some 8)), ku),
 (km 23 1, ku),
 (kc 24 (kF 49) [22, 23], .eff 0 []),
 (kv 25 (.load 5 (some 3)), ku)],
 [],
 [kc 26 (kF 50) [24, 25],
 km 6 26,
 kv 7 (.mov (.c kz))], none⟩])
 .ret)))))
theorem h16 : FdOk Try.prog 16 ⟨g16, [.t 6, .t 7], 27, [], false⟩ := .of Try.func16 (by simp [Try.f16]) (by kernel_rfl)
def g18 : RC :=
 (sr [ko 1 (.box 25 0),
 kv 2 (.mov (.c kz))]
 (.seq (sr [kv 3 (.load 1 (some 8)),
 ko 4 (.bld [kz, kz, kz, kz, kz, kz, kz, kz] [(0, 8, 3)]),
 kc 5 (kF 54) [4],
 kv 6 (.not 5)]
 (.cond 6
 (sr [kv 2 (.mov (.c (ki 30)))]
 .ret)
 .skip))
 (sr [kv 2 (.mov (.c kz))]
 .ret)))
theorem h18 : FdOk Try.prog 18 ⟨g18, [.t 2], 7, [], false⟩ := .of Try.func18 (by simp [Try.f18]) (by kernel_rfl)
def g20 : RC :=
 (sr [ko 2 (.box 25 0),
 ko 4 (.new 23 [kz, kz]),
 ko 5 (.new 23 [kz, kz]),
 kv 6 (.mov (.c kz))]
 (.seq (sr [kv 10 (.load 2 (some 8)),
 km 11 1,
 kc 12 (kF 47) [10, 11],
 km 7 12]
 (sr [km 13 7,
 kv 14 (.bin .neq 13 (.c kz))]
 (.cond 14
 (sr [ko 15 (.bld [kz, kz] []),
 ko 16 (.bld [kz, kz] []),
 km 17 7,
 ks 2 4 15,
 ks 2 5 16,
 km 6 17]
 .ret)
 .skip)))
 (sr [kv 18 (.load 2 (some 8)),
 ko 19 (.bld [kz, kz, kz, kz, kz, kz, kz, kz] [(0, 8, 18)]),
 ko 8 (.new 78 [kz, kz, kz, kz, kz, kz, kz, kz]),
 ks 8 8 19]
 (.seq (.drw [⟨[], 0, 2, [(kv 20 (.load 8 (some 8)), ku),
 (kv 21 (.load 8 (some 8)), ku),
 (km 22 1, ku),
 (kc 23 (kF 49) [21, 22], .eff 0 []),
 (kc 24 (kF 56) [20, 23], .eff 1 [])],
 [],
 [ko 9 (.new 88 [kz, kz, kz, kz]),
 ks 4 9 24], (some 9)⟩,
 ⟨[8, 1], 1, 0, [(kv 20 (.load 8 (some 8)), ku),
 (kv 21 (.load 8 (some 8)), ku),
 (km 22 1, ku),
 (kc 23 (kF 49) [21, 22], ku),
 (kc 24 (kF 56) [20, 23], ku),
 (ko 9 (.new 88 [kz, kz, kz, kz]), .cre 0)],
 [0],
 [ks 4 9 24], none⟩])
 (.seq (.seq (.drw [⟨[], 0, 1, [(kv 25 (.load 9 (some 4)), ku),
 (kc 26 (kF 57) [], .eff 0 [])],
 [],
 [kv 27 (.eqs [(some .i64), (some .i64), (some .i64), (some .i64)] false 25 26)], none⟩])
 (.cond 27
 (sr [ko 28 (.bld [kz, kz] []),
 ko 29 (.bld [kz, kz] []),
 ks 2 4 28,
 ks 2 5 29,
 kv 6 (.mov (.c (ki 33)))]
 .ret)
 .skip))
 (.seq (.drw [⟨[], 0, 1, [(kf 30 9 0, ku),
 (kv 31 (.load 30 (some 2)), ku),
 (kf 32 9 2, .prd [4]),
 (kv 33 (.load 32 (some 2)), .prd [4]),
 (ks 2 4 31, .efs 0 [] [])],
 [],
 [ks 2 5 33,
 kv 6 (.mov (.c kz))], none⟩,
 ⟨[], 0, 1, [(kf 30 9 0, ku),
 (kv 31 (.load 30 (some 2)), ku),
 (kf 32 9 2, .prd [4]),
 (kv 33 (.load 32 (some 2)), .prd [4]),
 (ks 2 4 31, .efs 0 [] [])],
 [],
 [ks 2 5 33,
 kv 6 (.mov (.c kz))], none⟩])
 .ret))))))
theorem h20 : FdOk Try.prog 20 ⟨g20, [.c 4 (some 2), .c 5 (some 2), .t 6], 34, [], false⟩ := .of Try.func20 (by simp [Try.f20]) (by kernel_rfl)
def g22 : RC :=
 (sr [kv 0 (.mov (.c (.lit (.bool false))))]
 (sr [kc 14 (kF 43) [],
 kc 15 (kF 45) [],
 ko 16 (.slc 15 none (some (.c (ki 2))) none 3),
 ko 17 (.bld [kz, kz, kz] [(0, 1, (.c (ki 50))), (1, 1, (.c (ki 40))), (2, 1, (.c (ki 250)))]),
 kc 18 (kF 16) [14, 16, 17],
 km 13 18,
 kv 19 (.ext 13 0),
 kv 20 (.ext 13 1),
 km 1 19,
 km 2 20]
 (sr [kc 22 (kF 43) [],
 kc 23 (kF 45) [],
 ko 24 (.slc 23 none (some (.c (ki 2))) none 3),
 kc 25 (kF 20) [22, 24],
 km 21 25,
 kv 26 (.ext 21 0),
 kv 27 (.ext 21 1),
 kv 28 (.ext 21 2),
 ko 3 (.new 23 [kz, kz]),
 ko 4 (.new 23 [kz, kz]),
 ks 2 3 26,
 ks 2 4 27,
 km 5 28]
 (sr [kc 30 (kF 43) [],
 kc 31 (kF 45) [],
 kc 32 (kF 23) [30, 31],
 km 29 32,
 kv 33 (.ext 29 0),
 kv 34 (.ext 29 1),
 km 6 33,
 km 7 34]
 (sr [kc 36 (kF 43) [],
 kc 37 (kF 45) [],
 ko 38 (.slc 37 none (some (.c (ki 1))) none 3),
 kc 39 (kF 26) [36, 38],
 km 35 39,
 kv 40 (.ext 35 0),
 kv 41 (.ext 35 1),
 kv 42 (.ext 35 2),
 km 8 40,
 km 9 41,
 km 10 42]
 (.seq (.seq (.drw [⟨[2, 5, 7, 10, 1, 3, 4, 6, 8, 9], 0, 0, [(km 43 2, ku),
 (kv 44 (.bin .neq 43 (.c kz)), ku),
 (km 45 44, ku),
 (kG 46 45 false (.mov 5), ku),
 (kG 47 45 false (.bin .neq 46 (.c kz)), ku),
 (kv 48 (.pick 45 (.c (.lit (.bool true))) 47), ku),
 (km 49 48, ku),
 (kG 50 49 false (.mov 7), ku),
 (kG 51 49 false (.bin .neq 50 (.c kz)), ku),
 (kv 52 (.pick 49 (.c (.lit (.bool true))) 51), ku),
 (km 53 52, ku),
 (kG 54 53 false (.mov 10), ku),
 (kG 55 53 false (.bin .neq 54 (.c kz)), ku),
 (kv 56 (.pick 53 (.c (.lit (.bool true))) 55), ku),
 (km 57 56, ku),
 (kG 58 57 false (.mov 1), ku),
 (kG 59 57 false (.not 58), ku),
 (kv 60 (.pick 57 (.c (.lit (.bool true))) 59), ku),
 (km 61 60, ku),
 (kG 62 61 false (.load 3 (some 2)), ku),
 (⟨(some 63), (some (61, false)), .o (.call (kF 44) [(.c (ki 200)), (.c (ki 312))])⟩, ku),
 (kG 64 61 false (.eqs [(some .i64), (some .i64)] true 62 63), ku),
 (kv 65 (.pick 61 (.c (.lit (.bool true))) 64), ku),
 (km 66 65, ku),
 (kG 67 66 false (.load 4 (some 2)), ku),
 (⟨(some 68), (some (66, false)), .o (.call (kF 44) [(.c (ki 40)), (.c (ki 42))])⟩, ku),
 (kG 69 66 false (.eqs [(some .i64), (some .i64)] true 67 68), ku),
 (kv 70 (.pick 66 (.c (.lit (.bool true))) 69), ku),
 (km 71 70, ku),
 (kG 72 71 false (.mov 6), ku),
 (⟨(some 73), (some (71, false)), .o (.bsl 3 2 [kz, kz] [(0, 1, (.c (ki 1))), (1, 1, (.c (ki 2)))])⟩, ku)],
 [],
 [⟨(some 74), (some (71, false)), .o (.call (kF 25) [72, 73])⟩,
 kG 75 71 false (.not 74),
 kv 76 (.pick 71 (.c (.lit (.bool true))) 75),
 km 77 76,
 kG 78 77 false (.mov 8),
 kG 79 77 false (.not 78),
 kv 80 (.pick 77 (.c (.lit (.bool true))) 79),
 km 81 80,
 kG 82 81 false (.mov 9),
 kG 83 81 false (.bin .neq 82 (.c (ki 118))),
 kv 84 (.pick 81 (.c (.lit (.bool true))) 83)], none⟩])
 (.cond 84
 (sr [kv 0 (.mov (.c (.lit (.bool false))))]
 .ret)
 .skip))
 (sr [kc 86 (kF 44) [(.c (ki 200)), (.c (ki 312))],
 kc 87 (kF 28) [86, (.c (ki 20)), (.c (ki 60))],
 km 85 87,
 kv 88 (.ext 85 0),
 kv 89 (.ext 85 1),
 km 11 88,
 km 2 89]
 (sr [kc 91 (kF 43) [],
 kc 92 (kF 46) [],
 ko 93 (.bsl 25 2 (List.replicate 16 kz) [(0, 8, 91), (8, 8, 92)]),
 ko 94 (.bsl 3 2 [kz, kz] [(0, 1, (.c (ki 30))), (1, 1, (.c (ki 40)))]),
 ko 95 (.bld [kz, kz] [(0, 1, (.c (ki 600))), (1, 1, (.c (ki 300)))]),
 kc 96 (kF 30) [93, 94, 95],
 km 90 96,
 kv 97 (.ext 90 0),
 kv 98 (.ext 90 1),
 km 12 97,
 km 5 98]
 (sr [km 99 2,
 kv 100 (.bin .eql 99 (.c kz)),
 km 101 100,
 kG 102 101 true (.mov 5),
 kG 103 101 true (.bin .eql 102 (.c kz)),
 kv 104 (.pick 101 103 (.c (.lit (.bool false)))),
 km 105 104,
 kG 106 105 true (.mov 11),
 kG 107 105 true (.bin .eql 106 (.c (ki (-13)))),
 kv 108 (.pick 105 107 (.c (.lit (.bool false)))),
 km 109 108,
 kG 110 109 true (.mov 12),
 kG 111 109 true (.bin .eql 110 (.c (ki 1))),
 kv 112 (.pick 109 111 (.c (.lit (.bool false)))),
 km 0 112]
 .ret)))))))))
theorem h22 : FdOk Try.prog 22 ⟨g22, [.t 0], 113, [], false⟩ := .of Try.func22 (by simp [Try.f22]) (by kernel_rfl)
def g23 : RC :=
 (sr [ko 2 (.box 25 0),
 kv 4 (.mov (.c (.lit (.slice none 0 0)))),
 kv 5 (.mov (.c kz))]
 (.seq (sr [kv 8 (.load 2 (some 8)),
 km 9 1,
 kc 10 (kF 47) [8, 9],
 km 6 10]
 (sr [km 11 6,
 kv 12 (.bin .neq 11 (.c kz))]
 (.cond 12
 (sr [km 13 6,
 kv 4 (.mov (.c (.lit (.slice none 0 0)))),
 km 5 13]
 .ret)
 .skip)))
 (sr [kv 14 (.load 2 (some 8)),
 ko 15 (.bld [kz, kz, kz, kz, kz, kz, kz, kz] [(0, 8, 14)]),
 km 16 1,
 kc 17 (kF 59) [15, 16],
 kc 18 (kF 60) [17],
 km 7 18]
 (.seq (sr [km 19 7,
 kv 20 (.len 19),
 kv 21 (.bin .eql 20 (.c kz))]
 (.cond 21
 (sr [kv 4 (.mov (.c (.lit (.slice none 0 0)))),
 kv 5 (.mov (.c (ki 4)))]
 .ret)
 .skip))
 (sr [km 22 7,
 km 4 22,
 kv 5 (.mov (.c kz))]
 .ret)))))
theorem h23 : FdOk Try.prog 23 ⟨g23, [.t 4, .t 5], 23, [], false⟩ := .of Try.func23 (by simp [Try.f23]) (by kernel_rfl)
def g25 : RC :=
 (sr [kv 4 (.mov (.c (.lit (.bool false))))]
 (.seq (sr [km 6 0,
 kv 7 (.len 6),
 km 8 1,
 kv 9 (.len 8),
 kv 10 (.bin .neq 7 9)]
 (.cond 10
 (sr [kv 4 (.mov (.c (.lit (.bool false))))]
 .ret)
 .skip))
 (.seq (sr [kv 5 (.mov (.c kz))]
 (.block 0 (.loop
 (.seq (sr [km 11 5,
 km 12 0,
 kv 13 (.len 12),
 kv 14 (.bin .lss 11 13)]
 (.cond 14
 .skip
 (.exit 0)))
 (.seq (.block 1 (.seq (.drw [⟨[], 0, 0, [(km 17 0, ku),
 (km 18 5, ku),
 (kv 19 (.ixa 17 18 1), ku),
 (kl 20 19, ku),
 (km 21 1, ku),
 (km 22 5, ku),
 (kv 23 (.ixa 21 22 1), ku),
 (kl 24 23, ku)],
 [],
 [kv 25 (.bin .neq 20 24)], none⟩])
 (.cond 25
 (sr [kv 4 (.mov (.c (.lit (.bool false))))]
 .ret)
 .skip)))
 (.reg [km 15 5,
 kv 16 (.bin .add 15 (.c (ki 1))),
 km 5 16]))))))
 (sr [kv 4 (.mov (.c (.lit (.bool true))))]
 .ret))))
theorem h25 : FdOk Try.prog 25 ⟨g25, [.t 4], 26, [], false⟩ := .of Try.func25 (by simp [Try.f25]) (by kernel_rfl)
def g26 : RC :=
 (sr [ko 2 (.box 25 0),
 kv 4 (.mov (.c (.lit (.bool false)))),
 kv 5 (.mov (.c kz)),
 kv 6 (.mov (.c kz))]
 (.seq (sr [kv 11 (.load 2 (some 8)),
 km 12 1,
 kc 13 (kF 47) [11, 12],
 km 7 13]
 (sr [km 14 7,
 kv 15 (.bin .neq 14 (.c kz))]
 (.cond 15
 (sr [km 16 7,
 kv 4 (.mov (.c (.lit (.bool false)))),
 kv 5 (.mov (.c kz)),
 km 6 16]
 .ret)
 .skip)))
 (.seq (sr [km 17 1,
 kv 18 (.len 17),
 kv 19 (.bin .eql 18 (.c (ki 8)))]
 (.cond 19
 (sr [kv 4 (.mov (.c (.lit (.bool false)))),
 kv 5 (.mov (.c kz)),
 kv 6 (.mov (.c (ki 6)))]
 .ret)
 .skip))
 (sr [kv 20 (.load 2 (some 8)),
 ko 21 (.bld [kz, kz, kz, kz, kz, kz, kz, kz] [(0, 8, 20)]),
 ko 8 (.new 78 [kz, kz, kz, kz, kz, kz, kz, kz]),
 ks 8 8 21]
 (sr [kv 22 (.load 8 (some 8)),
 km 23 1,
 kc 24 (kF 49) [22, 23],
 km 9 24]
 (.seq (sr [kv 25 (.load 8 (some 8)),
 km 26 9,
 kc 27 (kF 56) [25, 26],
 kc 28 (kF 57) [],
 kv 29 (.eqs [(some .i64), (some .i64), (some .i64), (some .i64)] false 27 28)]
 (.cond 29
 (sr [kv 4 (.mov (.c (.lit (.bool false)))),
 kv 5 (.mov (.c kz)),
 kv 6 (.mov (.c (ki 33)))]
 .ret)
 .skip))
 (sr [kv 30 (.load 8 (some 8)),
 km 31 9,
 kc 32 (kF 62) [30, 31],
 ko 10 (.new 99 [(.lit (.bool false)), kz]),
 ks 2 10 32]
 (.seq (.drw [⟨[], 0, 0, [(kf 33 10 0, ku),
 (kl 34 33, ku),
 (kf 35 10 1, ku),
 (kl 36 35, ku),
 (km 4 34, ku)],
 [],
 [km 5 36,
 kv 6 (.mov (.c kz))], none⟩])
 .ret))))))))
theorem h26 : FdOk Try.prog 26 ⟨g26, [.t 4, .t 5, .t 6], 37, [], false⟩ := .of Try.func26 (by simp [Try.f26]) (by kernel_rfl)
def g28 : RC :=
 (sr [ko 3 (.box 23 0),
 kv 6 (.mov (.c kz)),
 kv 7 (.mov (.c kz))]
 (.seq (sr [kv 10 (.load 3 (some 2)),
 kc 11 (kF 64) [10, (.c (ki (-1000000))), (.c (ki 1000000))],
 kv 12 (.not 11),
 km 13 12,
 kG 14 13 false (.mov 1),
 ⟨(some 15), (some (13, false)), .o (.call (kF 65) [14, (.c (ki 1)), (.c (ki 100))])⟩,
 kG 16 13 false (.not 15),
 kv 17 (.pick 13 (.c (.lit (.bool true))) 16),
 km 18 17,
 kG 19 18 false (.mov 2),
 ⟨(some 20), (some (18, false)), .o (.call (kF 65) [19, (.c kz), (.c (ki 1000000))])⟩,
 kG 21 18 false (.not 20),
 kv 22 (.pick 18 (.c (.lit (.bool true))) 21)]
 (.cond 22
 (sr [kv 6 (.mov (.c kz)),
 kv 7 (.mov (.c (ki 7)))]
 .ret)
 .skip))
 (.seq (.drw [⟨[], 0, 1, [(km 23 2, ku),
 (kv 24 (.neg 23), ku),
 (kf 25 3 0, ku),
 (kl 26 25, ku),
 (kv 27 (.bin .sub 24 26), ku),
 (km 28 1, ku),
 (kc 29 (kF 66) [27, 28], .eff 0 []),
 (km 30 2, ku),
 (kf 31 3 1, ku),
 (kl 32 31, ku),
 (kv 33 (.bin .sub 30 32), ku),
 (km 34 1, ku)],
 [],
 [kc 35 (kF 67) [33, 34],
 km 8 29,
 km 9 35], none⟩])
 (.seq (sr [km 36 8,
 km 37 9,
 kv 38 (.bin .gtr 36 37)]
 (.cond 38
 (sr [kv 6 (.mov (.c kz)),
 kv 7 (.mov (.c (ki 4)))]
 .ret)
 .skip))
 (sr [km 39 8,
 kv 40 (.max2 (.c kz) 39),
 km 41 9,
 kv 42 (.min2 40 41),
 km 6 42,
 kv 7 (.mov (.c kz))]
 .ret)))))
theorem h28 : FdOk Try.prog 28 ⟨g28, [.t 6, .t 7], 43, [], false⟩ := .of Try.func28 (by simp [Try.f28]) (by kernel_rfl)
def g30 : RC :=
 (sr [ko 5 (.box 49 2),
 kv 6 (.mov (.c kz)),
 kv 7 (.mov (.c kz))]
 (.seq (sr [km 9 0,
 km 10 1,
 kc 11 (kF 69) [9, 10],
 kv 12 (.not 11),
 km 13 12,
 kG 14 13 false (.load 5 (some 2)),
 ⟨(some 15), (some (13, false)), .o (.call (kF 70) [14])⟩,
 kG 16 13 false (.not 15),
 kv 17 (.pick 13 (.c (.lit (.bool true))) 16)]
 (.cond 17
 (sr [kv 6 (.mov (.c kz)),
 kv 7 (.mov (.c (ki 34)))]
 .ret)
 .skip))
 (sr [km 18 0,
 km 19 1,
 kv 20 (.load 5 (some 2)),
 kc 21 (kF 71) [18, 19, 20],
 km 8 21]
 (.seq (sr [km 22 8,
 kv 23 (.len 22),
 kv 24 (.bin .eql 23 (.c kz))]
 (.cond 24
 (sr [kv 6 (.mov (.c kz)),
 kv 7 (.mov (.c (ki 4)))]
 .ret)
 .skip))
 (.seq (.drw [⟨[8], 0, 0, [(km 25 8, ku),
 (kv 26 (.ixa 25 (.c kz) 2), ku),
 (kv 27 (.load 26 (some 2)), ku),
 (km 28 8, ku),
 (ko 29 (.slc 28 (some (.c (ki 1))) none none 2), ku)],
 [],
 [kc 30 (kF 72) [(kF 73), 27, 29],
 kv 31 (.fld 30 0 none),
 km 6 31,
 kv 7 (.mov (.c kz))], none⟩])
 .ret)))))
theorem h30 : FdOk Try.prog 30 ⟨g30, [.t 6, .t 7], 32, [], false⟩ := .of Try.func30 (by simp [Try.f30]) (by kernel_rfl)
def g43 : RC :=
 (sr [ko 0 (.new 25 [kz, kz, kz, kz, kz, kz, kz, kz])]
 (sr [kc 1 (kF 44) [(.c (ki 16)), (.c (ki 20))],
 kc 2 (kF 44) [(.c (ki 50)), (.c (ki 52))],
 kc 3 (kF 44) [(.c (ki 38)), (.c (ki 42))],
 ko 4 (.bld [kz, kz, kz, kz, kz, kz, kz, kz] [(0, 1, (.c (ki 40))), (1, 2, 1), (3, 2, 2), (5, 2, 3), (7, 1, (.c (ki 1)))]),
 ks 8 0 4]
 .ret))
theorem h43 : FdOk Try.prog 43 ⟨g43, [.c 0 (some 8)], 5, [], false⟩ := .of Try.func43 (by simp [Try.f43]) (by kernel_rfl)
def g44 : RC :=
 (sr [ko 4 (.new 23 [kz, kz])]
 (sr [km 5 0,
 km 6 1,
 ko 7 (.bld [kz, kz] [(0, 1, 5), (1, 1, 6)]),
 ks 2 4 7]
 .ret))
theorem h44 : FdOk Try.prog 44 ⟨g44, [.c 4 (some 2)], 8, [], false⟩ := .of Try.func44 (by simp [Try.f44]) (by kernel_rfl)
def g45 : RC :=
 (sr [kv 0 (.mov (.c (.lit (.slice none 0 0))))]
 (sr [ko 1 (.bld [kz, kz, (.lit (.bool false))] [(0, 1, (.c (ki 14))), (1, 1, (.c (ki 32)))]),
 ko 2 (.bld [kz, kz, (.lit (.bool false))] [(0, 1, (.c (ki 9))), (1, 1, (.c (ki 27))), (2, 1, (.c (.lit (.bool true))))]),
 ko 3 (.bld [kz, kz, (.lit (.bool false))] [(0, 1, (.c (ki 5))), (1, 1, (.c (ki 23))), (2, 1, (.c (.lit (.bool true))))]),
 ko 4 (.bsl 57 3 [kz, kz, (.lit (.bool false)), kz, kz, (.lit (.bool false)), kz, kz, (.lit (.bool false))] [(0, 3, 1), (3, 3, 2), (6, 3, 3)]),
 km 0 4]
 .ret))
theorem h45 : FdOk Try.prog 45 ⟨g45, [.t 0], 5, [], false⟩ := .of Try.func45 (by simp [Try.f45]) (by kernel_rfl)
def g46 : RC :=
 (sr [ko 0 (.new 25 [kz, kz, kz, kz, kz, kz, kz, kz])]
 (sr [kc 1 (kF 44) [(.c (ki 20)), (.c (ki 24))],
 kc 2 (kF 44) [(.c (ki 20)), (.c (ki 20))],
 kc 3 (kF 44) [(.c (ki 58)), (.c (ki 62))],
 ko 4 (.bld [kz, kz, kz, kz, kz, kz, kz, kz] [(0, 1, (.c (ki 60))), (1, 2, 1), (3, 2, 2), (5, 2, 3), (7, 1, (.c (ki 1)))]),
 ks 8 0 4]
 .ret))
theorem h46 : FdOk Try.prog 46 ⟨g46, [.c 0 (some 8)], 5, [], false⟩ := .of Try.func46 (by simp [Try.f46]) (by kernel_rfl)
def g47 : RC :=
 (sr [ko 2 (.box 25 0),
 kv 4 (.mov (.c kz))]
 (.seq (sr [kv 6 (.load 2 (some 8)),
 kc 7 (kF 18) [6],
 km 5 7]
 (sr [km 8 5,
 kv 9 (.bin .neq 8 (.c kz))]
 (.cond 9
 (sr [km 10 5,
 km 4 10]
 .ret)
 .skip)))
 (.seq (sr [kv 11 (.load 2 (some 8)),
 ko 12 (.bld [kz, kz, kz, kz, kz, kz, kz, kz] [(0, 8, 11)]),
 km 13 1,
 kc 14 (kF 76) [12, 13],
 kv 15 (.not 14)]
 (.cond 15
 (sr [kv 4 (.mov (.c (ki 31)))]
 .ret)
 .skip))
 (sr [kv 4 (.mov (.c kz))]
 .ret))))
theorem h47 : FdOk Try.prog 47 ⟨g47, [.t 4], 16, [], false⟩ := .of Try.func47 (by simp [Try.f47]) (by kernel_rfl)
def g48 : RC :=
 (sr [ko 2 (.box 78 0),
 ko 3 (.box 28 1),
 kv 4 (.mov (.c (.lit (.bool false))))]
 (sr [kf 5 3 0,
 kl 6 5,
 kf 7 2 0,
 kf 8 7 3,
 kf 9 8 0,
 kl 10 9,
 kf 11 2 0,
 kf 12 11 3,
 kf 13 12 1,
 kl 14 13,
 kc 15 (kF 65) [6, 10, 14],
 km 16 15,
 kG 17 16 true (.off 3 1),
 kG 18 16 true (.load 17 none),
 kG 19 16 true (.off 2 0),
 kG 20 16 true (.off 19 5),
 kG 21 16 true (.off 20 0),
 kG 22 16 true (.load 21 none),
 kG 23 16 true (.off 2 0),
 kG 24 16 true (.off 23 5),
 kG 25 16 true (.off 24 1),
 kG 26 16 true (.load 25 none),
 ⟨(some 27), (some (16, true)), .o (.call (kF 65) [18, 22, 26])⟩,
 kv 28 (.pick 16 27 (.c (.lit (.bool false)))),
 km 4 28]
 .ret))
theorem h48 : FdOk Try.prog 48 ⟨g48, [.t 4], 29, [], false⟩ := .of Try.func48 (by simp [Try.f48]) (by kernel_rfl)
def g49 : RC :=
 (sr [ko 2 (.box 78 0),
 kv 4 (.mov (.c (.lit (.map none))))]
 (sr [⟨(some 8), none, .mkm⟩,
 km 5 8]
 (.seq (sr [km 9 1,
 kv 10 (.len 9),
 kv 11 (.mov (.c kz))]
 (.block 0 (.loop
 (sr [kv 12 (.bin .lss 11 10)]
 (.seq (.cond 12
 .skip
 (.exit 0))
 (.seq (.block 1 (sr [kv 13 (.ixa 9 11 3),
 kv 14 (.load 13 (some 3)),
 ko 7 (.new 57 [kz, kz, (.lit (.bool false))]),
 ks 3 7 14]
 (.reg [kv 15 (.load 2 (some 8)),
 km 16 5,
 kv 17 (.load 7 (some 3)),
 kc 18 (kF 77) [15, 16, 17],
 km 5 18])))
 (.reg [kv 19 (.bin .add 11 (.c (ki 1))),
 km 11 19])))))))
 (sr [km 20 5,
 km 4 20]
 .ret))))
theorem h49 : FdOk Try.prog 49 ⟨g49, [.t 4], 21, [], false⟩ := .of Try.func49 (by simp [Try.f49]) (by kernel_rfl)
def g50 : RC :=
 (sr [ko 3 (.box 28 1),
 kv 4 (.mov (.c (.lit (.bool false))))]
 (.seq (sr [km 8 0,
 kc 9 (kF 78) [8],
 kv 10 (.len 9),
 kv 11 (.mov (.c kz))]
 (.block 0 (.loop
 (sr [kv 12 (.bin .lss 11 10)]
 (.seq (.cond 12
 .skip
 (.exit 0))
 (.seq (.block 1 (sr [kv 13 (.ixa 9 11 1),
 kl 14 13,
 km 6 14]
 (sr [km 15 6,
 kf 16 3 1,
 kl 17 16,
 ko 18 (.inv [(145, 118), (146, 119)] 15 [17]),
 ko 7 (.new 23 [kz, kz]),
 ks 2 7 18]
 (sr [kf 19 3 2,
 kl 20 19,
 kf 21 3 0,
 kl 22 21,
 kf 23 7 0,
 kl 24 23,
 kv 25 (.bin .mul 22 24),
 kf 26 3 0,
 kl 27 26,
 kf 28 7 1,
 kl 29 28,
 kv 30 (.bin .mul 27 29),
 kc 31 (kF 65) [20, 25, 30],
 kv 32 (.not 31)]
 (.cond 32
 (sr [kv 4 (.mov (.c (.lit (.bool false))))]
 .ret)
 .skip)))))
 (.reg [kv 33 (.bin .add 11 (.c (ki 1))),
 km 11 33])))))))
 (sr [kv 4 (.mov (.c (.lit (.bool true))))]
 .ret)))
theorem h50 : FdOk Try.prog 50 ⟨g50, [.t 4], 34, [], false⟩ := .of Try.func50 (by simp [Try.f50]) (by kernel_rfl)
def g54 : RC :=
 (sr [ko 1 (.box 78 0),
 kv 2 (.mov (.c (.lit (.bool false))))]
 (sr [kf 3 1 0,
 kf 4 3 0,
 kl 5 4,
 kc 6 (kF 65) [5, (.c (ki 10)), (.c (ki 200))],
 km 7 6,
 kG 8 7 true (.off 1 0),
 kG 9 7 true (.off 8 1),
 kG 10 7 true (.load 9 (some 2)),
 kG 11 7 true (.off 1 0),
 kG 12 7 true (.off 11 0),
 kG 13 7 true (.load 12 none),
 ⟨(some 14), (some (7, true)), .o (.call (kF 64) [10, (.c (ki 1)), 13])⟩,
 kv 15 (.pick 7 14 (.c (.lit (.bool false)))),
 km 16 15,
 kG 17 16 true (.off 1 0),
 kG 18 16 true (.off 17 3),
 kG 19 16 true (.load 18 (some 2)),
 ⟨(some 20), (some (16, true)), .o (.call (kF 64) [19, (.c (ki 1)), (.c (ki 500))])⟩,
 kv 21 (.pick 16 20 (.c (.lit (.bool false)))),
 km 22 21,
 kG 23 22 true (.off 1 0),
 kG 24 22 true (.off 23 5),
 kG 25 22 true (.load 24 (some 2)),
 kG 26 22 true (.off 1 0),
 kG 27 22 true (.off 26 0),
 kG 28 22 true (.load 27 none),
 kG 29 22 true (.bin .mul (.c (ki 2)) 28),
 ⟨(some 30), (some (22, true)), .o (.call (kF 64) [25, (.c kz), 29])⟩,
 kv 31 (.pick 22 30 (.c (.lit (.bool false)))),
 km 32 31,
 kG 33 32 true (.off 1 0),
 kG 34 32 true (.off 33 7),
 kG 35 32 true (.load 34 none),
 ⟨(some 36), (some (32, true)), .o (.call (kF 65) [35, (.c kz), (.c (ki 8))])⟩,
 kv 37 (.pick 32 36 (.c (.lit (.bool false)))),
 km 2 37]
 .ret))
theorem h54 : FdOk Try.prog 54 ⟨g54, [.t 2], 38, [], false⟩ := .of Try.func54 (by simp [Try.f54]) (by kernel_rfl)
def g56 : RC :=
 (sr [ko 2 (.box 78 0),
 ko 4 (.new 88 [kz, kz, kz, kz])]
 (.scp (sr [kc 11 (kF 57) [],
 km 12 1,
 kc 13 (kF 78) [12],
 ko 5 (.new 88 [kz, kz, kz, kz]),
 ko 6 (.new 115 [(.lit (.slice none 0 0))]),
 ks 4 5 11,
 ks 1 6 13]
 (.seq .skip
 (.seq (sr [kv 14 (.load 2 (some 8)),
 kc 15 (kF 80) [14]]
 (.block 0 (.rng 15 [16]
 (.reg [km 7 16])
 (.block 1 (sr [ko 17 (.bld [kz, kz] [(0, 1, (.c (ki (-9223372036854775808)))), (1, 1, (.c (ki 9223372036854775807)))]),
 ko 8 (.new 23 [kz, kz]),
 ks 2 8 17]
 (.seq (sr [kl 18 6,
 kv 19 (.len 18),
 kv 20 (.mov (.c kz))]
 (.block 2 (.loop
 (sr [kv 21 (.bin .lss 20 19)]
 (.seq (.cond 21
 .skip
 (.exit 2))
 (.seq (.block 3 (sr [kv 22 (.ixa 18 20 1),
 kl 23 22,
 km 10 23]
 (.seq (.drw [⟨[], 0, 1, [(kv 24 (.load 8 (some 2)), ku),
 (km 25 10, ku),
 (km 26 7, ku),
 (ko 27 (.inv [(145, 118), (146, 119)] 25 [26]), .eff 0 [])],
 [],
 [kc 28 (kF 81) [24, 27],
 ks 2 8 28], none⟩])
 (.seq (.drw [⟨[], 0, 1, [(kv 29 (.load 8 (some 2)), ku),
 (kc 30 (kF 82) [], .eff 0 [])],
 [],
 [kv 31 (.eqs [(some .i64), (some .i64)] false 29 30)], none⟩])
 (.cond 31
 (.exit 1)
 .skip)))))
 (.reg [kv 32 (.bin .add 20 (.c (ki 1))),
 km 20 32])))))))
 (.seq (.drw [⟨[], 0, 1, [(kf 33 5 0, ku),
 (kv 34 (.load 33 (some 2)), ku),
 (kv 35 (.load 2 (some 8)), ku),
 (kv 36 (.load 8 (some 2)), ku),
 (kc 37 (kF 84) [35, 36], .eff 0 [])],
 [],
 [kc 38 (kF 83) [34, 37],
 kf 39 5 0,
 ks 2 39 38], none⟩])
 (.reg [kf 40 5 2,
 kv 41 (.load 40 (some 2)),
 km 42 7,
 km 43 7,
 ko 44 (.bld [kz, kz] [(0, 1, 42), (1, 1, 43)]),
 kc 45 (kF 83) [41, 44],
 kf 46 5 2,
 ks 2 46 45]))))))))
 (sr [kv 47 (.load 5 (some 4)),
 ks 4 4 47]
 .ret))))))
theorem h56 : FdOk Try.prog 56 ⟨g56, [.c 4 (some 4)], 48, [], false⟩ := .of Try.func56 (by simp [Try.f56]) (by kernel_rfl)
def g57 : RC :=
 (sr [ko 0 (.new 88 [kz, kz, kz, kz])]
 (sr [kc 1 (kF 82) [],
 kc 2 (kF 82) [],
 ko 3 (.bld [kz, kz, kz, kz] [(0, 2, 1), (2, 2, 2)]),
 ks 4 0 3]
 .ret))
theorem h57 : FdOk Try.prog 57 ⟨g57, [.c 0 (some 4)], 4, [], false⟩ := .of Try.func57 (by simp [Try.f57]) (by kernel_rfl)
def g59 : RC :=
 (sr [ko 2 (.box 78 0),
 ko 3 (.box 26 1),
 ko 4 (.new 94 [(.lit (.bool false)), (.lit (.bool false)), (.lit (.bool false)), (.lit (.bool false)), (.lit (.bool false)), (.lit (.bool false)), (.lit (.bool false)), (.lit (.bool false))])]
 (sr [ko 5 (.new 129 [(.lit .nilFunc)])]
 (sr [kv 8 (.mkfn 86 [2, 3, 5]),
 ks 1 5 8]
 (.seq (sr [kl 9 3,
 kv 10 (.len 9),
 kv 11 (.mov (.c kz))]
 (.block 0 (.loop
 (sr [kv 12 (.bin .lss 11 10)]
 (.seq (.cond 12
 .skip
 (.exit 0))
 (.seq (.block 1 (sr [km 13 11,
 km 6 13]
 (sr [kl 14 5,
 ko 15 (.bld [(.lit (.bool false)), (.lit (.bool false)), (.lit (.bool false)), (.lit (.bool false)), (.lit (.bool false)), (.lit (.bool false)), (.lit (.bool false)), (.lit (.bool false))] []),
 ⟨(some 16), none, .mkm⟩,
 km 17 6,
 kv 18 (.bin .add 17 (.c (ki 1))),
 kc 19 14 [15, 16, (.c kz), 18],
 ko 7 (.new 94 [(.lit (.bool false)), (.lit (.bool false)), (.lit (.bool false)), (.lit (.bool false)), (.lit (.bool false)), (.lit (.bool false)), (.lit (.bool false)), (.lit (.bool false))]),
 ks 8 7 19]
 (sr [kv 20 (.load 7 (some 8)),
 ko 21 (.bld [(.lit (.bool false)), (.lit (.bool false)), (.lit (.bool false)), (.lit (.bool false)), (.lit (.bool false)), (.lit (.bool false)), (.lit (.bool false)), (.lit (.bool false))] []),
 kv 22 (.eqs [none, none, none, none, none, none, none, none] true 20 21)]
 (.cond 22
 (sr [kv 23 (.load 7 (some 8)),
 ks 8 4 23]
 .ret)
 .skip)))))
 (.reg [kv 24 (.bin .add 11 (.c (ki 1))),
 km 11 24])))))))
 (sr [ko 25 (.bld [(.lit (.bool false)), (.lit (.bool false)), (.lit (.bool false)), (.lit (.bool false)), (.lit (.bool false)), (.lit (.bool false)), (.lit (.bool false)), (.lit (.bool false))] []),
 ks 8 4 25]
 .ret)))))
theorem h59 : FdOk Try.prog 59 ⟨g59, [.c 4 (some 8)], 26, [], false⟩ := .of Try.func59 (by simp [Try.f59]) (by kernel_rfl)
def g60 : RC :=
 (sr [ko 1 (.box 94 0),
 kv 2 (.mov (.c (.lit (.slice none 0 0))))]
 (sr [kv 3 (.mov (.c (.lit (.slice none 0 0))))]
 (.seq (sr [kv 6 (.load 1 (some 8)),
 kv 7 (.mov (.c kz))]
 (.block 0 (.loop
 (sr [kv 8 (.bin .lss 7 (.c (ki 8)))]
 (.seq (.cond 8
 .skip
 (.exit 0))
 (.seq (.block 1 (sr [km 9 7,
 kv 10 (.ixv 6 7 8 1 none),
 km 4 9,
 km 5 10]
 (sr [km 11 5]
 (.cond 11
 (.reg [km 12 3,
 km 13 4,
 ko 14 (.bsl 3 1 [kz] [(0, 1, 13)]),
 ko 15 (.app 3 1 8 12 14),
 km 3 15])
 .skip))))
 (.reg [kv 16 (.bin .add 7 (.c (ki 1))),
 km 7 16])))))))
 (sr [km 17 3,
 km 2 17]
 .ret))))
theorem h60 : FdOk Try.prog 60 ⟨g60, [.t 2], 18, [], false⟩ := .of Try.func60 (by simp [Try.f60]) (by kernel_rfl)
def g62 : RC :=
 (sr [ko 2 (.box 78 0),
 ko 4 (.new 99 [(.lit (.bool false)), kz])]
 (sr [kv 5 (.mov (.c (.lit (.slice none 0 0))))]
 (.seq (sr [kc 10 (kF 87) [],
 kv 11 (.mov (.c kz))]
 (.block 0 (.loop
 (sr [kv 12 (.bin .lss 11 (.c (ki 2)))]
 (.seq (.cond 12
 .skip
 (.exit 0))
 (.seq (.block 1 (sr [kv 13 (.ixv 10 11 2 2 (some 2)),
 ko 7 (.new 133 [(.lit (.bool false)), (.lit .nilFunc)]),
 ks 2 7 13]
 (sr [kv 15 (.load 2 (some 8)),
 km 16 1,
 kf 17 7 0,
 kl 18 17,
 kc 19 (kF 88) [15, 16, 18],
 km 14 19,
 kv 20 (.ext 14 0),
 kv 21 (.ext 14 1),
 km 8 20,
 km 9 21]
 (sr [km 22 9]
 (.cond 22
 (.reg [km 23 5,
 kf 24 7 0,
 kl 25 24,
 km 26 8,
 ko 27 (.bld [(.lit (.bool false)), kz] [(0, 1, 25), (1, 1, 26)]),
 ko 28 (.bsl 99 1 [(.lit (.bool false)), kz] [(0, 2, 27)]),
 ko 29 (.app 99 2 16 23 28),
 km 5 29])
 .skip)))))
 (.reg [kv 30 (.bin .add 11 (.c (ki 1))),
 km 11 30])))))))
 (.seq (.drw [⟨[5, 4], 0, 0, [(km 31 5, ku),
 (kv 32 (.ixa 31 (.c kz) 2), ku),
 (kv 33 (.load 32 (some 2)), ku),
 (km 34 5, ku),
 (ko 35 (.slc 34 (some (.c (ki 1))) none none 2), ku)],
 [],
 [kc 36 (kF 89) [(kF 90), 33, 35],
 ks 2 4 36], none⟩])
 .ret))))
theorem h62 : FdOk Try.prog 62 ⟨g62, [.c 4 (some 2)], 37, [], false⟩ := .of Try.func62 (by simp [Try.f62]) (by kernel_rfl)
def g64 : RC :=
 (sr [ko 3 (.box 23 0),
 kv 6 (.mov (.c (.lit (.bool false))))]
 (sr [km 7 1,
 kf 8 3 0,
 kl 9 8,
 kv 10 (.bin .leq 7 9),
 km 11 10,
 kG 12 11 true (.off 3 0),
 kG 13 11 true (.load 12 none),
 kG 14 11 true (.off 3 1),
 kG 15 11 true (.load 14 none),
 kG 16 11 true (.bin .leq 13 15),
 kv 17 (.pick 11 16 (.c (.lit (.bool false)))),
 km 18 17,
 kG 19 18 true (.off 3 1),
 kG 20 18 true (.load 19 none),
 kG 21 18 true (.mov 2),
 kG 22 18 true (.bin .leq 20 21),
 kv 23 (.pick 18 22 (.c (.lit (.bool false)))),
 km 6 23]
 .ret))
theorem h64 : FdOk Try.prog 64 ⟨g64, [.t 6], 24, [], false⟩ := .of Try.func64 (by simp [Try.f64]) (by kernel_rfl)
def g65 : RC :=
 (sr [kv 6 (.mov (.c (.lit (.bool false))))]
 (sr [km 7 1,
 km 8 0,
 kv 9 (.bin .leq 7 8),
 km 10 9,
 kG 11 10 true (.mov 0),
 kG 12 10 true (.mov 2),
 kG 13 10 true (.bin .leq 11 12),
 kv 14 (.pick 10 13 (.c (.lit (.bool false)))),
 km 6 14]
 .ret))
theorem h65 : FdOk Try.prog 65 ⟨g65, [.t 6], 15, [], false⟩ := .of Try.func65 (by simp [Try.f65]) (by kernel_rfl)
def g66 : RC :=
 (sr [kv 4 (.mov (.c kz))]
 (sr [km 5 0,
 kv 6 (.neg 5),
 km 7 1,
 kc 8 (kF 67) [6, 7],
 kv 9 (.neg 8),
 km 4 9]
 .ret))
theorem h66 : FdOk Try.prog 66 ⟨g66, [.t 4], 10, [], false⟩ := .of Try.func66 (by simp [Try.f66]) (by kernel_rfl)
def g67 : RC :=
 (sr [kv 4 (.mov (.c kz))]
 (sr [km 6 0,
 km 7 1,
 kv 8 (.bin .quo 6 7),
 km 5 8]
 (.seq (sr [km 9 0,
 km 10 1,
 kv 11 (.bin .rem 9 10),
 kv 12 (.bin .lss 11 (.c kz))]
 (.cond 12
 (.reg [km 13 5,
 kv 14 (.bin .sub 13 (.c (ki 1))),
 km 5 14])
 .skip))
 (sr [km 15 5,
 km 4 15]
 .ret))))
theorem h67 : FdOk Try.prog 67 ⟨g67, [.t 4], 16, [], false⟩ := .of Try.func67 (by simp [Try.f67]) (by kernel_rfl)
def g69 : RC :=
 (sr [kv 4 (.mov (.c (.lit (.bool false))))]
 (.seq (sr [km 7 0,
 kv 8 (.len 7),
 kc 9 (kF 65) [8, (.c (ki 1)), (.c (ki 10))],
 kv 10 (.not 9),
 km 11 10,
 kG 12 11 false (.mov 1),
 kG 13 11 false (.len 12),
 kG 14 11 false (.mov 0),
 kG 15 11 false (.len 14),
 kG 16 11 false (.bin .neq 13 15),
 kv 17 (.pick 11 (.c (.lit (.bool true))) 16)]
 (.cond 17
 (sr [kv 4 (.mov (.c (.lit (.bool false))))]
 .ret)
 .skip))
 (.seq (sr [km 18 0,
 kv 19 (.len 18),
 kv 20 (.mov (.c kz))]
 (.block 0 (.loop
 (sr [kv 21 (.bin .lss 20 19)]
 (.seq (.cond 21
 .skip
 (.exit 0))
 (.seq (.block 1 (sr [km 22 20,
 kv 23 (.ixa 18 20 8),
 kv 24 (.load 23 (some 8)),
 ko 6 (.new 25 [kz, kz, kz, kz, kz, kz, kz, kz]),
 km 5 22,
 ks 8 6 24]
 (sr [kv 25 (.load 6 (some 8)),
 ko 26 (.bld [kz, kz, kz, kz, kz, kz, kz, kz] [(0, 8, 25)]),
 kc 27 (kF 54) [26],
 kv 28 (.not 27),
 km 29 28,
 kG 30 29 false (.mov 1),
 kG 31 29 false (.mov 5),
 kG 32 29 false (.ixa 30 31 1),
 kG 33 29 false (.load 32 none),
 ⟨(some 34), (some (29, false)), .o (.call (kF 65) [33, (.c kz), (.c (ki 1000))])⟩,
 kG 35 29 false (.not 34),
 kv 36 (.pick 29 (.c (.lit (.bool true))) 35)]
 (.cond 36
 (sr [kv 4 (.mov (.c (.lit (.bool false))))]
 .ret)
 .skip))))
 (.reg [kv 37 (.bin .add 20 (.c (ki 1))),
 km 20 37])))))))
 (sr [kv 4 (.mov (.c (.lit (.bool true))))]
 .ret))))
theorem h69 : FdOk Try.prog 69 ⟨g69, [.t 4], 38, [], false⟩ := .of Try.func69 (by simp [Try.f69]) (by kernel_rfl)
def g70 : RC :=
 (sr [ko 1 (.box 49 0),
 kv 2 (.mov (.c (.lit (.bool false))))]
 (sr [kf 3 1 0,
 kl 4 3,
 kc 5 (kF 65) [4, (.c kz), (.c (ki 100000))],
 km 6 5,
 kG 7 6 true (.off 1 1),
 kG 8 6 true (.load 7 none),
 ⟨(some 9), (some (6, true)), .o (.call (kF 65) [8, (.c kz), (.c (ki 100000))])⟩,
 kv 10 (.pick 6 9 (.c (.lit (.bool false)))),
 km 2 10]
 .ret))
theorem h70 : FdOk Try.prog 70 ⟨g70, [.t 2], 11, [], false⟩ := .of Try.func70 (by simp [Try.f70]) (by kernel_rfl)
def g71 : RC :=
 (sr [ko 5 (.box 49 2),
 kv 6 (.mov (.c (.lit (.slice none 0 0))))]
 (sr [kv 7 (.mov (.c (.lit (.slice none 0 0))))]
 (.seq (sr [km 10 0,
 kv 11 (.len 10),
 kv 12 (.mov (.c kz))]
 (.block 0 (.loop
 (sr [kv 13 (.bin .lss 12 11)]
 (.seq (.cond 13
 .skip
 (.exit 0))
 (.seq (.block 1 (sr [km 14 12,
 kv 15 (.ixa 10 12 8),
 kv 16 (.load 15 (some 8)),
 ko 9 (.new 25 [kz, kz, kz, kz, kz, kz, kz, kz]),
 km 8 14,
 ks 8 9 16]
 (sr [kv 17 (.load 9 (some 8)),
 ko 18 (.bld [kz, kz, kz, kz, kz, kz, kz, kz] [(0, 8, 17)]),
 kv 19 (.load 5 (some 2)),
 kc 20 (kF 91) [18, 19]]
 (.cond 20
 (.reg [km 21 7,
 km 22 8,
 km 23 1,
 km 24 8,
 kv 25 (.ixa 23 24 1),
 kl 26 25,
 ko 27 (.bld [kz, kz] [(0, 1, 22), (1, 1, 26)]),
 ko 28 (.bsl 107 1 [kz, kz] [(0, 2, 27)]),
 ko 29 (.app 107 2 16 21 28),
 km 7 29])
 .skip))))
 (.reg [kv 30 (.bin .add 12 (.c (ki 1))),
 km 12 30])))))))
 (sr [km 31 7,
 km 6 31]
 .ret))))
theorem h71 : FdOk Try.prog 71 ⟨g71, [.t 6], 32, [], false⟩ := .of Try.func71 (by simp [Try.f71]) (by kernel_rfl)
def g72 : RC :=
 (sr [ko 4 (.box 107 1),
 ko 6 (.new 107 [kz, kz])]
 (.seq (sr [km 9 2,
 kv 10 (.len 9),
 kv 11 (.mov (.c kz))]
 (.block 0 (.loop
 (sr [kv 12 (.bin .lss 11 10)]
 (.seq (.cond 12
 .skip
 (.exit 0))
 (.seq (.block 1 (sr [kv 13 (.ixa 9 11 2),
 kv 14 (.load 13 (some 2)),
 ko 8 (.new 107 [kz, kz]),
 ks 2 8 14]
 (sr [km 15 0,
 kv 16 (.load 8 (some 2)),
 kv 17 (.load 4 (some 2)),
 kc 18 15 [16, 17]]
 (.cond 18
 (.reg [kv 19 (.load 8 (some 2)),
 ks 2 4 19])
 .skip))))
 (.reg [kv 20 (.bin .add 11 (.c (ki 1))),
 km 11 20])))))))
 (sr [kv 21 (.load 4 (some 2)),
 ks 2 6 21]
 .ret)))
theorem h72 : FdOk Try.prog 72 ⟨g72, [.c 6 (some 2)], 22, [], false⟩ := .of Try.func72 (by simp [Try.f72]) (by kernel_rfl)
def g73 : RC :=
 (sr [ko 2 (.box 107 0),
 ko 3 (.box 107 1),
 kv 4 (.mov (.c (.lit (.bool false))))]
 (sr [kf 5 2 1,
 kl 6 5,
 kf 7 3 1,
 kl 8 7,
 kv 9 (.bin .lss 6 8),
 km 4 9]
 .ret))
theorem h73 : FdOk Try.prog 73 ⟨g73, [.t 4], 10, [], false⟩ := .of Try.func73 (by simp [Try.f73]) (by kernel_rfl)
def g76 : RC :=
 (sr [ko 2 (.box 78 0),
 kv 4 (.mov (.c (.lit (.bool false))))]
 (.seq (sr [km 7 1,
 kv 8 (.len 7),
 kc 9 (kF 65) [8, (.c (ki 1)), (.c (ki 8))],
 kv 10 (.not 9)]
 (.cond 10
 (sr [kv 4 (.mov (.c (.lit (.bool false))))]
 .ret)
 .skip))
 (.seq (sr [km 11 1,
 kv 12 (.len 11),
 kv 13 (.mov (.c kz))]
 (.block 0 (.loop
 (sr [kv 14 (.bin .lss 13 12)]
 (.seq (.cond 14
 .skip
 (.exit 0))
 (.seq (.block 1 (sr [kv 15 (.ixa 11 13 3),
 kv 16 (.load 15 (some 3)),
 ko 6 (.new 57 [kz, kz, (.lit (.bool false))]),
 ks 3 6 16]
 (.seq (sr [kf 17 6 0,
 kl 18 17,
 kv 19 (.bin .lss 18 (.c kz)),
 km 20 19,
 kG 21 20 false (.off 6 1),
 kG 22 20 false (.load 21 none),
 kG 23 20 false (.off 6 0),
 kG 24 20 false (.load 23 none),
 kG 25 20 false (.bin .leq 22 24),
 kv 26 (.pick 20 (.c (.lit (.bool true))) 25),
 km 27 26,
 kG 28 27 false (.off 6 1),
 kG 29 27 false (.load 28 none),
 kG 30 27 false (.off 2 0),
 kG 31 27 false (.off 30 0),
 kG 32 27 false (.load 31 none),
 kG 33 27 false (.bin .gtr 29 32),
 kv 34 (.pick 27 (.c (.lit (.bool true))) 33)]
 (.cond 34
 (sr [kv 4 (.mov (.c (.lit (.bool false))))]
 .ret)
 .skip))
 (sr [kf 35 6 1,
 kl 36 35,
 kf 37 6 0,
 kl 38 37,
 kv 39 (.bin .sub 36 38),
 kf 40 2 0,
 kf 41 40 1,
 kf 42 41 0,
 kl 43 42,
 kf 44 2 0,
 kf 45 44 7,
 kl 46 45,
 kv 47 (.bin .sub 43 46),
 kf 48 2 0,
 kf 49 48 1,
 kf 50 49 1,
 kl 51 50,
 kf 52 2 0,
 kf 53 52 7,
 kl 54 53,
 kv 55 (.bin .add 51 54),
 kc 56 (kF 65) [39, 47, 55],
 kv 57 (.not 56)]
 (.cond 57
 (sr [kv 4 (.mov (.c (.lit (.bool false))))]
 .ret)
 .skip)))))
 (.reg [kv 58 (.bin .add 13 (.c (ki 1))),
 km 13 58])))))))
 (sr [kv 4 (.mov (.c (.lit (.bool true))))]
 .ret))))
theorem h76 : FdOk Try.prog 76 ⟨g76, [.t 4], 59, [], false⟩ := .of Try.func76 (by simp [Try.f76]) (by kernel_rfl)
def g77 : RC :=
 (sr [ko 3 (.box 78 0),
 ko 5 (.box 57 2),
 kv 6 (.mov (.c (.lit (.map none))))]
 (.seq (.drw [⟨[1, 5, 3], 0, 0, [(km 7 1, ku),
 (kf 8 5 2, ku),
 (kl 9 8, ku),
 (kv 10 (.load 3 (some 8)), ku),
 (kf 11 5 0, ku),
 (kl 12 11, ku),
 (kf 13 5 1, ku),
 (kl 14 13, ku),
 (kv 15 (.bin .add 12 14), ku),
 (kc 16 (kF 94) [10, 15], ku)],
 [],
 [kc 17 (kF 93) [7, 9, 16],
 km 6 17], none⟩,
 ⟨[], 0, 1, [(km 7 1, ku),
 (kf 8 5 2, ku),
 (kl 9 8, ku),
 (kv 10 (.load 3 (some 8)), ku),
 (kf 11 5 0, ku),
 (kl 12 11, ku),
 (kf 13 5 1, ku),
 (kl 14 13, ku),
 (kv 15 (.bin .add 12 14), ku),
 (kc 16 (kF 94) [10, 15], .eff 0 [])],
 [],
 [kc 17 (kF 93) [7, 9, 16],
 km 6 17], none⟩])
 .ret))
theorem h77 : FdOk Try.prog 77 ⟨g77, [.t 6], 18, [], false⟩ := .of Try.func77 (by simp [Try.f77]) (by kernel_rfl)
def g78 : RC :=
 (sr [kv 2 (.mov (.c (.lit (.slice none 0 0))))]
 (sr [kv 3 (.mov (.c (.lit (.slice none 0 0))))]
 (.seq (sr [kc 8 (kF 87) [],
 kv 9 (.mov (.c kz))]
 (.block 0 (.loop
 (sr [kv 10 (.bin .lss 9 (.c (ki 2)))]
 (.seq (.cond 10
 .skip
 (.exit 0))
 (.seq (.block 1 (sr [kv 11 (.ixv 8 9 2 2 (some 2)),
 ko 5 (.new 133 [(.lit (.bool false)), (.lit .nilFunc)]),
 ks 2 5 11]
 (sr [km 13 0,
 kf 14 5 0,
 kl 15 14,
 ⟨(some 16), none, .lku .b (.agg [kz, kz]) true 13 15⟩,
 km 12 16,
 kv 17 (.ext 12 0),
 kv 18 (.ext 12 1),
 ko 6 (.new 23 [kz, kz]),
 ks 2 6 17,
 km 7 18]
 (sr [km 19 7]
 (.cond 19
 (.reg [km 20 3,
 kf 21 5 1,
 kl 22 21,
 kv 23 (.load 6 (some 2)),
 kc 24 22 [23],
 ko 25 (.bsl 118 1 [(.lit .nilIface)] [(0, 1, 24)]),
 ko 26 (.app 118 1 16 20 25),
 km 3 26])
 .skip)))))
 (.reg [kv 27 (.bin .add 9 (.c (ki 1))),
 km 9 27])))))))
 (sr [km 28 3,
 km 2 28]
 .ret))))
theorem h78 : FdOk Try.prog 78 ⟨g78, [.t 2], 29, [], false⟩ := .of Try.func78 (by simp [Try.f78]) (by kernel_rfl)
def g80 : RC :=
 (sr [ko 1 (.box 78 0),
 kv 2 (.mov (.c (.lit .nilFunc)))]
 (sr [kv 3 (.mkfn 95 [1]),
 km 2 3]
 .ret))
theorem h80 : FdOk Try.prog 80 ⟨g80, [.t 2], 4, [], false⟩ := .of Try.func80 (by simp [Try.f80]) (by kernel_rfl)
def g81 : RC :=
 (sr [ko 2 (.box 23 0),
 ko 3 (.box 23 1),
 ko 4 (.new 23 [kz, kz])]
 (sr [kf 6 2 0,
 kl 7 6,
 kf 8 3 0,
 kl 9 8,
 kv 10 (.max2 7 9),
 kf 11 2 1,
 kl 12 11,
 kf 13 3 1,
 kl 14 13,
 kv 15 (.min2 12 14),
 ko 16 (.bld [kz, kz] [(0, 1, 10), (1, 1, 15)]),
 ko 5 (.new 23 [kz, kz]),
 ks 2 5 16]
 (.seq (sr [kf 17 5 0,
 kl 18 17,
 kf 19 5 1,
 kl 20 19,
 kv 21 (.bin .gtr 18 20)]
 (.cond 21
 (sr [kc 22 (kF 82) [],
 ks 2 4 22]
 .ret)
 .skip))
 (sr [kv 23 (.load 5 (some 2)),
 ks 2 4 23]
 .ret))))
theorem h81 : FdOk Try.prog 81 ⟨g81, [.c 4 (some 2)], 24, [], false⟩ := .of Try.func81 (by simp [Try.f81]) (by kernel_rfl)
def g82 : RC :=
 (sr [ko 0 (.new 23 [kz, kz])]
 (sr [ko 1 (.bld [kz, kz] [(0, 1, (.c (ki 1))), (1, 1, (.c kz))]),
 ks 2 0 1]
 .ret))
theorem h82 : FdOk Try.prog 82 ⟨g82, [.c 0 (some 2)], 2, [], false⟩ := .of Try.func82 (by simp [Try.f82]) (by kernel_rfl)
def g83 : RC :=
 (sr [ko 2 (.box 23 0),
 ko 3 (.box 23 1),
 ko 4 (.new 23 [kz, kz])]
 (.seq (.seq (.drw [⟨[], 0, 1, [(kv 5 (.load 2 (some 2)), ku),
 (kc 6 (kF 82) [], .eff 0 [])],
 [],
 [kv 7 (.eqs [(some .i64), (some .i64)] false 5 6)], none⟩])
 (.cond 7
 (sr [kv 8 (.load 3 (some 2)),
 ks 2 4 8]
 .ret)
 .skip))
 (sr [kf 9 2 0,
 kl 10 9,
 kf 11 3 0,
 kl 12 11,
 kv 13 (.min2 10 12),
 kf 14 2 1,
 kl 15 14,
 kf 16 3 1,
 kl 17 16,
 kv 18 (.max2 15 17),
 ko 19 (.bld [kz, kz] [(0, 1, 13), (1, 1, 18)]),
 ks 2 4 19]
 .ret)))
theorem h83 : FdOk Try.prog 83 ⟨g83, [.c 4 (some 2)], 20, [], false⟩ := .of Try.func83 (by simp [Try.f83]) (by kernel_rfl)
def g84 : RC :=
 (sr [ko 2 (.box 78 0),
 ko 3 (.box 23 1),
 ko 4 (.new 23 [kz, kz])]
 (sr [kf 5 2 0,
 kf 6 5 3,
 kf 7 6 0,
 kl 8 7,
 kf 9 3 0,
 kl 10 9,
 kv 11 (.bin .mul 8 10),
 kf 12 2 0,
 kf 13 12 3,
 kf 14 13 1,
 kl 15 14,
 kf 16 3 0,
 kl 17 16,
 kv 18 (.bin .mul 15 17),
 kv 19 (.min2 11 18),
 kf 20 2 0,
 kf 21 20 3,
 kf 22 21 0,
 kl 23 22,
 kf 24 3 1,
 kl 25 24,
 kv 26 (.bin .mul 23 25),
 kf 27 2 0,
 kf 28 27 3,
 kf 29 28 1,
 kl 30 29,
 kf 31 3 1,
 kl 32 31,
 kv 33 (.bin .mul 30 32),
 kv 34 (.max2 26 33),
 ko 35 (.bld [kz, kz] [(0, 1, 19), (1, 1, 34)]),
 ks 2 4 35]
 .ret))
theorem h84 : FdOk Try.prog 84 ⟨g84, [.c 4 (some 2)], 36, [], false⟩ := .of Try.func84 (by simp [Try.f84]) (by kernel_rfl)
def g86 : RC :=
 (sr [ko 7 (.box 94 0),
 ko 11 (.new 94 [(.lit (.bool false)), (.lit (.bool false)), (.lit (.bool false)), (.lit (.bool false)), (.lit (.bool false)), (.lit (.bool false)), (.lit (.bool false)), (.lit (.bool false))])]
 (.seq (sr [km 15 3,
 kv 16 (.bin .eql 15 (.c kz))]
 (.cond 16
 (.seq (sr [kv 17 (.load 4 (some 8)),
 km 18 1,
 kc 19 (kF 56) [17, 18],
 kc 20 (kF 57) [],
 kv 21 (.eqs [(some .i64), (some .i64), (some .i64), (some .i64)] false 19 20)]
 (.cond 21
 (sr [kv 22 (.load 7 (some 8)),
 ks 8 11 22]
 .ret)
 .skip))
 (sr [ko 23 (.bld [(.lit (.bool false)), (.lit (.bool false)), (.lit (.bool false)), (.lit (.bool false)), (.lit (.bool false)), (.lit (.bool false)), (.lit (.bool false)), (.lit (.bool false))] []),
 ks 8 11 23]
 .ret))
 .skip))
 (.seq (sr [km 24 2,
 km 12 24]
 (.block 0 (.loop
 (.seq (sr [km 25 12,
 kl 26 5,
 kv 27 (.len 26),
 kv 28 (.bin .lss 25 27)]
 (.cond 28
 .skip
 (.exit 0)))
 (.seq (.block 1 (sr [kv 31 (.load 7 (some 8)),
 ko 13 (.new 94 [(.lit (.bool false)), (.lit (.bool false)), (.lit (.bool false)), (.lit (.bool false)), (.lit (.bool false)), (.lit (.bool false)), (.lit (.bool false)), (.lit (.bool false))]),
 ks 8 13 31]
 (sr [km 32 12,
 kv 33 (.ixarr 13 32 8 1),
 ⟨none, none, .o (.store 1 33 (.c (.lit (.bool true))))⟩]
 (.seq (.drw [⟨[], 0, 2, [(kl 34 6, ku),
 (kv 35 (.load 13 (some 8)), ku),
 (kv 36 (.load 4 (some 8)), ku),
 (km 37 1, ku),
 (kl 38 5, ku),
 (km 39 12, ku),
 (kv 40 (.ixa 38 39 3), ku),
 (kv 41 (.load 40 (some 3)), ku),
 (kc 42 (kF 77) [36, 37, 41], .eff 0 []),
 (km 43 12, ku),
 (kv 44 (.bin .add 43 (.c (ki 1))), ku),
 (km 45 3, ku),
 (kv 46 (.bin .sub 45 (.c (ki 1))), ku),
 (kc 47 34 [35, 42, 44, 46], .eff 1 [])],
 [],
 [ko 14 (.new 94 [(.lit (.bool false)), (.lit (.bool false)), (.lit (.bool false)), (.lit (.bool false)), (.lit (.bool false)), (.lit (.bool false)), (.lit (.bool false)), (.lit (.bool false))]),
 ks 8 14 47], (some 14)⟩,
 ⟨[6, 13, 4, 1, 5, 12, 3], 1, 0, [(kl 34 6, ku),
 (kv 35 (.load 13 (some 8)), ku),
 (kv 36 (.load 4 (some 8)), ku),
 (km 37 1, ku),
 (kl 38 5, ku),
 (km 39 12, ku),
 (kv 40 (.ixa 38 39 3), ku),
 (kv 41 (.load 40 (some 3)), ku),
 (kc 42 (kF 77) [36, 37, 41], ku),
 (km 43 12, ku),
 (kv 44 (.bin .add 43 (.c (ki 1))), ku),
 (km 45 3, ku),
 (kv 46 (.bin .sub 45 (.c (ki 1))), ku),
 (kc 47 34 [35, 42, 44, 46], ku),
 (ko 14 (.new 94 [(.lit (.bool false)), (.lit (.bool false)), (.lit (.bool false)), (.lit (.bool false)), (.lit (.bool false)), (.lit (.bool false)), (.lit (.bool false)), (.lit (.bool false))]), .cre 0)],
 [0],
 [ks 8 14 47], none⟩])
 (sr [kv 48 (.load 14 (some 8)),
 ko 49 (.bld [(.lit (.bool false)), (.lit (.bool false)), (.lit (.bool false)), (.lit (.bool false)), (.lit (.bool false)), (.lit (.bool false)), (.lit (.bool false)), (.lit (.bool false))] []),
 kv 50 (.eqs [none, none, none, none, none, none, none, none] true 48 49)]
 (.cond 50
 (sr [kv 51 (.load 14 (some 8)),
 ks 8 11 51]
 .ret)
 .skip))))))
 (.reg [km 29 12,
 kv 30 (.bin .add 29 (.c (ki 1))),
 km 12 30]))))))
 (sr [ko 52 (.bld [(.lit (.bool false)), (.lit (.bool false)), (.lit (.bool false)), (.lit (.bool false)), (.lit (.bool false)), (.lit (.bool false)), (.lit (.bool false)), (.lit (.bool false))] []),
 ks 8 11 52]
 .ret))))
theorem h86 : FdOk Try.prog 86 ⟨g86, [.c 11 (some 8)], 53, [], false⟩ := .of Try.func86 (by simp [Try.f86]) (by kernel_rfl)
def g87 : RC :=
 (sr [ko 0 (.new 134 [(.lit (.bool false)), (.lit .nilFunc), (.lit (.bool false)), (.lit .nilFunc)])]
 (sr [ko 1 (.bld [(.lit (.bool false)), (.lit .nilFunc)] [(0, 1, (.c (.lit (.bool false)))), (1, 1, (kF 96))]),
 ko 2 (.bld [(.lit (.bool false)), (.lit .nilFunc)] [(0, 1, (.c (.lit (.bool true)))), (1, 1, (kF 97))]),
 ko 3 (.bld [(.lit (.bool false)), (.lit .nilFunc), (.lit (.bool false)), (.lit .nilFunc)] [(0, 2, 1), (2, 2, 2)]),
 ks 4 0 3]
 .ret))
theorem h87 : FdOk Try.prog 87 ⟨g87, [.c 0 (some 4)], 4, [], false⟩ := .of Try.func87 (by simp [Try.f87]) (by kernel_rfl)
def g88 : RC :=
 (sr [ko 3 (.box 78 0),
 kv 6 (.mov (.c kz)),
 kv 7 (.mov (.c (.lit (.bool false))))]
 (.seq (sr [kf 10 3 0,
 kf 11 10 0,
 kl 12 11,
 kv 13 (.bin .mul (.c (ki 2)) 12),
 kv 14 (.bin .add 13 (.c (ki 1))),
 kv 15 (.mov (.c kz))]
 (.block 0 (.loop
 (sr [kv 16 (.bin .lss 15 14)]
 (.seq (.cond 16
 .skip
 (.exit 0))
 (.seq (.block 1 (sr [km 17 15,
 km 8 17]
 (.seq (.drw [⟨[], 0, 3, [(kv 18 (.load 3 (some 8)), ku),
 (km 19 1, ku),
 (km 20 2, ku),
 (kv 21 (.load 3 (some 8)), ku),
 (km 22 8, ku),
 (kc 23 (kF 94) [21, 22], .eff 0 []),
 (kc 24 (kF 93) [19, 20, 23], .eff 1 []),
 (kc 25 (kF 56) [18, 24], .eff 2 [])],
 [],
 [ko 9 (.new 88 [kz, kz, kz, kz]),
 ks 4 9 25], (some 9)⟩,
 ⟨[3, 1, 2, 8], 1, 0, [(kv 18 (.load 3 (some 8)), ku),
 (km 19 1, ku),
 (km 20 2, ku),
 (kv 21 (.load 3 (some 8)), ku),
 (km 22 8, ku),
 (kc 23 (kF 94) [21, 22], ku),
 (kc 24 (kF 93) [19, 20, 23], ku),
 (kc 25 (kF 56) [18, 24], ku),
 (ko 9 (.new 88 [kz, kz, kz, kz]), .cre 0)],
 [0],
 [ks 4 9 25], none⟩])
 (.seq (.drw [⟨[], 0, 1, [(kv 26 (.load 9 (some 4)), ku),
 (kc 27 (kF 57) [], .eff 0 [])],
 [],
 [kv 28 (.eqs [(some .i64), (some .i64), (some .i64), (some .i64)] true 26 27)], none⟩])
 (.cond 28
 (.reg [km 29 6,
 kf 30 9 0,
 kv 31 (.load 30 (some 2)),
 kc 32 (kF 98) [31],
 kv 33 (.max2 29 32),
 km 6 33,
 kv 7 (.mov (.c (.lit (.bool true))))])
 .skip)))))
 (.reg [kv 34 (.bin .add 15 (.c (ki 1))),
 km 15 34])))))))
 (sr [km 35 6,
 km 36 7,
 km 6 35,
 km 7 36]
 .ret)))
theorem h88 : FdOk Try.prog 88 ⟨g88, [.t 6, .t 7], 37, [], false⟩ := .of Try.func88 (by simp [Try.f88]) (by kernel_rfl)
def g89 : RC :=
 (sr [ko 4 (.box 99 1),
 ko 6 (.new 99 [(.lit (.bool false)), kz])]
 (.seq (sr [km 9 2,
 kv 10 (.len 9),
 kv 11 (.mov (.c kz))]
 (.block 0 (.loop
 (sr [kv 12 (.bin .lss 11 10)]
 (.seq (.cond 12
 .skip
 (.exit 0))
 (.seq (.block 1 (sr [kv 13 (.ixa 9 11 2),
 kv 14 (.load 13 (some 2)),
 ko 8 (.new 99 [(.lit (.bool false)), kz]),
 ks 2 8 14]
 (sr [km 15 0,
 kv 16 (.load 8 (some 2)),
 kv 17 (.load 4 (some 2)),
 kc 18 15 [16, 17]]
 (.cond 18
 (.reg [kv 19 (.load 8 (some 2)),
 ks 2 4 19])
 .skip))))
 (.reg [kv 20 (.bin .add 11 (.c (ki 1))),
 km 11 20])))))))
 (sr [kv 21 (.load 4 (some 2)),
 ks 2 6 21]
 .ret)))
theorem h89 : FdOk Try.prog 89 ⟨g89, [.c 6 (some 2)], 22, [], false⟩ := .of Try.func89 (by simp [Try.f89]) (by kernel_rfl)
def g90 : RC :=
 (sr [ko 2 (.box 99 0),
 ko 3 (.box 99 1),
 kv 4 (.mov (.c (.lit (.bool false))))]
 (sr [kf 5 2 1,
 kl 6 5,
 kf 7 3 1,
 kl 8 7,
 kv 9 (.bin .lss 6 8),
 km 4 9]
 .ret))
theorem h90 : FdOk Try.prog 90 ⟨g90, [.t 4], 10, [], false⟩ := .of Try.func90 (by simp [Try.f90]) (by kernel_rfl)
def g91 : RC :=
 (sr [ko 2 (.box 78 0),
 ko 3 (.box 49 1),
 kv 4 (.mov (.c (.lit (.bool false))))]
 (.seq (.drw [⟨[], 0, 2, [(kv 5 (.load 2 (some 8)), ku),
 (kf 6 3 0, ku),
 (kl 7 6, ku),
 (kc 8 (kF 99) [5, 7], .eff 0 []),
 (km 9 8, .val 1 []),
 (kG 10 9 true (.load 2 (some 8)), .val 1 []),
 (⟨(some 11), (some (9, true)), .o (.call (kF 100) [10])⟩, .eff 1 []),
 (kG 12 9 true (.off 3 1), .val 1 []),
 (kG 13 9 true (.load 12 none), .val 1 [])],
 [],
 [kG 14 9 true (.bin .leq 11 13),
 kv 15 (.pick 9 14 (.c (.lit (.bool false)))),
 km 4 15], none⟩])
 .ret))
theorem h91 : FdOk Try.prog 91 ⟨g91, [.t 4], 16, [], false⟩ := .of Try.func91 (by simp [Try.f91]) (by kernel_rfl)
def g93 : RC :=
 (sr [ko 5 (.box 23 2),
 kv 6 (.mov (.c (.lit (.map none))))]
 (sr [km 10 0,
 kc 11 (kF 101) [10],
 km 7 11]
 (.seq (sr [km 13 0,
 km 14 1,
 ⟨(some 15), none, .lku .b (.agg [kz, kz]) true 13 14⟩,
 km 12 15,
 kv 16 (.ext 12 0),
 kv 17 (.ext 12 1),
 ko 8 (.new 23 [kz, kz]),
 ks 2 8 16,
 km 9 17]
 (sr [km 18 9]
 (.cond 18
 (.reg [kv 19 (.load 8 (some 2)),
 kv 20 (.load 5 (some 2)),
 kc 21 (kF 81) [19, 20],
 ks 2 5 21])
 .skip)))
 (sr [km 22 7,
 km 23 1,
 kv 24 (.load 5 (some 2)),
 ⟨none, none, .upd .b 22 23 24⟩]
 (sr [km 25 7,
 km 6 25]
 .ret)))))
theorem h93 : FdOk Try.prog 93 ⟨g93, [.t 6], 26, [], false⟩ := .of Try.func93 (by simp [Try.f93]) (by kernel_rfl)
def g94 : RC :=
 (sr [ko 2 (.box 78 0),
 ko 4 (.new 23 [kz, kz])]
 (sr [km 5 1,
 kf 6 2 0,
 kf 7 6 7,
 kl 8 7,
 kv 9 (.bin .sub 5 8),
 km 10 1,
 kf 11 2 0,
 kf 12 11 7,
 kl 13 12,
 kv 14 (.bin .add 10 13),
 ko 15 (.bld [kz, kz] [(0, 1, 9), (1, 1, 14)]),
 ks 2 4 15]
 .ret))
theorem h94 : FdOk Try.prog 94 ⟨g94, [.c 4 (some 2)], 16, [], false⟩ := .of Try.func94 (by simp [Try.f94]) (by kernel_rfl)
def g95 : RC :=
 (sr [kf 4 1 0,
 kf 5 4 5,
 kf 6 5 0,
 kl 7 6,
 km 3 7]
 (.block 0 (.loop
 (.seq (sr [km 8 3,
 kf 9 1 0,
 kf 10 9 5,
 kf 11 10 1,
 kl 12 11,
 kv 13 (.bin .leq 8 12)]
 (.cond 13
 .skip
 (.exit 0)))
 (.seq (.block 1 (sr [km 16 0,
 km 17 3,
 kc 18 16 [17],
 kv 19 (.not 18)]
 (.cond 19
 .ret
 .skip)))
 (.reg [km 14 3,
 kv 15 (.bin .add 14 (.c (ki 1))),
 km 3 15]))))))
theorem h95 : FdOk Try.prog 95 ⟨g95, [], 20, [], false⟩ := .of Try.func95 (by simp [Try.f95]) (by kernel_rfl)
def g96 : RC :=
 (sr [ko 1 (.box 23 0),
 kv 2 (.mov (.c (.lit .nilIface)))]
 (sr [kv 3 (.load 1 (some 2)),
 kv 4 (.ifc 145 3),
 km 2 4]
 .ret))
theorem h96 : FdOk Try.prog 96 ⟨g96, [.t 2], 5, [], false⟩ := .of Try.func96 (by simp [Try.f96]) (by kernel_rfl)
def g97 : RC :=
 (sr [ko 1 (.box 23 0),
 kv 2 (.mov (.c (.lit .nilIface)))]
 (sr [kv 3 (.load 1 (some 2)),
 kv 4 (.ifc 146 3),
 km 2 4]
 .ret))
theorem h97 : FdOk Try.prog 97 ⟨g97, [.t 2], 5, [], false⟩ := .of Try.func97 (by simp [Try.f97]) (by kernel_rfl)
def g98 : RC :=
 (sr [ko 1 (.box 23 0),
 kv 2 (.mov (.c kz))]
 (sr [kf 3 1 1,
 kl 4 3,
 kf 5 1 0,
 kl 6 5,
 kv 7 (.bin .sub 4 6),
 km 2 7]
 .ret))
theorem h98 : FdOk Try.prog 98 ⟨g98, [.t 2], 8, [], false⟩ := .of Try.func98 (by simp [Try.f98]) (by kernel_rfl)
def g99 : RC :=
 (sr [ko 2 (.box 78 0),
 kv 4 (.mov (.c (.lit (.bool false))))]
 (.seq (.drw [⟨[], 0, 0, [(kf 7 2 0, ku),
 (kf 8 7 5, ku),
 (kf 9 8 0, ku),
 (kl 10 9, ku),
 (kf 11 2 0, ku),
 (kf 12 11 1, ku),
 (kf 13 12 1, ku),
 (kl 14 13, ku),
 (kv 15 (.bin .sub 10 14), ku),
 (kf 16 2 0, ku),
 (kf 17 16 0, ku),
 (kl 18 17, ku),
 (kv 19 (.bin .mul (.c (ki 2)) 18), ku),
 (kf 20 2 0, ku),
 (kf 21 20 1, ku),
 (kf 22 21 1, ku),
 (kl 23 22, ku),
 (kv 24 (.bin .sub 19 23), ku),
 (kf 25 2 0, ku),
 (kf 26 25 5, ku),
 (kf 27 26 1, ku),
 (kl 28 27, ku),
 (kv 29 (.bin .sub 24 28), ku),
 (km 5 15, ku)],
 [],
 [km 6 29], none⟩])
 (sr [km 30 1,
 kf 31 2 0,
 kf 32 31 3,
 kf 33 32 0,
 kl 34 33,
 km 35 5,
 km 36 6,
 kv 37 (.min2 35 36),
 kv 38 (.bin .mul 34 37),
 kv 39 (.bin .leq 30 38),
 km 4 39]
 .ret)))
theorem h99 : FdOk Try.prog 99 ⟨g99, [.t 4], 40, [], false⟩ := .of Try.func99 (by simp [Try.f99]) (by kernel_rfl)
def g100 : RC :=
 (sr [ko 1 (.box 78 0),
 kv 2 (.mov (.c kz))]
 (sr [kv 3 (.mov (.c kz))]
 (.seq (sr [kf 6 1 0,
 kf 7 6 0,
 kl 8 7,
 kv 9 (.bin .mul (.c (ki 2)) 8),
 kf 10 1 0,
 kf 11 10 1,
 kf 12 11 1,
 kl 13 12,
 kv 14 (.bin .mul (.c (ki 2)) 13),
 kv 15 (.bin .sub 9 14),
 kv 16 (.bin .add 15 (.c (ki 1))),
 kv 17 (.mov (.c kz))]
 (.block 0 (.loop
 (sr [kv 18 (.bin .lss 17 16)]
 (.seq (.cond 18
 .skip
 (.exit 0))
 (.seq (.block 1 (sr [km 19 17,
 km 4 19]
 (.seq (.drw [⟨[1, 4], 1, 0, [(kv 20 (.load 1 (some 8)), ku),
 (⟨(some 21), none, .mkm⟩, ku),
 (kv 22 (.load 1 (some 8)), ku),
 (kf 23 1 0, ku),
 (kf 24 23 1, ku),
 (kf 25 24 1, ku),
 (kl 26 25, ku),
 (km 27 4, ku),
 (kv 28 (.bin .add 26 27), ku),
 (kc 29 (kF 94) [22, 28], ku),
 (kc 30 (kF 93) [21, (.c (.lit (.bool false))), 29], ku),
 (kc 31 (kF 56) [20, 30], ku),
 (ko 5 (.new 88 [kz, kz, kz, kz]), .cre 0)],
 [0],
 [ks 4 5 31], none⟩])
 (.reg [km 32 3,
 kf 33 5 0,
 kv 34 (.load 33 (some 2)),
 kc 35 (kF 98) [34],
 kv 36 (.max2 32 35),
 km 3 36]))))
 (.reg [kv 37 (.bin .add 17 (.c (ki 1))),
 km 17 37])))))))
 (sr [km 38 3,
 km 2 38]
 .ret))))
theorem h100 : FdOk Try.prog 100 ⟨g100, [.t 2], 39, [], false⟩ := .of Try.func100 (by simp [Try.f100]) (by kernel_rfl)
def g101 : RC :=
 (sr [kv 2 (.mov (.c (.lit (.map none))))]
 (.seq (sr [km 3 0,
 ⟨(some 4), none, .e1 (.mnil false) 3⟩]
 (.cond 4
 (sr [kv 2 (.mov (.c (.lit (.map none))))]
 .ret)
 .skip))
 (sr [km 5 0,
 kv 6 (.ifc 81 5),
 ⟨(some 7), none, .e1 .cln 6⟩,
 ⟨(some 8), none, .e1 (.tas 81) 7⟩,
 km 2 8]
 .ret)))
theorem h101 : FdOk Try.prog 101 ⟨g101, [.t 2], 9, [], false⟩ := .of Try.func101 (by simp [Try.f101]) (by kernel_rfl)
def g118 : RC :=
 (sr [ko 2 (.box 145 0),
 ko 4 (.new 23 [kz, kz])]
 (sr [kf 5 2 0,
 kl 6 5,
 km 7 1,
 kv 8 (.bin .sub 6 7),
 kf 9 2 1,
 kl 10 9,
 km 11 1,
 kv 12 (.bin .sub 10 11),
 ko 13 (.bld [kz, kz] [(0, 1, 8), (1, 1, 12)]),
 ks 2 4 13]
 .ret))
theorem h118 : FdOk Try.prog 118 ⟨g118, [.c 4 (some 2)], 14, [], false⟩ := .of Try.func118 (by simp [Try.f118]) (by kernel_rfl)
def g119 : RC :=
 (sr [ko 2 (.box 146 0),
 ko 4 (.new 23 [kz, kz])]
 (sr [km 5 1,
 kf 6 2 1,
 kl 7 6,
 kv 8 (.bin .sub 5 7),
 km 9 1,
 kf 10 2 0,
 kl 11 10,
 kv 12 (.bin .sub 9 11),
 ko 13 (.bld [kz, kz] [(0, 1, 8), (1, 1, 12)]),
 ks 2 4 13]
 .ret))
theorem h119 : FdOk Try.prog 119 ⟨g119, [.c 4 (some 2)], 14, [], false⟩ := .of Try.func119 (by simp [Try.f119]) (by kernel_rfl)
end Go.Proofs.Ytgdihdiadlmjiaa
