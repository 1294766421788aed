import Derived.Test.YtdcjlllnfklncaaVgR18
import Derived.Test.YtdcjlllnfklncaaChecked
import Derived.KernelRfl
namespace Go.Proofs.Ytdcjlllnfklncaa
open Go Go.Vg
set_option maxRecDepth 100000
set_option maxHeartbeats 4000000
def ki (n : Int) : SV := .int .i64 n
def kz : SV := .int .i64 0
def km (d n : Nat) : Opq := ⟨some d, none, .o (.v (.mov (.t n)))⟩
def kl (d n : Nat) : Opq := ⟨some d, none, .o (.v (.load (.t n) none))⟩
def kf (d n k : Nat) : Opq := ⟨some d, none, .o (.v (.off (.t n) k))⟩
def kn (d n : Nat) : Opq := ⟨some d, none, .nck (.t n)⟩
def kv (d : Nat) (v : VOp) : Opq := ⟨some d, none, .o (.v v)⟩
def kc (d : Nat) (f : X) (l : List X) : Opq := ⟨some d, none, .o (.call f l)⟩
def ko (d : Nat) (o : Op1) : Opq := ⟨some d, none, .o o⟩
def ku : Kd := .val 0 []
def kb0 : SV := .lit (.bool false)
def kb1 : SV := .lit (.bool true)
def kG (d g : Nat) (b : Bool) (v : VOp) : Opq := ⟨some d, some (g, b), .o (.v v)⟩
def kF (n : Nat) : X := .c (.fn n [])
def ks (n a b : Nat) : Opq := ⟨none, none, .o (.store n (.t a) (.t b))⟩
def sr (l : List Opq) (b : RC) : RC := .seq (.reg l) b
def g6 : RC :=
 (sr [kv 0 (.mov (.c (.lit (.bool false))))]
 (sr [ko 9 (.bld [kz, kz] []),
 ko 10 (.bld [kz, kz] []),
 ko 11 (.bsl 30 2 [kz, kz, kz, kz] [(0, 2, (.t 9)), (2, 2, (.t 10))]),
 ko 12 (.bld [kz, (.lit (.slice none 0 0)), kz, kz, kz, (.lit (.slice none 0 0))] [(0, 1, (.c (ki 100))), (1, 1, (.t 11)), (4, 1, (.c (ki 2)))]),
 ko 13 (.bld [kz, kz] [(0, 1, (.c (ki 50)))]),
 kc 14 (kF 13) [(.t 12), (.t 13)],
 km 8 14,
 kv 15 (.ext (.t 8) 0),
 kv 16 (.ext (.t 8) 1),
 ko 1 (.new 30 [kz, kz]),
 ks 2 1 15,
 km 2 16]
 (sr [kc 18 (kF 8) [(.c (ki 80)), (.c (ki 120))],
 ko 19 (.bld [kz, kz, kz, kz, kz, kz] [(0, 1, (.c (ki 100))), (1, 1, (.c (ki 500))), (2, 1, (.c (ki 4))), (3, 2, (.t 18)), (5, 1, (.c (ki 2)))]),
 kc 20 (kF 9) [(.t 19)],
 km 17 20,
 kv 21 (.ext (.t 17) 0),
 kv 22 (.ext (.t 17) 1),
 km 3 21,
 km 4 22]
 (sr [ko 24 (.bsl 3 2 [kz, kz] [(0, 1, (.c (ki 20))), (1, 1, (.c (ki 30)))]),
 ko 25 (.bld [(.lit (.slice none 0 0)), kz, kz] [(0, 1, (.t 24)), (1, 1, (.c (ki 1))), (2, 1, (.c (ki 4)))]),
 ko 26 (.bsl 3 2 [kz, kz] [(0, 1, (.c kz)), (1, 1, (.c (ki 1)))]),
 kc 27 (kF 14) [(.t 25), (.t 26)],
 km 23 27,
 kv 28 (.ext (.t 23) 0),
 kv 29 (.ext (.t 23) 1),
 kv 30 (.ext (.t 23) 2),
 km 5 28,
 km 6 29,
 km 7 30]
 (.seq (.drw [⟨[2, 4, 7, 1, 3, 5, 6], 0, 0, [(km 31 2, ku),
 (kv 32 (.bin .eql (.t 31) (.c kz)), ku),
 (km 33 32, ku),
 (kG 34 33 true (.mov (.t 4)), ku),
 (kG 35 33 true (.bin .eql (.t 34) (.c kz)), ku),
 (kv 36 (.pick (.t 33) (.t 35) (.c (.lit (.bool false)))), ku),
 (km 37 36, ku),
 (kG 38 37 true (.mov (.t 7)), ku),
 (kG 39 37 true (.bin .eql (.t 38) (.c kz)), ku),
 (kv 40 (.pick (.t 37) (.t 39) (.c (.lit (.bool false)))), ku),
 (km 41 40, ku),
 (kG 42 41 true (.load (.t 1) (some 2)), ku),
 (⟨(some 43), (some (41, true)), .o (.call (kF 8) [(.c (ki 48)), (.c (ki 52))])⟩, ku),
 (kG 44 41 true (.eqs [(some .i64), (some .i64)] false (.t 42) (.t 43)), ku),
 (kv 45 (.pick (.t 41) (.t 44) (.c (.lit (.bool false)))), ku),
 (km 46 45, ku),
 (kG 47 46 true (.mov (.t 3)), ku),
 (⟨(some 48), (some (46, true)), .o (.call (kF 8) [(.c (ki 99)), (.c (ki 101))])⟩, ku),
 (⟨(some 49), (some (46, true)), .o (.bsl 30 1 [kz, kz] [(0, 2, (.t 48))])⟩, ku)],
 [],
 [⟨(some 50), (some (46, true)), .o (.call (kF 15) [(.t 47), (.t 49)])⟩,
 kv 51 (.pick (.t 46) (.t 50) (.c (.lit (.bool false)))),
 km 52 51,
 kG 53 52 true (.mov (.t 5)),
 kG 54 52 true (.bin .eql (.t 53) (.c (ki 1))),
 kv 55 (.pick (.t 52) (.t 54) (.c (.lit (.bool false)))),
 km 56 55,
 kG 57 56 true (.mov (.t 6)),
 kG 58 56 true (.bin .eql (.t 57) (.c (ki 6))),
 kv 59 (.pick (.t 56) (.t 58) (.c (.lit (.bool false)))),
 km 0 59], none⟩])
 .ret)))))
theorem h6 : FdOk Try.prog 6 ⟨g6, [.t 0], 60, [], false⟩ := .of Try.func6 (by simp [Try.f6]) (by kernel_rfl)
def g8 : RC :=
 (sr [ko 4 (.new 30 [kz, kz])]
 (sr [km 5 0,
 km 6 1,
 ko 7 (.bld [kz, kz] [(0, 1, (.t 5)), (1, 1, (.t 6))]),
 ks 2 4 7]
 .ret))
theorem h8 : FdOk Try.prog 8 ⟨g8, [.c 4 (some 2)], 8, [], false⟩ := .of Try.func8 (by simp [Try.f8]) (by kernel_rfl)
def g9 : RC :=
 (sr [ko 1 (.box 32 (.t 0)),
 kv 2 (.mov (.c (.lit (.slice none 0 0)))),
 kv 3 (.mov (.c kz))]
 (sr [kv 6 (.load (.t 1) (some 6)),
 ko 7 (.bld [kz, kz, kz, kz, kz, kz] [(0, 6, (.t 6))]),
 ko 4 (.new 63 [kz, kz, kz, kz, kz, kz]),
 ks 6 4 7]
 (.seq (sr [kv 8 (.load (.t 4) (some 6)),
 kc 9 (kF 16) [(.t 8)],
 kv 10 (.not (.t 9))]
 (.cond (.t 10)
 (sr [kv 2 (.mov (.c (.lit (.slice none 0 0)))),
 kv 3 (.mov (.c (ki 62)))]
 .ret)
 .skip))
 (sr [kv 11 (.load (.t 4) (some 6)),
 kc 12 (kF 17) [(.t 11)],
 km 5 12]
 (.seq (sr [km 13 5,
 kv 14 (.len (.t 13)),
 kv 15 (.bin .eql (.t 14) (.c kz))]
 (.cond (.t 15)
 (sr [kv 2 (.mov (.c (.lit (.slice none 0 0)))),
 kv 3 (.mov (.c (ki 4)))]
 .ret)
 .skip))
 (sr [km 16 5,
 km 2 16,
 kv 3 (.mov (.c kz))]
 .ret))))))
theorem h9 : FdOk Try.prog 9 ⟨g9, [.t 2, .t 3], 17, [], false⟩ := .of Try.func9 (by simp [Try.f9]) (by kernel_rfl)
def g13 : RC :=
 (sr [ko 2 (.box 54 (.t 0)),
 ko 3 (.box 56 (.t 1)),
 ko 4 (.new 30 [kz, kz]),
 kv 5 (.mov (.c kz))]
 (.seq (sr [kv 8 (.load (.t 2) (some 6)),
 kc 9 (kF 24) [(.t 8)],
 km 6 9]
 (sr [km 10 6,
 kv 11 (.bin .neq (.t 10) (.c kz))]
 (.cond (.t 11)
 (sr [ko 12 (.bld [kz, kz] []),
 km 13 6,
 ks 2 4 12,
 km 5 13]
 .ret)
 .skip)))
 (sr [kv 14 (.load (.t 2) (some 6)),
 ko 15 (.bld [kz, (.lit (.slice none 0 0)), kz, kz, kz, (.lit (.slice none 0 0))] [(0, 6, (.t 14))]),
 ko 7 (.new 78 [kz, (.lit (.slice none 0 0)), kz, kz, kz, (.lit (.slice none 0 0))]),
 ks 6 7 15]
 (.seq (sr [kv 16 (.load (.t 7) (some 6)),
 kv 17 (.load (.t 3) (some 2)),
 kc 18 (kF 25) [(.t 16), (.t 17)],
 kv 19 (.not (.t 18))]
 (.cond (.t 19)
 (sr [ko 20 (.bld [kz, kz] []),
 ks 2 4 20,
 kv 5 (.mov (.c (ki 51)))]
 .ret)
 .skip))
 (sr [kv 21 (.load (.t 7) (some 6)),
 kv 22 (.load (.t 3) (some 2)),
 kc 23 (kF 26) [(.t 21), (.t 22)],
 ks 2 4 23,
 kv 5 (.mov (.c kz))]
 .ret)))))
theorem h13 : FdOk Try.prog 13 ⟨g13, [.c 4 (some 2), .t 5], 24, [], false⟩ := .of Try.func13 (by simp [Try.f13]) (by kernel_rfl)
def g14 : RC :=
 (sr [ko 2 (.box 60 (.t 0)),
 kv 4 (.mov (.c kz)),
 kv 5 (.mov (.c kz)),
 kv 6 (.mov (.c kz))]
 (.seq (sr [kv 9 (.load (.t 2) (some 3)),
 kc 10 (kF 27) [(.t 9)],
 km 7 10]
 (sr [km 11 7,
 kv 12 (.bin .neq (.t 11) (.c kz))]
 (.cond (.t 12)
 (sr [km 13 7,
 kv 4 (.mov (.c kz)),
 kv 5 (.mov (.c kz)),
 km 6 13]
 .ret)
 .skip)))
 (sr [kv 14 (.load (.t 2) (some 3)),
 ko 15 (.bld [(.lit (.slice none 0 0)), kz, kz] [(0, 3, (.t 14))]),
 ko 8 (.new 83 [(.lit (.slice none 0 0)), kz, kz]),
 ks 3 8 15]
 (.seq (sr [kv 16 (.load (.t 8) (some 3)),
 km 17 1,
 kc 18 (kF 28) [(.t 16), (.t 17)],
 kv 19 (.not (.t 18))]
 (.cond (.t 19)
 (sr [kv 4 (.mov (.c kz)),
 kv 5 (.mov (.c kz)),
 kv 6 (.mov (.c (ki 22)))]
 .ret)
 .skip))
 (sr [kv 21 (.load (.t 8) (some 3)),
 km 22 1,
 kc 23 (kF 29) [(.t 21), (.t 22)],
 km 20 23,
 kv 24 (.ext (.t 20) 0),
 kv 25 (.ext (.t 20) 1),
 km 4 24,
 km 5 25]
 (sr [km 26 4,
 km 27 5,
 km 4 26,
 km 5 27,
 kv 6 (.mov (.c kz))]
 .ret))))))
theorem h14 : FdOk Try.prog 14 ⟨g14, [.t 4, .t 5, .t 6], 28, [], false⟩ := .of Try.func14 (by simp [Try.f14]) (by kernel_rfl)
def g15 : RC :=
 (sr [kv 4 (.mov (.c (.lit (.bool false))))]
 (.seq (sr [km 6 0,
 kv 7 (.len (.t 6)),
 km 8 1,
 kv 9 (.len (.t 8)),
 kv 10 (.bin .neq (.t 7) (.t 9))]
 (.cond (.t 10)
 (sr [kv 4 (.mov (.c (.lit (.bool false))))]
 .ret)
 .skip))
 (.seq (sr [kv 5 (.mov (.c kz))]
 (.block 0 (.loop
 (.seq (sr [km 11 5,
 km 12 0,
 kv 13 (.len (.t 12)),
 kv 14 (.bin .lss (.t 11) (.t 13))]
 (.cond (.t 14)
 .skip
 (.exit 0)))
 (.seq (.block 1 (.seq (.drw [⟨[], 0, 0, [(km 17 0, ku),
 (km 18 5, ku),
 (kv 19 (.ixa (.t 17) (.t 18) 2), ku),
 (kv 20 (.load (.t 19) (some 2)), ku),
 (km 21 1, ku),
 (km 22 5, ku),
 (kv 23 (.ixa (.t 21) (.t 22) 2), ku),
 (kv 24 (.load (.t 23) (some 2)), ku)],
 [],
 [kv 25 (.eqs [(some .i64), (some .i64)] true (.t 20) (.t 24))], none⟩])
 (.cond (.t 25)
 (sr [kv 4 (.mov (.c (.lit (.bool false))))]
 .ret)
 .skip)))
 (.reg [km 15 5,
 kv 16 (.bin .add (.t 15) (.c (ki 1))),
 km 5 16]))))))
 (sr [kv 4 (.mov (.c (.lit (.bool true))))]
 .ret))))
theorem h15 : FdOk Try.prog 15 ⟨g15, [.t 4], 26, [], false⟩ := .of Try.func15 (by simp [Try.f15]) (by kernel_rfl)
def g16 : RC :=
 (sr [ko 1 (.box 63 (.t 0)),
 kv 2 (.mov (.c (.lit (.bool false))))]
 (sr [kf 3 1 0,
 kf 4 3 0,
 kl 5 4,
 kc 6 (kF 30) [(.t 5)],
 km 7 6,
 kG 8 7 true (.off (.t 1) 0),
 kG 9 7 true (.off (.t 8) 1),
 kG 10 7 true (.load (.t 9) none),
 ⟨(some 11), (some (7, true)), .o (.call (kF 30) [(.t 10)])⟩,
 kv 12 (.pick (.t 7) (.t 11) (.c (.lit (.bool false)))),
 km 13 12,
 kG 14 13 true (.off (.t 1) 0),
 kG 15 13 true (.off (.t 14) 2),
 kG 16 13 true (.load (.t 15) none),
 ⟨(some 17), (some (13, true)), .o (.call (kF 31) [(.t 16), (.c (ki 1)), (.c (ki 100))])⟩,
 kv 18 (.pick (.t 13) (.t 17) (.c (.lit (.bool false)))),
 km 19 18,
 kG 20 19 true (.off (.t 1) 0),
 kG 21 19 true (.off (.t 20) 3),
 kG 22 19 true (.load (.t 21) (some 2)),
 ⟨(some 23), (some (19, true)), .o (.call (kF 32) [(.t 22), (.c kz), (.c (ki 1295999))])⟩,
 kv 24 (.pick (.t 19) (.t 23) (.c (.lit (.bool false)))),
 km 25 24,
 kG 26 25 true (.off (.t 1) 0),
 kG 27 25 true (.off (.t 26) 5),
 kG 28 25 true (.load (.t 27) none),
 ⟨(some 29), (some (25, true)), .o (.call (kF 31) [(.t 28), (.c kz), (.c (ki 10000))])⟩,
 kv 30 (.pick (.t 25) (.t 29) (.c (.lit (.bool false)))),
 km 2 30]
 .ret))
theorem h16 : FdOk Try.prog 16 ⟨g16, [.t 2], 31, [], false⟩ := .of Try.func16 (by simp [Try.f16]) (by kernel_rfl)
def g17 : RC :=
 (sr [ko 1 (.box 63 (.t 0)),
 kv 2 (.mov (.c (.lit (.slice none 0 0))))]
 (sr [kv 3 (.mov (.c (.lit (.slice none 0 0))))]
 (sr [kf 8 1 0,
 kf 9 8 1,
 kl 10 9,
 kf 11 1 0,
 kf 12 11 0,
 kl 13 12,
 kv 14 (.bin .sub (.t 10) (.t 13)),
 kc 15 (kF 33) [(.t 14)],
 km 4 15]
 (.seq (sr [kf 16 1 0,
 kf 17 16 2,
 kl 18 17,
 kv 19 (.bin .add (.t 18) (.c (ki 2))),
 kv 20 (.mov (.c kz))]
 (.block 0 (.loop
 (sr [kv 21 (.bin .lss (.t 20) (.t 19))]
 (.seq (.cond (.t 21)
 .skip
 (.exit 0))
 (.seq (.block 1 (sr [km 22 20,
 km 5 22]
 (sr [km 23 4,
 km 24 5,
 kv 25 (.bin .sub (.t 24) (.c (ki 1))),
 kv 26 (.bin .mul (.t 25) (.c (ki 1296000))),
 kv 27 (.bin .add (.t 23) (.t 26)),
 km 6 27]
 (.seq (.drw [⟨[], 0, 3, [(kf 28 1 0, ku),
 (kf 29 28 3, ku),
 (kv 30 (.load (.t 29) (some 2)), ku),
 (km 31 6, ku),
 (kf 32 1 0, ku),
 (kf 33 32 5, ku),
 (kl 34 33, ku),
 (kv 35 (.bin .mul (.c (ki 2)) (.t 34)), ku),
 (kv 36 (.bin .sub (.t 31) (.t 35)), ku),
 (kf 37 1 0, ku),
 (kf 38 37 2, ku),
 (kl 39 38, ku),
 (kc 40 (kF 35) [(.t 36), (.t 39)], .eff 0 []),
 (km 41 6, ku),
 (kf 42 1 0, ku),
 (kf 43 42 5, ku),
 (kl 44 43, ku),
 (kv 45 (.bin .mul (.c (ki 2)) (.t 44)), ku),
 (kv 46 (.bin .add (.t 41) (.t 45)), ku),
 (kf 47 1 0, ku),
 (kf 48 47 2, ku),
 (kl 49 48, ku),
 (kc 50 (kF 36) [(.t 46), (.t 49)], .eff 1 []),
 (ko 51 (.bld [kz, kz] [(0, 1, (.t 40)), (1, 1, (.t 50))]), .val 2 []),
 (kc 52 (kF 34) [(.t 30), (.t 51)], .eff 2 [])],
 [],
 [ko 7 (.new 30 [kz, kz]),
 ks 2 7 52], (some 7)⟩,
 ⟨[1, 6], 1, 0, [(kf 28 1 0, ku),
 (kf 29 28 3, ku),
 (kv 30 (.load (.t 29) (some 2)), ku),
 (km 31 6, ku),
 (kf 32 1 0, ku),
 (kf 33 32 5, ku),
 (kl 34 33, ku),
 (kv 35 (.bin .mul (.c (ki 2)) (.t 34)), ku),
 (kv 36 (.bin .sub (.t 31) (.t 35)), ku),
 (kf 37 1 0, ku),
 (kf 38 37 2, ku),
 (kl 39 38, ku),
 (kc 40 (kF 35) [(.t 36), (.t 39)], ku),
 (km 41 6, ku),
 (kf 42 1 0, ku),
 (kf 43 42 5, ku),
 (kl 44 43, ku),
 (kv 45 (.bin .mul (.c (ki 2)) (.t 44)), ku),
 (kv 46 (.bin .add (.t 41) (.t 45)), ku),
 (kf 47 1 0, ku),
 (kf 48 47 2, ku),
 (kl 49 48, ku),
 (kc 50 (kF 36) [(.t 46), (.t 49)], ku),
 (ko 51 (.bld [kz, kz] [(0, 1, (.t 40)), (1, 1, (.t 50))]), ku),
 (kc 52 (kF 34) [(.t 30), (.t 51)], ku),
 (ko 7 (.new 30 [kz, kz]), .cre 0)],
 [0],
 [ks 2 7 52], none⟩])
 (.seq (.drw [⟨[], 0, 1, [(kv 53 (.load (.t 7) (some 2)), ku),
 (kc 54 (kF 37) [], .eff 0 [])],
 [],
 [kv 55 (.eqs [(some .i64), (some .i64)] true (.t 53) (.t 54))], none⟩])
 (.cond (.t 55)
 (.reg [km 56 3,
 kv 57 (.load (.t 7) (some 2)),
 ko 58 (.bsl 30 1 [kz, kz] [(0, 2, (.t 57))]),
 ko 59 (.app 30 2 16 (.t 56) (.t 58)),
 km 3 59])
 .skip))))))
 (.reg [kv 60 (.bin .add (.t 20) (.c (ki 1))),
 km 20 60])))))))
 (sr [km 61 3,
 km 2 61]
 .ret)))))
theorem h17 : FdOk Try.prog 17 ⟨g17, [.t 2], 62, [], false⟩ := .of Try.func17 (by simp [Try.f17]) (by kernel_rfl)
def g24 : RC :=
 (sr [ko 1 (.box 54 (.t 0)),
 kv 2 (.mov (.c kz))]
 (.seq (sr [kv 3 (.load (.t 1) (some 6)),
 ko 4 (.bld [kz, (.lit (.slice none 0 0)), kz, kz, kz, (.lit (.slice none 0 0))] [(0, 6, (.t 3))]),
 kc 5 (kF 44) [(.t 4)],
 kv 6 (.not (.t 5))]
 (.cond (.t 6)
 (sr [kv 2 (.mov (.c (ki 50)))]
 .ret)
 .skip))
 (sr [kv 2 (.mov (.c kz))]
 .ret)))
theorem h24 : FdOk Try.prog 24 ⟨g24, [.t 2], 7, [], false⟩ := .of Try.func24 (by simp [Try.f24]) (by kernel_rfl)
def g25 : RC :=
 (sr [ko 2 (.box 78 (.t 0)),
 ko 3 (.box 56 (.t 1)),
 kv 4 (.mov (.c (.lit (.bool false))))]
 (.seq (.drw [⟨[], 0, 3, [(kf 5 3 0, ku),
 (kl 6 5, ku),
 (kv 7 (.load (.t 2) (some 6)), ku),
 (kc 8 (kF 46) [(.t 7)], .eff 0 []),
 (kc 9 (kF 45) [(.t 6), (.c kz), (.t 8)], .eff 1 []),
 (km 10 9, .val 2 []),
 (kG 11 10 true (.off (.t 3) 1), .val 2 []),
 (kG 12 10 true (.load (.t 11) none), .val 2 []),
 (kG 13 10 true (.load (.t 2) (some 6)), .val 2 []),
 (⟨(some 14), (some (10, true)), .o (.call (kF 47) [(.t 13)])⟩, .eff 2 [])],
 [],
 [⟨(some 15), (some (10, true)), .o (.call (kF 45) [(.t 12), (.c kz), (.t 14)])⟩,
 kv 16 (.pick (.t 10) (.t 15) (.c (.lit (.bool false)))),
 km 4 16], none⟩])
 .ret))
theorem h25 : FdOk Try.prog 25 ⟨g25, [.t 4], 17, [], false⟩ := .of Try.func25 (by simp [Try.f25]) (by kernel_rfl)
def g26 : RC :=
 (sr [ko 2 (.box 78 (.t 0)),
 ko 3 (.box 56 (.t 1)),
 ko 4 (.new 30 [kz, kz])]
 (.seq (.drw [⟨[], 0, 4, [(kf 5 3 0, ku),
 (kl 6 5, ku),
 (kc 7 (kF 49) [(.t 6)], .eff 0 []),
 (kv 8 (.load (.t 2) (some 6)), ku),
 (kc 9 (kF 51) [(.t 8)], .eff 1 []),
 (kv 10 (.load (.t 3) (some 2)), ku),
 (kc 11 (kF 50) [(.t 9), (.t 10)], .eff 2 []),
 (kv 12 (.load (.t 2) (some 6)), ku),
 (kc 13 (kF 52) [(.t 12)], .eff 3 []),
 (kv 14 (.load (.t 3) (some 2)), ku)],
 [],
 [kc 15 (kF 50) [(.t 13), (.t 14)],
 ko 16 (.bsl 30 3 [kz, kz, kz, kz, kz, kz] [(0, 2, (.t 7)), (2, 2, (.t 11)), (4, 2, (.t 15))]),
 kc 17 (kF 48) [(.t 16)],
 ks 2 4 17], none⟩])
 .ret))
theorem h26 : FdOk Try.prog 26 ⟨g26, [.c 4 (some 2)], 18, [], false⟩ := .of Try.func26 (by simp [Try.f26]) (by kernel_rfl)
def g27 : RC :=
 (sr [ko 1 (.box 60 (.t 0)),
 kv 2 (.mov (.c kz))]
 (.seq (sr [kf 6 1 0,
 kl 7 6,
 kv 8 (.len (.t 7)),
 kc 9 (kF 40) [(.t 8), (.c (ki 2)), (.c (ki 10))],
 kv 10 (.not (.t 9)),
 km 11 10,
 kG 12 11 false (.off (.t 1) 1),
 kG 13 11 false (.load (.t 12) none),
 kG 14 11 false (.off (.t 1) 2),
 kG 15 11 false (.load (.t 14) none),
 ⟨(some 16), (some (11, false)), .o (.call (kF 53) [(.t 13), (.t 15)])⟩,
 kG 17 11 false (.not (.t 16)),
 kv 18 (.pick (.t 11) (.c (.lit (.bool true))) (.t 17))]
 (.cond (.t 18)
 (sr [kv 2 (.mov (.c (ki 20)))]
 .ret)
 .skip))
 (sr [kv 3 (.mov (.c (ki 10)))]
 (.seq (sr [kf 19 1 0,
 kl 20 19,
 kv 21 (.len (.t 20)),
 kv 22 (.mov (.c kz))]
 (.block 0 (.loop
 (sr [kv 23 (.bin .lss (.t 22) (.t 21))]
 (.seq (.cond (.t 23)
 .skip
 (.exit 0))
 (.seq (.block 1 (sr [kv 24 (.ixa (.t 20) (.t 22) 1),
 kl 25 24,
 km 5 25]
 (.seq (sr [km 26 5,
 km 27 3,
 kc 28 (kF 40) [(.t 26), (.t 27), (.c (ki 200))],
 kv 29 (.not (.t 28))]
 (.cond (.t 29)
 (sr [kv 2 (.mov (.c (ki 20)))]
 .ret)
 .skip))
 (.reg [km 30 5,
 km 3 30]))))
 (.reg [kv 31 (.bin .add (.t 22) (.c (ki 1))),
 km 22 31])))))))
 (sr [kv 2 (.mov (.c kz))]
 .ret)))))
theorem h27 : FdOk Try.prog 27 ⟨g27, [.t 2], 32, [], false⟩ := .of Try.func27 (by simp [Try.f27]) (by kernel_rfl)
def g28 : RC :=
 (sr [ko 2 (.box 83 (.t 0)),
 kv 4 (.mov (.c (.lit (.bool false))))]
 (.seq (sr [km 7 1,
 kv 8 (.len (.t 7)),
 kv 9 (.bin .neq (.t 8) (.c (ki 2))),
 km 10 9,
 kG 11 10 true (.mov (.t 1)),
 kG 12 10 true (.len (.t 11)),
 kG 13 10 true (.bin .neq (.t 12) (.c (ki 4))),
 kv 14 (.pick (.t 10) (.t 13) (.c (.lit (.bool false))))]
 (.cond (.t 14)
 (sr [kv 4 (.mov (.c (.lit (.bool false))))]
 .ret)
 .skip))
 (.seq (sr [km 15 1,
 kv 16 (.len (.t 15)),
 kv 17 (.mov (.c kz))]
 (.block 0 (.loop
 (sr [kv 18 (.bin .lss (.t 17) (.t 16))]
 (.seq (.cond (.t 18)
 .skip
 (.exit 0))
 (.seq (.block 1 (sr [km 19 17,
 kv 20 (.ixa (.t 15) (.t 17) 1),
 kl 21 20,
 km 5 19,
 km 6 21]
 (sr [km 22 6,
 kf 23 2 0,
 kf 24 23 0,
 kl 25 24,
 kv 26 (.len (.t 25)),
 kv 27 (.bin .sub (.t 26) (.c (ki 1))),
 kc 28 (kF 40) [(.t 22), (.c kz), (.t 27)],
 kv 29 (.not (.t 28)),
 km 30 29,
 kG 31 30 false (.mov (.t 1)),
 kG 32 30 false (.mov (.t 5)),
 ⟨(some 33), (some (30, false)), .o (.slc (.t 31) none (some (.t 32)) none 1)⟩,
 kG 34 30 false (.mov (.t 6)),
 ⟨(some 35), (some (30, false)), .o (.call (kF 54) [(.t 33), (.t 34)])⟩,
 kv 36 (.pick (.t 30) (.c (.lit (.bool true))) (.t 35))]
 (.cond (.t 36)
 (sr [kv 4 (.mov (.c (.lit (.bool false))))]
 .ret)
 .skip))))
 (.reg [kv 37 (.bin .add (.t 17) (.c (ki 1))),
 km 17 37])))))))
 (sr [kv 4 (.mov (.c (.lit (.bool true))))]
 .ret))))
theorem h28 : FdOk Try.prog 28 ⟨g28, [.t 4], 38, [], false⟩ := .of Try.func28 (by simp [Try.f28]) (by kernel_rfl)
def g29 : RC :=
 (sr [ko 2 (.box 83 (.t 0)),
 kv 4 (.mov (.c kz)),
 kv 5 (.mov (.c kz))]
 (sr [kv 8 (.load (.t 2) (some 3)),
 km 9 1,
 kc 10 (kF 55) [(.t 8), (.t 9)],
 ko 6 (.new 105 [kz, kz]),
 ks 2 6 10]
 (sr [kf 11 2 0,
 kf 12 11 1,
 kl 13 12,
 kf 14 6 0,
 kl 15 14,
 kv 16 (.bin .mul (.t 13) (.t 15)),
 kf 17 2 0,
 kf 18 17 2,
 kl 19 18,
 kf 20 6 1,
 kl 21 20,
 kv 22 (.bin .mul (.t 19) (.t 21)),
 kc 23 (kF 56) [(.t 16), (.t 22)],
 ko 7 (.new 105 [kz, kz]),
 ks 2 7 23]
 (.seq (.drw [⟨[], 0, 0, [(kf 24 7 0, ku),
 (kl 25 24, ku),
 (kf 26 7 1, ku),
 (kl 27 26, ku),
 (km 4 25, ku)],
 [],
 [km 5 27], none⟩])
 .ret))))
theorem h29 : FdOk Try.prog 29 ⟨g29, [.t 4, .t 5], 28, [], false⟩ := .of Try.func29 (by simp [Try.f29]) (by kernel_rfl)
def g30 : RC :=
 (sr [kv 2 (.mov (.c (.lit (.bool false))))]
 (sr [km 3 0,
 kc 4 (kF 31) [(.t 3), (.c kz), (.c (ki 1295999))],
 km 2 4]
 .ret))
theorem h30 : FdOk Try.prog 30 ⟨g30, [.t 2], 5, [], false⟩ := .of Try.func30 (by simp [Try.f30]) (by kernel_rfl)
def g31 : RC :=
 (sr [kv 6 (.mov (.c (.lit (.bool false))))]
 (sr [km 7 1,
 km 8 0,
 kv 9 (.bin .leq (.t 7) (.t 8)),
 km 10 9,
 kG 11 10 true (.mov (.t 0)),
 kG 12 10 true (.mov (.t 2)),
 kG 13 10 true (.bin .leq (.t 11) (.t 12)),
 kv 14 (.pick (.t 10) (.t 13) (.c (.lit (.bool false)))),
 km 6 14]
 .ret))
theorem h31 : FdOk Try.prog 31 ⟨g31, [.t 6], 15, [], false⟩ := .of Try.func31 (by simp [Try.f31]) (by kernel_rfl)
def g32 : RC :=
 (sr [ko 3 (.box 30 (.t 0)),
 kv 6 (.mov (.c (.lit (.bool false))))]
 (sr [km 7 1,
 kf 8 3 0,
 kl 9 8,
 kv 10 (.bin .leq (.t 7) (.t 9)),
 km 11 10,
 kG 12 11 true (.off (.t 3) 0),
 kG 13 11 true (.load (.t 12) none),
 kG 14 11 true (.off (.t 3) 1),
 kG 15 11 true (.load (.t 14) none),
 kG 16 11 true (.bin .leq (.t 13) (.t 15)),
 kv 17 (.pick (.t 11) (.t 16) (.c (.lit (.bool false)))),
 km 18 17,
 kG 19 18 true (.off (.t 3) 1),
 kG 20 18 true (.load (.t 19) none),
 kG 21 18 true (.mov (.t 2)),
 kG 22 18 true (.bin .leq (.t 20) (.t 21)),
 kv 23 (.pick (.t 18) (.t 22) (.c (.lit (.bool false)))),
 km 6 23]
 .ret))
theorem h32 : FdOk Try.prog 32 ⟨g32, [.t 6], 24, [], false⟩ := .of Try.func32 (by simp [Try.f32]) (by kernel_rfl)
def g33 : RC :=
 (sr [kv 2 (.mov (.c kz))]
 (sr [km 3 0,
 km 4 0,
 kc 5 (kF 36) [(.t 4), (.c (ki 1296000))],
 kv 6 (.bin .mul (.c (ki 1296000)) (.t 5)),
 kv 7 (.bin .sub (.t 3) (.t 6)),
 km 2 7]
 .ret))
theorem h33 : FdOk Try.prog 33 ⟨g33, [.t 2], 8, [], false⟩ := .of Try.func33 (by simp [Try.f33]) (by kernel_rfl)
def g34 : RC :=
 (sr [ko 2 (.box 30 (.t 0)),
 ko 3 (.box 30 (.t 1)),
 ko 4 (.new 30 [kz, kz])]
 (sr [kf 6 2 0,
 kl 7 6,
 kf 8 3 0,
 kl 9 8,
 kv 10 (.max2 (.t 7) (.t 9)),
 kf 11 2 1,
 kl 12 11,
 kf 13 3 1,
 kl 14 13,
 kv 15 (.min2 (.t 12) (.t 14)),
 ko 16 (.bld [kz, kz] [(0, 1, (.t 10)), (1, 1, (.t 15))]),
 ko 5 (.new 30 [kz, kz]),
 ks 2 5 16]
 (.seq (sr [kf 17 5 0,
 kl 18 17,
 kf 19 5 1,
 kl 20 19,
 kv 21 (.bin .gtr (.t 18) (.t 20))]
 (.cond (.t 21)
 (sr [kc 22 (kF 37) [],
 ks 2 4 22]
 .ret)
 .skip))
 (sr [kv 23 (.load (.t 5) (some 2)),
 ks 2 4 23]
 .ret))))
theorem h34 : FdOk Try.prog 34 ⟨g34, [.c 4 (some 2)], 24, [], false⟩ := .of Try.func34 (by simp [Try.f34]) (by kernel_rfl)
def g35 : RC :=
 (sr [kv 4 (.mov (.c kz))]
 (sr [km 5 0,
 kv 6 (.neg (.t 5)),
 km 7 1,
 kc 8 (kF 36) [(.t 6), (.t 7)],
 kv 9 (.neg (.t 8)),
 km 4 9]
 .ret))
theorem h35 : FdOk Try.prog 35 ⟨g35, [.t 4], 10, [], false⟩ := .of Try.func35 (by simp [Try.f35]) (by kernel_rfl)
def g36 : RC :=
 (sr [kv 4 (.mov (.c kz))]
 (sr [km 6 0,
 km 7 1,
 kv 8 (.bin .quo (.t 6) (.t 7)),
 km 5 8]
 (.seq (sr [km 9 0,
 km 10 1,
 kv 11 (.bin .rem (.t 9) (.t 10)),
 kv 12 (.bin .lss (.t 11) (.c kz))]
 (.cond (.t 12)
 (.reg [km 13 5,
 kv 14 (.bin .sub (.t 13) (.c (ki 1))),
 km 5 14])
 .skip))
 (sr [km 15 5,
 km 4 15]
 .ret))))
theorem h36 : FdOk Try.prog 36 ⟨g36, [.t 4], 16, [], false⟩ := .of Try.func36 (by simp [Try.f36]) (by kernel_rfl)
def g37 : RC :=
 (sr [ko 0 (.new 30 [kz, kz])]
 (sr [ko 1 (.bld [kz, kz] [(0, 1, (.c (ki 1))), (1, 1, (.c kz))]),
 ks 2 0 1]
 .ret))
theorem h37 : FdOk Try.prog 37 ⟨g37, [.c 0 (some 2)], 2, [], false⟩ := .of Try.func37 (by simp [Try.f37]) (by kernel_rfl)
def g40 : RC :=
 (sr [kv 6 (.mov (.c (.lit (.bool false))))]
 (sr [km 7 1,
 km 8 0,
 kv 9 (.bin .leq (.t 7) (.t 8)),
 km 10 9,
 kG 11 10 true (.mov (.t 0)),
 kG 12 10 true (.mov (.t 2)),
 kG 13 10 true (.bin .leq (.t 11) (.t 12)),
 kv 14 (.pick (.t 10) (.t 13) (.c (.lit (.bool false)))),
 km 6 14]
 .ret))
theorem h40 : FdOk Try.prog 40 ⟨g40, [.t 6], 15, [], false⟩ := .of Try.func40 (by simp [Try.f40]) (by kernel_rfl)
def g44 : RC :=
 (sr [ko 1 (.box 78 (.t 0)),
 kv 2 (.mov (.c (.lit (.bool false))))]
 (sr [kf 3 1 0,
 kf 4 3 0,
 kl 5 4,
 kc 6 (kF 45) [(.t 5), (.c (ki 1)), (.c (ki 72000))],
 km 7 6,
 kG 8 7 true (.off (.t 1) 0),
 kG 9 7 true (.off (.t 8) 1),
 kG 10 7 true (.load (.t 9) none),
 kG 11 7 true (.len (.t 10)),
 ⟨(some 12), (some (7, true)), .o (.call (kF 45) [(.t 11), (.c (ki 2)), (.c (ki 12))])⟩,
 kv 13 (.pick (.t 7) (.t 12) (.c (.lit (.bool false)))),
 km 14 13,
 kG 15 14 true (.off (.t 1) 0),
 kG 16 14 true (.off (.t 15) 1),
 kG 17 14 true (.load (.t 16) none),
 ⟨(some 18), (some (14, true)), .o (.call (kF 58) [(.t 17), (.c (ki 600))])⟩,
 kv 19 (.pick (.t 14) (.t 18) (.c (.lit (.bool false)))),
 km 20 19,
 kG 21 20 true (.load (.t 1) (some 6)),
 ⟨(some 22), (some (20, true)), .o (.call (kF 46) [(.t 21)])⟩,
 kG 23 20 true (.bin .leq (.t 22) (.c (ki 504000))),
 kv 24 (.pick (.t 20) (.t 23) (.c (.lit (.bool false)))),
 km 25 24,
 kG 26 25 true (.off (.t 1) 0),
 kG 27 25 true (.off (.t 26) 2),
 kG 28 25 true (.load (.t 27) (some 2)),
 ⟨(some 29), (some (25, true)), .o (.call (kF 59) [(.t 28), (.c (ki (-1800))), (.c (ki 1800))])⟩,
 kv 30 (.pick (.t 25) (.t 29) (.c (.lit (.bool false)))),
 km 31 30,
 kG 32 31 true (.off (.t 1) 0),
 kG 33 31 true (.off (.t 32) 4),
 kG 34 31 true (.load (.t 33) none),
 ⟨(some 35), (some (31, true)), .o (.call (kF 45) [(.t 34), (.c kz), (.c (ki 60))])⟩,
 kv 36 (.pick (.t 31) (.t 35) (.c (.lit (.bool false)))),
 km 37 36,
 kG 38 37 true (.off (.t 1) 0),
 kG 39 37 true (.off (.t 38) 5),
 kG 40 37 true (.load (.t 39) none),
 kG 41 37 true (.len (.t 40)),
 kG 42 37 true (.bin .leq (.t 41) (.c (ki 6))),
 kv 43 (.pick (.t 37) (.t 42) (.c (.lit (.bool false)))),
 km 44 43,
 kG 45 44 true (.off (.t 1) 0),
 kG 46 44 true (.off (.t 45) 5),
 kG 47 44 true (.load (.t 46) none),
 ⟨(some 48), (some (44, true)), .o (.call (kF 58) [(.t 47), (.c (ki 120))])⟩,
 kv 49 (.pick (.t 44) (.t 48) (.c (.lit (.bool false)))),
 km 2 49]
 .ret))
theorem h44 : FdOk Try.prog 44 ⟨g44, [.t 2], 50, [], false⟩ := .of Try.func44 (by simp [Try.f44]) (by kernel_rfl)
def g45 : RC :=
 (sr [kv 6 (.mov (.c (.lit (.bool false))))]
 (sr [km 7 1,
 km 8 0,
 kv 9 (.bin .leq (.t 7) (.t 8)),
 km 10 9,
 kG 11 10 true (.mov (.t 0)),
 kG 12 10 true (.mov (.t 2)),
 kG 13 10 true (.bin .leq (.t 11) (.t 12)),
 kv 14 (.pick (.t 10) (.t 13) (.c (.lit (.bool false)))),
 km 6 14]
 .ret))
theorem h45 : FdOk Try.prog 45 ⟨g45, [.t 6], 15, [], false⟩ := .of Try.func45 (by simp [Try.f45]) (by kernel_rfl)
def g46 : RC :=
 (sr [ko 1 (.box 78 (.t 0)),
 kv 2 (.mov (.c kz))]
 (sr [kf 3 1 0,
 kf 4 3 0,
 kl 5 4,
 kf 6 1 0,
 kf 7 6 1,
 kl 8 7,
 kv 9 (.len (.t 8)),
 kv 10 (.bin .sub (.t 9) (.c (ki 1))),
 kv 11 (.bin .mul (.t 5) (.t 10)),
 km 2 11]
 .ret))
theorem h46 : FdOk Try.prog 46 ⟨g46, [.t 2], 12, [], false⟩ := .of Try.func46 (by simp [Try.f46]) (by kernel_rfl)
def g47 : RC :=
 (sr [ko 1 (.box 78 (.t 0)),
 kv 2 (.mov (.c kz))]
 (sr [kf 3 1 0,
 kf 4 3 5,
 kl 5 4,
 kv 6 (.len (.t 5)),
 kv 7 (.bin .shl (.c (ki 1)) (.t 6)),
 kv 8 (.bin .sub (.t 7) (.c (ki 1))),
 km 2 8]
 .ret))
theorem h47 : FdOk Try.prog 47 ⟨g47, [.t 2], 9, [], false⟩ := .of Try.func47 (by simp [Try.f47]) (by kernel_rfl)
def g48 : RC :=
 (sr [ko 2 (.new 30 [kz, kz])]
 (sr [ko 3 (.new 30 [kz, kz])]
 (.seq (sr [km 6 0,
 kv 7 (.len (.t 6)),
 kv 8 (.mov (.c kz))]
 (.block 0 (.loop
 (sr [kv 9 (.bin .lss (.t 8) (.t 7))]
 (.seq (.cond (.t 9)
 .skip
 (.exit 0))
 (.seq (.block 1 (sr [kv 10 (.ixa (.t 6) (.t 8) 2),
 kv 11 (.load (.t 10) (some 2)),
 ko 5 (.new 30 [kz, kz]),
 ks 2 5 11]
 (sr [kf 12 3 0,
 kl 13 12,
 kf 14 5 0,
 kl 15 14,
 kv 16 (.bin .add (.t 13) (.t 15)),
 kf 17 3 0,
 ks 1 17 16]
 (.reg [kf 18 3 1,
 kl 19 18,
 kf 20 5 1,
 kl 21 20,
 kv 22 (.bin .add (.t 19) (.t 21)),
 kf 23 3 1,
 ks 1 23 22]))))
 (.reg [kv 24 (.bin .add (.t 8) (.c (ki 1))),
 km 8 24])))))))
 (sr [kv 25 (.load (.t 3) (some 2)),
 ks 2 2 25]
 .ret))))
theorem h48 : FdOk Try.prog 48 ⟨g48, [.c 2 (some 2)], 26, [], false⟩ := .of Try.func48 (by simp [Try.f48]) (by kernel_rfl)
def g49 : RC :=
 (sr [ko 2 (.new 30 [kz, kz])]
 (sr [km 3 0,
 km 4 0,
 ko 5 (.bld [kz, kz] [(0, 1, (.t 3)), (1, 1, (.t 4))]),
 ks 2 2 5]
 .ret))
theorem h49 : FdOk Try.prog 49 ⟨g49, [.c 2 (some 2)], 6, [], false⟩ := .of Try.func49 (by simp [Try.f49]) (by kernel_rfl)
def g50 : RC :=
 (sr [ko 3 (.box 56 (.t 1)),
 ko 4 (.new 30 [kz, kz])]
 (sr [kv 5 (.mov (.c (.lit (.slice none 0 0))))]
 (.seq (sr [km 8 0,
 kv 9 (.len (.t 8)),
 kv 10 (.mov (.c kz))]
 (.block 0 (.loop
 (sr [kv 11 (.bin .lss (.t 10) (.t 9))]
 (.seq (.cond (.t 11)
 .skip
 (.exit 0))
 (.seq (.block 1 (sr [kv 12 (.ixa (.t 8) (.t 10) 1),
 kl 13 12,
 km 7 13]
 (.reg [km 14 5,
 km 15 7,
 kv 16 (.load (.t 3) (some 2)),
 ko 17 (.inv [(113, 79), (115, 80), (117, 83)] (.t 15) [(.t 16)]),
 ko 18 (.bsl 30 1 [kz, kz] [(0, 2, (.t 17))]),
 ko 19 (.app 30 2 16 (.t 14) (.t 18)),
 km 5 19])))
 (.reg [kv 20 (.bin .add (.t 10) (.c (ki 1))),
 km 10 20])))))))
 (sr [km 21 5,
 kc 22 (kF 48) [(.t 21)],
 ks 2 4 22]
 .ret))))
theorem h50 : FdOk Try.prog 50 ⟨g50, [.c 4 (some 2)], 23, [], false⟩ := .of Try.func50 (by simp [Try.f50]) (by kernel_rfl)
def g51 : RC :=
 (sr [ko 1 (.box 78 (.t 0)),
 kv 2 (.mov (.c (.lit (.slice none 0 0))))]
 (sr [kf 4 1 0,
 kf 5 4 1,
 kl 6 5,
 kv 7 (.len (.t 6)),
 km 3 7]
 (.seq (.drw [⟨[1, 3], 0, 0, [(kf 8 1 0, ku),
 (kf 9 8 2, ku),
 (kv 10 (.load (.t 9) (some 2)), ku),
 (kv 11 (.ifc 113 (.t 10)), ku),
 (kf 12 1 0, ku),
 (kf 13 12 0, ku),
 (kl 14 13, ku),
 (kf 15 1 0, ku),
 (kf 16 15 1, ku),
 (kl 17 16, ku),
 (km 18 3, ku),
 (km 19 3, ku),
 (ko 20 (.slc (.t 17) none (some (.t 18)) (some (.t 19)) 2), ku),
 (ko 21 (.bld [kz, (.lit (.slice none 0 0))] [(0, 1, (.t 14)), (1, 1, (.t 20))]), ku),
 (kv 22 (.ifc 115 (.t 21)), ku)],
 [],
 [ko 23 (.bsl 112 2 [(.lit .nilIface), (.lit .nilIface)] [(0, 1, (.t 11)), (1, 1, (.t 22))]),
 km 2 23], none⟩])
 .ret)))
theorem h51 : FdOk Try.prog 51 ⟨g51, [.t 2], 24, [], false⟩ := .of Try.func51 (by simp [Try.f51]) (by kernel_rfl)
def g52 : RC :=
 (sr [ko 1 (.box 78 (.t 0)),
 kv 2 (.mov (.c (.lit (.slice none 0 0))))]
 (sr [kf 6 1 0,
 kf 7 6 4,
 kl 8 7,
 kc 9 (kF 60) [(.t 8)],
 kv 10 (.ifc 113 (.t 9)),
 ko 11 (.bsl 112 1 [(.lit .nilIface)] [(0, 1, (.t 10))]),
 km 3 11]
 (.seq (sr [kf 12 1 0,
 kf 13 12 5,
 kl 14 13,
 kv 15 (.len (.t 14)),
 kv 16 (.mov (.c kz))]
 (.block 0 (.loop
 (sr [kv 17 (.bin .lss (.t 16) (.t 15))]
 (.seq (.cond (.t 17)
 .skip
 (.exit 0))
 (.seq (.block 1 (sr [km 18 16,
 kv 19 (.ixa (.t 14) (.t 16) 2),
 kv 20 (.load (.t 19) (some 2)),
 ko 5 (.new 30 [kz, kz]),
 km 4 18,
 ks 2 5 20]
 (.reg [km 21 3,
 km 22 4,
 kv 23 (.load (.t 5) (some 2)),
 ko 24 (.bld [kz, kz, kz] [(0, 1, (.t 22)), (1, 2, (.t 23))]),
 kv 25 (.ifc 117 (.t 24)),
 ko 26 (.bsl 112 1 [(.lit .nilIface)] [(0, 1, (.t 25))]),
 ko 27 (.app 112 1 16 (.t 21) (.t 26)),
 km 3 27])))
 (.reg [kv 28 (.bin .add (.t 16) (.c (ki 1))),
 km 16 28])))))))
 (sr [km 29 3,
 km 2 29]
 .ret))))
theorem h52 : FdOk Try.prog 52 ⟨g52, [.t 2], 30, [], false⟩ := .of Try.func52 (by simp [Try.f52]) (by kernel_rfl)
def g53 : RC :=
 (sr [kv 4 (.mov (.c (.lit (.bool false))))]
 (sr [km 5 0,
 kc 6 (kF 40) [(.t 5), (.c (ki 1)), (.c (ki 1000))],
 km 7 6,
 kG 8 7 true (.mov (.t 1)),
 ⟨(some 9), (some (7, true)), .o (.call (kF 40) [(.t 8), (.c (ki 1)), (.c (ki 1000))])⟩,
 kv 10 (.pick (.t 7) (.t 9) (.c (.lit (.bool false)))),
 km 4 10]
 .ret))
theorem h53 : FdOk Try.prog 53 ⟨g53, [.t 4], 11, [], false⟩ := .of Try.func53 (by simp [Try.f53]) (by kernel_rfl)
def g54 : RC :=
 (sr [kv 4 (.mov (.c (.lit (.bool false))))]
 (sr [km 5 0,
 km 6 1,
 kc 7 (kF 61) [(.t 5), (.t 6)],
 kv 8 (.bin .geq (.t 7) (.c kz)),
 km 4 8]
 .ret))
theorem h54 : FdOk Try.prog 54 ⟨g54, [.t 4], 9, [], false⟩ := .of Try.func54 (by simp [Try.f54]) (by kernel_rfl)
def g55 : RC :=
 (sr [ko 2 (.box 83 (.t 0)),
 ko 4 (.new 105 [kz, kz])]
 (sr [ko 8 (.bld [kz, kz] [(0, 1, (.c (ki 1))), (1, 1, (.c (ki 1)))]),
 ko 5 (.new 119 [kz, kz]),
 ks 2 5 8]
 (.seq (sr [km 9 1,
 kv 10 (.len (.t 9)),
 kv 11 (.mov (.c kz))]
 (.block 0 (.loop
 (sr [kv 12 (.bin .lss (.t 11) (.t 10))]
 (.seq (.cond (.t 12)
 .skip
 (.exit 0))
 (.seq (.block 1 (sr [km 13 11,
 kv 14 (.ixa (.t 9) (.t 11) 1),
 kl 15 14,
 km 6 13,
 km 7 15]
 (.drw [⟨[], 0, 0, [(km 16 6, ku),
 (kv 17 (.bin .rem (.t 16) (.c (ki 2))), ku),
 (kv 18 (.ixarr (.t 5) (.t 17) 2 1), ku),
 (kl 19 18, ku),
 (kf 20 2 0, ku),
 (kf 21 20 0, ku),
 (kl 22 21, ku),
 (km 23 7, ku),
 (kv 24 (.ixa (.t 22) (.t 23) 1), ku),
 (kl 25 24, ku)],
 [],
 [kv 26 (.bin .mul (.t 19) (.t 25)),
 kv 27 (.ixarr (.t 5) (.t 17) 2 1),
 ks 1 27 26], none⟩])))
 (.reg [kv 28 (.bin .add (.t 11) (.c (ki 1))),
 km 11 28])))))))
 (sr [kv 29 (.ixarr (.t 5) (.c kz) 2 1),
 kl 30 29,
 kv 31 (.ixarr (.t 5) (.c (ki 1)) 2 1),
 kl 32 31,
 kc 33 (kF 56) [(.t 30), (.t 32)],
 ks 2 4 33]
 .ret))))
theorem h55 : FdOk Try.prog 55 ⟨g55, [.c 4 (some 2)], 34, [], false⟩ := .of Try.func55 (by simp [Try.f55]) (by kernel_rfl)
def g56 : RC :=
 (sr [ko 4 (.new 105 [kz, kz])]
 (sr [km 7 0,
 km 8 1,
 km 5 7,
 km 6 8]
 (.seq (.block 0 (.loop
 (.seq (sr [km 9 6,
 kv 10 (.bin .neq (.t 9) (.c kz))]
 (.cond (.t 10)
 .skip
 (.exit 0)))
 (.block 1 (.drw [⟨[], 0, 0, [(km 11 6, ku),
 (km 12 5, ku),
 (km 13 6, ku),
 (kv 14 (.bin .rem (.t 12) (.t 13)), ku),
 (km 5 11, ku)],
 [],
 [km 6 14], none⟩])))))
 (.seq (.drw [⟨[], 0, 0, [(km 15 0, ku),
 (km 16 5, ku),
 (kv 17 (.bin .quo (.t 15) (.t 16)), ku),
 (km 18 1, ku),
 (km 19 5, ku),
 (kv 20 (.bin .quo (.t 18) (.t 19)), ku)],
 [],
 [ko 21 (.bld [kz, kz] [(0, 1, (.t 17)), (1, 1, (.t 20))]),
 ks 2 4 21], none⟩])
 .ret))))
theorem h56 : FdOk Try.prog 56 ⟨g56, [.c 4 (some 2)], 22, [], false⟩ := .of Try.func56 (by simp [Try.f56]) (by kernel_rfl)
def g58 : RC :=
 (sr [kv 4 (.mov (.c (.lit (.bool false))))]
 (.seq (sr [km 7 0,
 kv 8 (.len (.t 7)),
 kv 9 (.mov (.c kz))]
 (.block 0 (.loop
 (sr [kv 10 (.bin .lss (.t 9) (.t 8))]
 (.seq (.cond (.t 10)
 .skip
 (.exit 0))
 (.seq (.block 1 (sr [kv 11 (.ixa (.t 7) (.t 9) 2),
 kv 12 (.load (.t 11) (some 2)),
 ko 6 (.new 30 [kz, kz]),
 ks 2 6 12]
 (sr [kv 13 (.load (.t 6) (some 2)),
 km 14 1,
 kv 15 (.neg (.t 14)),
 km 16 1,
 kc 17 (kF 59) [(.t 13), (.t 15), (.t 16)],
 kv 18 (.not (.t 17))]
 (.cond (.t 18)
 (sr [kv 4 (.mov (.c (.lit (.bool false))))]
 .ret)
 .skip))))
 (.reg [kv 19 (.bin .add (.t 9) (.c (ki 1))),
 km 9 19])))))))
 (sr [kv 4 (.mov (.c (.lit (.bool true))))]
 .ret)))
theorem h58 : FdOk Try.prog 58 ⟨g58, [.t 4], 20, [], false⟩ := .of Try.func58 (by simp [Try.f58]) (by kernel_rfl)
def g59 : RC :=
 (sr [ko 3 (.box 30 (.t 0)),
 kv 6 (.mov (.c (.lit (.bool false))))]
 (sr [km 7 1,
 kf 8 3 0,
 kl 9 8,
 kv 10 (.bin .leq (.t 7) (.t 9)),
 km 11 10,
 kG 12 11 true (.off (.t 3) 0),
 kG 13 11 true (.load (.t 12) none),
 kG 14 11 true (.off (.t 3) 1),
 kG 15 11 true (.load (.t 14) none),
 kG 16 11 true (.bin .leq (.t 13) (.t 15)),
 kv 17 (.pick (.t 11) (.t 16) (.c (.lit (.bool false)))),
 km 18 17,
 kG 19 18 true (.off (.t 3) 1),
 kG 20 18 true (.load (.t 19) none),
 kG 21 18 true (.mov (.t 2)),
 kG 22 18 true (.bin .leq (.t 20) (.t 21)),
 kv 23 (.pick (.t 18) (.t 22) (.c (.lit (.bool false)))),
 km 6 23]
 .ret))
theorem h59 : FdOk Try.prog 59 ⟨g59, [.t 6], 24, [], false⟩ := .of Try.func59 (by simp [Try.f59]) (by kernel_rfl)
def g60 : RC :=
 (sr [ko 2 (.new 30 [kz, kz])]
 (sr [km 3 0,
 kv 4 (.neg (.t 3)),
 km 5 0,
 ko 6 (.bld [kz, kz] [(0, 1, (.t 4)), (1, 1, (.t 5))]),
 ks 2 2 6]
 .ret))
theorem h60 : FdOk Try.prog 60 ⟨g60, [.c 2 (some 2)], 7, [], false⟩ := .of Try.func60 (by simp [Try.f60]) (by kernel_rfl)
def g61 : RC :=
 (sr [kv 4 (.mov (.c kz))]
 (.seq (sr [km 6 0,
 kv 7 (.len (.t 6)),
 kv 8 (.mov (.c kz))]
 (.block 0 (.loop
 (sr [kv 9 (.bin .lss (.t 8) (.t 7))]
 (.seq (.cond (.t 9)
 .skip
 (.exit 0))
 (.seq (.block 1 (sr [km 10 8,
 km 5 10]
 (sr [km 11 1,
 km 12 0,
 km 13 5,
 kv 14 (.ixa (.t 12) (.t 13) 1),
 kl 15 14,
 kv 16 (.bin .eql (.t 11) (.t 15))]
 (.cond (.t 16)
 (sr [km 17 5,
 km 4 17]
 .ret)
 .skip))))
 (.reg [kv 18 (.bin .add (.t 8) (.c (ki 1))),
 km 8 18])))))))
 (sr [kv 4 (.mov (.c (ki (-1))))]
 .ret)))
theorem h61 : FdOk Try.prog 61 ⟨g61, [.t 4], 19, [], false⟩ := .of Try.func61 (by simp [Try.f61]) (by kernel_rfl)
def g79 : RC :=
 (sr [ko 2 (.box 113 (.t 0)),
 ko 3 (.box 56 (.t 1)),
 ko 4 (.new 30 [kz, kz])]
 (sr [kv 5 (.load (.t 2) (some 2)),
 ks 2 4 5]
 .ret))
theorem h79 : FdOk Try.prog 79 ⟨g79, [.c 4 (some 2)], 6, [], false⟩ := .of Try.func79 (by simp [Try.f79]) (by kernel_rfl)
def g80 : RC :=
 (sr [ko 2 (.box 115 (.t 0)),
 ko 3 (.box 56 (.t 1)),
 ko 4 (.new 30 [kz, kz])]
 (.seq (.drw [⟨[], 0, 0, [(kf 9 3 0, ku),
 (kl 10 9, ku),
 (kf 11 2 0, ku),
 (kl 12 11, ku),
 (kv 13 (.bin .quo (.t 10) (.t 12)), ku),
 (kf 14 3 0, ku),
 (kl 15 14, ku),
 (kf 16 2 0, ku),
 (kl 17 16, ku),
 (kv 18 (.bin .rem (.t 15) (.t 17)), ku),
 (km 5 13, ku)],
 [],
 [km 6 18], none⟩])
 (.seq (sr [km 19 6,
 kv 20 (.bin .eql (.t 19) (.c kz))]
 (.cond (.t 20)
 (sr [kf 21 2 1,
 kl 22 21,
 km 23 5,
 kv 24 (.ixa (.t 22) (.t 23) 2),
 kv 25 (.load (.t 24) (some 2)),
 ks 2 4 25]
 .ret)
 .skip))
 (.seq (.drw [⟨[], 2, 1, [(kf 26 2 1, ku),
 (kl 27 26, ku),
 (km 28 5, ku),
 (kv 29 (.ixa (.t 27) (.t 28) 2), ku),
 (kv 30 (.load (.t 29) (some 2)), ku),
 (kf 31 2 1, .prd []),
 (kl 32 31, .prd []),
 (km 33 5, .prd []),
 (kv 34 (.bin .add (.t 33) (.c (ki 1))), .prd []),
 (kv 35 (.ixa (.t 32) (.t 34) 2), .prd []),
 (kv 36 (.load (.t 35) (some 2)), .prd []),
 (ko 7 (.new 30 [kz, kz]), .cre 0),
 (ko 8 (.new 30 [kz, kz]), .cre 1),
 (ks 2 7 30, .efs 0 [0, 1] [])],
 [],
 [ks 2 8 36], none⟩,
 ⟨[], 2, 1, [(kf 26 2 1, ku),
 (kl 27 26, ku),
 (km 28 5, ku),
 (kv 29 (.ixa (.t 27) (.t 28) 2), ku),
 (kv 30 (.load (.t 29) (some 2)), ku),
 (kf 31 2 1, .prd []),
 (kl 32 31, .prd []),
 (km 33 5, .prd []),
 (kv 34 (.bin .add (.t 33) (.c (ki 1))), .prd []),
 (kv 35 (.ixa (.t 32) (.t 34) 2), .prd []),
 (kv 36 (.load (.t 35) (some 2)), .prd []),
 (ko 7 (.new 30 [kz, kz]), .cre 0),
 (ko 8 (.new 30 [kz, kz]), .cre 1),
 (ks 2 7 30, .efs 0 [0, 1] [])],
 [],
 [ks 2 8 36], none⟩])
 (.seq (.drw [⟨[], 0, 1, [(kv 37 (.load (.t 2) (some 2)), ku),
 (kf 38 7 0, ku),
 (kl 39 38, ku),
 (kf 40 8 0, ku),
 (kl 41 40, ku),
 (km 42 6, ku),
 (kc 43 (kF 81) [(.t 37), (.t 39), (.t 41), (.t 42)], .eff 0 []),
 (kv 44 (.load (.t 2) (some 2)), ku),
 (kf 45 7 1, ku),
 (kl 46 45, ku),
 (kf 47 8 1, ku),
 (kl 48 47, ku),
 (km 49 6, ku)],
 [],
 [kc 50 (kF 81) [(.t 44), (.t 46), (.t 48), (.t 49)],
 ko 51 (.bld [kz, kz] [(0, 1, (.t 43)), (1, 1, (.t 50))]),
 ks 2 4 51], none⟩])
 .ret)))))
theorem h80 : FdOk Try.prog 80 ⟨g80, [.c 4 (some 2)], 52, [], false⟩ := .of Try.func80 (by simp [Try.f80]) (by kernel_rfl)
def g81 : RC :=
 (sr [ko 4 (.box 115 (.t 0)),
 kv 8 (.mov (.c kz))]
 (sr [km 9 1,
 kf 10 4 0,
 kl 11 10,
 km 12 3,
 kv 13 (.bin .sub (.t 11) (.t 12)),
 kv 14 (.bin .mul (.t 9) (.t 13)),
 km 15 2,
 km 16 3,
 kv 17 (.bin .mul (.t 15) (.t 16)),
 kv 18 (.bin .add (.t 14) (.t 17)),
 kf 19 4 0,
 kl 20 19,
 kc 21 (kF 82) [(.t 18), (.t 20)],
 km 8 21]
 .ret))
theorem h81 : FdOk Try.prog 81 ⟨g81, [.t 8], 22, [], false⟩ := .of Try.func81 (by simp [Try.f81]) (by kernel_rfl)
def g82 : RC :=
 (sr [kv 4 (.mov (.c kz))]
 (sr [km 6 0,
 km 7 1,
 kv 8 (.bin .quo (.t 6) (.t 7)),
 km 5 8]
 (.seq (sr [km 9 0,
 km 10 1,
 kv 11 (.bin .rem (.t 9) (.t 10)),
 kv 12 (.bin .lss (.t 11) (.c kz))]
 (.cond (.t 12)
 (.reg [km 13 5,
 kv 14 (.bin .sub (.t 13) (.c (ki 1))),
 km 5 14])
 .skip))
 (sr [km 15 5,
 km 4 15]
 .ret))))
theorem h82 : FdOk Try.prog 82 ⟨g82, [.t 4], 16, [], false⟩ := .of Try.func82 (by simp [Try.f82]) (by kernel_rfl)
def g83 : RC :=
 (sr [ko 2 (.box 117 (.t 0)),
 ko 3 (.box 56 (.t 1)),
 ko 4 (.new 30 [kz, kz])]
 (.seq (sr [kf 5 3 1,
 kl 6 5,
 kf 7 2 0,
 kl 8 7,
 kv 9 (.bin .shr (.t 6) (.t 8)),
 kv 10 (.bin .and (.t 9) (.c (ki 1))),
 kv 11 (.bin .eql (.t 10) (.c kz))]
 (.cond (.t 11)
 (sr [kc 12 (kF 49) [(.c kz)],
 ks 2 4 12]
 .ret)
 .skip))
 (sr [kf 13 2 1,
 kv 14 (.load (.t 13) (some 2)),
 ks 2 4 14]
 .ret)))
theorem h83 : FdOk Try.prog 83 ⟨g83, [.c 4 (some 2)], 15, [], false⟩ := .of Try.func83 (by simp [Try.f83]) (by kernel_rfl)
end Go.Proofs.Ytdcjlllnfklncaa
