import Derived.Test.YtplldhepmmjmmaaVgR18
import Derived.Test.YtplldhepmmjmmaaChecked
import Derived.KernelRfl
namespace Go.Proofs.Ytplldhepmmjmmaa
open Go Go.Vg
set_option maxRecDepth 100000
set_option maxHeartbeats 4000000
def ki (n : Int) : SV := .int .i64 n
def kz : SV := .int .i64 0
def km (d n : Nat) : Opq := ⟨some d, none, .o (.v (.mov (.t n)))⟩
def kl (d n : Nat) : Opq := ⟨some d, none, .o (.v (.load (.t n) none))⟩
def kf (d n k : Nat) : Opq := ⟨some d, none, .o (.v (.off (.t n) k))⟩
def kn (d n : Nat) : Opq := ⟨some d, none, .nck (.t n)⟩
def kv (d : Nat) (v : VOp) : Opq := ⟨some d, none, .o (.v v)⟩
def kc (d : Nat) (f : X) (l : List X) : Opq := ⟨some d, none, .o (.call f l)⟩
def ko (d : Nat) (o : Op1) : Opq := ⟨some d, none, .o o⟩
def ku : Kd := .val 0 []
def kb0 : SV := .lit (.bool false)
def kb1 : SV := .lit (.bool true)
def kG (d g : Nat) (b : Bool) (v : VOp) : Opq := ⟨some d, some (g, b), .o (.v v)⟩
def kF (n : Nat) : X := .c (.fn n [])
def ks (n a b : Nat) : Opq := ⟨none, none, .o (.store n (.t a) (.t b))⟩
def sr (l : List Opq) (b : RC) : RC := .seq (.reg l) b
def g6 : RC :=
 (sr [ko 4 (.new 31 [kz, kz])]
 (sr [km 5 0,
 km 6 1,
 ko 7 (.bld [kz, kz] [(0, 1, (.t 5)), (1, 1, (.t 6))]),
 ks 2 4 7]
 .ret))
theorem h6 : FdOk Try.prog 6 ⟨g6, [.c 4 (some 2)], 8, [], false⟩ := .of Try.func6 (by simp [Try.f6]) (by kernel_rfl)
def g9 : RC :=
 (sr [kv 0 (.mov (.c (.lit (.bool false))))]
 (sr [ko 10 (.bsl 3 4 [kz, kz, kz, kz] [(0, 1, (.c (ki 20))), (1, 1, (.c (ki 30))), (2, 1, (.c (ki 40))), (3, 1, (.c (ki 60)))]),
 kc 11 (kF 15) [(.t 10), (.c (ki 3)), (.c (ki 2))],
 km 9 11,
 kv 12 (.ext (.t 9) 0),
 kv 13 (.ext (.t 9) 1),
 ko 1 (.new 55 [kz, kz, kz, kz]),
 ks 4 1 12,
 km 2 13]
 (sr [ko 15 (.bsl 3 2 [kz, kz] [(0, 1, (.c (ki 20))), (1, 1, (.c (ki 30)))]),
 ko 16 (.bld [(.lit (.slice none 0 0)), kz, kz] [(0, 1, (.t 15)), (1, 1, (.c (ki 1))), (2, 1, (.c (ki 4)))]),
 kc 17 (kF 16) [(.t 16), (.c (ki 1)), (.c (ki 6))],
 km 14 17,
 kv 18 (.ext (.t 14) 0),
 kv 19 (.ext (.t 14) 1),
 km 3 18,
 km 4 19]
 (sr [kc 21 (kF 6) [(.c (ki 200)), (.c (ki 312))],
 kc 22 (kF 17) [(.t 21), (.c (ki 20)), (.c (ki 60))],
 km 20 22,
 kv 23 (.ext (.t 20) 0),
 kv 24 (.ext (.t 20) 1),
 km 5 23,
 km 6 24]
 (sr [kc 26 (kF 6) [(.c (ki 7)), (.c (ki 8))],
 ko 27 (.bld [kz, kz, kz, kz, kz] [(0, 2, (.t 26))]),
 ko 28 (.bsl 45 1 [kz, kz, kz, kz, kz] [(0, 5, (.t 27))]),
 kc 29 (kF 11) [(.t 28)],
 km 25 29,
 kv 30 (.ext (.t 25) 0),
 kv 31 (.ext (.t 25) 1),
 km 7 30,
 km 8 31]
 (sr [km 32 2,
 kv 33 (.bin .eql (.t 32) (.c kz)),
 km 34 33,
 kG 35 34 true (.mov (.t 4)),
 kG 36 34 true (.bin .eql (.t 35) (.c kz)),
 kv 37 (.pick (.t 34) (.t 36) (.c (.lit (.bool false)))),
 km 38 37,
 kG 39 38 true (.mov (.t 6)),
 kG 40 38 true (.bin .eql (.t 39) (.c kz)),
 kv 41 (.pick (.t 38) (.t 40) (.c (.lit (.bool false)))),
 km 42 41,
 kG 43 42 true (.mov (.t 8)),
 kG 44 42 true (.bin .eql (.t 43) (.c kz)),
 kv 45 (.pick (.t 42) (.t 44) (.c (.lit (.bool false)))),
 km 46 45,
 kG 47 46 true (.load (.t 1) (some 4)),
 ⟨(some 48), (some (46, true)), .o (.bld [kz, kz, kz, kz] [(0, 1, (.c (ki 1))), (1, 1, (.c kz)), (2, 1, (.c (ki (-1)))), (3, 1, (.c (ki (-1))))])⟩,
 kG 49 46 true (.eqs [(some .i64), (some .i64), (some .i64), (some .i64)] false (.t 47) (.t 48)),
 kv 50 (.pick (.t 46) (.t 49) (.c (.lit (.bool false)))),
 km 51 50,
 kG 52 51 true (.mov (.t 3)),
 ⟨(some 53), (some (51, true)), .o (.bsl 3 2 [kz, kz] [(0, 1, (.c kz)), (1, 1, (.c (ki 1)))])⟩,
 ⟨(some 54), (some (51, true)), .o (.call (kF 18) [(.t 52), (.t 53)])⟩,
 kv 55 (.pick (.t 51) (.t 54) (.c (.lit (.bool false)))),
 km 56 55,
 kG 57 56 true (.mov (.t 5)),
 kG 58 56 true (.bin .eql (.t 57) (.c (ki (-13)))),
 kv 59 (.pick (.t 56) (.t 58) (.c (.lit (.bool false)))),
 km 60 59,
 kG 61 60 true (.mov (.t 7)),
 ⟨(some 62), (some (60, true)), .o (.call (kF 6) [(.c (ki 7)), (.c (ki 8))])⟩,
 ⟨(some 63), (some (60, true)), .o (.bsl 31 1 [kz, kz] [(0, 2, (.t 62))])⟩,
 ⟨(some 64), (some (60, true)), .o (.call (kF 19) [(.t 61), (.t 63)])⟩,
 kv 65 (.pick (.t 60) (.t 64) (.c (.lit (.bool false)))),
 km 0 65]
 .ret))))))
theorem h9 : FdOk Try.prog 9 ⟨g9, [.t 0], 66, [], false⟩ := .of Try.func9 (by simp [Try.f9]) (by kernel_rfl)
def g11 : RC :=
 (sr [kv 2 (.mov (.c (.lit (.slice none 0 0)))),
 kv 3 (.mov (.c kz))]
 (.seq (sr [km 5 0,
 kc 6 (kF 20) [(.t 5)],
 kv 7 (.not (.t 6))]
 (.cond (.t 7)
 (sr [kv 2 (.mov (.c (.lit (.slice none 0 0)))),
 kv 3 (.mov (.c (ki 44)))]
 .ret)
 .skip))
 (sr [km 8 0,
 kc 9 (kF 21) [(.t 8)],
 km 4 9]
 (.seq (sr [km 10 4,
 kv 11 (.len (.t 10)),
 kv 12 (.bin .eql (.t 11) (.c kz))]
 (.cond (.t 12)
 (sr [kv 2 (.mov (.c (.lit (.slice none 0 0)))),
 kv 3 (.mov (.c (ki 4)))]
 .ret)
 .skip))
 (sr [km 13 4,
 km 2 13,
 kv 3 (.mov (.c kz))]
 .ret)))))
theorem h11 : FdOk Try.prog 11 ⟨g11, [.t 2, .t 3], 14, [], false⟩ := .of Try.func11 (by simp [Try.f11]) (by kernel_rfl)
def g15 : RC :=
 (sr [ko 6 (.new 55 [kz, kz, kz, kz]),
 kv 7 (.mov (.c kz))]
 (.seq (sr [km 9 0,
 kc 10 (kF 27) [(.t 9)],
 kv 11 (.not (.t 10)),
 km 12 11,
 kG 13 12 false (.mov (.t 1)),
 ⟨(some 14), (some (12, false)), .o (.call (kF 28) [(.t 13), (.c (ki 1)), (.c (ki 100000))])⟩,
 kG 15 12 false (.not (.t 14)),
 kv 16 (.pick (.t 12) (.c (.lit (.bool true))) (.t 15)),
 km 17 16,
 kG 18 17 false (.mov (.t 2)),
 ⟨(some 19), (some (17, false)), .o (.call (kF 28) [(.t 18), (.c (ki 1)), (.c (ki 100000))])⟩,
 kG 20 17 false (.not (.t 19)),
 kv 21 (.pick (.t 17) (.c (.lit (.bool true))) (.t 20))]
 (.cond (.t 21)
 (sr [ko 22 (.bld [kz, kz, kz, kz] []),
 ks 4 6 22,
 kv 7 (.mov (.c (ki 13)))]
 .ret)
 .skip))
 (sr [km 23 0,
 kc 24 (kF 29) [(.t 23)],
 km 25 1,
 km 26 2,
 kc 27 (kF 30) [(.t 24), (.t 25), (.t 26)],
 ko 8 (.new 55 [kz, kz, kz, kz]),
 ks 4 8 27]
 (.seq (.seq (.drw [⟨[], 0, 1, [(kv 28 (.load (.t 8) (some 4)), ku),
 (kc 29 (kF 31) [], .eff 0 [])],
 [],
 [kv 30 (.eqs [(some .i64), (some .i64), (some .i64), (some .i64)] false (.t 28) (.t 29))], none⟩])
 (.cond (.t 30)
 (sr [ko 31 (.bld [kz, kz, kz, kz] []),
 ks 4 6 31,
 kv 7 (.mov (.c (ki 4)))]
 .ret)
 .skip))
 (sr [kv 32 (.load (.t 8) (some 4)),
 ks 4 6 32,
 kv 7 (.mov (.c kz))]
 .ret)))))
theorem h15 : FdOk Try.prog 15 ⟨g15, [.c 6 (some 4), .t 7], 33, [], false⟩ := .of Try.func15 (by simp [Try.f15]) (by kernel_rfl)
def g16 : RC :=
 (sr [ko 3 (.box 61 (.t 0)),
 kv 6 (.mov (.c (.lit (.slice none 0 0)))),
 kv 7 (.mov (.c kz))]
 (.seq (sr [kv 11 (.load (.t 3) (some 3)),
 km 12 1,
 km 13 2,
 kc 14 (kF 32) [(.t 11), (.t 12), (.t 13)],
 km 8 14]
 (sr [km 15 8,
 kv 16 (.bin .neq (.t 15) (.c kz))]
 (.cond (.t 16)
 (sr [km 17 8,
 kv 6 (.mov (.c (.lit (.slice none 0 0)))),
 km 7 17]
 .ret)
 .skip)))
 (sr [kv 18 (.load (.t 3) (some 3)),
 ko 19 (.bld [(.lit (.slice none 0 0)), kz, kz] [(0, 3, (.t 18))]),
 ko 9 (.new 87 [(.lit (.slice none 0 0)), kz, kz]),
 ks 3 9 19]
 (.seq (.drw [⟨[], 0, 1, [(kv 20 (.load (.t 9) (some 3)), ku),
 (kv 21 (.load (.t 9) (some 3)), ku),
 (km 22 1, ku),
 (km 23 2, ku),
 (kc 24 (kF 34) [(.t 21), (.t 22), (.t 23)], .eff 0 [])],
 [],
 [kc 25 (kF 33) [(.t 20), (.t 24)],
 km 10 25], none⟩])
 (.seq (sr [km 26 10,
 kv 27 (.isnil false (.t 26))]
 (.cond (.t 27)
 (sr [kv 6 (.mov (.c (.lit (.slice none 0 0)))),
 kv 7 (.mov (.c (ki 4)))]
 .ret)
 .skip))
 (sr [km 28 10,
 km 6 28,
 kv 7 (.mov (.c kz))]
 .ret))))))
theorem h16 : FdOk Try.prog 16 ⟨g16, [.t 6, .t 7], 29, [], false⟩ := .of Try.func16 (by simp [Try.f16]) (by kernel_rfl)
def g17 : RC :=
 (sr [ko 3 (.box 31 (.t 0)),
 kv 6 (.mov (.c kz)),
 kv 7 (.mov (.c kz))]
 (.seq (sr [kv 10 (.load (.t 3) (some 2)),
 kc 11 (kF 35) [(.t 10), (.c (ki (-1000000))), (.c (ki 1000000))],
 kv 12 (.not (.t 11)),
 km 13 12,
 kG 14 13 false (.mov (.t 1)),
 ⟨(some 15), (some (13, false)), .o (.call (kF 36) [(.t 14), (.c (ki 1)), (.c (ki 100))])⟩,
 kG 16 13 false (.not (.t 15)),
 kv 17 (.pick (.t 13) (.c (.lit (.bool true))) (.t 16)),
 km 18 17,
 kG 19 18 false (.mov (.t 2)),
 ⟨(some 20), (some (18, false)), .o (.call (kF 36) [(.t 19), (.c kz), (.c (ki 1000000))])⟩,
 kG 21 18 false (.not (.t 20)),
 kv 22 (.pick (.t 18) (.c (.lit (.bool true))) (.t 21))]
 (.cond (.t 22)
 (sr [kv 6 (.mov (.c kz)),
 kv 7 (.mov (.c (ki 7)))]
 .ret)
 .skip))
 (.seq (.drw [⟨[], 0, 1, [(km 23 2, ku),
 (kv 24 (.neg (.t 23)), ku),
 (kf 25 3 0, ku),
 (kl 26 25, ku),
 (kv 27 (.bin .sub (.t 24) (.t 26)), ku),
 (km 28 1, ku),
 (kc 29 (kF 37) [(.t 27), (.t 28)], .eff 0 []),
 (km 30 2, ku),
 (kf 31 3 1, ku),
 (kl 32 31, ku),
 (kv 33 (.bin .sub (.t 30) (.t 32)), ku),
 (km 34 1, ku)],
 [],
 [kc 35 (kF 38) [(.t 33), (.t 34)],
 km 8 29,
 km 9 35], none⟩])
 (.seq (sr [km 36 8,
 km 37 9,
 kv 38 (.bin .gtr (.t 36) (.t 37))]
 (.cond (.t 38)
 (sr [kv 6 (.mov (.c kz)),
 kv 7 (.mov (.c (ki 4)))]
 .ret)
 .skip))
 (sr [km 39 8,
 kv 40 (.max2 (.c kz) (.t 39)),
 km 41 9,
 kv 42 (.min2 (.t 40) (.t 41)),
 km 6 42,
 kv 7 (.mov (.c kz))]
 .ret)))))
theorem h17 : FdOk Try.prog 17 ⟨g17, [.t 6, .t 7], 43, [], false⟩ := .of Try.func17 (by simp [Try.f17]) (by kernel_rfl)
def g18 : RC :=
 (sr [kv 4 (.mov (.c (.lit (.bool false))))]
 (.seq (sr [km 6 0,
 kv 7 (.len (.t 6)),
 km 8 1,
 kv 9 (.len (.t 8)),
 kv 10 (.bin .neq (.t 7) (.t 9))]
 (.cond (.t 10)
 (sr [kv 4 (.mov (.c (.lit (.bool false))))]
 .ret)
 .skip))
 (.seq (sr [kv 5 (.mov (.c kz))]
 (.block 0 (.loop
 (.seq (sr [km 11 5,
 km 12 0,
 kv 13 (.len (.t 12)),
 kv 14 (.bin .lss (.t 11) (.t 13))]
 (.cond (.t 14)
 .skip
 (.exit 0)))
 (.seq (.block 1 (.seq (.drw [⟨[], 0, 0, [(km 17 0, ku),
 (km 18 5, ku),
 (kv 19 (.ixa (.t 17) (.t 18) 1), ku),
 (kl 20 19, ku),
 (km 21 1, ku),
 (km 22 5, ku),
 (kv 23 (.ixa (.t 21) (.t 22) 1), ku),
 (kl 24 23, ku)],
 [],
 [kv 25 (.bin .neq (.t 20) (.t 24))], none⟩])
 (.cond (.t 25)
 (sr [kv 4 (.mov (.c (.lit (.bool false))))]
 .ret)
 .skip)))
 (.reg [km 15 5,
 kv 16 (.bin .add (.t 15) (.c (ki 1))),
 km 5 16]))))))
 (sr [kv 4 (.mov (.c (.lit (.bool true))))]
 .ret))))
theorem h18 : FdOk Try.prog 18 ⟨g18, [.t 4], 26, [], false⟩ := .of Try.func18 (by simp [Try.f18]) (by kernel_rfl)
def g19 : RC :=
 (sr [kv 4 (.mov (.c (.lit (.bool false))))]
 (.seq (sr [km 6 0,
 kv 7 (.len (.t 6)),
 km 8 1,
 kv 9 (.len (.t 8)),
 kv 10 (.bin .neq (.t 7) (.t 9))]
 (.cond (.t 10)
 (sr [kv 4 (.mov (.c (.lit (.bool false))))]
 .ret)
 .skip))
 (.seq (sr [kv 5 (.mov (.c kz))]
 (.block 0 (.loop
 (.seq (sr [km 11 5,
 km 12 0,
 kv 13 (.len (.t 12)),
 kv 14 (.bin .lss (.t 11) (.t 13))]
 (.cond (.t 14)
 .skip
 (.exit 0)))
 (.seq (.block 1 (.seq (.drw [⟨[], 0, 0, [(km 17 0, ku),
 (km 18 5, ku),
 (kv 19 (.ixa (.t 17) (.t 18) 2), ku),
 (kv 20 (.load (.t 19) (some 2)), ku),
 (km 21 1, ku),
 (km 22 5, ku),
 (kv 23 (.ixa (.t 21) (.t 22) 2), ku),
 (kv 24 (.load (.t 23) (some 2)), ku)],
 [],
 [kv 25 (.eqs [(some .i64), (some .i64)] true (.t 20) (.t 24))], none⟩])
 (.cond (.t 25)
 (sr [kv 4 (.mov (.c (.lit (.bool false))))]
 .ret)
 .skip)))
 (.reg [km 15 5,
 kv 16 (.bin .add (.t 15) (.c (ki 1))),
 km 5 16]))))))
 (sr [kv 4 (.mov (.c (.lit (.bool true))))]
 .ret))))
theorem h19 : FdOk Try.prog 19 ⟨g19, [.t 4], 26, [], false⟩ := .of Try.func19 (by simp [Try.f19]) (by kernel_rfl)
def g20 : RC :=
 (sr [kv 2 (.mov (.c (.lit (.bool false))))]
 (.seq (sr [ko 5 (.bld [kz, kz] [(0, 1, (.c (ki 1))), (1, 1, (.c (ki 12)))]),
 km 6 0,
 kv 7 (.len (.t 6)),
 kc 8 (kF 39) [(.t 5), (.t 7)],
 kv 9 (.not (.t 8))]
 (.cond (.t 9)
 (sr [kv 2 (.mov (.c (.lit (.bool false))))]
 .ret)
 .skip))
 (.seq (sr [km 10 0,
 kv 11 (.len (.t 10)),
 kv 12 (.mov (.c kz))]
 (.block 0 (.loop
 (sr [kv 13 (.bin .lss (.t 12) (.t 11))]
 (.seq (.cond (.t 13)
 .skip
 (.exit 0))
 (.seq (.block 1 (sr [kv 14 (.ixa (.t 10) (.t 12) 5),
 kv 15 (.load (.t 14) (some 5)),
 ko 4 (.new 45 [kz, kz, kz, kz, kz]),
 ks 5 4 15]
 (sr [kv 16 (.load (.t 4) (some 5)),
 ko 17 (.bld [kz, kz, kz, kz, kz] [(0, 5, (.t 16))]),
 kc 18 (kF 40) [(.t 17)],
 kv 19 (.not (.t 18))]
 (.cond (.t 19)
 (sr [kv 2 (.mov (.c (.lit (.bool false))))]
 .ret)
 .skip))))
 (.reg [kv 20 (.bin .add (.t 12) (.c (ki 1))),
 km 12 20])))))))
 (sr [kv 2 (.mov (.c (.lit (.bool true))))]
 .ret))))
theorem h20 : FdOk Try.prog 20 ⟨g20, [.t 2], 21, [], false⟩ := .of Try.func20 (by simp [Try.f20]) (by kernel_rfl)
def g21 : RC :=
 (sr [kv 2 (.mov (.c (.lit (.slice none 0 0))))]
 (.scp (sr [kv 3 (.mov (.c (.lit (.slice none 0 0))))]
 (.seq .skip
 (.seq (sr [kv 4 (.mov (.c (ki (-2000))))]
 (.block 0 (.loop
 (.seq (sr [km 8 4,
 kv 9 (.bin .leq (.t 8) (.c (ki 2000)))]
 (.cond (.t 9)
 .skip
 (.exit 0)))
 (.seq (.block 1 (.seq (sr [km 12 0,
 kv 13 (.len (.t 12)),
 kv 14 (.mov (.c kz))]
 (.block 2 (.loop
 (sr [kv 15 (.bin .lss (.t 14) (.t 13))]
 (.seq (.cond (.t 15)
 .skip
 (.exit 2))
 (.seq (.block 3 (sr [kv 16 (.ixa (.t 12) (.t 14) 5),
 kv 17 (.load (.t 16) (some 5)),
 ko 6 (.new 45 [kz, kz, kz, kz, kz]),
 ks 5 6 17]
 (sr [kv 18 (.load (.t 6) (some 5)),
 ko 19 (.bld [kz, kz, kz, kz, kz] [(0, 5, (.t 18))]),
 km 20 4,
 kc 21 (kF 41) [(.t 19), (.t 20)],
 kv 22 (.not (.t 21))]
 (.cond (.t 22)
 (.exit 1)
 .skip))))
 (.reg [kv 23 (.bin .add (.t 14) (.c (ki 1))),
 km 14 23])))))))
 (.seq (sr [km 24 3,
 kv 25 (.len (.t 24)),
 kv 26 (.bin .sub (.t 25) (.c (ki 1))),
 km 7 26]
 (sr [km 27 7,
 kv 28 (.bin .geq (.t 27) (.c kz)),
 km 29 28,
 kG 30 29 true (.mov (.t 3)),
 kG 31 29 true (.mov (.t 7)),
 kG 32 29 true (.ixa (.t 30) (.t 31) 2),
 kG 33 29 true (.off (.t 32) 1),
 kG 34 29 true (.load (.t 33) none),
 kG 35 29 true (.mov (.t 4)),
 kG 36 29 true (.bin .sub (.t 35) (.c (ki 1))),
 kG 37 29 true (.bin .eql (.t 34) (.t 36)),
 kv 38 (.pick (.t 29) (.t 37) (.c (.lit (.bool false))))]
 (.cond (.t 38)
 (sr [km 39 3,
 km 40 7,
 km 41 4,
 kv 42 (.ixa (.t 39) (.t 40) 2),
 kf 43 42 1,
 ks 1 43 41]
 (.exit 1))
 .skip)))
 (.reg [km 44 3,
 km 45 4,
 km 46 4,
 ko 47 (.bld [kz, kz] [(0, 1, (.t 45)), (1, 1, (.t 46))]),
 ko 48 (.bsl 31 1 [kz, kz] [(0, 2, (.t 47))]),
 ko 49 (.app 31 2 16 (.t 44) (.t 48)),
 km 3 49]))))
 (.reg [km 10 4,
 kv 11 (.bin .add (.t 10) (.c (ki 1))),
 km 4 11]))))))
 (sr [km 50 3,
 km 2 50]
 .ret))))))
theorem h21 : FdOk Try.prog 21 ⟨g21, [.t 2], 51, [], false⟩ := .of Try.func21 (by simp [Try.f21]) (by kernel_rfl)
def g27 : RC :=
 (sr [kv 2 (.mov (.c (.lit (.bool false))))]
 (.seq (sr [km 5 0,
 kv 6 (.len (.t 5)),
 kc 7 (kF 28) [(.t 6), (.c (ki 2)), (.c (ki 10))],
 kv 8 (.not (.t 7))]
 (.cond (.t 8)
 (sr [kv 2 (.mov (.c (.lit (.bool false))))]
 .ret)
 .skip))
 (.seq (sr [km 9 0,
 kv 10 (.len (.t 9)),
 kv 11 (.mov (.c kz))]
 (.block 0 (.loop
 (sr [kv 12 (.bin .lss (.t 11) (.t 10))]
 (.seq (.cond (.t 12)
 .skip
 (.exit 0))
 (.seq (.block 1 (sr [kv 13 (.ixa (.t 9) (.t 11) 1),
 kl 14 13,
 km 4 14]
 (sr [km 15 4,
 kc 16 (kF 28) [(.t 15), (.c (ki 10)), (.c (ki 200))],
 kv 17 (.not (.t 16))]
 (.cond (.t 17)
 (sr [kv 2 (.mov (.c (.lit (.bool false))))]
 .ret)
 .skip))))
 (.reg [kv 18 (.bin .add (.t 11) (.c (ki 1))),
 km 11 18])))))))
 (sr [kv 2 (.mov (.c (.lit (.bool true))))]
 .ret))))
theorem h27 : FdOk Try.prog 27 ⟨g27, [.t 2], 19, [], false⟩ := .of Try.func27 (by simp [Try.f27]) (by kernel_rfl)
def g28 : RC :=
 (sr [kv 6 (.mov (.c (.lit (.bool false))))]
 (sr [km 7 1,
 km 8 0,
 kv 9 (.bin .leq (.t 7) (.t 8)),
 km 10 9,
 kG 11 10 true (.mov (.t 0)),
 kG 12 10 true (.mov (.t 2)),
 kG 13 10 true (.bin .leq (.t 11) (.t 12)),
 kv 14 (.pick (.t 10) (.t 13) (.c (.lit (.bool false)))),
 km 6 14]
 .ret))
theorem h28 : FdOk Try.prog 28 ⟨g28, [.t 6], 15, [], false⟩ := .of Try.func28 (by simp [Try.f28]) (by kernel_rfl)
def g29 : RC :=
 (sr [ko 2 (.new 81 [(.lit (.slice none 0 0)), (.lit (.map none))])]
 (sr [km 6 0,
 ⟨(some 7), none, .mkm⟩,
 ko 8 (.bld [(.lit (.slice none 0 0)), (.lit (.map none))] [(0, 1, (.t 6)), (1, 1, (.t 7))]),
 ko 3 (.new 81 [(.lit (.slice none 0 0)), (.lit (.map none))]),
 ks 2 3 8]
 (.seq (sr [km 9 0,
 kv 10 (.len (.t 9)),
 kv 11 (.mov (.c kz))]
 (.block 0 (.loop
 (sr [kv 12 (.bin .lss (.t 11) (.t 10))]
 (.seq (.cond (.t 12)
 .skip
 (.exit 0))
 (.seq (.block 1 (sr [km 13 11,
 kv 14 (.ixa (.t 9) (.t 11) 1),
 kl 15 14,
 km 4 13,
 km 5 15]
 (.drw [⟨[], 1, 1, [(kf 16 3 1, ku),
 (kl 17 16, ku),
 (km 18 5, ku),
 (kf 19 3 1, ku),
 (kl 20 19, ku),
 (km 21 5, ku),
 (⟨(some 22), none, .lku (.i .i64) (.lit (.slice none 0 0)) false (.t 20) (.t 21)⟩, ku),
 (km 23 4, ku),
 (ko 24 (.bsl 3 1 [kz] [(0, 1, (.t 23))]), .cre 0),
 (ko 25 (.app 3 1 8 (.t 22) (.t 24)), .eff 0 [0])],
 [],
 [⟨none, none, .upd (.i .i64) (.t 17) (.t 18) (.t 25)⟩], none⟩])))
 (.reg [kv 26 (.bin .add (.t 11) (.c (ki 1))),
 km 11 26])))))))
 (sr [kv 27 (.load (.t 3) (some 2)),
 ks 2 2 27]
 .ret))))
theorem h29 : FdOk Try.prog 29 ⟨g29, [.c 2 (some 2)], 28, [], false⟩ := .of Try.func29 (by simp [Try.f29]) (by kernel_rfl)
def g30 : RC :=
 (sr [ko 3 (.box 81 (.t 0)),
 ko 6 (.new 55 [kz, kz, kz, kz])]
 (.seq (sr [kv 9 (.load (.t 3) (some 2)),
 km 10 1,
 km 11 2,
 kc 12 (kF 48) [(.t 9), (.c (ki 2)), (.t 10), (.t 11)],
 km 7 12]
 (sr [km 13 7,
 kv 14 (.isnil true (.t 13))]
 (.cond (.t 14)
 (.seq (.drw [⟨[], 0, 0, [(km 15 7, ku),
 (kv 16 (.ixa (.t 15) (.c kz) 1), ku),
 (kl 17 16, ku),
 (km 18 7, ku),
 (kv 19 (.ixa (.t 18) (.c (ki 1)) 1), ku),
 (kl 20 19, ku)],
 [],
 [ko 21 (.bld [kz, kz, kz, kz] [(0, 1, (.t 17)), (1, 1, (.t 20)), (2, 1, (.c (ki (-1)))), (3, 1, (.c (ki (-1))))]),
 ks 4 6 21], none⟩])
 .ret)
 .skip)))
 (.seq (sr [kv 22 (.load (.t 3) (some 2)),
 km 23 1,
 km 24 2,
 kc 25 (kF 48) [(.t 22), (.c (ki 4)), (.t 23), (.t 24)],
 km 8 25]
 (sr [km 26 8,
 kv 27 (.isnil true (.t 26))]
 (.cond (.t 27)
 (.seq (.drw [⟨[], 0, 0, [(km 28 8, ku),
 (kv 29 (.ixa (.t 28) (.c kz) 1), ku),
 (kl 30 29, ku),
 (km 31 8, ku),
 (kv 32 (.ixa (.t 31) (.c (ki 1)) 1), ku),
 (kl 33 32, ku),
 (km 34 8, ku),
 (kv 35 (.ixa (.t 34) (.c (ki 2)) 1), ku),
 (kl 36 35, ku),
 (km 37 8, ku),
 (kv 38 (.ixa (.t 37) (.c (ki 3)) 1), ku),
 (kl 39 38, ku)],
 [],
 [ko 40 (.bld [kz, kz, kz, kz] [(0, 1, (.t 30)), (1, 1, (.t 33)), (2, 1, (.t 36)), (3, 1, (.t 39))]),
 ks 4 6 40], none⟩])
 .ret)
 .skip)))
 (sr [kc 41 (kF 31) [],
 ks 4 6 41]
 .ret))))
theorem h30 : FdOk Try.prog 30 ⟨g30, [.c 6 (some 4)], 42, [], false⟩ := .of Try.func30 (by simp [Try.f30]) (by kernel_rfl)
def g31 : RC :=
 (sr [ko 0 (.new 55 [kz, kz, kz, kz])]
 (sr [ko 1 (.bld [kz, kz, kz, kz] []),
 ks 4 0 1]
 .ret))
theorem h31 : FdOk Try.prog 31 ⟨g31, [.c 0 (some 4)], 2, [], false⟩ := .of Try.func31 (by simp [Try.f31]) (by kernel_rfl)
def g32 : RC :=
 (sr [ko 3 (.box 61 (.t 0)),
 kv 6 (.mov (.c kz))]
 (.seq (sr [kv 8 (.load (.t 3) (some 3)),
 kc 9 (kF 49) [(.t 8)],
 km 7 9]
 (sr [km 10 7,
 kv 11 (.bin .neq (.t 10) (.c kz))]
 (.cond (.t 11)
 (sr [km 12 7,
 km 6 12]
 .ret)
 .skip)))
 (.seq (sr [km 13 1,
 km 14 2,
 kc 15 (kF 50) [(.t 13), (.t 14)],
 kv 16 (.not (.t 15))]
 (.cond (.t 16)
 (sr [kv 6 (.mov (.c (ki 21)))]
 .ret)
 .skip))
 (sr [kv 6 (.mov (.c kz))]
 .ret))))
theorem h32 : FdOk Try.prog 32 ⟨g32, [.t 6], 17, [], false⟩ := .of Try.func32 (by simp [Try.f32]) (by kernel_rfl)
def g33 : RC :=
 (sr [ko 2 (.box 87 (.t 0)),
 ko 3 (.box 90 (.t 1)),
 ko 4 (.new 22 [(.lit (.slice none 0 0))])]
 (.seq (sr [kv 6 (.load (.t 2) (some 3)),
 kc 7 (kF 51) [(.t 6)]]
 (.block 0 (.rng (.t 7) [8]
 (.reg [km 5 8])
 (.block 1 (.seq (.drw [⟨[], 0, 1, [(kv 9 (.load (.t 2) (some 3)), ku),
 (km 10 5, ku),
 (kc 11 (kF 52) [(.t 9), (.t 10)], .eff 0 []),
 (kv 12 (.load (.t 3) (some 2)), ku)],
 [],
 [kv 13 (.eqs [(some .i64), (some .i64)] false (.t 11) (.t 12))], none⟩])
 (.cond (.t 13)
 (sr [km 14 5,
 ks 1 4 14]
 .ret)
 .skip))))))
 (sr [⟨none, none, .o (.store 1 (.t 4) (.c (.lit (.slice none 0 0))))⟩]
 .ret)))
theorem h33 : FdOk Try.prog 33 ⟨g33, [.c 4 none], 15, [], false⟩ := .of Try.func33 (by simp [Try.f33]) (by kernel_rfl)
def g34 : RC :=
 (sr [ko 3 (.box 87 (.t 0)),
 ko 6 (.new 90 [kz, kz])]
 (sr [km 7 1,
 kf 8 3 0,
 kf 9 8 2,
 kl 10 9,
 kv 11 (.bin .mul (.t 7) (.t 10)),
 km 12 2,
 kf 13 3 0,
 kf 14 13 1,
 kl 15 14,
 kv 16 (.bin .mul (.t 12) (.t 15)),
 kc 17 (kF 53) [(.t 11), (.t 16)],
 ks 2 6 17]
 .ret))
theorem h34 : FdOk Try.prog 34 ⟨g34, [.c 6 (some 2)], 18, [], false⟩ := .of Try.func34 (by simp [Try.f34]) (by kernel_rfl)
def g35 : RC :=
 (sr [ko 3 (.box 31 (.t 0)),
 kv 6 (.mov (.c (.lit (.bool false))))]
 (sr [km 7 1,
 kf 8 3 0,
 kl 9 8,
 kv 10 (.bin .leq (.t 7) (.t 9)),
 km 11 10,
 kG 12 11 true (.off (.t 3) 0),
 kG 13 11 true (.load (.t 12) none),
 kG 14 11 true (.off (.t 3) 1),
 kG 15 11 true (.load (.t 14) none),
 kG 16 11 true (.bin .leq (.t 13) (.t 15)),
 kv 17 (.pick (.t 11) (.t 16) (.c (.lit (.bool false)))),
 km 18 17,
 kG 19 18 true (.off (.t 3) 1),
 kG 20 18 true (.load (.t 19) none),
 kG 21 18 true (.mov (.t 2)),
 kG 22 18 true (.bin .leq (.t 20) (.t 21)),
 kv 23 (.pick (.t 18) (.t 22) (.c (.lit (.bool false)))),
 km 6 23]
 .ret))
theorem h35 : FdOk Try.prog 35 ⟨g35, [.t 6], 24, [], false⟩ := .of Try.func35 (by simp [Try.f35]) (by kernel_rfl)
def g36 : RC :=
 (sr [kv 6 (.mov (.c (.lit (.bool false))))]
 (sr [km 7 1,
 km 8 0,
 kv 9 (.bin .leq (.t 7) (.t 8)),
 km 10 9,
 kG 11 10 true (.mov (.t 0)),
 kG 12 10 true (.mov (.t 2)),
 kG 13 10 true (.bin .leq (.t 11) (.t 12)),
 kv 14 (.pick (.t 10) (.t 13) (.c (.lit (.bool false)))),
 km 6 14]
 .ret))
theorem h36 : FdOk Try.prog 36 ⟨g36, [.t 6], 15, [], false⟩ := .of Try.func36 (by simp [Try.f36]) (by kernel_rfl)
def g37 : RC :=
 (sr [kv 4 (.mov (.c kz))]
 (sr [km 5 0,
 kv 6 (.neg (.t 5)),
 km 7 1,
 kc 8 (kF 38) [(.t 6), (.t 7)],
 kv 9 (.neg (.t 8)),
 km 4 9]
 .ret))
theorem h37 : FdOk Try.prog 37 ⟨g37, [.t 4], 10, [], false⟩ := .of Try.func37 (by simp [Try.f37]) (by kernel_rfl)
def g38 : RC :=
 (sr [kv 4 (.mov (.c kz))]
 (sr [km 6 0,
 km 7 1,
 kv 8 (.bin .quo (.t 6) (.t 7)),
 km 5 8]
 (.seq (sr [km 9 0,
 km 10 1,
 kv 11 (.bin .rem (.t 9) (.t 10)),
 kv 12 (.bin .lss (.t 11) (.c kz))]
 (.cond (.t 12)
 (.reg [km 13 5,
 kv 14 (.bin .sub (.t 13) (.c (ki 1))),
 km 5 14])
 .skip))
 (sr [km 15 5,
 km 4 15]
 .ret))))
theorem h38 : FdOk Try.prog 38 ⟨g38, [.t 4], 16, [], false⟩ := .of Try.func38 (by simp [Try.f38]) (by kernel_rfl)
def g39 : RC :=
 (sr [ko 2 (.box 92 (.t 0)),
 kv 4 (.mov (.c (.lit (.bool false))))]
 (sr [kf 5 2 0,
 kl 6 5,
 km 7 1,
 kv 8 (.bin .leq (.t 6) (.t 7)),
 km 9 8,
 kG 10 9 true (.mov (.t 1)),
 kG 11 9 true (.off (.t 2) 1),
 kG 12 9 true (.load (.t 11) none),
 kG 13 9 true (.bin .leq (.t 10) (.t 12)),
 kv 14 (.pick (.t 9) (.t 13) (.c (.lit (.bool false)))),
 km 4 14]
 .ret))
theorem h39 : FdOk Try.prog 39 ⟨g39, [.t 4], 15, [], false⟩ := .of Try.func39 (by simp [Try.f39]) (by kernel_rfl)
def g40 : RC :=
 (sr [ko 1 (.box 95 (.t 0)),
 kv 2 (.mov (.c (.lit (.bool false))))]
 (sr [kf 3 1 0,
 kf 4 3 0,
 kv 5 (.load (.t 4) (some 2)),
 kc 6 (kF 54) [(.t 5), (.c (ki (-1000))), (.c (ki 1000))],
 km 7 6,
 kG 8 7 true (.off (.t 1) 0),
 kG 9 7 true (.off (.t 8) 2),
 kG 10 7 true (.load (.t 9) (some 2)),
 ⟨(some 11), (some (7, true)), .o (.call (kF 54) [(.t 10), (.c kz), (.c (ki 1000))])⟩,
 kv 12 (.pick (.t 7) (.t 11) (.c (.lit (.bool false)))),
 km 13 12,
 ⟨(some 14), (some (13, true)), .o (.bld [kz, kz] [(0, 1, (.c (ki (-1)))), (1, 1, (.c (ki 1)))])⟩,
 kG 15 13 true (.off (.t 1) 0),
 kG 16 13 true (.off (.t 15) 4),
 kG 17 13 true (.load (.t 16) none),
 ⟨(some 18), (some (13, true)), .o (.call (kF 39) [(.t 14), (.t 17)])⟩,
 kv 19 (.pick (.t 13) (.t 18) (.c (.lit (.bool false)))),
 km 2 19]
 .ret))
theorem h40 : FdOk Try.prog 40 ⟨g40, [.t 2], 20, [], false⟩ := .of Try.func40 (by simp [Try.f40]) (by kernel_rfl)
def g41 : RC :=
 (sr [ko 2 (.box 95 (.t 0)),
 kv 4 (.mov (.c (.lit (.bool false))))]
 (sr [kf 7 2 0,
 kf 8 7 0,
 kf 9 8 0,
 kl 10 9,
 kf 11 2 0,
 kf 12 11 2,
 kf 13 12 0,
 kl 14 13,
 kv 15 (.bin .add (.t 10) (.t 14)),
 kf 16 2 0,
 kf 17 16 0,
 kf 18 17 1,
 kl 19 18,
 kf 20 2 0,
 kf 21 20 2,
 kf 22 21 1,
 kl 23 22,
 kv 24 (.bin .add (.t 19) (.t 23)),
 ko 25 (.bld [kz, kz] [(0, 1, (.t 15)), (1, 1, (.t 24))]),
 ko 5 (.new 92 [kz, kz]),
 ks 2 5 25]
 (sr [kf 26 2 0,
 kf 27 26 0,
 kf 28 27 0,
 kl 29 28,
 kf 30 2 0,
 kf 31 30 2,
 kf 32 31 1,
 kl 33 32,
 kv 34 (.bin .sub (.t 29) (.t 33)),
 kf 35 2 0,
 kf 36 35 0,
 kf 37 36 1,
 kl 38 37,
 kf 39 2 0,
 kf 40 39 2,
 kf 41 40 0,
 kl 42 41,
 kv 43 (.bin .sub (.t 38) (.t 42)),
 ko 44 (.bld [kz, kz] [(0, 1, (.t 34)), (1, 1, (.t 43))]),
 ko 6 (.new 92 [kz, kz]),
 ks 2 6 44]
 (sr [kf 45 2 0,
 kf 46 45 4,
 kl 47 46,
 kv 48 (.bin .geq (.t 47) (.c kz)),
 km 49 48,
 kG 50 49 true (.load (.t 5) (some 2)),
 kG 51 49 true (.mov (.t 1)),
 ⟨(some 52), (some (49, true)), .o (.call (kF 39) [(.t 50), (.t 51)])⟩,
 kv 53 (.pick (.t 49) (.t 52) (.c (.lit (.bool false)))),
 km 54 53,
 kG 55 54 false (.off (.t 2) 0),
 kG 56 54 false (.off (.t 55) 4),
 kG 57 54 false (.load (.t 56) none),
 kG 58 54 false (.bin .leq (.t 57) (.c kz)),
 kG 59 54 false (.mov (.t 58)),
 kG 60 59 true (.load (.t 6) (some 2)),
 kG 61 59 true (.mov (.t 1)),
 ⟨(some 62), (some (59, true)), .o (.call (kF 39) [(.t 60), (.t 61)])⟩,
 kG 63 54 false (.pick (.t 59) (.t 62) (.c (.lit (.bool false)))),
 kv 64 (.pick (.t 54) (.c (.lit (.bool true))) (.t 63)),
 km 4 64]
 .ret))))
theorem h41 : FdOk Try.prog 41 ⟨g41, [.t 4], 65, [], false⟩ := .of Try.func41 (by simp [Try.f41]) (by kernel_rfl)
def g44 : RC :=
 (sr [kv 6 (.mov (.c (.lit (.bool false))))]
 (sr [km 7 1,
 km 8 0,
 kv 9 (.bin .leq (.t 7) (.t 8)),
 km 10 9,
 kG 11 10 true (.mov (.t 0)),
 kG 12 10 true (.mov (.t 2)),
 kG 13 10 true (.bin .leq (.t 11) (.t 12)),
 kv 14 (.pick (.t 10) (.t 13) (.c (.lit (.bool false)))),
 km 6 14]
 .ret))
theorem h44 : FdOk Try.prog 44 ⟨g44, [.t 6], 15, [], false⟩ := .of Try.func44 (by simp [Try.f44]) (by kernel_rfl)
def g48 : RC :=
 (sr [ko 4 (.box 81 (.t 0)),
 ko 5 (.box 3 (.t 1)),
 kv 8 (.mov (.c (.lit (.slice none 0 0))))]
 (sr [ko 9 (.new 110 [(.lit .nilFunc)])]
 (sr [kv 10 (.mkfn 56 [(.t 5), (.t 4), (.t 9)]),
 ks 1 9 10]
 (sr [kl 11 9,
 km 12 3,
 km 13 2,
 ko 14 (.bld [kz, kz] [(0, 1, (.t 12)), (1, 1, (.t 13))]),
 kc 15 (.t 11) [(.c (.lit (.slice none 0 0))), (.t 14)],
 km 8 15]
 .ret))))
theorem h48 : FdOk Try.prog 48 ⟨g48, [.t 8], 16, [], false⟩ := .of Try.func48 (by simp [Try.f48]) (by kernel_rfl)
def g49 : RC :=
 (sr [ko 1 (.box 61 (.t 0)),
 kv 2 (.mov (.c kz))]
 (.seq (sr [kf 6 1 0,
 kl 7 6,
 kv 8 (.len (.t 7)),
 kc 9 (kF 44) [(.t 8), (.c (ki 2)), (.c (ki 10))],
 kv 10 (.not (.t 9)),
 km 11 10,
 kG 12 11 false (.off (.t 1) 1),
 kG 13 11 false (.load (.t 12) none),
 kG 14 11 false (.off (.t 1) 2),
 kG 15 11 false (.load (.t 14) none),
 ⟨(some 16), (some (11, false)), .o (.call (kF 50) [(.t 13), (.t 15)])⟩,
 kG 17 11 false (.not (.t 16)),
 kv 18 (.pick (.t 11) (.c (.lit (.bool true))) (.t 17))]
 (.cond (.t 18)
 (sr [kv 2 (.mov (.c (ki 20)))]
 .ret)
 .skip))
 (sr [kv 3 (.mov (.c (ki 10)))]
 (.seq (sr [kf 19 1 0,
 kl 20 19,
 kv 21 (.len (.t 20)),
 kv 22 (.mov (.c kz))]
 (.block 0 (.loop
 (sr [kv 23 (.bin .lss (.t 22) (.t 21))]
 (.seq (.cond (.t 23)
 .skip
 (.exit 0))
 (.seq (.block 1 (sr [kv 24 (.ixa (.t 20) (.t 22) 1),
 kl 25 24,
 km 5 25]
 (.seq (sr [km 26 5,
 km 27 3,
 kc 28 (kF 44) [(.t 26), (.t 27), (.c (ki 200))],
 kv 29 (.not (.t 28))]
 (.cond (.t 29)
 (sr [kv 2 (.mov (.c (ki 20)))]
 .ret)
 .skip))
 (.reg [km 30 5,
 km 3 30]))))
 (.reg [kv 31 (.bin .add (.t 22) (.c (ki 1))),
 km 22 31])))))))
 (sr [kv 2 (.mov (.c kz))]
 .ret)))))
theorem h49 : FdOk Try.prog 49 ⟨g49, [.t 2], 32, [], false⟩ := .of Try.func49 (by simp [Try.f49]) (by kernel_rfl)
def g50 : RC :=
 (sr [kv 4 (.mov (.c (.lit (.bool false))))]
 (sr [km 5 0,
 kc 6 (kF 44) [(.t 5), (.c (ki 1)), (.c (ki 1000))],
 km 7 6,
 kG 8 7 true (.mov (.t 1)),
 ⟨(some 9), (some (7, true)), .o (.call (kF 44) [(.t 8), (.c (ki 1)), (.c (ki 1000))])⟩,
 kv 10 (.pick (.t 7) (.t 9) (.c (.lit (.bool false)))),
 km 4 10]
 .ret))
theorem h50 : FdOk Try.prog 50 ⟨g50, [.t 4], 11, [], false⟩ := .of Try.func50 (by simp [Try.f50]) (by kernel_rfl)
def g51 : RC :=
 (sr [ko 1 (.box 87 (.t 0)),
 kv 2 (.mov (.c (.lit .nilFunc)))]
 (sr [kv 3 (.mkfn 58 [(.t 1)]),
 km 2 3]
 .ret))
theorem h51 : FdOk Try.prog 51 ⟨g51, [.t 2], 4, [], false⟩ := .of Try.func51 (by simp [Try.f51]) (by kernel_rfl)
def g52 : RC :=
 (sr [ko 2 (.box 87 (.t 0)),
 ko 4 (.new 90 [kz, kz])]
 (sr [ko 8 (.bld [kz, kz] [(0, 1, (.c (ki 1))), (1, 1, (.c (ki 1)))]),
 ko 5 (.new 111 [kz, kz]),
 ks 2 5 8]
 (.seq (sr [km 9 1,
 kv 10 (.len (.t 9)),
 kv 11 (.mov (.c kz))]
 (.block 0 (.loop
 (sr [kv 12 (.bin .lss (.t 11) (.t 10))]
 (.seq (.cond (.t 12)
 .skip
 (.exit 0))
 (.seq (.block 1 (sr [km 13 11,
 kv 14 (.ixa (.t 9) (.t 11) 1),
 kl 15 14,
 km 6 13,
 km 7 15]
 (.drw [⟨[], 0, 0, [(km 16 6, ku),
 (kv 17 (.bin .rem (.t 16) (.c (ki 2))), ku),
 (kv 18 (.ixarr (.t 5) (.t 17) 2 1), ku),
 (kl 19 18, ku),
 (kf 20 2 0, ku),
 (kf 21 20 0, ku),
 (kl 22 21, ku),
 (km 23 7, ku),
 (kv 24 (.ixa (.t 22) (.t 23) 1), ku),
 (kl 25 24, ku)],
 [],
 [kv 26 (.bin .mul (.t 19) (.t 25)),
 kv 27 (.ixarr (.t 5) (.t 17) 2 1),
 ks 1 27 26], none⟩])))
 (.reg [kv 28 (.bin .add (.t 11) (.c (ki 1))),
 km 11 28])))))))
 (sr [kv 29 (.ixarr (.t 5) (.c kz) 2 1),
 kl 30 29,
 kv 31 (.ixarr (.t 5) (.c (ki 1)) 2 1),
 kl 32 31,
 kc 33 (kF 53) [(.t 30), (.t 32)],
 ks 2 4 33]
 .ret))))
theorem h52 : FdOk Try.prog 52 ⟨g52, [.c 4 (some 2)], 34, [], false⟩ := .of Try.func52 (by simp [Try.f52]) (by kernel_rfl)
def g53 : RC :=
 (sr [ko 4 (.new 90 [kz, kz])]
 (sr [km 7 0,
 km 8 1,
 km 5 7,
 km 6 8]
 (.seq (.block 0 (.loop
 (.seq (sr [km 9 6,
 kv 10 (.bin .neq (.t 9) (.c kz))]
 (.cond (.t 10)
 .skip
 (.exit 0)))
 (.block 1 (.drw [⟨[], 0, 0, [(km 11 6, ku),
 (km 12 5, ku),
 (km 13 6, ku),
 (kv 14 (.bin .rem (.t 12) (.t 13)), ku),
 (km 5 11, ku)],
 [],
 [km 6 14], none⟩])))))
 (.seq (.drw [⟨[], 0, 0, [(km 15 0, ku),
 (km 16 5, ku),
 (kv 17 (.bin .quo (.t 15) (.t 16)), ku),
 (km 18 1, ku),
 (km 19 5, ku),
 (kv 20 (.bin .quo (.t 18) (.t 19)), ku)],
 [],
 [ko 21 (.bld [kz, kz] [(0, 1, (.t 17)), (1, 1, (.t 20))]),
 ks 2 4 21], none⟩])
 .ret))))
theorem h53 : FdOk Try.prog 53 ⟨g53, [.c 4 (some 2)], 22, [], false⟩ := .of Try.func53 (by simp [Try.f53]) (by kernel_rfl)
def g54 : RC :=
 (sr [ko 3 (.box 31 (.t 0)),
 kv 6 (.mov (.c (.lit (.bool false))))]
 (sr [kf 7 3 0,
 kl 8 7,
 kf 9 3 1,
 kl 10 9,
 kv 11 (.bin .leq (.t 8) (.t 10)),
 km 12 11,
 kG 13 12 true (.mov (.t 1)),
 kG 14 12 true (.mov (.t 2)),
 ⟨(some 15), (some (12, true)), .o (.bld [kz, kz] [(0, 1, (.t 13)), (1, 1, (.t 14))])⟩,
 kG 16 12 true (.mkmv 39 [(.t 15)] []),
 kG 17 12 true (.off (.t 3) 0),
 kG 18 12 true (.load (.t 17) none),
 kG 19 12 true (.off (.t 3) 1),
 kG 20 12 true (.load (.t 19) none),
 ⟨(some 21), (some (12, true)), .o (.bsl 3 2 [kz, kz] [(0, 1, (.t 18)), (1, 1, (.t 20))])⟩,
 ⟨(some 22), (some (12, true)), .o (.call (kF 60) [(.t 16), (.t 21)])⟩,
 kv 23 (.pick (.t 12) (.t 22) (.c (.lit (.bool false)))),
 km 6 23]
 .ret))
theorem h54 : FdOk Try.prog 54 ⟨g54, [.t 6], 24, [], false⟩ := .of Try.func54 (by simp [Try.f54]) (by kernel_rfl)
def g56 : RC :=
 (sr [ko 6 (.box 111 (.t 1)),
 kv 7 (.mov (.c (.lit (.slice none 0 0))))]
 (.scp (.seq (sr [km 14 0,
 kv 15 (.len (.t 14)),
 kl 16 2,
 kv 17 (.bin .sub (.t 16) (.c (ki 1))),
 kv 18 (.bin .eql (.t 15) (.t 17))]
 (.cond (.t 18)
 (sr [kv 19 (.load (.t 3) (some 2)),
 km 20 0,
 kv 21 (.load (.t 6) (some 2)),
 kc 22 (kF 57) [(.t 19), (.t 20), (.t 21)],
 km 7 22]
 .ret)
 .skip))
 (.seq .skip
 (.seq (sr [kf 23 3 0,
 kl 24 23,
 kv 25 (.len (.t 24)),
 kv 26 (.mov (.c kz))]
 (.block 0 (.loop
 (sr [kv 27 (.bin .lss (.t 26) (.t 25))]
 (.seq (.cond (.t 27)
 .skip
 (.exit 0))
 (.seq (.block 1 (sr [km 28 26,
 kv 29 (.ixa (.t 24) (.t 26) 1),
 kl 30 29,
 km 8 28,
 km 9 30]
 (.seq (sr [km 31 0,
 kv 32 (.len (.t 31)),
 kv 33 (.mov (.c kz))]
 (.block 2 (.loop
 (sr [kv 34 (.bin .lss (.t 33) (.t 32))]
 (.seq (.cond (.t 34)
 .skip
 (.exit 2))
 (.seq (.block 3 (sr [kv 35 (.ixa (.t 31) (.t 33) 1),
 kl 36 35,
 km 11 36]
 (sr [km 37 11,
 km 38 8,
 kv 39 (.bin .eql (.t 37) (.t 38))]
 (.cond (.t 39)
 (.exit 1)
 .skip))))
 (.reg [kv 40 (.bin .add (.t 33) (.c (ki 1))),
 km 33 40])))))))
 (sr [kv 41 (.load (.t 6) (some 2)),
 ko 12 (.new 111 [kz, kz]),
 ks 2 12 41]
 (sr [km 42 0,
 kv 43 (.len (.t 42)),
 kv 44 (.bin .rem (.t 43) (.c (ki 2))),
 kv 45 (.ixarr (.t 12) (.t 44) 2 1),
 kl 46 45,
 km 47 9,
 kv 48 (.bin .mul (.t 46) (.t 47)),
 kv 49 (.ixarr (.t 12) (.t 44) 2 1),
 ks 1 49 48]
 (.seq (.drw [⟨[4, 0, 8, 12], 1, 1, [(kl 50 4, ku),
 (km 51 0, ku),
 (km 52 0, ku),
 (kv 53 (.len (.t 52)), ku),
 (km 54 0, ku),
 (kv 55 (.len (.t 54)), ku),
 (ko 56 (.slc (.t 51) none (some (.t 53)) (some (.t 55)) 1), ku),
 (km 57 8, ku),
 (ko 58 (.bsl 3 1 [kz] [(0, 1, (.t 57))]), .cre 0),
 (ko 59 (.app 3 1 8 (.t 56) (.t 58)), .eff 0 [0]),
 (kv 60 (.load (.t 12) (some 2)), ku)],
 [],
 [kc 61 (.t 50) [(.t 59), (.t 60)],
 km 13 61], none⟩])
 (sr [km 62 13,
 kv 63 (.isnil true (.t 62))]
 (.cond (.t 63)
 (sr [km 64 13,
 km 7 64]
 .ret)
 .skip))))))))
 (.reg [kv 65 (.bin .add (.t 26) (.c (ki 1))),
 km 26 65])))))))
 (sr [kv 7 (.mov (.c (.lit (.slice none 0 0))))]
 .ret))))))
theorem h56 : FdOk Try.prog 56 ⟨g56, [.t 7], 66, [], false⟩ := .of Try.func56 (by simp [Try.f56]) (by kernel_rfl)
def g57 : RC :=
 (sr [ko 3 (.box 81 (.t 0)),
 ko 5 (.box 111 (.t 2)),
 kv 6 (.mov (.c (.lit (.slice none 0 0))))]
 (.seq (sr [kv 9 (.ixarr (.t 5) (.c kz) 2 1),
 kl 10 9,
 kv 11 (.ixarr (.t 5) (.c (ki 1)) 2 1),
 kl 12 11,
 kv 13 (.bin .rem (.t 10) (.t 12)),
 kv 14 (.bin .neq (.t 13) (.c kz))]
 (.cond (.t 14)
 (sr [kv 6 (.mov (.c (.lit (.slice none 0 0))))]
 .ret)
 .skip))
 (.seq (.seq (.drw [⟨[], 0, 0, [(kf 15 3 1, ku),
 (kl 16 15, ku),
 (kv 17 (.ixarr (.t 5) (.c kz) 2 1), ku),
 (kl 18 17, ku),
 (kv 19 (.ixarr (.t 5) (.c (ki 1)) 2 1), ku),
 (kl 20 19, ku),
 (kv 21 (.bin .quo (.t 18) (.t 20)), ku),
 (⟨(some 22), none, .lku (.i .i64) (.lit (.slice none 0 0)) false (.t 16) (.t 21)⟩, ku),
 (kv 23 (.len (.t 22)), ku),
 (kv 24 (.mov (.c kz)), ku)],
 [],
 [], none⟩])
 (.block 0 (.loop
 (sr [kv 25 (.bin .lss (.t 24) (.t 23))]
 (.seq (.cond (.t 25)
 .skip
 (.exit 0))
 (.seq (.block 1 (sr [kv 26 (.ixa (.t 22) (.t 24) 1),
 kl 27 26,
 km 8 27]
 (sr [km 28 1,
 km 29 8,
 kc 30 (kF 61) [(.t 28), (.t 29)],
 kv 31 (.not (.t 30))]
 (.cond (.t 31)
 (sr [km 32 1,
 km 33 1,
 kv 34 (.len (.t 33)),
 km 35 1,
 kv 36 (.len (.t 35)),
 ko 37 (.slc (.t 32) none (some (.t 34)) (some (.t 36)) 1),
 km 38 8,
 ko 39 (.bsl 3 1 [kz] [(0, 1, (.t 38))]),
 ko 40 (.app 3 1 8 (.t 37) (.t 39)),
 km 6 40]
 .ret)
 .skip))))
 (.reg [kv 41 (.bin .add (.t 24) (.c (ki 1))),
 km 24 41])))))))
 (sr [kv 6 (.mov (.c (.lit (.slice none 0 0))))]
 .ret))))
theorem h57 : FdOk Try.prog 57 ⟨g57, [.t 6], 42, [], false⟩ := .of Try.func57 (by simp [Try.f57]) (by kernel_rfl)
def g58 : RC :=
 (sr [ko 5 (.bld [kz, kz] [(0, 1, (.c (ki 2))), (1, 1, (.c (ki 4)))]),
 kv 6 (.mov (.c kz))]
 (.block 0 (.loop
 (sr [kv 7 (.bin .lss (.t 6) (.c (ki 2)))]
 (.seq (.cond (.t 7)
 .skip
 (.exit 0))
 (.seq (.block 1 (sr [kv 8 (.ixv (.t 5) (.t 6) 2 1 none),
 km 4 8]
 (sr [kv 9 (.load (.t 1) (some 3)),
 km 10 4,
 km 11 0,
 kc 12 (kF 59) [(.t 9), (.c (.lit (.slice none 0 0))), (.t 10), (.t 11)],
 kv 13 (.not (.t 12))]
 (.cond (.t 13)
 .ret
 .skip))))
 (.reg [kv 14 (.bin .add (.t 6) (.c (ki 1))),
 km 6 14])))))))
theorem h58 : FdOk Try.prog 58 ⟨g58, [], 15, [], false⟩ := .of Try.func58 (by simp [Try.f58]) (by kernel_rfl)
def g59 : RC :=
 (sr [ko 4 (.box 87 (.t 0)),
 kv 8 (.mov (.c (.lit (.bool false))))]
 (.seq (sr [km 10 1,
 kv 11 (.len (.t 10)),
 km 12 2,
 kv 13 (.bin .eql (.t 11) (.t 12))]
 (.cond (.t 13)
 (sr [km 14 3,
 km 15 1,
 km 16 2,
 km 17 2,
 ko 18 (.slc (.t 15) none (some (.t 16)) (some (.t 17)) 1),
 kc 19 (.t 14) [(.t 18)],
 km 8 19]
 .ret)
 .skip))
 (.seq (sr [kf 20 4 0,
 kf 21 20 0,
 kl 22 21,
 kv 23 (.len (.t 22)),
 kv 24 (.mov (.c kz))]
 (.block 0 (.loop
 (sr [kv 25 (.bin .lss (.t 24) (.t 23))]
 (.seq (.cond (.t 25)
 .skip
 (.exit 0))
 (.seq (.block 1 (sr [km 26 24,
 km 9 26]
 (.seq (sr [km 27 1,
 km 28 9,
 kc 29 (kF 61) [(.t 27), (.t 28)]]
 (.cond (.t 29)
 (.exit 1)
 .skip))
 (.seq (.drw [⟨[4, 1, 9, 2, 3], 1, 1, [(kv 30 (.load (.t 4) (some 3)), ku),
 (km 31 1, ku),
 (km 32 1, ku),
 (kv 33 (.len (.t 32)), ku),
 (km 34 1, ku),
 (kv 35 (.len (.t 34)), ku),
 (ko 36 (.slc (.t 31) none (some (.t 33)) (some (.t 35)) 1), ku),
 (km 37 9, ku),
 (ko 38 (.bsl 3 1 [kz] [(0, 1, (.t 37))]), .cre 0),
 (ko 39 (.app 3 1 8 (.t 36) (.t 38)), .eff 0 [0]),
 (km 40 2, ku),
 (km 41 3, ku)],
 [],
 [kc 42 (kF 59) [(.t 30), (.t 39), (.t 40), (.t 41)],
 kv 43 (.not (.t 42))], none⟩])
 (.cond (.t 43)
 (sr [kv 8 (.mov (.c (.lit (.bool false))))]
 .ret)
 .skip)))))
 (.reg [kv 44 (.bin .add (.t 24) (.c (ki 1))),
 km 24 44])))))))
 (sr [kv 8 (.mov (.c (.lit (.bool true))))]
 .ret))))
theorem h59 : FdOk Try.prog 59 ⟨g59, [.t 8], 45, [], false⟩ := .of Try.func59 (by simp [Try.f59]) (by kernel_rfl)
def g60 : RC :=
 (sr [kv 4 (.mov (.c (.lit (.bool false))))]
 (.seq (sr [km 7 1,
 kv 8 (.len (.t 7)),
 kv 9 (.mov (.c kz))]
 (.block 0 (.loop
 (sr [kv 10 (.bin .lss (.t 9) (.t 8))]
 (.seq (.cond (.t 10)
 .skip
 (.exit 0))
 (.seq (.block 1 (sr [kv 11 (.ixa (.t 7) (.t 9) 1),
 kl 12 11,
 km 6 12]
 (sr [km 13 0,
 km 14 6,
 kc 15 (.t 13) [(.t 14)],
 kv 16 (.not (.t 15))]
 (.cond (.t 16)
 (sr [kv 4 (.mov (.c (.lit (.bool false))))]
 .ret)
 .skip))))
 (.reg [kv 17 (.bin .add (.t 9) (.c (ki 1))),
 km 9 17])))))))
 (sr [kv 4 (.mov (.c (.lit (.bool true))))]
 .ret)))
theorem h60 : FdOk Try.prog 60 ⟨g60, [.t 4], 18, [], false⟩ := .of Try.func60 (by simp [Try.f60]) (by kernel_rfl)
def g61 : RC :=
 (sr [kv 4 (.mov (.c (.lit (.bool false))))]
 (sr [km 5 0,
 km 6 1,
 kc 7 (kF 62) [(.t 5), (.t 6)],
 kv 8 (.bin .geq (.t 7) (.c kz)),
 km 4 8]
 .ret))
theorem h61 : FdOk Try.prog 61 ⟨g61, [.t 4], 9, [], false⟩ := .of Try.func61 (by simp [Try.f61]) (by kernel_rfl)
def g62 : RC :=
 (sr [kv 4 (.mov (.c kz))]
 (.seq (sr [km 6 0,
 kv 7 (.len (.t 6)),
 kv 8 (.mov (.c kz))]
 (.block 0 (.loop
 (sr [kv 9 (.bin .lss (.t 8) (.t 7))]
 (.seq (.cond (.t 9)
 .skip
 (.exit 0))
 (.seq (.block 1 (sr [km 10 8,
 km 5 10]
 (sr [km 11 1,
 km 12 0,
 km 13 5,
 kv 14 (.ixa (.t 12) (.t 13) 1),
 kl 15 14,
 kv 16 (.bin .eql (.t 11) (.t 15))]
 (.cond (.t 16)
 (sr [km 17 5,
 km 4 17]
 .ret)
 .skip))))
 (.reg [kv 18 (.bin .add (.t 8) (.c (ki 1))),
 km 8 18])))))))
 (sr [kv 4 (.mov (.c (ki (-1))))]
 .ret)))
theorem h62 : FdOk Try.prog 62 ⟨g62, [.t 4], 19, [], false⟩ := .of Try.func62 (by simp [Try.f62]) (by kernel_rfl)
end Go.Proofs.Ytplldhepmmjmmaa
