/- SextantEnds: each end of what Read returns is so in a truth, for all arguments, given works(). -/
import Derived.Test.YtjagiieconpgbaaVgED
namespace Go.Proofs.Ytjagiieconpgbaa
open Go Go.Vg
set_option linter.unusedSimpArgs false
set_option linter.unusedVariables false
set_option maxRecDepth 10000
/- 39: octant/octantlaw05.ends -/
def s39 : SC :=
  (.seq (.reg [⟨(some 4), none, .v (.mov (.c (.lit (.slice none 0 0))))⟩])
  (.seq (.reg [⟨(some 5), none, .v (.mov (.c (.lit (.slice none 0 0))))⟩])
  (.seq (.seq (.reg [⟨(some 6), none, .v (.mov (.c (.int .i64 (0))))⟩])
  (.block 0 (.loop
    (.seq (.seq (.reg [⟨(some 7), none, .v (.mov (.t 6))⟩,
      ⟨(some 8), none, .v (.mov (.t 0))⟩,
      ⟨(some 9), none, .v (.len (.t 8))⟩,
      ⟨(some 10), none, .v (.bin .lss (.t 7) (.t 9))⟩])
    (.cond (.t 10)
      .skip
      (.exit 0)))
    (.seq (.block 1 (.seq (.reg [⟨(some 13), none, .v (.mov (.t 1))⟩])
    (.cond (.t 13)
      (.drw [(0, ⟨(some 14), none, .v (.mov (.t 5))⟩, false),
        (1, ⟨(some 15), none, .v (.mov (.t 0))⟩, false),
        (2, ⟨(some 16), none, .v (.mov (.t 6))⟩, false),
        (3, ⟨(some 17), none, .v (.ixa (.t 15) (.t 16) 2)⟩, false),
        (4, ⟨(some 18), none, .v (.off (.t 17) 1)⟩, false),
        (5, ⟨(some 19), none, .v (.load (.t 18) none)⟩, false),
        (6, ⟨(some 20), none, .v (.mov (.t 0))⟩, false),
        (7, ⟨(some 21), none, .v (.mov (.t 6))⟩, false),
        (8, ⟨(some 22), none, .v (.ixa (.t 20) (.t 21) 2)⟩, false),
        (9, ⟨(some 23), none, .v (.off (.t 22) 1)⟩, false),
        (10, ⟨(some 24), none, .v (.load (.t 23) none)⟩, false),
        (11, ⟨(some 25), none, .call (.c (.fn 40 [])) [(.t 19), (.t 24)]⟩, false)]
        (some ⟨(some 26), none, .bsl 24 1 [(.int .i64 (0)), (.int .i64 (0))] [(0, 2, (.t 25))]⟩)
        [⟨(some 27), none, .app 24 2 16 (.t 14) (.t 26)⟩,
        ⟨(some 5), none, .v (.mov (.t 27))⟩])
      (.drw [(0, ⟨(some 28), none, .v (.mov (.t 5))⟩, false),
        (1, ⟨(some 29), none, .v (.mov (.t 0))⟩, false),
        (2, ⟨(some 30), none, .v (.mov (.t 6))⟩, false),
        (3, ⟨(some 31), none, .v (.ixa (.t 29) (.t 30) 2)⟩, false),
        (4, ⟨(some 32), none, .v (.off (.t 31) 0)⟩, false),
        (5, ⟨(some 33), none, .v (.load (.t 32) none)⟩, false),
        (6, ⟨(some 34), none, .v (.mov (.t 0))⟩, false),
        (7, ⟨(some 35), none, .v (.mov (.t 6))⟩, false),
        (8, ⟨(some 36), none, .v (.ixa (.t 34) (.t 35) 2)⟩, false),
        (9, ⟨(some 37), none, .v (.off (.t 36) 0)⟩, false),
        (10, ⟨(some 38), none, .v (.load (.t 37) none)⟩, false),
        (11, ⟨(some 39), none, .call (.c (.fn 40 [])) [(.t 33), (.t 38)]⟩, false)]
        (some ⟨(some 40), none, .bsl 24 1 [(.int .i64 (0)), (.int .i64 (0))] [(0, 2, (.t 39))]⟩)
        [⟨(some 41), none, .app 24 2 16 (.t 28) (.t 40)⟩,
        ⟨(some 5), none, .v (.mov (.t 41))⟩]))))
    (.reg [⟨(some 11), none, .v (.mov (.t 6))⟩,
      ⟨(some 12), none, .v (.bin .add (.t 11) (.c (.int .i64 (1))))⟩,
      ⟨(some 6), none, .v (.mov (.t 12))⟩]))))))
  (.seq (.reg [⟨(some 42), none, .v (.mov (.t 5))⟩,
    ⟨(some 4), none, .v (.mov (.t 42))⟩])
  .ret))))
def r39 : List RV := [.t 4]
def n39 : Nat := 43
theorem k39 : (Try.f39.body.bind (cC Try.prog), cR Try.prog Try.f39.results.toList, Try.f39.ntmps) = (some s39, some r39, 43) := by kernel_rfl
theorem q39 : Known Try.prog 39 := ⟨_, Try.func39, by decide, by simp [Try.f39]⟩


def tn (o : Opr) (a : DT) : DT := .op o a .stop
def o8_0 : Opr := ⟨(some 45), none, .v (.load (.t 2) (some 6))⟩
def o8_1 : Opr := ⟨(some 46), none, .v (.load (.t 2) (some 6))⟩
def o8_2 : Opr := ⟨(some 7), none, .new 26 [(.int .i64 (0)), (.lit (.slice none 0 0)), (.int .i64 (0)), (.int .i64 (0)), (.int .i64 (0)), (.lit (.slice none 0 0))]⟩
def o8_3 : Opr := ⟨(some 8), none, .new 26 [(.int .i64 (0)), (.lit (.slice none 0 0)), (.int .i64 (0)), (.int .i64 (0)), (.int .i64 (0)), (.lit (.slice none 0 0))]⟩
def o8_4 : Opr := ⟨none, none, .store 6 (.t 7) (.t 45)⟩
def o8_5 : Opr := ⟨none, none, .store 6 (.t 8) (.t 46)⟩
def o8_6 : Opr := ⟨(some 49), none, .call (.c (.fn 39 [])) [(.t 48), (.c (.lit (.bool false)))]⟩
def o8_7 : Opr := ⟨(some 59), none, .v (.off (.t 7) 1)⟩
def o8_8 : Opr := ⟨(some 51), none, .v (.load (.t 50) none)⟩
def o8_9 : Opr := ⟨(some 52), none, .call (.c (.fn 39 [])) [(.t 51), (.c (.lit (.bool false)))]⟩
def o8_10 : Opr := ⟨(some 54), none, .v (.load (.t 53) (some 2))⟩
def o8_11 : Opr := ⟨(some 55), none, .bsl 24 1 [(.int .i64 (0)), (.int .i64 (0))] [(0, 2, (.t 54))]⟩
def o8_12 : Opr := ⟨(some 56), none, .call (.c (.fn 39 [])) [(.t 55), (.c (.lit (.bool false)))]⟩
def o8_13 : Opr := ⟨(some 57), none, .v (.ixa (.t 56) (.c (.int .i64 (0))) 2)⟩
def o8_14 : Opr := ⟨(some 58), none, .v (.load (.t 57) (some 2))⟩
def o8_15 : Opr := ⟨none, none, .store 1 (.t 59) (.t 49)⟩
def o8_16 : Opr := ⟨(some 60), none, .v (.off (.t 7) 5)⟩
def o8_17 : Opr := ⟨none, none, .store 1 (.t 60) (.t 52)⟩
def o8_18 : Opr := ⟨(some 61), none, .v (.off (.t 7) 2)⟩
def o8_19 : Opr := ⟨none, none, .store 2 (.t 61) (.t 58)⟩
def o8_20 : Opr := ⟨(some 64), none, .call (.c (.fn 39 [])) [(.t 63), (.c (.lit (.bool true)))]⟩
def o8_21 : Opr := ⟨(some 74), none, .v (.off (.t 8) 1)⟩
def o8_22 : Opr := ⟨(some 66), none, .v (.load (.t 65) none)⟩
def o8_23 : Opr := ⟨(some 67), none, .call (.c (.fn 39 [])) [(.t 66), (.c (.lit (.bool true)))]⟩
def o8_24 : Opr := ⟨(some 69), none, .v (.load (.t 68) (some 2))⟩
def o8_25 : Opr := ⟨(some 70), none, .bsl 24 1 [(.int .i64 (0)), (.int .i64 (0))] [(0, 2, (.t 69))]⟩
def o8_26 : Opr := ⟨(some 71), none, .call (.c (.fn 39 [])) [(.t 70), (.c (.lit (.bool true)))]⟩
def o8_27 : Opr := ⟨(some 72), none, .v (.ixa (.t 71) (.c (.int .i64 (0))) 2)⟩
def o8_28 : Opr := ⟨(some 73), none, .v (.load (.t 72) (some 2))⟩
def o8_29 : Opr := ⟨none, none, .store 1 (.t 74) (.t 64)⟩
def o8_30 : Opr := ⟨(some 75), none, .v (.off (.t 8) 5)⟩
def o8_31 : Opr := ⟨none, none, .store 1 (.t 75) (.t 67)⟩
def o8_32 : Opr := ⟨(some 76), none, .v (.off (.t 8) 2)⟩
def o8_33 : Opr := ⟨none, none, .store 2 (.t 76) (.t 73)⟩
/- 8: octant/octantlaw05.SextantEnds -/
def s8 : SC :=
  (.seq (.reg [⟨(some 2), none, .box 26 (.t 0)⟩,
    ⟨(some 3), none, .box 28 (.t 1)⟩,
    ⟨(some 4), none, .v (.mov (.c (.lit (.bool false))))⟩])
  (.seq (.reg [⟨(some 10), none, .v (.load (.t 2) (some 6))⟩,
    ⟨(some 11), none, .v (.load (.t 3) (some 2))⟩,
    ⟨(some 12), none, .call (.c (.fn 15 [])) [(.t 10), (.t 11)]⟩,
    ⟨(some 9), none, .v (.mov (.t 12))⟩,
    ⟨(some 13), none, .v (.ext (.t 9) 0)⟩,
    ⟨(some 14), none, .v (.ext (.t 9) 1)⟩,
    ⟨(some 5), none, .new 24 [(.int .i64 (0)), (.int .i64 (0))]⟩,
    ⟨none, none, .store 2 (.t 5) (.t 13)⟩,
    ⟨(some 6), none, .v (.mov (.t 14))⟩])
  (.seq (.seq (.reg [⟨(some 15), none, .v (.mov (.t 6))⟩,
    ⟨(some 16), none, .v (.bin .neq (.t 15) (.c (.int .i64 (0))))⟩,
    ⟨(some 17), none, .v (.mov (.t 16))⟩,
    ⟨(some 18), (some (17, false)), .v (.load (.t 2) (some 6))⟩,
    ⟨(some 19), (some (17, false)), .call (.c (.fn 32 [])) [(.t 18)]⟩,
    ⟨(some 20), (some (17, false)), .v (.not (.t 19))⟩,
    ⟨(some 21), none, .v (.pick (.t 17) (.c (.lit (.bool true))) (.t 20))⟩,
    ⟨(some 22), none, .v (.mov (.t 21))⟩,
    ⟨(some 23), (some (22, false)), .v (.off (.t 3) 0)⟩,
    ⟨(some 24), (some (22, false)), .v (.load (.t 23) none)⟩,
    ⟨(some 25), (some (22, false)), .v (.off (.t 2) 0)⟩,
    ⟨(some 26), (some (22, false)), .v (.load (.t 25) none)⟩,
    ⟨(some 27), (some (22, false)), .v (.off (.t 2) 1)⟩,
    ⟨(some 28), (some (22, false)), .v (.load (.t 27) none)⟩,
    ⟨(some 29), (some (22, false)), .v (.len (.t 28))⟩,
    ⟨(some 30), (some (22, false)), .v (.bin .sub (.t 29) (.c (.int .i64 (1))))⟩,
    ⟨(some 31), (some (22, false)), .v (.bin .mul (.t 26) (.t 30))⟩,
    ⟨(some 32), (some (22, false)), .call (.c (.fn 33 [])) [(.t 24), (.c (.int .i64 (0))), (.t 31)]⟩,
    ⟨(some 33), (some (22, false)), .v (.not (.t 32))⟩,
    ⟨(some 34), none, .v (.pick (.t 22) (.c (.lit (.bool true))) (.t 33))⟩])
  (.cond (.t 34)
    (.seq (.reg [⟨(some 35), none, .v (.mov (.t 6))⟩,
      ⟨(some 36), none, .v (.bin .neq (.t 35) (.c (.int .i64 (0))))⟩,
      ⟨(some 37), none, .v (.mov (.t 36))⟩,
      ⟨(some 38), (some (37, true)), .v (.load (.t 5) (some 2))⟩,
      ⟨(some 39), (some (37, true)), .bld [(.int .i64 (0)), (.int .i64 (0))] []⟩,
      ⟨(some 40), (some (37, true)), .v (.eqs [(some .i64), (some .i64)] false (.t 38) (.t 39))⟩,
      ⟨(some 41), none, .v (.pick (.t 37) (.t 40) (.c (.lit (.bool false))))⟩,
      ⟨(some 42), none, .v (.mov (.t 41))⟩,
      ⟨(some 43), (some (42, true)), .call (.c (.fn 21 [])) []⟩,
      ⟨(some 44), none, .v (.pick (.t 42) (.t 43) (.c (.lit (.bool false))))⟩,
      ⟨(some 4), none, .v (.mov (.t 44))⟩])
    .ret)
    .skip))
  (.seq (.tre (.op o8_0 (.op o8_1 (.op o8_2 (tn o8_3 (tn o8_4 (tn o8_5 .leaf))) (tn o8_3 (tn o8_2 (tn o8_4 (tn o8_5 .leaf))))) (.op o8_2 (.op o8_1 (tn o8_3 (tn
  o8_4 (tn o8_5 .leaf))) (tn o8_3 (.op o8_1 (tn o8_4 (tn o8_5 .leaf)) (tn o8_4 (tn o8_1 (tn o8_5 .leaf)))))) (tn o8_3 (.op o8_1 (tn o8_2 (tn o8_4 (tn o8_5
  .leaf))) (tn o8_2 (.op o8_1 (tn o8_4 (tn o8_5 .leaf)) (tn o8_4 (tn o8_1 (tn o8_5 .leaf))))))))) (.op o8_1 (.op o8_0 (.op o8_2 (tn o8_3 (tn o8_4 (tn o8_5
  .leaf))) (tn o8_3 (tn o8_2 (tn o8_4 (tn o8_5 .leaf))))) (.op o8_2 (.op o8_0 (tn o8_3 (tn o8_4 (tn o8_5 .leaf))) (tn o8_3 (tn o8_0 (tn o8_4 (tn o8_5 .leaf)))))
  (tn o8_3 (.op o8_0 (tn o8_2 (tn o8_4 (tn o8_5 .leaf))) (tn o8_2 (tn o8_0 (tn o8_4 (tn o8_5 .leaf)))))))) (.op o8_2 (.op o8_0 (.op o8_1 (tn o8_3 (tn o8_4
  (tn o8_5 .leaf))) (tn o8_3 (.op o8_1 (tn o8_4 (tn o8_5 .leaf)) (tn o8_4 (tn o8_1 (tn o8_5 .leaf)))))) (.op o8_1 (.op o8_0 (tn o8_3 (tn o8_4 (tn o8_5 .leaf)))
  (tn o8_3 (tn o8_0 (tn o8_4 (tn o8_5 .leaf))))) (tn o8_3 (.op o8_0 (.op o8_1 (tn o8_4 (tn o8_5 .leaf)) (tn o8_4 (tn o8_1 (tn o8_5 .leaf)))) (tn o8_1 (tn
  o8_0 (tn o8_4 (tn o8_5 .leaf)))))))) (tn o8_3 (.op o8_0 (.op o8_1 (tn o8_2 (tn o8_4 (tn o8_5 .leaf))) (tn o8_2 (.op o8_1 (tn o8_4 (tn o8_5 .leaf)) (tn
  o8_4 (tn o8_1 (tn o8_5 .leaf)))))) (.op o8_1 (.op o8_0 (tn o8_2 (tn o8_4 (tn o8_5 .leaf))) (tn o8_2 (tn o8_0 (tn o8_4 (tn o8_5 .leaf))))) (tn o8_2 (.op
  o8_0 (.op o8_1 (tn o8_4 (tn o8_5 .leaf)) (tn o8_4 (tn o8_1 (tn o8_5 .leaf)))) (tn o8_1 (tn o8_0 (tn o8_4 (tn o8_5 .leaf)))))))))))))
  (.seq (.tre (tn ⟨(some 47), none, .v (.off (.t 2) 1)⟩ (tn ⟨(some 48), none, .v (.load (.t 47) none)⟩ (tn ⟨(some 50), none, .v (.off (.t 2) 5)⟩ (tn ⟨(some 53),
  none, .v (.off (.t 2) 2)⟩ (.op o8_6 (tn o8_7 (.op o8_8 (.op o8_9 (tn o8_10 (tn o8_11 (tn o8_12 (.op o8_13 (.op o8_14 (tn o8_15 (tn o8_16 (tn o8_17 (tn
  o8_18 (tn o8_19 .leaf))))) (tn o8_15 (tn o8_16 (.op o8_14 (tn o8_17 (tn o8_18 (tn o8_19 .leaf))) (tn o8_17 (tn o8_14 (tn o8_18 (tn o8_19 .leaf))))))))
  (tn o8_15 (tn o8_16 (.op o8_13 (.op o8_14 (tn o8_17 (tn o8_18 (tn o8_19 .leaf))) (tn o8_17 (tn o8_14 (tn o8_18 (tn o8_19 .leaf))))) (tn o8_17 (tn o8_13
  (tn o8_14 (tn o8_18 (tn o8_19 .leaf)))))))))))) (tn o8_10 (.op o8_9 (tn o8_11 (tn o8_12 (.op o8_13 (.op o8_14 (tn o8_15 (tn o8_16 (tn o8_17 (tn o8_18 (tn
  o8_19 .leaf))))) (tn o8_15 (tn o8_16 (.op o8_14 (tn o8_17 (tn o8_18 (tn o8_19 .leaf))) (tn o8_17 (tn o8_14 (tn o8_18 (tn o8_19 .leaf)))))))) (tn o8_15
  (tn o8_16 (.op o8_13 (.op o8_14 (tn o8_17 (tn o8_18 (tn o8_19 .leaf))) (tn o8_17 (tn o8_14 (tn o8_18 (tn o8_19 .leaf))))) (tn o8_17 (tn o8_13 (tn o8_14
  (tn o8_18 (tn o8_19 .leaf))))))))))) (tn o8_11 (tn o8_9 (tn o8_12 (.op o8_13 (.op o8_14 (tn o8_15 (tn o8_16 (tn o8_17 (tn o8_18 (tn o8_19 .leaf))))) (tn
  o8_15 (tn o8_16 (.op o8_14 (tn o8_17 (tn o8_18 (tn o8_19 .leaf))) (tn o8_17 (tn o8_14 (tn o8_18 (tn o8_19 .leaf)))))))) (tn o8_15 (tn o8_16 (.op o8_13
  (.op o8_14 (tn o8_17 (tn o8_18 (tn o8_19 .leaf))) (tn o8_17 (tn o8_14 (tn o8_18 (tn o8_19 .leaf))))) (tn o8_17 (tn o8_13 (tn o8_14 (tn o8_18 (tn o8_19
  .leaf))))))))))))))) (tn o8_10 (.op o8_8 (.op o8_9 (tn o8_11 (tn o8_12 (.op o8_13 (.op o8_14 (tn o8_15 (tn o8_16 (tn o8_17 (tn o8_18 (tn o8_19 .leaf)))))
  (tn o8_15 (tn o8_16 (.op o8_14 (tn o8_17 (tn o8_18 (tn o8_19 .leaf))) (tn o8_17 (tn o8_14 (tn o8_18 (tn o8_19 .leaf)))))))) (tn o8_15 (tn o8_16 (.op o8_13
  (.op o8_14 (tn o8_17 (tn o8_18 (tn o8_19 .leaf))) (tn o8_17 (tn o8_14 (tn o8_18 (tn o8_19 .leaf))))) (tn o8_17 (tn o8_13 (tn o8_14 (tn o8_18 (tn o8_19
  .leaf))))))))))) (tn o8_11 (tn o8_9 (tn o8_12 (.op o8_13 (.op o8_14 (tn o8_15 (tn o8_16 (tn o8_17 (tn o8_18 (tn o8_19 .leaf))))) (tn o8_15 (tn o8_16 (.op
  o8_14 (tn o8_17 (tn o8_18 (tn o8_19 .leaf))) (tn o8_17 (tn o8_14 (tn o8_18 (tn o8_19 .leaf)))))))) (tn o8_15 (tn o8_16 (.op o8_13 (.op o8_14 (tn o8_17
  (tn o8_18 (tn o8_19 .leaf))) (tn o8_17 (tn o8_14 (tn o8_18 (tn o8_19 .leaf))))) (tn o8_17 (tn o8_13 (tn o8_14 (tn o8_18 (tn o8_19 .leaf))))))))))))) (tn
  o8_11 (tn o8_8 (tn o8_9 (tn o8_12 (.op o8_13 (.op o8_14 (tn o8_15 (tn o8_16 (tn o8_17 (tn o8_18 (tn o8_19 .leaf))))) (tn o8_15 (tn o8_16 (.op o8_14 (tn
  o8_17 (tn o8_18 (tn o8_19 .leaf))) (tn o8_17 (tn o8_14 (tn o8_18 (tn o8_19 .leaf)))))))) (tn o8_15 (tn o8_16 (.op o8_13 (.op o8_14 (tn o8_17 (tn o8_18
  (tn o8_19 .leaf))) (tn o8_17 (tn o8_14 (tn o8_18 (tn o8_19 .leaf))))) (tn o8_17 (tn o8_13 (tn o8_14 (tn o8_18 (tn o8_19 .leaf))))))))))))))))) (.op o8_8
  (.op o8_6 (tn o8_7 (.op o8_9 (tn o8_10 (tn o8_11 (tn o8_12 (.op o8_13 (.op o8_14 (tn o8_15 (tn o8_16 (tn o8_17 (tn o8_18 (tn o8_19 .leaf))))) (tn o8_15
  (tn o8_16 (.op o8_14 (tn o8_17 (tn o8_18 (tn o8_19 .leaf))) (tn o8_17 (tn o8_14 (tn o8_18 (tn o8_19 .leaf)))))))) (tn o8_15 (tn o8_16 (.op o8_13 (.op o8_14
  (tn o8_17 (tn o8_18 (tn o8_19 .leaf))) (tn o8_17 (tn o8_14 (tn o8_18 (tn o8_19 .leaf))))) (tn o8_17 (tn o8_13 (tn o8_14 (tn o8_18 (tn o8_19 .leaf))))))))))))
  (tn o8_10 (.op o8_9 (tn o8_11 (tn o8_12 (.op o8_13 (.op o8_14 (tn o8_15 (tn o8_16 (tn o8_17 (tn o8_18 (tn o8_19 .leaf))))) (tn o8_15 (tn o8_16 (.op o8_14
  (tn o8_17 (tn o8_18 (tn o8_19 .leaf))) (tn o8_17 (tn o8_14 (tn o8_18 (tn o8_19 .leaf)))))))) (tn o8_15 (tn o8_16 (.op o8_13 (.op o8_14 (tn o8_17 (tn o8_18
  (tn o8_19 .leaf))) (tn o8_17 (tn o8_14 (tn o8_18 (tn o8_19 .leaf))))) (tn o8_17 (tn o8_13 (tn o8_14 (tn o8_18 (tn o8_19 .leaf))))))))))) (tn o8_11 (tn
  o8_9 (tn o8_12 (.op o8_13 (.op o8_14 (tn o8_15 (tn o8_16 (tn o8_17 (tn o8_18 (tn o8_19 .leaf))))) (tn o8_15 (tn o8_16 (.op o8_14 (tn o8_17 (tn o8_18 (tn
  o8_19 .leaf))) (tn o8_17 (tn o8_14 (tn o8_18 (tn o8_19 .leaf)))))))) (tn o8_15 (tn o8_16 (.op o8_13 (.op o8_14 (tn o8_17 (tn o8_18 (tn o8_19 .leaf))) (tn
  o8_17 (tn o8_14 (tn o8_18 (tn o8_19 .leaf))))) (tn o8_17 (tn o8_13 (tn o8_14 (tn o8_18 (tn o8_19 .leaf)))))))))))))))) (tn o8_10 (.op o8_6 (tn o8_7 (.op
  o8_9 (tn o8_11 (tn o8_12 (.op o8_13 (.op o8_14 (tn o8_15 (tn o8_16 (tn o8_17 (tn o8_18 (tn o8_19 .leaf))))) (tn o8_15 (tn o8_16 (.op o8_14 (tn o8_17 (tn
  o8_18 (tn o8_19 .leaf))) (tn o8_17 (tn o8_14 (tn o8_18 (tn o8_19 .leaf)))))))) (tn o8_15 (tn o8_16 (.op o8_13 (.op o8_14 (tn o8_17 (tn o8_18 (tn o8_19
  .leaf))) (tn o8_17 (tn o8_14 (tn o8_18 (tn o8_19 .leaf))))) (tn o8_17 (tn o8_13 (tn o8_14 (tn o8_18 (tn o8_19 .leaf))))))))))) (tn o8_11 (tn o8_9 (tn o8_12
  (.op o8_13 (.op o8_14 (tn o8_15 (tn o8_16 (tn o8_17 (tn o8_18 (tn o8_19 .leaf))))) (tn o8_15 (tn o8_16 (.op o8_14 (tn o8_17 (tn o8_18 (tn o8_19 .leaf)))
  (tn o8_17 (tn o8_14 (tn o8_18 (tn o8_19 .leaf)))))))) (tn o8_15 (tn o8_16 (.op o8_13 (.op o8_14 (tn o8_17 (tn o8_18 (tn o8_19 .leaf))) (tn o8_17 (tn o8_14
  (tn o8_18 (tn o8_19 .leaf))))) (tn o8_17 (tn o8_13 (tn o8_14 (tn o8_18 (tn o8_19 .leaf)))))))))))))) (tn o8_11 (tn o8_6 (tn o8_7 (tn o8_9 (tn o8_12 (.op
  o8_13 (.op o8_14 (tn o8_15 (tn o8_16 (tn o8_17 (tn o8_18 (tn o8_19 .leaf))))) (tn o8_15 (tn o8_16 (.op o8_14 (tn o8_17 (tn o8_18 (tn o8_19 .leaf))) (tn
  o8_17 (tn o8_14 (tn o8_18 (tn o8_19 .leaf)))))))) (tn o8_15 (tn o8_16 (.op o8_13 (.op o8_14 (tn o8_17 (tn o8_18 (tn o8_19 .leaf))) (tn o8_17 (tn o8_14
  (tn o8_18 (tn o8_19 .leaf))))) (tn o8_17 (tn o8_13 (tn o8_14 (tn o8_18 (tn o8_19 .leaf))))))))))))))))) (tn o8_10 (.op o8_6 (tn o8_7 (.op o8_8 (.op o8_9
  (tn o8_11 (tn o8_12 (.op o8_13 (.op o8_14 (tn o8_15 (tn o8_16 (tn o8_17 (tn o8_18 (tn o8_19 .leaf))))) (tn o8_15 (tn o8_16 (.op o8_14 (tn o8_17 (tn o8_18
  (tn o8_19 .leaf))) (tn o8_17 (tn o8_14 (tn o8_18 (tn o8_19 .leaf)))))))) (tn o8_15 (tn o8_16 (.op o8_13 (.op o8_14 (tn o8_17 (tn o8_18 (tn o8_19 .leaf)))
  (tn o8_17 (tn o8_14 (tn o8_18 (tn o8_19 .leaf))))) (tn o8_17 (tn o8_13 (tn o8_14 (tn o8_18 (tn o8_19 .leaf))))))))))) (tn o8_11 (tn o8_9 (tn o8_12 (.op
  o8_13 (.op o8_14 (tn o8_15 (tn o8_16 (tn o8_17 (tn o8_18 (tn o8_19 .leaf))))) (tn o8_15 (tn o8_16 (.op o8_14 (tn o8_17 (tn o8_18 (tn o8_19 .leaf))) (tn
  o8_17 (tn o8_14 (tn o8_18 (tn o8_19 .leaf)))))))) (tn o8_15 (tn o8_16 (.op o8_13 (.op o8_14 (tn o8_17 (tn o8_18 (tn o8_19 .leaf))) (tn o8_17 (tn o8_14
  (tn o8_18 (tn o8_19 .leaf))))) (tn o8_17 (tn o8_13 (tn o8_14 (tn o8_18 (tn o8_19 .leaf))))))))))))) (tn o8_11 (tn o8_8 (tn o8_9 (tn o8_12 (.op o8_13 (.op
  o8_14 (tn o8_15 (tn o8_16 (tn o8_17 (tn o8_18 (tn o8_19 .leaf))))) (tn o8_15 (tn o8_16 (.op o8_14 (tn o8_17 (tn o8_18 (tn o8_19 .leaf))) (tn o8_17 (tn
  o8_14 (tn o8_18 (tn o8_19 .leaf)))))))) (tn o8_15 (tn o8_16 (.op o8_13 (.op o8_14 (tn o8_17 (tn o8_18 (tn o8_19 .leaf))) (tn o8_17 (tn o8_14 (tn o8_18
  (tn o8_19 .leaf))))) (tn o8_17 (tn o8_13 (tn o8_14 (tn o8_18 (tn o8_19 .leaf))))))))))))))) (.op o8_8 (.op o8_6 (tn o8_7 (.op o8_9 (tn o8_11 (tn o8_12
  (.op o8_13 (.op o8_14 (tn o8_15 (tn o8_16 (tn o8_17 (tn o8_18 (tn o8_19 .leaf))))) (tn o8_15 (tn o8_16 (.op o8_14 (tn o8_17 (tn o8_18 (tn o8_19 .leaf)))
  (tn o8_17 (tn o8_14 (tn o8_18 (tn o8_19 .leaf)))))))) (tn o8_15 (tn o8_16 (.op o8_13 (.op o8_14 (tn o8_17 (tn o8_18 (tn o8_19 .leaf))) (tn o8_17 (tn o8_14
  (tn o8_18 (tn o8_19 .leaf))))) (tn o8_17 (tn o8_13 (tn o8_14 (tn o8_18 (tn o8_19 .leaf))))))))))) (tn o8_11 (tn o8_9 (tn o8_12 (.op o8_13 (.op o8_14 (tn
  o8_15 (tn o8_16 (tn o8_17 (tn o8_18 (tn o8_19 .leaf))))) (tn o8_15 (tn o8_16 (.op o8_14 (tn o8_17 (tn o8_18 (tn o8_19 .leaf))) (tn o8_17 (tn o8_14 (tn
  o8_18 (tn o8_19 .leaf)))))))) (tn o8_15 (tn o8_16 (.op o8_13 (.op o8_14 (tn o8_17 (tn o8_18 (tn o8_19 .leaf))) (tn o8_17 (tn o8_14 (tn o8_18 (tn o8_19
  .leaf))))) (tn o8_17 (tn o8_13 (tn o8_14 (tn o8_18 (tn o8_19 .leaf)))))))))))))) (tn o8_11 (tn o8_6 (tn o8_7 (tn o8_9 (tn o8_12 (.op o8_13 (.op o8_14 (tn
  o8_15 (tn o8_16 (tn o8_17 (tn o8_18 (tn o8_19 .leaf))))) (tn o8_15 (tn o8_16 (.op o8_14 (tn o8_17 (tn o8_18 (tn o8_19 .leaf))) (tn o8_17 (tn o8_14 (tn
  o8_18 (tn o8_19 .leaf)))))))) (tn o8_15 (tn o8_16 (.op o8_13 (.op o8_14 (tn o8_17 (tn o8_18 (tn o8_19 .leaf))) (tn o8_17 (tn o8_14 (tn o8_18 (tn o8_19
  .leaf))))) (tn o8_17 (tn o8_13 (tn o8_14 (tn o8_18 (tn o8_19 .leaf))))))))))))))) (tn o8_11 (.op o8_6 (tn o8_7 (tn o8_8 (tn o8_9 (tn o8_12 (.op o8_13 (.op
  o8_14 (tn o8_15 (tn o8_16 (tn o8_17 (tn o8_18 (tn o8_19 .leaf))))) (tn o8_15 (tn o8_16 (.op o8_14 (tn o8_17 (tn o8_18 (tn o8_19 .leaf))) (tn o8_17 (tn
  o8_14 (tn o8_18 (tn o8_19 .leaf)))))))) (tn o8_15 (tn o8_16 (.op o8_13 (.op o8_14 (tn o8_17 (tn o8_18 (tn o8_19 .leaf))) (tn o8_17 (tn o8_14 (tn o8_18
  (tn o8_19 .leaf))))) (tn o8_17 (tn o8_13 (tn o8_14 (tn o8_18 (tn o8_19 .leaf))))))))))))) (tn o8_8 (tn o8_6 (tn o8_7 (tn o8_9 (tn o8_12 (.op o8_13 (.op
  o8_14 (tn o8_15 (tn o8_16 (tn o8_17 (tn o8_18 (tn o8_19 .leaf))))) (tn o8_15 (tn o8_16 (.op o8_14 (tn o8_17 (tn o8_18 (tn o8_19 .leaf))) (tn o8_17 (tn
  o8_14 (tn o8_18 (tn o8_19 .leaf)))))))) (tn o8_15 (tn o8_16 (.op o8_13 (.op o8_14 (tn o8_17 (tn o8_18 (tn o8_19 .leaf))) (tn o8_17 (tn o8_14 (tn o8_18
  (tn o8_19 .leaf))))) (tn o8_17 (tn o8_13 (tn o8_14 (tn o8_18 (tn o8_19 .leaf))))))))))))))))))))))))))
  (.seq (.tre (tn ⟨(some 62), none, .v (.off (.t 2) 1)⟩ (tn ⟨(some 63), none, .v (.load (.t 62) none)⟩ (tn ⟨(some 65), none, .v (.off (.t 2) 5)⟩ (tn ⟨(some 68),
  none, .v (.off (.t 2) 2)⟩ (.op o8_20 (tn o8_21 (.op o8_22 (.op o8_23 (tn o8_24 (tn o8_25 (tn o8_26 (.op o8_27 (.op o8_28 (tn o8_29 (tn o8_30 (tn o8_31
  (tn o8_32 (tn o8_33 .leaf))))) (tn o8_29 (tn o8_30 (.op o8_28 (tn o8_31 (tn o8_32 (tn o8_33 .leaf))) (tn o8_31 (tn o8_28 (tn o8_32 (tn o8_33 .leaf))))))))
  (tn o8_29 (tn o8_30 (.op o8_27 (.op o8_28 (tn o8_31 (tn o8_32 (tn o8_33 .leaf))) (tn o8_31 (tn o8_28 (tn o8_32 (tn o8_33 .leaf))))) (tn o8_31 (tn o8_27
  (tn o8_28 (tn o8_32 (tn o8_33 .leaf)))))))))))) (tn o8_24 (.op o8_23 (tn o8_25 (tn o8_26 (.op o8_27 (.op o8_28 (tn o8_29 (tn o8_30 (tn o8_31 (tn o8_32
  (tn o8_33 .leaf))))) (tn o8_29 (tn o8_30 (.op o8_28 (tn o8_31 (tn o8_32 (tn o8_33 .leaf))) (tn o8_31 (tn o8_28 (tn o8_32 (tn o8_33 .leaf)))))))) (tn o8_29
  (tn o8_30 (.op o8_27 (.op o8_28 (tn o8_31 (tn o8_32 (tn o8_33 .leaf))) (tn o8_31 (tn o8_28 (tn o8_32 (tn o8_33 .leaf))))) (tn o8_31 (tn o8_27 (tn o8_28
  (tn o8_32 (tn o8_33 .leaf))))))))))) (tn o8_25 (tn o8_23 (tn o8_26 (.op o8_27 (.op o8_28 (tn o8_29 (tn o8_30 (tn o8_31 (tn o8_32 (tn o8_33 .leaf))))) (tn
  o8_29 (tn o8_30 (.op o8_28 (tn o8_31 (tn o8_32 (tn o8_33 .leaf))) (tn o8_31 (tn o8_28 (tn o8_32 (tn o8_33 .leaf)))))))) (tn o8_29 (tn o8_30 (.op o8_27
  (.op o8_28 (tn o8_31 (tn o8_32 (tn o8_33 .leaf))) (tn o8_31 (tn o8_28 (tn o8_32 (tn o8_33 .leaf))))) (tn o8_31 (tn o8_27 (tn o8_28 (tn o8_32 (tn o8_33
  .leaf))))))))))))))) (tn o8_24 (.op o8_22 (.op o8_23 (tn o8_25 (tn o8_26 (.op o8_27 (.op o8_28 (tn o8_29 (tn o8_30 (tn o8_31 (tn o8_32 (tn o8_33 .leaf)))))
  (tn o8_29 (tn o8_30 (.op o8_28 (tn o8_31 (tn o8_32 (tn o8_33 .leaf))) (tn o8_31 (tn o8_28 (tn o8_32 (tn o8_33 .leaf)))))))) (tn o8_29 (tn o8_30 (.op o8_27
  (.op o8_28 (tn o8_31 (tn o8_32 (tn o8_33 .leaf))) (tn o8_31 (tn o8_28 (tn o8_32 (tn o8_33 .leaf))))) (tn o8_31 (tn o8_27 (tn o8_28 (tn o8_32 (tn o8_33
  .leaf))))))))))) (tn o8_25 (tn o8_23 (tn o8_26 (.op o8_27 (.op o8_28 (tn o8_29 (tn o8_30 (tn o8_31 (tn o8_32 (tn o8_33 .leaf))))) (tn o8_29 (tn o8_30 (.op
  o8_28 (tn o8_31 (tn o8_32 (tn o8_33 .leaf))) (tn o8_31 (tn o8_28 (tn o8_32 (tn o8_33 .leaf)))))))) (tn o8_29 (tn o8_30 (.op o8_27 (.op o8_28 (tn o8_31
  (tn o8_32 (tn o8_33 .leaf))) (tn o8_31 (tn o8_28 (tn o8_32 (tn o8_33 .leaf))))) (tn o8_31 (tn o8_27 (tn o8_28 (tn o8_32 (tn o8_33 .leaf))))))))))))) (tn
  o8_25 (tn o8_22 (tn o8_23 (tn o8_26 (.op o8_27 (.op o8_28 (tn o8_29 (tn o8_30 (tn o8_31 (tn o8_32 (tn o8_33 .leaf))))) (tn o8_29 (tn o8_30 (.op o8_28 (tn
  o8_31 (tn o8_32 (tn o8_33 .leaf))) (tn o8_31 (tn o8_28 (tn o8_32 (tn o8_33 .leaf)))))))) (tn o8_29 (tn o8_30 (.op o8_27 (.op o8_28 (tn o8_31 (tn o8_32
  (tn o8_33 .leaf))) (tn o8_31 (tn o8_28 (tn o8_32 (tn o8_33 .leaf))))) (tn o8_31 (tn o8_27 (tn o8_28 (tn o8_32 (tn o8_33 .leaf))))))))))))))))) (.op o8_22
  (.op o8_20 (tn o8_21 (.op o8_23 (tn o8_24 (tn o8_25 (tn o8_26 (.op o8_27 (.op o8_28 (tn o8_29 (tn o8_30 (tn o8_31 (tn o8_32 (tn o8_33 .leaf))))) (tn o8_29
  (tn o8_30 (.op o8_28 (tn o8_31 (tn o8_32 (tn o8_33 .leaf))) (tn o8_31 (tn o8_28 (tn o8_32 (tn o8_33 .leaf)))))))) (tn o8_29 (tn o8_30 (.op o8_27 (.op o8_28
  (tn o8_31 (tn o8_32 (tn o8_33 .leaf))) (tn o8_31 (tn o8_28 (tn o8_32 (tn o8_33 .leaf))))) (tn o8_31 (tn o8_27 (tn o8_28 (tn o8_32 (tn o8_33 .leaf))))))))))))
  (tn o8_24 (.op o8_23 (tn o8_25 (tn o8_26 (.op o8_27 (.op o8_28 (tn o8_29 (tn o8_30 (tn o8_31 (tn o8_32 (tn o8_33 .leaf))))) (tn o8_29 (tn o8_30 (.op o8_28
  (tn o8_31 (tn o8_32 (tn o8_33 .leaf))) (tn o8_31 (tn o8_28 (tn o8_32 (tn o8_33 .leaf)))))))) (tn o8_29 (tn o8_30 (.op o8_27 (.op o8_28 (tn o8_31 (tn o8_32
  (tn o8_33 .leaf))) (tn o8_31 (tn o8_28 (tn o8_32 (tn o8_33 .leaf))))) (tn o8_31 (tn o8_27 (tn o8_28 (tn o8_32 (tn o8_33 .leaf))))))))))) (tn o8_25 (tn
  o8_23 (tn o8_26 (.op o8_27 (.op o8_28 (tn o8_29 (tn o8_30 (tn o8_31 (tn o8_32 (tn o8_33 .leaf))))) (tn o8_29 (tn o8_30 (.op o8_28 (tn o8_31 (tn o8_32 (tn
  o8_33 .leaf))) (tn o8_31 (tn o8_28 (tn o8_32 (tn o8_33 .leaf)))))))) (tn o8_29 (tn o8_30 (.op o8_27 (.op o8_28 (tn o8_31 (tn o8_32 (tn o8_33 .leaf))) (tn
  o8_31 (tn o8_28 (tn o8_32 (tn o8_33 .leaf))))) (tn o8_31 (tn o8_27 (tn o8_28 (tn o8_32 (tn o8_33 .leaf)))))))))))))))) (tn o8_24 (.op o8_20 (tn o8_21 (.op
  o8_23 (tn o8_25 (tn o8_26 (.op o8_27 (.op o8_28 (tn o8_29 (tn o8_30 (tn o8_31 (tn o8_32 (tn o8_33 .leaf))))) (tn o8_29 (tn o8_30 (.op o8_28 (tn o8_31 (tn
  o8_32 (tn o8_33 .leaf))) (tn o8_31 (tn o8_28 (tn o8_32 (tn o8_33 .leaf)))))))) (tn o8_29 (tn o8_30 (.op o8_27 (.op o8_28 (tn o8_31 (tn o8_32 (tn o8_33
  .leaf))) (tn o8_31 (tn o8_28 (tn o8_32 (tn o8_33 .leaf))))) (tn o8_31 (tn o8_27 (tn o8_28 (tn o8_32 (tn o8_33 .leaf))))))))))) (tn o8_25 (tn o8_23 (tn
  o8_26 (.op o8_27 (.op o8_28 (tn o8_29 (tn o8_30 (tn o8_31 (tn o8_32 (tn o8_33 .leaf))))) (tn o8_29 (tn o8_30 (.op o8_28 (tn o8_31 (tn o8_32 (tn o8_33 .leaf)))
  (tn o8_31 (tn o8_28 (tn o8_32 (tn o8_33 .leaf)))))))) (tn o8_29 (tn o8_30 (.op o8_27 (.op o8_28 (tn o8_31 (tn o8_32 (tn o8_33 .leaf))) (tn o8_31 (tn o8_28
  (tn o8_32 (tn o8_33 .leaf))))) (tn o8_31 (tn o8_27 (tn o8_28 (tn o8_32 (tn o8_33 .leaf)))))))))))))) (tn o8_25 (tn o8_20 (tn o8_21 (tn o8_23 (tn o8_26
  (.op o8_27 (.op o8_28 (tn o8_29 (tn o8_30 (tn o8_31 (tn o8_32 (tn o8_33 .leaf))))) (tn o8_29 (tn o8_30 (.op o8_28 (tn o8_31 (tn o8_32 (tn o8_33 .leaf)))
  (tn o8_31 (tn o8_28 (tn o8_32 (tn o8_33 .leaf)))))))) (tn o8_29 (tn o8_30 (.op o8_27 (.op o8_28 (tn o8_31 (tn o8_32 (tn o8_33 .leaf))) (tn o8_31 (tn o8_28
  (tn o8_32 (tn o8_33 .leaf))))) (tn o8_31 (tn o8_27 (tn o8_28 (tn o8_32 (tn o8_33 .leaf))))))))))))))))) (tn o8_24 (.op o8_20 (tn o8_21 (.op o8_22 (.op
  o8_23 (tn o8_25 (tn o8_26 (.op o8_27 (.op o8_28 (tn o8_29 (tn o8_30 (tn o8_31 (tn o8_32 (tn o8_33 .leaf))))) (tn o8_29 (tn o8_30 (.op o8_28 (tn o8_31 (tn
  o8_32 (tn o8_33 .leaf))) (tn o8_31 (tn o8_28 (tn o8_32 (tn o8_33 .leaf)))))))) (tn o8_29 (tn o8_30 (.op o8_27 (.op o8_28 (tn o8_31 (tn o8_32 (tn o8_33
  .leaf))) (tn o8_31 (tn o8_28 (tn o8_32 (tn o8_33 .leaf))))) (tn o8_31 (tn o8_27 (tn o8_28 (tn o8_32 (tn o8_33 .leaf))))))))))) (tn o8_25 (tn o8_23 (tn
  o8_26 (.op o8_27 (.op o8_28 (tn o8_29 (tn o8_30 (tn o8_31 (tn o8_32 (tn o8_33 .leaf))))) (tn o8_29 (tn o8_30 (.op o8_28 (tn o8_31 (tn o8_32 (tn o8_33 .leaf)))
  (tn o8_31 (tn o8_28 (tn o8_32 (tn o8_33 .leaf)))))))) (tn o8_29 (tn o8_30 (.op o8_27 (.op o8_28 (tn o8_31 (tn o8_32 (tn o8_33 .leaf))) (tn o8_31 (tn o8_28
  (tn o8_32 (tn o8_33 .leaf))))) (tn o8_31 (tn o8_27 (tn o8_28 (tn o8_32 (tn o8_33 .leaf))))))))))))) (tn o8_25 (tn o8_22 (tn o8_23 (tn o8_26 (.op o8_27
  (.op o8_28 (tn o8_29 (tn o8_30 (tn o8_31 (tn o8_32 (tn o8_33 .leaf))))) (tn o8_29 (tn o8_30 (.op o8_28 (tn o8_31 (tn o8_32 (tn o8_33 .leaf))) (tn o8_31
  (tn o8_28 (tn o8_32 (tn o8_33 .leaf)))))))) (tn o8_29 (tn o8_30 (.op o8_27 (.op o8_28 (tn o8_31 (tn o8_32 (tn o8_33 .leaf))) (tn o8_31 (tn o8_28 (tn o8_32
  (tn o8_33 .leaf))))) (tn o8_31 (tn o8_27 (tn o8_28 (tn o8_32 (tn o8_33 .leaf))))))))))))))) (.op o8_22 (.op o8_20 (tn o8_21 (.op o8_23 (tn o8_25 (tn o8_26
  (.op o8_27 (.op o8_28 (tn o8_29 (tn o8_30 (tn o8_31 (tn o8_32 (tn o8_33 .leaf))))) (tn o8_29 (tn o8_30 (.op o8_28 (tn o8_31 (tn o8_32 (tn o8_33 .leaf)))
  (tn o8_31 (tn o8_28 (tn o8_32 (tn o8_33 .leaf)))))))) (tn o8_29 (tn o8_30 (.op o8_27 (.op o8_28 (tn o8_31 (tn o8_32 (tn o8_33 .leaf))) (tn o8_31 (tn o8_28
  (tn o8_32 (tn o8_33 .leaf))))) (tn o8_31 (tn o8_27 (tn o8_28 (tn o8_32 (tn o8_33 .leaf))))))))))) (tn o8_25 (tn o8_23 (tn o8_26 (.op o8_27 (.op o8_28 (tn
  o8_29 (tn o8_30 (tn o8_31 (tn o8_32 (tn o8_33 .leaf))))) (tn o8_29 (tn o8_30 (.op o8_28 (tn o8_31 (tn o8_32 (tn o8_33 .leaf))) (tn o8_31 (tn o8_28 (tn
  o8_32 (tn o8_33 .leaf)))))))) (tn o8_29 (tn o8_30 (.op o8_27 (.op o8_28 (tn o8_31 (tn o8_32 (tn o8_33 .leaf))) (tn o8_31 (tn o8_28 (tn o8_32 (tn o8_33
  .leaf))))) (tn o8_31 (tn o8_27 (tn o8_28 (tn o8_32 (tn o8_33 .leaf)))))))))))))) (tn o8_25 (tn o8_20 (tn o8_21 (tn o8_23 (tn o8_26 (.op o8_27 (.op o8_28
  (tn o8_29 (tn o8_30 (tn o8_31 (tn o8_32 (tn o8_33 .leaf))))) (tn o8_29 (tn o8_30 (.op o8_28 (tn o8_31 (tn o8_32 (tn o8_33 .leaf))) (tn o8_31 (tn o8_28
  (tn o8_32 (tn o8_33 .leaf)))))))) (tn o8_29 (tn o8_30 (.op o8_27 (.op o8_28 (tn o8_31 (tn o8_32 (tn o8_33 .leaf))) (tn o8_31 (tn o8_28 (tn o8_32 (tn o8_33
  .leaf))))) (tn o8_31 (tn o8_27 (tn o8_28 (tn o8_32 (tn o8_33 .leaf))))))))))))))) (tn o8_25 (.op o8_20 (tn o8_21 (tn o8_22 (tn o8_23 (tn o8_26 (.op o8_27
  (.op o8_28 (tn o8_29 (tn o8_30 (tn o8_31 (tn o8_32 (tn o8_33 .leaf))))) (tn o8_29 (tn o8_30 (.op o8_28 (tn o8_31 (tn o8_32 (tn o8_33 .leaf))) (tn o8_31
  (tn o8_28 (tn o8_32 (tn o8_33 .leaf)))))))) (tn o8_29 (tn o8_30 (.op o8_27 (.op o8_28 (tn o8_31 (tn o8_32 (tn o8_33 .leaf))) (tn o8_31 (tn o8_28 (tn o8_32
  (tn o8_33 .leaf))))) (tn o8_31 (tn o8_27 (tn o8_28 (tn o8_32 (tn o8_33 .leaf))))))))))))) (tn o8_22 (tn o8_20 (tn o8_21 (tn o8_23 (tn o8_26 (.op o8_27
  (.op o8_28 (tn o8_29 (tn o8_30 (tn o8_31 (tn o8_32 (tn o8_33 .leaf))))) (tn o8_29 (tn o8_30 (.op o8_28 (tn o8_31 (tn o8_32 (tn o8_33 .leaf))) (tn o8_31
  (tn o8_28 (tn o8_32 (tn o8_33 .leaf)))))))) (tn o8_29 (tn o8_30 (.op o8_27 (.op o8_28 (tn o8_31 (tn o8_32 (tn o8_33 .leaf))) (tn o8_31 (tn o8_28 (tn o8_32
  (tn o8_33 .leaf))))) (tn o8_31 (tn o8_27 (tn o8_28 (tn o8_32 (tn o8_33 .leaf))))))))))))))))))))))))))
  (.seq (.drw [(0, ⟨(some 77), none, .v (.load (.t 5) (some 2))⟩, false),
    (1, ⟨(some 78), none, .v (.load (.t 7) (some 6))⟩, false),
    (2, ⟨(some 79), none, .v (.load (.t 3) (some 2))⟩, false),
    (3, ⟨(some 80), none, .v (.off (.t 2) 4)⟩, false),
    (4, ⟨(some 81), none, .v (.load (.t 80) none)⟩, false),
    (5, ⟨(some 82), none, .v (.neg (.t 81))⟩, false),
    (6, ⟨(some 83), none, .call (.c (.fn 36 [])) [(.t 78), (.t 79), (.t 82)]⟩, false),
    (7, ⟨(some 84), none, .v (.load (.t 8) (some 6))⟩, false),
    (8, ⟨(some 85), none, .v (.load (.t 3) (some 2))⟩, false),
    (9, ⟨(some 86), none, .v (.off (.t 2) 4)⟩, false),
    (10, ⟨(some 87), none, .v (.load (.t 86) none)⟩, false),
    (11, ⟨(some 88), none, .call (.c (.fn 36 [])) [(.t 84), (.t 85), (.t 87)]⟩, false),
    (12, ⟨(some 89), none, .call (.c (.fn 40 [])) [(.t 83), (.t 88)]⟩, false)]
    none
    [⟨(some 90), none, .v (.eqs [(some .i64), (some .i64)] false (.t 77) (.t 89))⟩,
    ⟨(some 91), none, .v (.mov (.t 90))⟩,
    ⟨(some 92), (some (91, true)), .call (.c (.fn 21 [])) []⟩,
    ⟨(some 93), none, .v (.pick (.t 91) (.t 92) (.c (.lit (.bool false))))⟩,
    ⟨(some 4), none, .v (.mov (.t 93))⟩])
  .ret)))))))
def r8 : List RV := [.t 4]
theorem k8 : (Try.f8.body.bind (cC Try.prog), cR Try.prog Try.f8.results.toList, Try.f8.ntmps) = (some s8, some r8, 94) := by kernel_rfl
theorem q8 : Known Try.prog 8 := ⟨_, Try.func8, by decide, by simp [Try.f8]⟩

/-- The spans of a row that are one end of what they were. -/
def endL (b : Bool) (L : List (Int × Int)) : List (Int × Int) := L.map fun p => if b then (p.2, p.2) else (p.1, p.1)
theorem endL_len {b L} : (endL b L).length = L.length := by simp [endL]
theorem endL_get {b : Bool} {L : List (Int × Int)} (i : Nat) : (endL b L).getD i (0, 0) = if b then (hi L i, hi L i) else (lo L i, lo L i) := by
  unfold endL hi lo
  by_cases h : i < L.length
  · simp [List.getD, h]
  · simp [List.getD, Nat.le_of_not_lt h]
theorem endL_lo {b : Bool} {L : List (Int × Int)} (i : Nat) : lo (endL b L) i = if b then hi L i else lo L i := by
  unfold lo; rw [endL_get]; cases b <;> rfl
theorem endL_hi {b : Bool} {L : List (Int × Int)} (i : Nat) : hi (endL b L) i = if b then hi L i else lo L i := by
  unfold hi; rw [endL_get]; cases b <;> rfl
def F39 : FC := fun args => match args with
  | [.rd 2 n f, .lit (.bool b)] => some (n ≤ 12 ∧ ∀ i, i < n → f i = [.int .i64 (rlo f i), .int .i64 (rhi f i)], .rd 2 n (rowsS (endL b (Tof n f))))
  | _ => none
theorem Tof_len {n f} : (Tof n f).length = n := by simp [Tof]
theorem Tof_get {n : Nat} {f : Nat → List SV} {i : Nat} (h : i < n) : lo (Tof n f) i = rlo f i ∧ hi (Tof n f) i = rhi f i := by
  unfold lo hi Tof; simp [List.getD, h]
theorem rowsE_snoc {E : List (Int × Int)} {i : Nat} {x y : Int} (h1 : lo E i = x) (h2 : hi E i = y) (j : Nat) (hj : j < i + 1) : (if j < i then rowsS E j else [.int .i64 x, .int .i64 y]) = rowsS E j := by
  split
  · rfl
  · have : j = i := by omega
    subst this
    unfold rowsS; rw [h1, h2]
theorem p39 : PureOk Try.prog 39 (fcC F39) := by
  refine pure_of (T := [(40, .fc Fto)]) ⟨⟨p40, q40⟩, trivial⟩ Try.func39 k39 ?_
  intro args K hC
  unfold fcC F39 at hC
  split at hC <;> first | (exact hC.elim) | skip
  rename_i h
  split at h <;> first | (cases h; done) | skip
  cases h
  rename_i n f b
  obtain ⟨⟨hn, hf⟩, hK⟩ := hC
  simp only [e_reg, e_seq, e_block, e_loop, o_nil, o_cons, gd_none, putK_e, runK_e, vK_e, evh_v, seqK_n, evp, st, putf, X.get, mkfr, rep, undef, Nat.reduceSub, true_and, s39, r39]
  refine loop_at2 (G := Nat) (fun i => [(6, .int .i64 i), (5, .own 0)]) (fun i => [.orw 24 2 i (rowsS (endL b (Tof n f)))]) (fun i => i ≤ n) (fun i => n - i) 0 (Nat.zero_le _) ?_
  (intro fr1 hf1; simp only [forget, dstC, dstO, dstD, dst1, st] at hf1; subst hf1)
  refine ⟨?_, ?_⟩
  · refine Lw_re 0 [none] (Nat.zero_le _) (by simp [ln]) (by simp [ln]) rfl ?_ ?_
    · simp only [reL, reX, rn, List.getElem?_cons_zero, Nat.reduceSub, Nat.lt_irrefl, Nat.le_refl, reduceCtorEq, or_true, inb, ln, sts, st, Nat.reduceLT, Nat.reduceAdd, and_self, Int.natCast_zero, implies_true]
    · simp only [reH, reN, newB, and_self]
  · intro i hi1
    by_cases ha : i < n
    · have hia : ((i : Int) < n) = True := by simp [ha]
      have e := hf i ha
      have hg := Tof_get (f := f) ha
      cases b
      · simp only [condK_bt, decide_true, inr64, e_skip, e_reg, e_drw, e_seq, e_cond, e_block, o_nil, o_cons, gd_none, putK_e, runK_e, vK_e, appK2_or, appK_e, evh_v, evh_app, dX_e, dG_t, d_nil, d_cons, creK_e, tlK_s, evc_e, loopK_n, seqK_n, condK_f, blockK_n, gamq_e, gamqK_f, evp, bin, gt, gq, st, putf, X.get, gets, getp, ap, clo, clo.clos, ld, lda, lens, ixs, sp, sp.spl, lay, ll, cs1, one, allOne, gb, sb, pb, ln, lk, evq, gdl, crv, Bool.and_true, Nat.reduceAdd, beq_self_eq_true, true_and, and_true, sts, Int.toNat_natCast, hia, e, Fto]
        refine ⟨by omega, by omega, by omega, by omega, ?_⟩
        refine Nx.mk (i + 1) (by show i + 1 ≤ n; omega) (by show n - (i + 1) < n - i; omega) (Lw_re 0 [some 2] (Nat.zero_le _) (by simp [ln]) (by simp [ln]) rfl ?_ ?_)
        · simp only [reL, reX, rn, List.getElem?_cons_zero, Nat.reduceSub, Nat.lt_irrefl, Nat.le_refl, and_false, or_true, inb, ln, Nat.reduceLT, Nat.reduceAdd, and_self, Int.natCast_add, Int.natCast_one, implies_true]
        · simp only [reH, reM, reN, gb, Nat.reduceLeDiff, ln, Nat.reduceLT, Nat.reduceAdd, true_and, and_true, and_self]
          exact rowsE_snoc (by rw [endL_lo]; exact hg.1) (by rw [endL_hi]; exact hg.1)
      · simp only [condK_bt, decide_true, inr64, e_skip, e_reg, e_drw, e_seq, e_cond, e_block, o_nil, o_cons, gd_none, putK_e, runK_e, vK_e, appK2_or, appK_e, evh_v, evh_app, dX_e, dG_t, d_nil, d_cons, creK_e, tlK_s, evc_e, loopK_n, seqK_n, condK_t, blockK_n, gamq_e, gamqK_f, evp, bin, gt, gq, st, putf, X.get, gets, getp, ap, clo, clo.clos, ld, lda, lens, ixs, sp, sp.spl, lay, ll, cs1, one, allOne, gb, sb, pb, ln, lk, evq, gdl, crv, Bool.and_true, Nat.reduceAdd, beq_self_eq_true, true_and, and_true, sts, Int.toNat_natCast, hia, e, Fto]
        refine ⟨by omega, by omega, by omega, by omega, ?_⟩
        refine Nx.mk (i + 1) (by show i + 1 ≤ n; omega) (by show n - (i + 1) < n - i; omega) (Lw_re 0 [some 2] (Nat.zero_le _) (by simp [ln]) (by simp [ln]) rfl ?_ ?_)
        · simp only [reL, reX, rn, List.getElem?_cons_zero, Nat.reduceSub, Nat.lt_irrefl, Nat.le_refl, and_false, or_true, inb, ln, Nat.reduceLT, Nat.reduceAdd, and_self, Int.natCast_add, Int.natCast_one, implies_true]
        · simp only [reH, reM, reN, gb, Nat.reduceLeDiff, ln, Nat.reduceLT, Nat.reduceAdd, true_and, and_true, and_self]
          exact rowsE_snoc (by rw [endL_lo]; exact hg.2) (by rw [endL_hi]; exact hg.2)
    · have : i = n := by omega
      subst this
      have hia : ((i : Int) < i) = False := by simp
      simp only [condK_bf, decide_false, e_reg, e_seq, e_cond, e_exit, e_ret, o_nil, o_cons, gd_none, putK_e, runK_e, vK_e, evh_v, loopK_x, seqK_n, seqK_x, exitK_t, blockK_x, ends_r, endK1_e, endK2_e, evp, bin, gt, st, putf, X.get, rdR, tupled, clV, lens, gb, sb, beq_self_eq_true, true_and, sts, hia]
      exact res hK (by simp [leR])
def endS (b : Bool) (v : Sx) : Sx := ⟨v.step, endL b v.T, if b then v.b else v.a, if b then v.b else v.a, v.w, endL b v.S⟩
theorem endL_all {b : Bool} {L : List (Int × Int)} {m : Int} (h : L.all (spE m) = true) : (endL b L).all (spE m) = true := by
  rw [List.all_eq_true] at h ⊢
  intro p hp
  unfold endL at hp
  rw [List.mem_map] at hp
  obtain ⟨q, hq, rfl⟩ := hp
  have := h q hq
  unfold spE at this ⊢
  rw [decide_eq_true_eq] at this ⊢
  cases b
  · exact ⟨⟨this.1.1, Int.le_refl _⟩, by show q.1 ≤ m; omega⟩
  · exact ⟨⟨by show -m ≤ q.2; omega, Int.le_refl _⟩, this.2⟩
theorem endS_ok {b : Bool} {v : Sx} (hok : v.ok) : (endS b v).ok := by
  have hab := hok.2.1
  refine ⟨⟨hok.1.1, by rw [show (endS b v).T.length = v.T.length from endL_len]; exact hok.1.2.1, endL_all hok.1.2.2.1, by rw [show (endS b v).T.length = v.T.length from endL_len]; exact hok.1.2.2.2⟩, ⟨⟨?_, Int.le_refl _⟩, ?_⟩, hok.2.2.1, by rw [show (endS b v).S.length = v.S.length from endL_len]; exact hok.2.2.2.1, endL_all hok.2.2.2.2⟩
  · show -1800 ≤ if b then v.b else v.a; cases b <;> simp <;> omega
  · show (if b then v.b else v.a) ≤ 1800; cases b <;> simp <;> omega
theorem endS_rdg {b : Bool} {v : Sx} {x set : Int} (h : v.rdg x set) : (endS b v).rdg x set := by
  unfold Sx.rdg at h ⊢
  rw [show (endS b v).T.length = v.T.length from endL_len, show (endS b v).S.length = v.S.length from endL_len]
  exact h
theorem endS_cor {b : Bool} {v : Sx} {x : Int} : (corE (endS b v) x).1 = if b then (corE v x).2 else (corE v x).1 := by
  have e0 : kk (endS b v) x = kk v x := rfl
  have e1 : (endS b v).step = v.step := rfl
  have e2 : (endS b v).T = endL b v.T := rfl
  unfold corE
  simp only [e0, e1, e2, endL_lo]
  cases b <;> rfl
theorem endS_shd {b : Bool} {v : Sx} {set : Int} : ∀ i, (shd (endS b v) set i).1 = if b then (shd v set i).2 - 2 * v.w else (shd v set i).1
  | 0 => by
    simp only [shd]
    show -v.w = if b then v.w - 2 * v.w else -v.w
    cases b <;> simp; omega
  | i + 1 => by
    have h := endS_shd (b := b) (v := v) (set := set) i
    have e2 : (endS b v).S = endL b v.S := rfl
    simp only [shd]
    by_cases hb : set / ((2 ^ i : Nat) : Int) % 2 = 1
    · simp only [if_pos hb, h, e2, endL_lo]
      cases b <;> simp; omega
    · simp only [if_neg hb]; exact h
theorem endS_ang {b : Bool} {v : Sx} {x set : Int} : ang (endS b v) x set (if b then v.w else -v.w) = if b then (rdS v x set).2 else (rdS v x set).1 := by
  have e1 : (endS b v).S.length = v.S.length := endL_len
  have e2 : (endS b v).a = if b then v.b else v.a := rfl
  have e3 : (endS b v).w = v.w := rfl
  unfold ang rdS
  rw [e1, e2, e3, endS_cor, endS_shd]
  cases b <;> simp <;> omega
theorem rows_ok {L : List (Int × Int)} {n : Nat} : (∀ i, i < n → rowsS L i = [.int .i64 (rlo (rowsS L) i), .int .i64 (rhi (rowsS L) i)]) = True := by
  simp only [eq_iff_iff, iff_true]; exact fun i _ => rfl
theorem one_ok {a b : Int} : (∀ i, i < 1 → rowOf 2 [.int .i64 a, .int .i64 b] i = [.int .i64 (rlo (rowOf 2 [.int .i64 a, .int .i64 b]) i), .int .i64 (rhi (rowOf 2 [.int .i64 a, .int .i64 b]) i)]) = True := by
  simp only [eq_iff_iff, iff_true]
  intro i hi'
  have : i = 0 := by omega
  subst this; rfl
theorem Tof_one {a b : Int} : Tof 1 (rowOf 2 [.int .i64 a, .int .i64 b]) = [(a, b)] := rfl
theorem endL_f {a b : Int} : endL false [(a, b)] = [(a, a)] := rfl
theorem endL_t {a b : Int} : endL true [(a, b)] = [(b, b)] := rfl
theorem rows_one {a b : Int} : rowsS [(a, b)] 0 = [.int .i64 a, .int .i64 b] := rfl
theorem Tof_end {b : Bool} {L : List (Int × Int)} : Tof L.length (rowsS (endL b L)) = endL b L := by
  rw [← endL_len (b := b) (L := L)]; exact Tof_rows
theorem F36_f {v : Sx} {x set wr : Int} (hok : v.ok) (hr : v.rdg x set) (h : -1000 ≤ wr ∧ wr ≤ 1000) :
    F36 [.agg [.int .i64 v.step, .rd 2 v.T.length (rowsS (endL false v.T)), .int .i64 v.a, .int .i64 v.a, .int .i64 v.w, .rd 2 v.S.length (rowsS (endL false v.S))], .agg [.int .i64 x, .int .i64 set], .int .i64 wr] = some (True, .int .i64 (ang (endS false v) x set wr)) := by
  unfold F36
  simp only [Tof_end]
  refine congrArg some (Prod.ext (eq_true ⟨endL false v.T, endL false v.S, endL_len.symm, rfl, endL_len.symm, rfl, endS_ok (b := false) hok, endS_rdg (b := false) hr, h.1, h.2⟩) rfl)
theorem F36_t {v : Sx} {x set wr : Int} (hok : v.ok) (hr : v.rdg x set) (h : -1000 ≤ wr ∧ wr ≤ 1000) :
    F36 [.agg [.int .i64 v.step, .rd 2 v.T.length (rowsS (endL true v.T)), .int .i64 v.b, .int .i64 v.b, .int .i64 v.w, .rd 2 v.S.length (rowsS (endL true v.S))], .agg [.int .i64 x, .int .i64 set], .int .i64 wr] = some (True, .int .i64 (ang (endS true v) x set wr)) := by
  unfold F36
  simp only [Tof_end]
  refine congrArg some (Prod.ext (eq_true ⟨endL true v.T, endL true v.S, endL_len.symm, rfl, endL_len.symm, rfl, endS_ok (b := true) hok, endS_rdg (b := true) hr, h.1, h.2⟩) rfl)
theorem ang_f {v : Sx} {x set : Int} : ang (endS false v) x set (-v.w) = (rdS v x set).1 := endS_ang (b := false)
theorem ang_t {v : Sx} {x set : Int} : ang (endS true v) x set v.w = (rdS v x set).2 := endS_ang (b := true)
theorem rdE_eq {v : Sx} {x set : Int} : rdE v x set = 0 ↔ v.ok ∧ v.rdg x set := by
  unfold rdE
  by_cases h1 : v.ok
  · by_cases h2 : v.rdg x set
    · simp [h1, h2]
    · simp [h1, h2]
  · simp [h1]
theorem okF {v : Sx} (hok : v.ok) : (1 ≤ v.step ∧ v.step ≤ 72000) ∧ (2 ≤ (v.T.length : Int) ∧ (v.T.length : Int) ≤ 12) ∧ v.step * ((v.T.length : Int) - 1) ≤ 504000 ∧ (0 ≤ v.w ∧ v.w ≤ 60) ∧ ∀ x set : Int, v.rdg x set → rdV v x set = rdS v x set :=
  ⟨hok.1.1, hok.1.2.1, hok.1.2.2.2, hok.2.2.1, fun x set h => by unfold rdV; rw [if_pos ⟨hok, h⟩]⟩
def C8 : PC := fun args K => ∃ (v : Sx) (x set : Int), args = [v.sv, .agg [.int .i64 x, .int .i64 set]] ∧ K (.lit (.bool true))
attribute [local irreducible] Sx.ok Sx.sv rdV rdE ang rdS
set_option maxHeartbeats 4000000 in
theorem p8 (p21 : PureOk Try.prog 21 (fcC F21)) (q21 : Known Try.prog 21) : PureOk Try.prog 8 C8 := by
  refine pure_of (T := [(15, .pc C15), (32, .pc C32), (33, .fc Fin), (21, .fc F21), (39, .fc F39), (40, .fc Fto), (36, .fc F36)])
    ⟨⟨p15, q15⟩, ⟨p32, q32⟩, ⟨p33, q33⟩, ⟨p21, q21⟩, ⟨p39, q39⟩, ⟨p40, q40⟩, ⟨p36', q36⟩, trivial⟩ Try.func8 k8 ?_
  rintro args K ⟨v, x, set, rfl, hK⟩
  have fin : ∃ r', K r' ∧ leR 4 (.lit (.bool true)) r' := res hK (by simp [leR])
  rw [Sx.sv_eq]
  simp only [e_reg, e_seq, o_nil, o_cons, gd_none, putK_e, runK_e, vK_e, boxK_e, conK_e, callK_e, evh_v, evh_box, evh_call, seqK_n, gam_e, gamK_p, pc_e, pcK_e, evp, gt, st, putf, X.get, gets, ap, mkfr, rep, clV, clL, clS, clo, ld, lda, tk, dr, cs1, gb, pb, ln, lk, undef, Nat.reduceSub, Nat.reduceAdd, beq_self_eq_true, true_and, s8, r8]
  refine ⟨v, x, set, by rw [Sx.sv_eq], ?_⟩
  by_cases hg : v.ok ∧ v.rdg x set
  · have he : rdE v x set = 0 := rdE_eq.2 hg
    obtain ⟨hok, hr⟩ := hg
    rw [he]
    simp only [gdK_bff, decide_true, e_reg, and_self, e_seq, o_nil, o_cons, gd_none, gd_some, gdK_ff, putK_e, runK_e, vK_e, storeK3_e, storeK2_e, storeK_e, conK_e, callK_e, evh_v, evh_new, evh_store, evh_call, seqK_n, gam_e, gamK_p, pc_e, pcK_e, evp, bin, gt, gq, st, putf, X.get, gets, ap, clV, clL, clS, clo, ld, lda, tk, dr, sp, sp.spl, ll, cs1, one, allOne, gb, sb, pb, ln, lk, Bool.and_true, Bool.not_true, Nat.reduceAdd, Nat.reduceBEq, beq_self_eq_true, true_and]
    refine ⟨v, by rw [Sx.sv_eq], ?_⟩
    rw [decide_eq_true hok]
    obtain ⟨hst, hs12, hs5, hw60, hb⟩ := okF hok
    have hst2 : 0 ≤ v.step * ((v.T.length : Int) - 1) := Int.mul_nonneg (by omega) (by omega)
    have hr1 : (0 ≤ x ∧ x ≤ v.step * ((v.T.length : Int) - 1)) = True := by simp [hr.1]
    have htr := rdV_bnd v x set
    rw [hb x set hr] at htr ⊢
    simp only [gdK_bff, condK_bf, decide_true, inr64, e_skip, e_tre, t_op, e_seq, e_cond, o_nil, o_cons, gd_none, gd_some, gdK_ff, putK_e, runK_e, vK_e, conK_e, callK_e, evh_v, evh_call, seqK_n, gam_e, gamK_f, pc_e, pcK_e, fcC_e, fcK_e, evp, bin, gt, gq, st, putf, X.get, gets, ap, clV, clL, clS, clo, ld, lda, lens, gb, lk, Bool.not_true, Nat.reduceAdd, Nat.reduceBEq, beq_self_eq_true, true_and, Fin, hr1]
    refine ⟨by omega, by omega, ?_⟩
    have hT12 : (v.T.length ≤ 12) = True := by simp; omega
    have hS12 : (v.S.length ≤ 12) = True := by simp; have := (ok_all hok).1; omega
    simp (maxSteps := 3000000) only [inr64, ↓reduceIte, e_tre, t_leaf, t_stop, t_op, and_self, e_drw, e_seq, o_nil, o_cons, gd_none, putK_e, runK_e, vK_e, bslK_e, storeK3_e, storeK2_e, storeK_e, conK_e, callK_e, evh_v, evh_new, evh_bsl, evh_store, evh_call, dX_e, dG_t, d_cons, seqK_n, gam_e, gamK_f, gamq_e, gamqK_f, pc_e, pcK_e, fcC_e, fcK_e, evp, gt, gq, st, putf, X.get, gets, getp, ap, clV, clL, clS, clo, clo.clos, ld, lda, ixs, tk, dr, sp, sp.spl, lay, ll, cs1, one, allOne, gb, sb, pb, ln, lk, evq, gdl, Value.oneCell', Bool.and_true, Nat.reduceAdd, Nat.reduceMul, Nat.reduceDiv, Nat.reduceBEq, beq_self_eq_true, true_and, and_true, hT12, hS12, rows_ok, toInts, one_ok, Tof_one, endL_f, endL_t, rows_one, Int.reduceToNat, Nat.reduceLeDiff, Int.natCast_one, Int.reduceLE, Int.reduceLT, tn, o8_0, o8_1, o8_2, o8_3, o8_4, o8_5, o8_6, o8_7, o8_8, o8_9, o8_10, o8_11, o8_12, o8_13, o8_14, o8_15, o8_16, o8_17, o8_18, o8_19, o8_20, o8_21, o8_22, o8_23, o8_24, o8_25, o8_26, o8_27, o8_28, o8_29, o8_30, o8_31, o8_32, o8_33, F39, Tof_rows]
    have g1 := F36_f (wr := -v.w) hok hr (by omega)
    have g2 := F36_t (wr := v.w) hok hr (by omega)
    rw [ang_f] at g1
    rw [ang_t] at g2
    simp (maxSteps := 3000000) only [gdK_btt, decide_true, and_self, e_ret, o_nil, o_cons, gd_none, gd_some, putK_e, runK_e, vK_e, conK_e, callK_e, evh_v, evh_call, dX_e, dG_t, d_nil, d_cons, tlK_n, seqK_n, ends_r, endK1_e, endK2_e, gam_e, gamK_f, gamq_e, gamqK_f, pc_e, pcK_e, fcC_e, fcK_e, evp, fit, InQ, gt, gq, st, putf, X.get, gets, ap, rdR, tupled, clV, clL, clS, clo, clo.clos, ld, lda, tk, dr, gb, lk, evq, gdl, Bool.and_true, Bool.not_true, cond_false, Nat.reduceAdd, Nat.reduceBEq, beq_self_eq_true, true_and, and_true, g1, g2, Fto, F21, eq_self]
    exact ⟨by omega, by omega, fin⟩
  · have he : rdE v x set ≠ 0 := fun h => hg (rdE_eq.1 h)
    have hv : rdV v x set = (0, 0) := by unfold rdV; rw [if_neg hg]
    rw [hv]
    simp only [gdK_btt, gdK_bft, decide_true, decide_false, e_reg, and_self, e_seq, e_cond, e_ret, o_nil, o_cons, gd_none, gd_some, gdK_tt, gdK_tf, putK_e, runK_e, skipK_e, vK_e, bldK_e, storeK3_e, storeK2_e, storeK_e, conK_e, callK_e, evh_v, evh_new, evh_bld, evh_store, evh_call, seqK_n, seqK_r, condK_t, ends_r, endK1_e, endK2_e, gam_e, gamK_f, pc_e, pcK_e, fcC_e, fcK_e, evp, fit, InQ, bin, gt, gq, st, putf, X.get, gets, getp, ap, rdR, tupled, clV, clL, clS, clo, ld, lda, tk, dr, sp, sp.spl, lay, ll, cs1, one, allOne, gb, sb, pb, ln, lk, undef, Bool.and_true, Bool.not_true, Bool.not_false, cond_false, Nat.reduceAdd, Nat.reduceBEq, beq_self_eq_true, true_and, and_true, F21, he]
    exact ⟨by omega, fin⟩
end Go.Proofs.Ytjagiieconpgbaa
