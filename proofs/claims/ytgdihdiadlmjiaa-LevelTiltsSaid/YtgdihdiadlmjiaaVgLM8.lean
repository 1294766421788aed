import Derived.Test.YtgdihdiadlmjiaaVgLM7
set_option linter.unusedSimpArgs false
set_option linter.unusedVariables false
namespace Go.Proofs.Ytgdihdiadlmjiaa
open Go Go.Vg
set_option maxRecDepth 10000
def tn (o : Opr) (t : DT) : DT := .op o t .stop
def o21_0 : Opr := ⟨(some 6), none, .v (.mov (.c (.int .i64 (0))))⟩
def o21_1 : Opr := ⟨(some 20), none, .v (.load (.t 2) (some 8))⟩
def o21_2 : Opr := ⟨(some 22), none, .call (.c (.fn 53 [])) [(.t 21)]⟩
def o21_3 : Opr := ⟨(some 23), none, .call (.c (.fn 58 [])) [(.t 20), (.t 22)]⟩
def o21_4 : Opr := ⟨(some 19), none, .v (.mov (.t 23))⟩
def o21_5 : Opr := ⟨(some 24), none, .v (.ext (.t 19) 0)⟩
def o21_6 : Opr := ⟨(some 25), none, .v (.ext (.t 19) 1)⟩
def o21_7 : Opr := ⟨(some 26), none, .v (.ext (.t 19) 2)⟩
def o21_8 : Opr := ⟨(some 8), none, .new 23 [(.int .i64 (0)), (.int .i64 (0))]⟩
def o21_9 : Opr := ⟨(some 9), none, .new 23 [(.int .i64 (0)), (.int .i64 (0))]⟩
def o21_10 : Opr := ⟨none, none, .store 2 (.t 8) (.t 24)⟩
def o21_11 : Opr := ⟨none, none, .store 2 (.t 9) (.t 25)⟩
def o21_12 : Opr := ⟨(some 10), none, .v (.mov (.t 26))⟩
def o21_13 : Opr := ⟨(some 32), none, .v (.load (.t 9) (some 2))⟩
def o21_14 : Opr := ⟨none, none, .store 2 (.t 4) (.t 31)⟩
def o21_15 : Opr := ⟨none, none, .store 2 (.t 5) (.t 32)⟩
def s21 : SC :=
 (.seq (.reg [⟨(some 2), none, .box 25 (.t 0)⟩,
  ⟨(some 4), none, .new 23 [(.int .i64 (0)), (.int .i64 (0))]⟩,
  ⟨(some 5), none, .new 23 [(.int .i64 (0)), (.int .i64 (0))]⟩,
  o21_0])
 (.seq (.seq (.reg [⟨(some 11), none, .v (.load (.t 2) (some 8))⟩,
  ⟨(some 12), none, .v (.mov (.t 1))⟩,
  ⟨(some 13), none, .call (.c (.fn 51 [])) [(.t 11), (.t 12)]⟩,
  ⟨(some 7), none, .v (.mov (.t 13))⟩])
 (.seq (.reg [⟨(some 14), none, .v (.mov (.t 7))⟩,
  ⟨(some 15), none, .v (.bin .neq (.t 14) (.c (.int .i64 (0))))⟩])
 (.cond (.t 15)
  (.seq (.reg [⟨(some 16), none, .bld [(.int .i64 (0)), (.int .i64 (0))] []⟩,
   ⟨(some 17), none, .bld [(.int .i64 (0)), (.int .i64 (0))] []⟩,
   ⟨(some 18), none, .v (.mov (.t 7))⟩,
   ⟨none, none, .store 2 (.t 4) (.t 16)⟩,
   ⟨none, none, .store 2 (.t 5) (.t 17)⟩,
   ⟨(some 6), none, .v (.mov (.t 18))⟩])
  .ret)
  .skip)))
 (.seq (.tre (tn ⟨(some 21), none, .v (.mov (.t 1))⟩ (.op o21_1 (.op o21_2 (.op o21_3 (tn o21_4 (tn o21_5 (tn o21_6 (tn o21_7 (.op o21_8 (tn o21_9 (tn o21_10
 (tn o21_11 (tn o21_12 .leaf)))) (tn o21_9 (tn o21_8 (tn o21_10 (tn o21_11 (tn o21_12 .leaf)))))))))) (.op o21_8 (.op o21_3 (tn o21_4 (tn o21_5 (tn o21_6
 (tn o21_7 (tn o21_9 (tn o21_10 (tn o21_11 (tn o21_12 .leaf)))))))) (tn o21_9 (tn o21_3 (tn o21_4 (tn o21_5 (tn o21_6 (tn o21_7 (tn o21_10 (tn o21_11 (tn
 o21_12 .leaf)))))))))) (tn o21_9 (.op o21_3 (tn o21_4 (tn o21_5 (tn o21_6 (tn o21_7 (tn o21_8 (tn o21_10 (tn o21_11 (tn o21_12 .leaf)))))))) (tn o21_8
 (tn o21_3 (tn o21_4 (tn o21_5 (tn o21_6 (tn o21_7 (tn o21_10 (tn o21_11 (tn o21_12 .leaf))))))))))))) (.op o21_8 (.op o21_2 (.op o21_3 (tn o21_4 (tn o21_5
 (tn o21_6 (tn o21_7 (tn o21_9 (tn o21_10 (tn o21_11 (tn o21_12 .leaf)))))))) (tn o21_9 (tn o21_3 (tn o21_4 (tn o21_5 (tn o21_6 (tn o21_7 (tn o21_10 (tn
 o21_11 (tn o21_12 .leaf)))))))))) (tn o21_9 (tn o21_2 (tn o21_3 (tn o21_4 (tn o21_5 (tn o21_6 (tn o21_7 (tn o21_10 (tn o21_11 (tn o21_12 .leaf)))))))))))
 (tn o21_9 (.op o21_2 (.op o21_3 (tn o21_4 (tn o21_5 (tn o21_6 (tn o21_7 (tn o21_8 (tn o21_10 (tn o21_11 (tn o21_12 .leaf)))))))) (tn o21_8 (tn o21_3 (tn
 o21_4 (tn o21_5 (tn o21_6 (tn o21_7 (tn o21_10 (tn o21_11 (tn o21_12 .leaf)))))))))) (tn o21_8 (tn o21_2 (tn o21_3 (tn o21_4 (tn o21_5 (tn o21_6 (tn o21_7
 (tn o21_10 (tn o21_11 (tn o21_12 .leaf)))))))))))))) (.op o21_2 (.op o21_1 (.op o21_3 (tn o21_4 (tn o21_5 (tn o21_6 (tn o21_7 (.op o21_8 (tn o21_9 (tn
 o21_10 (tn o21_11 (tn o21_12 .leaf)))) (tn o21_9 (tn o21_8 (tn o21_10 (tn o21_11 (tn o21_12 .leaf)))))))))) (.op o21_8 (.op o21_3 (tn o21_4 (tn o21_5 (tn
 o21_6 (tn o21_7 (tn o21_9 (tn o21_10 (tn o21_11 (tn o21_12 .leaf)))))))) (tn o21_9 (tn o21_3 (tn o21_4 (tn o21_5 (tn o21_6 (tn o21_7 (tn o21_10 (tn o21_11
 (tn o21_12 .leaf)))))))))) (tn o21_9 (.op o21_3 (tn o21_4 (tn o21_5 (tn o21_6 (tn o21_7 (tn o21_8 (tn o21_10 (tn o21_11 (tn o21_12 .leaf)))))))) (tn o21_8
 (tn o21_3 (tn o21_4 (tn o21_5 (tn o21_6 (tn o21_7 (tn o21_10 (tn o21_11 (tn o21_12 .leaf))))))))))))) (.op o21_8 (.op o21_1 (.op o21_3 (tn o21_4 (tn o21_5
 (tn o21_6 (tn o21_7 (tn o21_9 (tn o21_10 (tn o21_11 (tn o21_12 .leaf)))))))) (tn o21_9 (tn o21_3 (tn o21_4 (tn o21_5 (tn o21_6 (tn o21_7 (tn o21_10 (tn
 o21_11 (tn o21_12 .leaf)))))))))) (tn o21_9 (tn o21_1 (tn o21_3 (tn o21_4 (tn o21_5 (tn o21_6 (tn o21_7 (tn o21_10 (tn o21_11 (tn o21_12 .leaf)))))))))))
 (tn o21_9 (.op o21_1 (.op o21_3 (tn o21_4 (tn o21_5 (tn o21_6 (tn o21_7 (tn o21_8 (tn o21_10 (tn o21_11 (tn o21_12 .leaf)))))))) (tn o21_8 (tn o21_3 (tn
 o21_4 (tn o21_5 (tn o21_6 (tn o21_7 (tn o21_10 (tn o21_11 (tn o21_12 .leaf)))))))))) (tn o21_8 (tn o21_1 (tn o21_3 (tn o21_4 (tn o21_5 (tn o21_6 (tn o21_7
 (tn o21_10 (tn o21_11 (tn o21_12 .leaf)))))))))))))) (.op o21_8 (.op o21_1 (.op o21_2 (.op o21_3 (tn o21_4 (tn o21_5 (tn o21_6 (tn o21_7 (tn o21_9 (tn
 o21_10 (tn o21_11 (tn o21_12 .leaf)))))))) (tn o21_9 (tn o21_3 (tn o21_4 (tn o21_5 (tn o21_6 (tn o21_7 (tn o21_10 (tn o21_11 (tn o21_12 .leaf))))))))))
 (tn o21_9 (tn o21_2 (tn o21_3 (tn o21_4 (tn o21_5 (tn o21_6 (tn o21_7 (tn o21_10 (tn o21_11 (tn o21_12 .leaf))))))))))) (.op o21_2 (.op o21_1 (.op o21_3
 (tn o21_4 (tn o21_5 (tn o21_6 (tn o21_7 (tn o21_9 (tn o21_10 (tn o21_11 (tn o21_12 .leaf)))))))) (tn o21_9 (tn o21_3 (tn o21_4 (tn o21_5 (tn o21_6 (tn
 o21_7 (tn o21_10 (tn o21_11 (tn o21_12 .leaf)))))))))) (tn o21_9 (tn o21_1 (tn o21_3 (tn o21_4 (tn o21_5 (tn o21_6 (tn o21_7 (tn o21_10 (tn o21_11 (tn
 o21_12 .leaf))))))))))) (tn o21_9 (.op o21_1 (tn o21_2 (tn o21_3 (tn o21_4 (tn o21_5 (tn o21_6 (tn o21_7 (tn o21_10 (tn o21_11 (tn o21_12 .leaf)))))))))
 (tn o21_2 (tn o21_1 (tn o21_3 (tn o21_4 (tn o21_5 (tn o21_6 (tn o21_7 (tn o21_10 (tn o21_11 (tn o21_12 .leaf)))))))))))))) (tn o21_9 (.op o21_1 (.op o21_2
 (.op o21_3 (tn o21_4 (tn o21_5 (tn o21_6 (tn o21_7 (tn o21_8 (tn o21_10 (tn o21_11 (tn o21_12 .leaf)))))))) (tn o21_8 (tn o21_3 (tn o21_4 (tn o21_5 (tn
 o21_6 (tn o21_7 (tn o21_10 (tn o21_11 (tn o21_12 .leaf)))))))))) (tn o21_8 (tn o21_2 (tn o21_3 (tn o21_4 (tn o21_5 (tn o21_6 (tn o21_7 (tn o21_10 (tn o21_11
 (tn o21_12 .leaf))))))))))) (.op o21_2 (.op o21_1 (.op o21_3 (tn o21_4 (tn o21_5 (tn o21_6 (tn o21_7 (tn o21_8 (tn o21_10 (tn o21_11 (tn o21_12 .leaf))))))))
 (tn o21_8 (tn o21_3 (tn o21_4 (tn o21_5 (tn o21_6 (tn o21_7 (tn o21_10 (tn o21_11 (tn o21_12 .leaf)))))))))) (tn o21_8 (tn o21_1 (tn o21_3 (tn o21_4 (tn
 o21_5 (tn o21_6 (tn o21_7 (tn o21_10 (tn o21_11 (tn o21_12 .leaf))))))))))) (tn o21_8 (.op o21_1 (tn o21_2 (tn o21_3 (tn o21_4 (tn o21_5 (tn o21_6 (tn
 o21_7 (tn o21_10 (tn o21_11 (tn o21_12 .leaf))))))))) (tn o21_2 (tn o21_1 (tn o21_3 (tn o21_4 (tn o21_5 (tn o21_6 (tn o21_7 (tn o21_10 (tn o21_11 (tn o21_12
 .leaf))))))))))))))))))))
 (.seq (.seq (.reg [⟨(some 27), none, .v (.mov (.t 10))⟩,
  ⟨(some 28), none, .v (.not (.t 27))⟩])
 (.cond (.t 28)
  (.seq (.reg [⟨(some 29), none, .bld [(.int .i64 (0)), (.int .i64 (0))] []⟩,
   ⟨(some 30), none, .bld [(.int .i64 (0)), (.int .i64 (0))] []⟩,
   ⟨none, none, .store 2 (.t 4) (.t 29)⟩,
   ⟨none, none, .store 2 (.t 5) (.t 30)⟩,
   ⟨(some 6), none, .v (.mov (.c (.int .i64 (33))))⟩])
  .ret)
  .skip))
 (.seq (.tre (.op ⟨(some 31), none, .v (.load (.t 8) (some 2))⟩ (.op o21_13 (tn o21_14 (tn o21_15 (tn o21_0 .leaf))) (tn o21_14 (tn o21_13 (tn o21_15 (tn o21_0
 .leaf))))) (tn o21_13 (tn ⟨(some 31), none, .v (.load (.t 8) (some 2))⟩ (tn o21_14 (tn o21_15 (tn o21_0 .leaf)))))))
 .ret)))))
def r21 : List RV := [.c 4 (some 2), .c 5 (some 2), .t 6]
theorem k21 : (Try.f21.body.bind (cC Try.prog), cR Try.prog Try.f21.results.toList, Try.f21.ntmps) = (some s21, some r21, 33) := by kernel_rfl
theorem q21 : Known Try.prog 21 := ⟨_, Try.func21, by decide, by simp [Try.f21]⟩
def s3 : SC :=
 (.seq (.reg [⟨(some 3), none, .box 25 (.t 0)⟩,
  ⟨(some 5), none, .box 28 (.t 2)⟩,
  ⟨(some 6), none, .v (.mov (.c (.lit (.bool false))))⟩])
 (.seq (.reg [⟨(some 16), none, .v (.load (.t 3) (some 8))⟩,
  ⟨(some 17), none, .v (.mov (.t 1))⟩,
  ⟨(some 18), none, .v (.load (.t 5) (some 3))⟩,
  ⟨(some 19), none, .call (.c (.fn 16 [])) [(.t 16), (.t 17), (.t 18)]⟩,
  ⟨(some 15), none, .v (.mov (.t 19))⟩,
  ⟨(some 20), none, .v (.ext (.t 15) 0)⟩,
  ⟨(some 21), none, .v (.ext (.t 15) 1)⟩,
  ⟨(some 7), none, .v (.mov (.t 20))⟩,
  ⟨(some 8), none, .v (.mov (.t 21))⟩])
 (.seq (.reg [⟨(some 23), none, .v (.load (.t 3) (some 8))⟩,
  ⟨(some 24), none, .v (.mov (.t 1))⟩,
  ⟨(some 25), none, .v (.load (.t 5) (some 3))⟩,
  ⟨(some 26), none, .call (.c (.fn 17 [])) [(.t 23), (.t 24), (.t 25)]⟩,
  ⟨(some 22), none, .v (.mov (.t 26))⟩,
  ⟨(some 27), none, .v (.ext (.t 22) 0)⟩,
  ⟨(some 28), none, .v (.ext (.t 22) 1)⟩,
  ⟨(some 9), none, .v (.mov (.t 27))⟩,
  ⟨(some 10), none, .v (.mov (.t 28))⟩])
 (.seq (.seq (.drw [(0, ⟨(some 29), none, .v (.mov (.t 7))⟩, false),
  (1, ⟨(some 30), none, .v (.mov (.t 9))⟩, false),
  (2, ⟨(some 31), none, .v (.binb .neq (.t 29) (.t 30))⟩, false),
  (3, ⟨(some 32), none, .v (.mov (.t 31))⟩, true),
  (4, ⟨(some 33), (some (32, false)), .v (.mov (.t 8))⟩, false),
  (5, ⟨(some 34), (some (32, false)), .v (.mov (.t 10))⟩, false),
  (6, ⟨(some 35), (some (32, false)), .v (.bin .neq (.t 33) (.t 34))⟩, false),
  (7, ⟨(some 36), none, .v (.pick (.t 32) (.c (.lit (.bool true))) (.t 35))⟩, false),
  (8, ⟨(some 37), none, .v (.mov (.t 36))⟩, true),
  (9, ⟨(some 38), (some (37, false)), .v (.load (.t 3) (some 8))⟩, false),
  (10, ⟨(some 39), (some (37, false)), .call (.c (.fn 18 [])) [(.t 38)]⟩, false),
  (11, ⟨(some 40), (some (37, false)), .v (.load (.t 3) (some 8))⟩, false)]
  none
  [⟨(some 41), (some (37, false)), .call (.c (.fn 19 [])) [(.t 40)]⟩,
  ⟨(some 42), (some (37, false)), .v (.bin .neq (.t 39) (.t 41))⟩,
  ⟨(some 43), none, .v (.pick (.t 37) (.c (.lit (.bool true))) (.t 42))⟩])
 (.cond (.t 43)
  (.seq (.reg [⟨(some 6), none, .v (.mov (.c (.lit (.bool false))))⟩])
  .ret)
  .skip))
 (.seq (.reg [⟨(some 45), none, .v (.load (.t 3) (some 8))⟩,
  ⟨(some 46), none, .v (.mov (.t 1))⟩,
  ⟨(some 47), none, .call (.c (.fn 20 [])) [(.t 45), (.t 46)]⟩,
  ⟨(some 44), none, .v (.mov (.t 47))⟩,
  ⟨(some 48), none, .v (.ext (.t 44) 0)⟩,
  ⟨(some 49), none, .v (.ext (.t 44) 1)⟩,
  ⟨(some 50), none, .v (.ext (.t 44) 2)⟩,
  ⟨(some 11), none, .new 23 [(.int .i64 (0)), (.int .i64 (0))]⟩,
  ⟨(some 12), none, .new 23 [(.int .i64 (0)), (.int .i64 (0))]⟩,
  ⟨none, none, .store 2 (.t 11) (.t 48)⟩,
  ⟨none, none, .store 2 (.t 12) (.t 49)⟩,
  ⟨(some 8), none, .v (.mov (.t 50))⟩])
 (.seq (.reg [⟨(some 52), none, .v (.load (.t 3) (some 8))⟩,
  ⟨(some 53), none, .v (.mov (.t 1))⟩,
  ⟨(some 54), none, .call (.c (.fn 21 [])) [(.t 52), (.t 53)]⟩,
  ⟨(some 51), none, .v (.mov (.t 54))⟩,
  ⟨(some 55), none, .v (.ext (.t 51) 0)⟩,
  ⟨(some 56), none, .v (.ext (.t 51) 1)⟩,
  ⟨(some 57), none, .v (.ext (.t 51) 2)⟩,
  ⟨(some 13), none, .new 23 [(.int .i64 (0)), (.int .i64 (0))]⟩,
  ⟨(some 14), none, .new 23 [(.int .i64 (0)), (.int .i64 (0))]⟩,
  ⟨none, none, .store 2 (.t 13) (.t 55)⟩,
  ⟨none, none, .store 2 (.t 14) (.t 56)⟩,
  ⟨(some 10), none, .v (.mov (.t 57))⟩])
 (.seq (.reg [⟨(some 58), none, .v (.load (.t 11) (some 2))⟩,
  ⟨(some 59), none, .v (.load (.t 13) (some 2))⟩,
  ⟨(some 60), none, .v (.eqs [(some .i64), (some .i64)] false (.t 58) (.t 59))⟩,
  ⟨(some 61), none, .v (.mov (.t 60))⟩,
  ⟨(some 62), (some (61, true)), .v (.load (.t 12) (some 2))⟩,
  ⟨(some 63), (some (61, true)), .v (.load (.t 14) (some 2))⟩,
  ⟨(some 64), (some (61, true)), .v (.eqs [(some .i64), (some .i64)] false (.t 62) (.t 63))⟩,
  ⟨(some 65), none, .v (.pick (.t 61) (.t 64) (.c (.lit (.bool false))))⟩,
  ⟨(some 66), none, .v (.mov (.t 65))⟩,
  ⟨(some 67), (some (66, true)), .v (.mov (.t 8))⟩,
  ⟨(some 68), (some (66, true)), .v (.mov (.t 10))⟩,
  ⟨(some 69), (some (66, true)), .v (.bin .eql (.t 67) (.t 68))⟩,
  ⟨(some 70), none, .v (.pick (.t 66) (.t 69) (.c (.lit (.bool false))))⟩,
  ⟨(some 71), none, .v (.mov (.t 70))⟩,
  ⟨(some 72), (some (71, true)), .call (.c (.fn 22 [])) []⟩,
  ⟨(some 73), none, .v (.pick (.t 71) (.t 72) (.c (.lit (.bool false))))⟩,
  ⟨(some 6), none, .v (.mov (.t 73))⟩])
 .ret)))))))
def r3 : List RV := [.t 6]
theorem k3 : (Try.f3.body.bind (cC Try.prog), cR Try.prog Try.f3.results.toList, Try.f3.ntmps) = (some s3, some r3, 74) := by kernel_rfl
def F58 : FC := fun args => match args with
 | [.agg [.int .i64 m, .int .i64 l1, .int .i64 l2, .int .i64 v1, .int .i64 v2, .int .i64 z1, .int .i64 z2, .int .i64 w], .rd 2 n f] => some ((Vl.ok ⟨m, l1, l2, v1, v2, z1, z2, w⟩ ∧ okM (decM n f)) ∧ ∀ j, j < n → f j = rowM (decM n f) j,
   .tup [.agg [.int .i64 (tzA ⟨m, l1, l2, v1, v2, z1, z2, w⟩ (decM n f)).t1, .int .i64 (tzA ⟨m, l1, l2, v1, v2, z1, z2, w⟩ (decM n f)).t2], .agg [.int .i64 (tzA ⟨m, l1, l2, v1, v2, z1, z2, w⟩ (decM n f)).u1, .int .i64 (tzA ⟨m, l1, l2, v1, v2, z1, z2, w⟩ (decM n f)).u2], .bool (tzA ⟨m, l1, l2, v1, v2, z1, z2, w⟩ (decM n f)).f])
 | _ => none
theorem p58f : PureOk Try.prog 58 (fcC F58) := by
 intro w im args vs K hb hv hC
 refine p58.le w im args vs K hb hv ?_
 unfold fcC F58 at hC
 split at hC <;> first | (exact hC.elim) | skip
 rename_i h
 split at h <;> first | (cases h; done) | skip
 rename_i m l1 l2 v1 v2 z1 z2 w n f
 cases h
 refine ⟨[Vl.sv ⟨m, l1, l2, v1, v2, z1, z2, w⟩, .rd 2 (decM n f).length (rowM (decM n f))], ⟨.inl (by simp [Vl.sv, leR, leR.leRs]), .inl ?_, trivial⟩, ⟨m, l1, l2, v1, v2, z1, z2, w⟩, _, rfl, hC.1.1, hC.2⟩
 rw [xDs]
 exact ⟨rfl, rfl, hC.1.2⟩
def F18 : FC := fun args => match args with
 | [.agg [.int .i64 m, .int .i64 l1, .int .i64 l2, .int .i64 v1, .int .i64 v2, .int .i64 z1, .int .i64 z2, .int .i64 w]] => some (True, .int .i64 (Vl.chk ⟨m, l1, l2, v1, v2, z1, z2, w⟩))
 | _ => none
theorem p18f : PureOk Try.prog 18 (fcC F18) := by
 intro w im args vs K him ha hC
 unfold fcC F18 at hC
 split at hC <;> first | (exact hC.elim) | skip
 rename_i h
 split at h <;> first | (cases h; done) | skip
 cases h
 exact p18 w im _ vs K him ha ⟨⟨_, _, _, _, _, _, _, _⟩, rfl, hC.2⟩
theorem p19g : PureOk Try.prog 19 (fcC F18) := by
 intro w im args vs K him ha hC
 unfold fcC F18 at hC
 split at hC <;> first | (exact hC.elim) | skip
 rename_i h
 split at h <;> first | (cases h; done) | skip
 cases h
 exact p19 w im _ vs K him ha ⟨⟨_, _, _, _, _, _, _, _⟩, rfl, hC.2⟩
theorem p17c : PureOk Try.prog 17 C16 := by
 intro w im args vs K him ha hC
 refine p17 w im args vs K him ha ?_
 obtain ⟨v, R, a, z, t, rfl, h1, h2, h3⟩ := hC
 refine ⟨v, R, a, z, t, rfl, h1, h2, fun h ht => ?_⟩
 obtain ⟨hv, hR⟩ := ask0 h
 rw [← agr_can hv hR ht]
 exact h3 h ht
theorem mid_M {v : Vl} (hv : v.ok) {R : List Rg} (hR : okRs v R) : (∀ e ∈ R, (0 ≤ e.1 ∧ e.1 ≤ 200) ∧ 0 ≤ e.2.1 ∧ e.2.1 ≤ 200) ∧ okM (R.map midR) := by
 have hv' := hv
 simp only [Vl.ok] at hv'
 have hRb : ∀ e ∈ R, (0 ≤ e.1 ∧ e.1 ≤ 200) ∧ 0 ≤ e.2.1 ∧ e.2.1 ≤ 200 := fun e he => by
  have h1 := hR.2 e he
  simp only [okR] at h1
  omega
 exact ⟨hRb, by have := hR.1; simp only [List.length_map]; omega, fun e he => by
  obtain ⟨r, hr, rfl⟩ := List.mem_map.1 he
  have := hRb r hr
  simp only [midR]
  omega⟩
set_option maxHeartbeats 8000000 in
theorem p21 : PureOk Try.prog 21 C20 := by
 refine pure_of (T := [(51, .pc C51), (53, .fc F53), (58, .fc F58)]) ⟨⟨p51, q51⟩, ⟨p53f, q53⟩, ⟨p58f, q58⟩, trivial⟩ Try.func21 k21 ?_
 rintro args K ⟨v, R, rfl, hK1, hK2, hK3⟩
 simp only [Vl.sv]
 simp only [xAn, xAp, xAm, xAb, xAa, xAc, xAd, vK_e, xBd, xAr, xAj, xAo, xAt, xAy, xAf, xAe, xAv, xBe, pc_e, xAx, evp, bin, gt, st, putf, X.get, gets, ap, mkfr, rep, clV, clL, clS, clo, ld, lda, tk, dr, cs1, gb, pb, ln, lk, undef, Nat.reduceSub, Nat.reduceAdd, beq_self_eq_true, true_and, s21, r21, tn, o21_0, o21_1, o21_2, o21_3, o21_4, o21_5, o21_6, o21_7, o21_8, o21_9, o21_10, o21_11, o21_12, o21_13, o21_14, o21_15]
 refine ⟨v, R, rfl, ?_⟩
 by_cases h : askI v R = 0
 ·have hF : (askI v R = 0) = True := eq_true h
  obtain ⟨hv, hR⟩ := ask0 h
  obtain ⟨hRb, hM⟩ := mid_M hv hR
  have hl : (R.length ≤ 8) = True := eq_true hR.1.2
  have c1 : Vl.ok ⟨v.m, v.l1, v.l2, v.v1, v.v2, v.z1, v.z2, v.w⟩ = True := eq_true hv
  have c2 : okM (R.map midR) = True := eq_true hM
  have c3 : (∀ e ∈ R, (0 ≤ e.1 ∧ e.1 ≤ 200) ∧ 0 ≤ e.2.1 ∧ e.2.1 ≤ 200) = True := eq_true hRb
  have htz := tz_tr hv hR
  obtain ⟨S, hS0⟩ : ∃ S, tzA v (R.map midR) = S := ⟨_, rfl⟩
  rw [hS0] at htz
  have hS : tzA ⟨v.m, v.l1, v.l2, v.v1, v.v2, v.z1, v.z2, v.w⟩ (R.map midR) = S := hS0
  obtain ⟨t1, t2, u1, u2, f⟩ := S
  cases f with
  | false =>
   have hK := hK2 h (htz.2 rfl)
   simp only [xBl, xBg, decide_true, xAw, xAn, xDi, xCs, xCt, t_op, and_self, xAp, xAu, xBa, xAm, xAb, xAa, xAc, xAd, vK_e, xBn, xAg, xAh, xAk, xAr, xAj, xAo, xAt, xBf, xAi, xAf, xAe, xBo, xAs, xAl, xAq, xAv, xAz, pc_e, xAx, xBh, xBi, evp, gt, gq, st, putf, X.get, gets, getp, ap, rdR, tupled, clV, clL, clS, clo, ld, lda, tk, dr, sp, sp.spl, lay, ll, cs1, one, allOne, gb, sb, pb, ln, lk, Bool.and_true, Bool.not_true, Bool.not_false, Nat.reduceAdd, Nat.reduceBEq, beq_self_eq_true, true_and, and_true, hF, hl, c1, c2, c3, F53, F58, xCn, xDf, hS, implies_true, and_self]
   exact res hK (by simp [leR, leR.leRs])
  | true =>
   have hn := htz.1 rfl
   have hK := hK3 h hn.2
   rw [hn.1] at hK
   simp only [xBg, decide_true, xAw, xAn, xDi, xCs, xCt, t_op, and_self, xAp, xAu, xBa, xAm, xAb, xAa, xAc, xAd, vK_e, xAg, xAh, xAk, xAr, xAj, xAo, xAt, xAi, xAf, xAe, xAs, xAl, xAq, xAv, xAz, pc_e, xAx, xBh, xBi, evp, gt, gq, st, putf, X.get, gets, ap, rdR, tupled, clV, clL, clS, clo, ld, lda, tk, dr, sp, sp.spl, ll, cs1, one, allOne, gb, sb, pb, ln, lk, Bool.and_true, Bool.not_true, Nat.reduceAdd, Nat.reduceBEq, beq_self_eq_true, true_and, and_true, hF, hl, c1, c2, c3, F53, F58, xCn, xDf, hS, implies_true, and_self]
   exact res hK (by simp [leR, leR.leRs, tzP])
 ·have hF : (askI v R = 0) = False := eq_false h
  have hK := hK1 h
  simp only [xBl, decide_false, xAn, and_self, xAp, xAu, xBa, xAm, xAb, xAa, xAc, xAd, vK_e, xBn, xAg, xAh, xAk, xAo, xBf, xAi, xAe, xBo, xAs, xAl, xAq, evp, gt, st, putf, X.get, getp, rdR, tupled, clV, clL, clS, clo, ld, tk, dr, sp, sp.spl, lay, ll, cs1, one, allOne, gb, sb, Bool.and_true, Bool.not_false, Nat.reduceAdd, true_and, hF]
  exact res hK (by simp [leR, leR.leRs])
def C3 : PC := C8
set_option maxHeartbeats 8000000 in
theorem p3 (p22 : PureOk Try.prog 22 (fcC F22)) (q22 : Known Try.prog 22) : PureOk Try.prog 3 C3 := by
 refine pure_of (T := [(16, .pc C16), (17, .pc C16), (18, .fc F18), (19, .fc F18), (20, .pc C20), (21, .pc C20), (22, .fc F22)]) ⟨⟨p16, q16⟩, ⟨p17c, q17⟩, ⟨p18f, q18⟩, ⟨p19g, q19⟩, ⟨p20, q20⟩, ⟨p21, q21⟩, ⟨p22, q22⟩, trivial⟩ Try.func3 k3 ?_
 rintro args K ⟨v, R, a, z, t, rfl, hK⟩
 simp only [Vl.sv]
 simp only [xAn, xAp, xAm, xAb, xAa, xAc, xAd, vK_e, xBd, xAr, xAj, xAo, xAy, xAf, xAe, xAv, xBe, pc_e, xAx, evp, gt, st, putf, X.get, gets, ap, mkfr, rep, clV, clL, clS, clo, ld, lda, tk, dr, cs1, gb, pb, ln, lk, undef, Nat.reduceSub, Nat.reduceAdd, beq_self_eq_true, true_and, s3, r3]
 refine ⟨v, R, a, z, t, rfl, fun h => ?_, fun h h2 => ?_, fun h h2 => ?_⟩
 ·simp only [xAn, xAp, xAm, xAb, xAa, xAc, xAd, vK_e, xAr, xAj, xAo, xAf, xAe, xAv, xBe, pc_e, xAx, evp, gt, gq, st, putf, X.get, gets, ap, clV, clL, clS, clo, ld, lda, tk, dr, gb, lk, Nat.reduceBEq, beq_self_eq_true, true_and]
  refine ⟨v, R, a, z, t, rfl, fun _ => ?_, fun h3 => absurd h3 h, fun h3 => absurd h3 h⟩
  simp only [dX_bf, xBg, decide_true, xAw, xAn, xCi, xAp, xAu, xAm, xAb, xAa, xBj, xDa, xAc, xAd, vK_e, xAr, xAj, xAo, xAf, dX_e, dG_t, xCj, xBt, xCm, xAe, xAv, xAz, xBe, xCa, xBs, pc_e, xAx, xBh, xBi, evp, bin, binB, gt, gq, st, putf, X.get, gets, ap, clV, clL, clS, clo, clo.clos, asB, ld, lda, tk, dr, gb, lk, evq, gdl, Bool.and_true, Bool.not_true, Bool.not_false, Nat.reduceBEq, beq_self_eq_true, true_and, F18]
  refine ⟨v, R, rfl, fun _ => ?_, fun h3 => absurd h3 h, fun h3 => absurd h3 h⟩
  simp only [xAn, and_self, xAp, xAm, xAb, xAa, xAc, xAd, vK_e, xAg, xAh, xAk, xAr, xAj, xAo, xAt, xAi, xAf, xAe, xAv, xBe, pc_e, xAx, evp, gt, gq, st, putf, X.get, gets, ap, clV, clL, clS, clo, ld, lda, tk, dr, sp, sp.spl, ll, cs1, one, allOne, gb, sb, pb, ln, lk, Bool.and_true, Nat.reduceAdd, Nat.reduceBEq, beq_self_eq_true, true_and]
  refine ⟨v, R, rfl, fun _ => ?_, fun h3 => absurd h3 h, fun h3 => absurd h3 h⟩
  simp only [xCp, decide_true, xAn, and_self, xAp, xBa, xAm, xAb, xAa, xBj, xBx, xAc, xAd, vK_e, xAg, xAh, xAk, xAr, xAj, xAo, xAt, xAi, xAf, xAe, xAs, xAl, xAq, xAv, xAz, pc_e, xAx, xBh, xBi, evp, fit, InQ, bin, gt, gq, st, putf, X.get, gets, ap, rdR, tupled, clV, clL, clS, clo, ld, lda, tk, dr, sp, sp.spl, ll, cs1, one, allOne, gb, sb, pb, ln, lk, Bool.and_true, Bool.not_true, cond_false, Nat.reduceAdd, Nat.reduceBEq, beq_self_eq_true, true_and, and_true, F22]
  exact ⟨by omega, by omega, res hK (by simp [leR])⟩
 ·simp only [xAn, xAp, xAm, xAb, xAa, xAc, xAd, vK_e, xAr, xAj, xAo, xAf, xAe, xAv, xBe, pc_e, xAx, evp, gt, gq, st, putf, X.get, gets, ap, clV, clL, clS, clo, ld, lda, tk, dr, gb, lk, Nat.reduceBEq, beq_self_eq_true, true_and]
  refine ⟨v, R, a, z, t, rfl, fun h3 => absurd h h3, fun _ _ => ?_, fun _ h3 => absurd h3 h2⟩
  simp only [dX_bf, xBg, decide_true, xAw, xAn, xCi, xAp, xAu, xAm, xAb, xAa, xBj, xDa, xAc, xAd, vK_e, xAr, xAj, xAo, xAf, dX_e, dG_t, xCj, xBt, xCm, xAe, xAv, xAz, xBe, xCa, xBs, pc_e, xAx, xBh, xBi, evp, bin, binB, gt, gq, st, putf, X.get, gets, ap, clV, clL, clS, clo, clo.clos, asB, ld, lda, tk, dr, gb, lk, evq, gdl, Bool.and_true, Bool.not_true, Bool.not_false, Nat.reduceBEq, beq_self_eq_true, true_and, F18]
  refine ⟨v, R, rfl, fun h3 => absurd h h3, fun _ h4 => ?_, fun _ h4 => ?_⟩
  ·simp only [xAn, and_self, xAp, xAm, xAb, xAa, xAc, xAd, vK_e, xAg, xAh, xAk, xAr, xAj, xAo, xAt, xAi, xAf, xAe, xAv, xBe, pc_e, xAx, evp, gt, gq, st, putf, X.get, gets, ap, clV, clL, clS, clo, ld, lda, tk, dr, sp, sp.spl, ll, cs1, one, allOne, gb, sb, pb, ln, lk, Bool.and_true, Nat.reduceAdd, Nat.reduceBEq, beq_self_eq_true, true_and]
   refine ⟨v, R, rfl, fun h3 => absurd h h3, fun _ _ => ?_, fun _ h5 => absurd h4 h5⟩
   simp only [xCp, decide_true, xAn, and_self, xAp, xBa, xAm, xAb, xAa, xBj, xBx, xAc, xAd, vK_e, xAg, xAh, xAk, xAr, xAj, xAo, xAt, xAi, xAf, xAe, xAs, xAl, xAq, xAv, xAz, pc_e, xAx, xBh, xBi, evp, fit, InQ, bin, gt, gq, st, putf, X.get, gets, ap, rdR, tupled, clV, clL, clS, clo, ld, lda, tk, dr, sp, sp.spl, ll, cs1, one, allOne, gb, sb, pb, ln, lk, Bool.and_true, Bool.not_true, cond_false, Nat.reduceAdd, Nat.reduceBEq, beq_self_eq_true, true_and, and_true, F22]
   exact ⟨by omega, by omega, res hK (by simp [leR])⟩
  ·simp only [xAn, and_self, xAp, xAm, xAb, xAa, xAc, xAd, vK_e, xAg, xAh, xAk, xAr, xAj, xAo, xAt, xAi, xAf, xAe, xAv, xBe, pc_e, xAx, evp, gt, gq, st, putf, X.get, gets, ap, clV, clL, clS, clo, ld, lda, tk, dr, sp, sp.spl, ll, cs1, one, allOne, gb, sb, pb, ln, lk, Bool.and_true, Nat.reduceAdd, Nat.reduceBEq, beq_self_eq_true, true_and]
   refine ⟨v, R, rfl, fun h3 => absurd h h3, fun _ h5 => absurd h5 h4, fun _ _ => ?_⟩
   simp only [xCp, decide_true, xAn, and_self, xAp, xBa, xAm, xAb, xAa, xBj, xBx, xAc, xAd, vK_e, xAg, xAh, xAk, xAr, xAj, xAo, xAt, xAi, xAf, xAe, xAs, xAl, xAq, xAv, xAz, pc_e, xAx, xBh, xBi, evp, fit, InQ, bin, gt, gq, st, putf, X.get, gets, ap, rdR, tupled, clV, clL, clS, clo, ld, lda, tk, dr, sp, sp.spl, ll, cs1, one, allOne, gb, sb, pb, ln, lk, Bool.and_true, Bool.not_true, cond_false, Nat.reduceAdd, Nat.reduceBEq, beq_self_eq_true, true_and, and_true, F22]
   have hb2 := xDc (ask0 h).1 (ask0 h).2
   exact ⟨by omega, by omega, res hK (by simp [leR])⟩
 ·simp only [xAn, xAp, xAm, xAb, xAa, xAc, xAd, vK_e, xAr, xAj, xAo, xAf, xAe, xAv, xBe, pc_e, xAx, evp, gt, gq, st, putf, X.get, gets, ap, clV, clL, clS, clo, ld, lda, tk, dr, gb, lk, Nat.reduceBEq, beq_self_eq_true, true_and]
  refine ⟨v, R, a, z, t, rfl, fun h3 => absurd h h3, fun _ h3 => absurd h2 h3, fun _ _ => ?_⟩
  cases hb : agrB (Mp.mid v.w R).ev a z t
  ·simp only [dX_bf, xBg, decide_true, xAw, xAn, xCi, xAp, xAu, xAm, xAb, xAa, xBj, xDa, xAc, xAd, vK_e, xAr, xAj, xAo, xAf, dX_e, dG_t, xCj, xBt, xCm, xAe, xAv, xAz, xBe, xCa, xBs, pc_e, xAx, xBh, xBi, evp, bin, binB, gt, gq, st, putf, X.get, gets, ap, clV, clL, clS, clo, clo.clos, asB, ld, lda, tk, dr, gb, lk, evq, gdl, Bool.and_true, Bool.not_true, Bool.not_false, Nat.reduceBEq, beq_self_eq_true, true_and, F18]
   refine ⟨v, R, rfl, fun h3 => absurd h h3, fun _ h4 => ?_, fun _ h4 => ?_⟩
   ·simp only [xAn, and_self, xAp, xAm, xAb, xAa, xAc, xAd, vK_e, xAg, xAh, xAk, xAr, xAj, xAo, xAt, xAi, xAf, xAe, xAv, xBe, pc_e, xAx, evp, gt, gq, st, putf, X.get, gets, ap, clV, clL, clS, clo, ld, lda, tk, dr, sp, sp.spl, ll, cs1, one, allOne, gb, sb, pb, ln, lk, Bool.and_true, Nat.reduceAdd, Nat.reduceBEq, beq_self_eq_true, true_and]
    refine ⟨v, R, rfl, fun h3 => absurd h h3, fun _ _ => ?_, fun _ h5 => absurd h4 h5⟩
    simp only [xCp, decide_true, xAn, and_self, xAp, xBa, xAm, xAb, xAa, xBj, xBx, xAc, xAd, vK_e, xAg, xAh, xAk, xAr, xAj, xAo, xAt, xAi, xAf, xAe, xAs, xAl, xAq, xAv, xAz, pc_e, xAx, xBh, xBi, evp, fit, InQ, bin, gt, gq, st, putf, X.get, gets, ap, rdR, tupled, clV, clL, clS, clo, ld, lda, tk, dr, sp, sp.spl, ll, cs1, one, allOne, gb, sb, pb, ln, lk, Bool.and_true, Bool.not_true, cond_false, Nat.reduceAdd, Nat.reduceBEq, beq_self_eq_true, true_and, and_true, F22]
    exact ⟨by omega, by omega, res hK (by simp [leR])⟩
   ·simp only [xAn, and_self, xAp, xAm, xAb, xAa, xAc, xAd, vK_e, xAg, xAh, xAk, xAr, xAj, xAo, xAt, xAi, xAf, xAe, xAv, xBe, pc_e, xAx, evp, gt, gq, st, putf, X.get, gets, ap, clV, clL, clS, clo, ld, lda, tk, dr, sp, sp.spl, ll, cs1, one, allOne, gb, sb, pb, ln, lk, Bool.and_true, Nat.reduceAdd, Nat.reduceBEq, beq_self_eq_true, true_and]
    refine ⟨v, R, rfl, fun h3 => absurd h h3, fun _ h5 => absurd h5 h4, fun _ _ => ?_⟩
    simp only [xCp, decide_true, xAn, and_self, xAp, xBa, xAm, xAb, xAa, xBj, xBx, xAc, xAd, vK_e, xAg, xAh, xAk, xAr, xAj, xAo, xAt, xAi, xAf, xAe, xAs, xAl, xAq, xAv, xAz, pc_e, xAx, xBh, xBi, evp, fit, InQ, bin, gt, gq, st, putf, X.get, gets, ap, rdR, tupled, clV, clL, clS, clo, ld, lda, tk, dr, sp, sp.spl, ll, cs1, one, allOne, gb, sb, pb, ln, lk, Bool.and_true, Bool.not_true, cond_false, Nat.reduceAdd, Nat.reduceBEq, beq_self_eq_true, true_and, and_true, F22]
    have hb2 := xDc (ask0 h).1 (ask0 h).2
    exact ⟨by omega, by omega, res hK (by simp [leR])⟩
  ·simp only [dX_bf, xBg, decide_true, xAw, xAn, xCi, xAp, xAu, xAm, xAb, xAa, xBj, xDa, xAc, xAd, vK_e, xAr, xAj, xAo, xAf, dX_e, dG_t, xCj, xBt, xCm, xAe, xAv, xAz, xBe, xCa, xBs, pc_e, xAx, xBh, xBi, evp, bin, binB, gt, gq, st, putf, X.get, gets, ap, clV, clL, clS, clo, clo.clos, asB, ld, lda, tk, dr, gb, lk, evq, gdl, Bool.and_true, Bool.not_true, Bool.not_false, Nat.reduceBEq, beq_self_eq_true, true_and, F18]
   refine ⟨v, R, rfl, fun h3 => absurd h h3, fun _ h4 => ?_, fun _ h4 => ?_⟩
   ·simp only [xAn, and_self, xAp, xAm, xAb, xAa, xAc, xAd, vK_e, xAg, xAh, xAk, xAr, xAj, xAo, xAt, xAi, xAf, xAe, xAv, xBe, pc_e, xAx, evp, gt, gq, st, putf, X.get, gets, ap, clV, clL, clS, clo, ld, lda, tk, dr, sp, sp.spl, ll, cs1, one, allOne, gb, sb, pb, ln, lk, Bool.and_true, Nat.reduceAdd, Nat.reduceBEq, beq_self_eq_true, true_and]
    refine ⟨v, R, rfl, fun h3 => absurd h h3, fun _ _ => ?_, fun _ h5 => absurd h4 h5⟩
    simp only [xCp, decide_true, xAn, and_self, xAp, xBa, xAm, xAb, xAa, xBj, xBx, xAc, xAd, vK_e, xAg, xAh, xAk, xAr, xAj, xAo, xAt, xAi, xAf, xAe, xAs, xAl, xAq, xAv, xAz, pc_e, xAx, xBh, xBi, evp, fit, InQ, bin, gt, gq, st, putf, X.get, gets, ap, rdR, tupled, clV, clL, clS, clo, ld, lda, tk, dr, sp, sp.spl, ll, cs1, one, allOne, gb, sb, pb, ln, lk, Bool.and_true, Bool.not_true, cond_false, Nat.reduceAdd, Nat.reduceBEq, beq_self_eq_true, true_and, and_true, F22]
    exact ⟨by omega, by omega, res hK (by simp [leR])⟩
   ·simp only [xAn, and_self, xAp, xAm, xAb, xAa, xAc, xAd, vK_e, xAg, xAh, xAk, xAr, xAj, xAo, xAt, xAi, xAf, xAe, xAv, xBe, pc_e, xAx, evp, gt, gq, st, putf, X.get, gets, ap, clV, clL, clS, clo, ld, lda, tk, dr, sp, sp.spl, ll, cs1, one, allOne, gb, sb, pb, ln, lk, Bool.and_true, Nat.reduceAdd, Nat.reduceBEq, beq_self_eq_true, true_and]
    refine ⟨v, R, rfl, fun h3 => absurd h h3, fun _ h5 => absurd h5 h4, fun _ _ => ?_⟩
    simp only [xCp, decide_true, xAn, and_self, xAp, xBa, xAm, xAb, xAa, xBj, xBx, xAc, xAd, vK_e, xAg, xAh, xAk, xAr, xAj, xAo, xAt, xAi, xAf, xAe, xAs, xAl, xAq, xAv, xAz, pc_e, xAx, xBh, xBi, evp, fit, InQ, bin, gt, gq, st, putf, X.get, gets, ap, rdR, tupled, clV, clL, clS, clo, ld, lda, tk, dr, sp, sp.spl, ll, cs1, one, allOne, gb, sb, pb, ln, lk, Bool.and_true, Bool.not_true, cond_false, Nat.reduceAdd, Nat.reduceBEq, beq_self_eq_true, true_and, and_true, F22]
    have hb2 := xDc (ask0 h).1 (ask0 h).2
    exact ⟨by omega, by omega, res hK (by simp [leR])⟩
end Go.Proofs.Ytgdihdiadlmjiaa
