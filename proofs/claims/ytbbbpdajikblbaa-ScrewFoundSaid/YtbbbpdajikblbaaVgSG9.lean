import Derived.Test.YtbbbpdajikblbaaVgSG8
section
namespace Go.Proofs.Ytbbbpdajikblbaa
open Go Go.Vg
set_option linter.unusedSimpArgs false
set_option linter.unusedVariables false
set_option maxRecDepth 10000
def s101t1 : SC :=
 (.seq (.reg [⟨(some 21), none, .v (.mov (.t 6))⟩,
  ⟨(some 4), none, .v (.mov (.t 21))⟩])
 .ret)
def tn (o : Opr) (t : DT) : DT := .op o t .stop
def o101_0 : Opr := ⟨(some 8), none, .v (.load (.t 1) (some 2))⟩
def o101_1 : Opr := ⟨(some 9), none, .v (.load (.t 2) none)⟩
def o101_2 : Opr := ⟨(some 12), none, .slc (.t 9) none (some (.t 10)) (some (.t 11)) 6⟩
def o101_3 : Opr := ⟨(some 13), none, .v (.load (.t 2) none)⟩
def o101_4 : Opr := ⟨(some 16), none, .slc (.t 13) (some (.t 15)) none none 6⟩
def o101_5 : Opr := ⟨(some 17), none, .app 65 6 48 (.t 12) (.t 16)⟩
def o101_6 : Opr := ⟨(some 18), none, .call (.c (.fn 73 [])) [(.t 8), (.t 17)]⟩
def o101_7 : Opr := ⟨(some 7), none, .v (.mov (.t 18))⟩
def o101_8 : Opr := ⟨(some 19), none, .v (.ext (.t 7) 0)⟩
def o101_9 : Opr := ⟨(some 20), none, .v (.ext (.t 7) 1)⟩
def o101_10 : Opr := ⟨(some 5), none, .new 98 (List.replicate 72 (.int .i64 (0)))⟩
def o101_11 : Opr := ⟨none, none, .store 72 (.t 5) (.t 19)⟩
def o101_12 : Opr := ⟨(some 6), none, .v (.mov (.t 20))⟩
def s101 : SC :=
 (.seq (.reg [⟨(some 4), none, .v (.mov (.c (.lit (.bool false))))⟩])
 (.seq (.tre (tn ⟨(some 10), none, .v (.mov (.t 0))⟩ (tn ⟨(some 11), none, .v (.mov (.t 0))⟩ (tn ⟨(some 14), none, .v (.mov (.t 0))⟩ (tn ⟨(some 15), none, .v
 (.bin .add (.t 14) (.c (.int .i64 (1))))⟩ (.op o101_0 (.op o101_1 (.op o101_2 (.op o101_3 (.op o101_4 (.op o101_5 (.op o101_6 (tn o101_7 (tn o101_8 (tn
 o101_9 (tn o101_10 (tn o101_11 (tn o101_12 .leaf)))))) (tn o101_10 (tn o101_6 (tn o101_7 (tn o101_8 (tn o101_9 (tn o101_11 (tn o101_12 .leaf)))))))) (tn
 o101_10 (tn o101_5 (tn o101_6 (tn o101_7 (tn o101_8 (tn o101_9 (tn o101_11 (tn o101_12 .leaf))))))))) (tn o101_10 (tn o101_4 (tn o101_5 (tn o101_6 (tn
 o101_7 (tn o101_8 (tn o101_9 (tn o101_11 (tn o101_12 .leaf)))))))))) (tn o101_10 (tn o101_3 (tn o101_4 (tn o101_5 (tn o101_6 (tn o101_7 (tn o101_8 (tn
 o101_9 (tn o101_11 (tn o101_12 .leaf))))))))))) (.op o101_3 (.op o101_2 (.op o101_4 (.op o101_5 (.op o101_6 (tn o101_7 (tn o101_8 (tn o101_9 (tn o101_10
 (tn o101_11 (tn o101_12 .leaf)))))) (tn o101_10 (tn o101_6 (tn o101_7 (tn o101_8 (tn o101_9 (tn o101_11 (tn o101_12 .leaf)))))))) (tn o101_10 (tn o101_5
 (tn o101_6 (tn o101_7 (tn o101_8 (tn o101_9 (tn o101_11 (tn o101_12 .leaf))))))))) (tn o101_10 (tn o101_4 (tn o101_5 (tn o101_6 (tn o101_7 (tn o101_8 (tn
 o101_9 (tn o101_11 (tn o101_12 .leaf)))))))))) (.op o101_4 (.op o101_2 (.op o101_5 (.op o101_6 (tn o101_7 (tn o101_8 (tn o101_9 (tn o101_10 (tn o101_11
 (tn o101_12 .leaf)))))) (tn o101_10 (tn o101_6 (tn o101_7 (tn o101_8 (tn o101_9 (tn o101_11 (tn o101_12 .leaf)))))))) (tn o101_10 (tn o101_5 (tn o101_6
 (tn o101_7 (tn o101_8 (tn o101_9 (tn o101_11 (tn o101_12 .leaf))))))))) (tn o101_10 (tn o101_2 (tn o101_5 (tn o101_6 (tn o101_7 (tn o101_8 (tn o101_9 (tn
 o101_11 (tn o101_12 .leaf)))))))))) (tn o101_10 (.op o101_2 (tn o101_4 (tn o101_5 (tn o101_6 (tn o101_7 (tn o101_8 (tn o101_9 (tn o101_11 (tn o101_12 .leaf))))))))
 (tn o101_4 (tn o101_2 (tn o101_5 (tn o101_6 (tn o101_7 (tn o101_8 (tn o101_9 (tn o101_11 (tn o101_12 .leaf))))))))))))) (tn o101_10 (.op o101_2 (tn o101_3
 (tn o101_4 (tn o101_5 (tn o101_6 (tn o101_7 (tn o101_8 (tn o101_9 (tn o101_11 (tn o101_12 .leaf))))))))) (tn o101_3 (.op o101_2 (tn o101_4 (tn o101_5 (tn
 o101_6 (tn o101_7 (tn o101_8 (tn o101_9 (tn o101_11 (tn o101_12 .leaf)))))))) (tn o101_4 (tn o101_2 (tn o101_5 (tn o101_6 (tn o101_7 (tn o101_8 (tn o101_9
 (tn o101_11 (tn o101_12 .leaf))))))))))))))) (.op o101_3 (.op o101_1 (.op o101_2 (.op o101_4 (.op o101_5 (.op o101_6 (tn o101_7 (tn o101_8 (tn o101_9 (tn
 o101_10 (tn o101_11 (tn o101_12 .leaf)))))) (tn o101_10 (tn o101_6 (tn o101_7 (tn o101_8 (tn o101_9 (tn o101_11 (tn o101_12 .leaf)))))))) (tn o101_10 (tn
 o101_5 (tn o101_6 (tn o101_7 (tn o101_8 (tn o101_9 (tn o101_11 (tn o101_12 .leaf))))))))) (tn o101_10 (tn o101_4 (tn o101_5 (tn o101_6 (tn o101_7 (tn o101_8
 (tn o101_9 (tn o101_11 (tn o101_12 .leaf)))))))))) (.op o101_4 (.op o101_2 (.op o101_5 (.op o101_6 (tn o101_7 (tn o101_8 (tn o101_9 (tn o101_10 (tn o101_11
 (tn o101_12 .leaf)))))) (tn o101_10 (tn o101_6 (tn o101_7 (tn o101_8 (tn o101_9 (tn o101_11 (tn o101_12 .leaf)))))))) (tn o101_10 (tn o101_5 (tn o101_6
 (tn o101_7 (tn o101_8 (tn o101_9 (tn o101_11 (tn o101_12 .leaf))))))))) (tn o101_10 (tn o101_2 (tn o101_5 (tn o101_6 (tn o101_7 (tn o101_8 (tn o101_9 (tn
 o101_11 (tn o101_12 .leaf)))))))))) (tn o101_10 (.op o101_2 (tn o101_4 (tn o101_5 (tn o101_6 (tn o101_7 (tn o101_8 (tn o101_9 (tn o101_11 (tn o101_12 .leaf))))))))
 (tn o101_4 (tn o101_2 (tn o101_5 (tn o101_6 (tn o101_7 (tn o101_8 (tn o101_9 (tn o101_11 (tn o101_12 .leaf))))))))))))) (.op o101_4 (.op o101_1 (.op o101_2
 (.op o101_5 (.op o101_6 (tn o101_7 (tn o101_8 (tn o101_9 (tn o101_10 (tn o101_11 (tn o101_12 .leaf)))))) (tn o101_10 (tn o101_6 (tn o101_7 (tn o101_8 (tn
 o101_9 (tn o101_11 (tn o101_12 .leaf)))))))) (tn o101_10 (tn o101_5 (tn o101_6 (tn o101_7 (tn o101_8 (tn o101_9 (tn o101_11 (tn o101_12 .leaf)))))))))
 (tn o101_10 (tn o101_2 (tn o101_5 (tn o101_6 (tn o101_7 (tn o101_8 (tn o101_9 (tn o101_11 (tn o101_12 .leaf)))))))))) (tn o101_10 (tn o101_1 (tn o101_2
 (tn o101_5 (tn o101_6 (tn o101_7 (tn o101_8 (tn o101_9 (tn o101_11 (tn o101_12 .leaf))))))))))) (tn o101_10 (.op o101_1 (.op o101_2 (tn o101_4 (tn o101_5
 (tn o101_6 (tn o101_7 (tn o101_8 (tn o101_9 (tn o101_11 (tn o101_12 .leaf)))))))) (tn o101_4 (tn o101_2 (tn o101_5 (tn o101_6 (tn o101_7 (tn o101_8 (tn
 o101_9 (tn o101_11 (tn o101_12 .leaf)))))))))) (tn o101_4 (tn o101_1 (tn o101_2 (tn o101_5 (tn o101_6 (tn o101_7 (tn o101_8 (tn o101_9 (tn o101_11 (tn
 o101_12 .leaf)))))))))))))) (tn o101_10 (.op o101_1 (.op o101_2 (tn o101_3 (tn o101_4 (tn o101_5 (tn o101_6 (tn o101_7 (tn o101_8 (tn o101_9 (tn o101_11
 (tn o101_12 .leaf))))))))) (tn o101_3 (.op o101_2 (tn o101_4 (tn o101_5 (tn o101_6 (tn o101_7 (tn o101_8 (tn o101_9 (tn o101_11 (tn o101_12 .leaf))))))))
 (tn o101_4 (tn o101_2 (tn o101_5 (tn o101_6 (tn o101_7 (tn o101_8 (tn o101_9 (tn o101_11 (tn o101_12 .leaf)))))))))))) (tn o101_3 (.op o101_1 (.op o101_2
 (tn o101_4 (tn o101_5 (tn o101_6 (tn o101_7 (tn o101_8 (tn o101_9 (tn o101_11 (tn o101_12 .leaf)))))))) (tn o101_4 (tn o101_2 (tn o101_5 (tn o101_6 (tn
 o101_7 (tn o101_8 (tn o101_9 (tn o101_11 (tn o101_12 .leaf)))))))))) (tn o101_4 (tn o101_1 (tn o101_2 (tn o101_5 (tn o101_6 (tn o101_7 (tn o101_8 (tn o101_9
 (tn o101_11 (tn o101_12 .leaf)))))))))))))))) (.op o101_1 (.op o101_0 (.op o101_2 (.op o101_3 (.op o101_4 (.op o101_5 (.op o101_6 (tn o101_7 (tn o101_8
 (tn o101_9 (tn o101_10 (tn o101_11 (tn o101_12 .leaf)))))) (tn o101_10 (tn o101_6 (tn o101_7 (tn o101_8 (tn o101_9 (tn o101_11 (tn o101_12 .leaf))))))))
 (tn o101_10 (tn o101_5 (tn o101_6 (tn o101_7 (tn o101_8 (tn o101_9 (tn o101_11 (tn o101_12 .leaf))))))))) (tn o101_10 (tn o101_4 (tn o101_5 (tn o101_6
 (tn o101_7 (tn o101_8 (tn o101_9 (tn o101_11 (tn o101_12 .leaf)))))))))) (tn o101_10 (tn o101_3 (tn o101_4 (tn o101_5 (tn o101_6 (tn o101_7 (tn o101_8
 (tn o101_9 (tn o101_11 (tn o101_12 .leaf))))))))))) (.op o101_3 (.op o101_2 (.op o101_4 (.op o101_5 (.op o101_6 (tn o101_7 (tn o101_8 (tn o101_9 (tn o101_10
 (tn o101_11 (tn o101_12 .leaf)))))) (tn o101_10 (tn o101_6 (tn o101_7 (tn o101_8 (tn o101_9 (tn o101_11 (tn o101_12 .leaf)))))))) (tn o101_10 (tn o101_5
 (tn o101_6 (tn o101_7 (tn o101_8 (tn o101_9 (tn o101_11 (tn o101_12 .leaf))))))))) (tn o101_10 (tn o101_4 (tn o101_5 (tn o101_6 (tn o101_7 (tn o101_8 (tn
 o101_9 (tn o101_11 (tn o101_12 .leaf)))))))))) (.op o101_4 (.op o101_2 (.op o101_5 (.op o101_6 (tn o101_7 (tn o101_8 (tn o101_9 (tn o101_10 (tn o101_11
 (tn o101_12 .leaf)))))) (tn o101_10 (tn o101_6 (tn o101_7 (tn o101_8 (tn o101_9 (tn o101_11 (tn o101_12 .leaf)))))))) (tn o101_10 (tn o101_5 (tn o101_6
 (tn o101_7 (tn o101_8 (tn o101_9 (tn o101_11 (tn o101_12 .leaf))))))))) (tn o101_10 (tn o101_2 (tn o101_5 (tn o101_6 (tn o101_7 (tn o101_8 (tn o101_9 (tn
 o101_11 (tn o101_12 .leaf)))))))))) (tn o101_10 (.op o101_2 (tn o101_4 (tn o101_5 (tn o101_6 (tn o101_7 (tn o101_8 (tn o101_9 (tn o101_11 (tn o101_12 .leaf))))))))
 (tn o101_4 (tn o101_2 (tn o101_5 (tn o101_6 (tn o101_7 (tn o101_8 (tn o101_9 (tn o101_11 (tn o101_12 .leaf))))))))))))) (tn o101_10 (.op o101_2 (tn o101_3
 (tn o101_4 (tn o101_5 (tn o101_6 (tn o101_7 (tn o101_8 (tn o101_9 (tn o101_11 (tn o101_12 .leaf))))))))) (tn o101_3 (.op o101_2 (tn o101_4 (tn o101_5 (tn
 o101_6 (tn o101_7 (tn o101_8 (tn o101_9 (tn o101_11 (tn o101_12 .leaf)))))))) (tn o101_4 (tn o101_2 (tn o101_5 (tn o101_6 (tn o101_7 (tn o101_8 (tn o101_9
 (tn o101_11 (tn o101_12 .leaf))))))))))))))) (.op o101_2 (.op o101_0 (.op o101_3 (.op o101_4 (.op o101_5 (.op o101_6 (tn o101_7 (tn o101_8 (tn o101_9 (tn
 o101_10 (tn o101_11 (tn o101_12 .leaf)))))) (tn o101_10 (tn o101_6 (tn o101_7 (tn o101_8 (tn o101_9 (tn o101_11 (tn o101_12 .leaf)))))))) (tn o101_10 (tn
 o101_5 (tn o101_6 (tn o101_7 (tn o101_8 (tn o101_9 (tn o101_11 (tn o101_12 .leaf))))))))) (tn o101_10 (tn o101_4 (tn o101_5 (tn o101_6 (tn o101_7 (tn o101_8
 (tn o101_9 (tn o101_11 (tn o101_12 .leaf)))))))))) (tn o101_10 (tn o101_3 (tn o101_4 (tn o101_5 (tn o101_6 (tn o101_7 (tn o101_8 (tn o101_9 (tn o101_11
 (tn o101_12 .leaf))))))))))) (.op o101_3 (.op o101_0 (.op o101_4 (.op o101_5 (.op o101_6 (tn o101_7 (tn o101_8 (tn o101_9 (tn o101_10 (tn o101_11 (tn o101_12
 .leaf)))))) (tn o101_10 (tn o101_6 (tn o101_7 (tn o101_8 (tn o101_9 (tn o101_11 (tn o101_12 .leaf)))))))) (tn o101_10 (tn o101_5 (tn o101_6 (tn o101_7
 (tn o101_8 (tn o101_9 (tn o101_11 (tn o101_12 .leaf))))))))) (tn o101_10 (tn o101_4 (tn o101_5 (tn o101_6 (tn o101_7 (tn o101_8 (tn o101_9 (tn o101_11
 (tn o101_12 .leaf)))))))))) (.op o101_4 (.op o101_0 (.op o101_5 (.op o101_6 (tn o101_7 (tn o101_8 (tn o101_9 (tn o101_10 (tn o101_11 (tn o101_12 .leaf))))))
 (tn o101_10 (tn o101_6 (tn o101_7 (tn o101_8 (tn o101_9 (tn o101_11 (tn o101_12 .leaf)))))))) (tn o101_10 (tn o101_5 (tn o101_6 (tn o101_7 (tn o101_8 (tn
 o101_9 (tn o101_11 (tn o101_12 .leaf))))))))) (.op o101_5 (.op o101_0 (.op o101_6 (tn o101_7 (tn o101_8 (tn o101_9 (tn o101_10 (tn o101_11 (tn o101_12
 .leaf)))))) (tn o101_10 (tn o101_6 (tn o101_7 (tn o101_8 (tn o101_9 (tn o101_11 (tn o101_12 .leaf)))))))) (tn o101_10 (tn o101_0 (tn o101_6 (tn o101_7
 (tn o101_8 (tn o101_9 (tn o101_11 (tn o101_12 .leaf))))))))) (tn o101_10 (.op o101_0 (tn o101_5 (tn o101_6 (tn o101_7 (tn o101_8 (tn o101_9 (tn o101_11
 (tn o101_12 .leaf))))))) (tn o101_5 (tn o101_0 (tn o101_6 (tn o101_7 (tn o101_8 (tn o101_9 (tn o101_11 (tn o101_12 .leaf)))))))))))) (tn o101_10 (.op o101_0
 (tn o101_4 (tn o101_5 (tn o101_6 (tn o101_7 (tn o101_8 (tn o101_9 (tn o101_11 (tn o101_12 .leaf)))))))) (tn o101_4 (.op o101_0 (tn o101_5 (tn o101_6 (tn
 o101_7 (tn o101_8 (tn o101_9 (tn o101_11 (tn o101_12 .leaf))))))) (tn o101_5 (tn o101_0 (tn o101_6 (tn o101_7 (tn o101_8 (tn o101_9 (tn o101_11 (tn o101_12
 .leaf)))))))))))))) (tn o101_10 (.op o101_0 (tn o101_3 (tn o101_4 (tn o101_5 (tn o101_6 (tn o101_7 (tn o101_8 (tn o101_9 (tn o101_11 (tn o101_12 .leaf)))))))))
 (tn o101_3 (.op o101_0 (tn o101_4 (tn o101_5 (tn o101_6 (tn o101_7 (tn o101_8 (tn o101_9 (tn o101_11 (tn o101_12 .leaf)))))))) (tn o101_4 (.op o101_0 (tn
 o101_5 (tn o101_6 (tn o101_7 (tn o101_8 (tn o101_9 (tn o101_11 (tn o101_12 .leaf))))))) (tn o101_5 (tn o101_0 (tn o101_6 (tn o101_7 (tn o101_8 (tn o101_9
 (tn o101_11 (tn o101_12 .leaf)))))))))))))))) (.op o101_3 (.op o101_0 (.op o101_2 (.op o101_4 (.op o101_5 (.op o101_6 (tn o101_7 (tn o101_8 (tn o101_9
 (tn o101_10 (tn o101_11 (tn o101_12 .leaf)))))) (tn o101_10 (tn o101_6 (tn o101_7 (tn o101_8 (tn o101_9 (tn o101_11 (tn o101_12 .leaf)))))))) (tn o101_10
 (tn o101_5 (tn o101_6 (tn o101_7 (tn o101_8 (tn o101_9 (tn o101_11 (tn o101_12 .leaf))))))))) (tn o101_10 (tn o101_4 (tn o101_5 (tn o101_6 (tn o101_7 (tn
 o101_8 (tn o101_9 (tn o101_11 (tn o101_12 .leaf)))))))))) (.op o101_4 (.op o101_2 (.op o101_5 (.op o101_6 (tn o101_7 (tn o101_8 (tn o101_9 (tn o101_10
 (tn o101_11 (tn o101_12 .leaf)))))) (tn o101_10 (tn o101_6 (tn o101_7 (tn o101_8 (tn o101_9 (tn o101_11 (tn o101_12 .leaf)))))))) (tn o101_10 (tn o101_5
 (tn o101_6 (tn o101_7 (tn o101_8 (tn o101_9 (tn o101_11 (tn o101_12 .leaf))))))))) (tn o101_10 (tn o101_2 (tn o101_5 (tn o101_6 (tn o101_7 (tn o101_8 (tn
 o101_9 (tn o101_11 (tn o101_12 .leaf)))))))))) (tn o101_10 (.op o101_2 (tn o101_4 (tn o101_5 (tn o101_6 (tn o101_7 (tn o101_8 (tn o101_9 (tn o101_11 (tn
 o101_12 .leaf)))))))) (tn o101_4 (tn o101_2 (tn o101_5 (tn o101_6 (tn o101_7 (tn o101_8 (tn o101_9 (tn o101_11 (tn o101_12 .leaf))))))))))))) (.op o101_2
 (.op o101_0 (.op o101_4 (.op o101_5 (.op o101_6 (tn o101_7 (tn o101_8 (tn o101_9 (tn o101_10 (tn o101_11 (tn o101_12 .leaf)))))) (tn o101_10 (tn o101_6
 (tn o101_7 (tn o101_8 (tn o101_9 (tn o101_11 (tn o101_12 .leaf)))))))) (tn o101_10 (tn o101_5 (tn o101_6 (tn o101_7 (tn o101_8 (tn o101_9 (tn o101_11 (tn
 o101_12 .leaf))))))))) (tn o101_10 (tn o101_4 (tn o101_5 (tn o101_6 (tn o101_7 (tn o101_8 (tn o101_9 (tn o101_11 (tn o101_12 .leaf)))))))))) (.op o101_4
 (.op o101_0 (.op o101_5 (.op o101_6 (tn o101_7 (tn o101_8 (tn o101_9 (tn o101_10 (tn o101_11 (tn o101_12 .leaf)))))) (tn o101_10 (tn o101_6 (tn o101_7
 (tn o101_8 (tn o101_9 (tn o101_11 (tn o101_12 .leaf)))))))) (tn o101_10 (tn o101_5 (tn o101_6 (tn o101_7 (tn o101_8 (tn o101_9 (tn o101_11 (tn o101_12
 .leaf))))))))) (.op o101_5 (.op o101_0 (.op o101_6 (tn o101_7 (tn o101_8 (tn o101_9 (tn o101_10 (tn o101_11 (tn o101_12 .leaf)))))) (tn o101_10 (tn o101_6
 (tn o101_7 (tn o101_8 (tn o101_9 (tn o101_11 (tn o101_12 .leaf)))))))) (tn o101_10 (tn o101_0 (tn o101_6 (tn o101_7 (tn o101_8 (tn o101_9 (tn o101_11 (tn
 o101_12 .leaf))))))))) (tn o101_10 (.op o101_0 (tn o101_5 (tn o101_6 (tn o101_7 (tn o101_8 (tn o101_9 (tn o101_11 (tn o101_12 .leaf))))))) (tn o101_5 (tn
 o101_0 (tn o101_6 (tn o101_7 (tn o101_8 (tn o101_9 (tn o101_11 (tn o101_12 .leaf)))))))))))) (tn o101_10 (.op o101_0 (tn o101_4 (tn o101_5 (tn o101_6 (tn
 o101_7 (tn o101_8 (tn o101_9 (tn o101_11 (tn o101_12 .leaf)))))))) (tn o101_4 (.op o101_0 (tn o101_5 (tn o101_6 (tn o101_7 (tn o101_8 (tn o101_9 (tn o101_11
 (tn o101_12 .leaf))))))) (tn o101_5 (tn o101_0 (tn o101_6 (tn o101_7 (tn o101_8 (tn o101_9 (tn o101_11 (tn o101_12 .leaf)))))))))))))) (.op o101_4 (.op
 o101_0 (.op o101_2 (.op o101_5 (.op o101_6 (tn o101_7 (tn o101_8 (tn o101_9 (tn o101_10 (tn o101_11 (tn o101_12 .leaf)))))) (tn o101_10 (tn o101_6 (tn
 o101_7 (tn o101_8 (tn o101_9 (tn o101_11 (tn o101_12 .leaf)))))))) (tn o101_10 (tn o101_5 (tn o101_6 (tn o101_7 (tn o101_8 (tn o101_9 (tn o101_11 (tn o101_12
 .leaf))))))))) (tn o101_10 (tn o101_2 (tn o101_5 (tn o101_6 (tn o101_7 (tn o101_8 (tn o101_9 (tn o101_11 (tn o101_12 .leaf)))))))))) (.op o101_2 (.op o101_0
 (.op o101_5 (.op o101_6 (tn o101_7 (tn o101_8 (tn o101_9 (tn o101_10 (tn o101_11 (tn o101_12 .leaf)))))) (tn o101_10 (tn o101_6 (tn o101_7 (tn o101_8 (tn
 o101_9 (tn o101_11 (tn o101_12 .leaf)))))))) (tn o101_10 (tn o101_5 (tn o101_6 (tn o101_7 (tn o101_8 (tn o101_9 (tn o101_11 (tn o101_12 .leaf)))))))))
 (.op o101_5 (.op o101_0 (.op o101_6 (tn o101_7 (tn o101_8 (tn o101_9 (tn o101_10 (tn o101_11 (tn o101_12 .leaf)))))) (tn o101_10 (tn o101_6 (tn o101_7
 (tn o101_8 (tn o101_9 (tn o101_11 (tn o101_12 .leaf)))))))) (tn o101_10 (tn o101_0 (tn o101_6 (tn o101_7 (tn o101_8 (tn o101_9 (tn o101_11 (tn o101_12
 .leaf))))))))) (tn o101_10 (.op o101_0 (tn o101_5 (tn o101_6 (tn o101_7 (tn o101_8 (tn o101_9 (tn o101_11 (tn o101_12 .leaf))))))) (tn o101_5 (tn o101_0
 (tn o101_6 (tn o101_7 (tn o101_8 (tn o101_9 (tn o101_11 (tn o101_12 .leaf)))))))))))) (tn o101_10 (.op o101_0 (tn o101_2 (tn o101_5 (tn o101_6 (tn o101_7
 (tn o101_8 (tn o101_9 (tn o101_11 (tn o101_12 .leaf)))))))) (tn o101_2 (.op o101_0 (tn o101_5 (tn o101_6 (tn o101_7 (tn o101_8 (tn o101_9 (tn o101_11 (tn
 o101_12 .leaf))))))) (tn o101_5 (tn o101_0 (tn o101_6 (tn o101_7 (tn o101_8 (tn o101_9 (tn o101_11 (tn o101_12 .leaf)))))))))))))) (tn o101_10 (.op o101_0
 (.op o101_2 (tn o101_4 (tn o101_5 (tn o101_6 (tn o101_7 (tn o101_8 (tn o101_9 (tn o101_11 (tn o101_12 .leaf)))))))) (tn o101_4 (tn o101_2 (tn o101_5 (tn
 o101_6 (tn o101_7 (tn o101_8 (tn o101_9 (tn o101_11 (tn o101_12 .leaf)))))))))) (.op o101_2 (.op o101_0 (tn o101_4 (tn o101_5 (tn o101_6 (tn o101_7 (tn
 o101_8 (tn o101_9 (tn o101_11 (tn o101_12 .leaf)))))))) (tn o101_4 (.op o101_0 (tn o101_5 (tn o101_6 (tn o101_7 (tn o101_8 (tn o101_9 (tn o101_11 (tn o101_12
 .leaf))))))) (tn o101_5 (tn o101_0 (tn o101_6 (tn o101_7 (tn o101_8 (tn o101_9 (tn o101_11 (tn o101_12 .leaf))))))))))) (tn o101_4 (.op o101_0 (tn o101_2
 (tn o101_5 (tn o101_6 (tn o101_7 (tn o101_8 (tn o101_9 (tn o101_11 (tn o101_12 .leaf)))))))) (tn o101_2 (.op o101_0 (tn o101_5 (tn o101_6 (tn o101_7 (tn
 o101_8 (tn o101_9 (tn o101_11 (tn o101_12 .leaf))))))) (tn o101_5 (tn o101_0 (tn o101_6 (tn o101_7 (tn o101_8 (tn o101_9 (tn o101_11 (tn o101_12 .leaf))))))))))))))))))
 (tn o101_10 (.op o101_0 (.op o101_2 (tn o101_3 (tn o101_4 (tn o101_5 (tn o101_6 (tn o101_7 (tn o101_8 (tn o101_9 (tn o101_11 (tn o101_12 .leaf)))))))))
 (tn o101_3 (.op o101_2 (tn o101_4 (tn o101_5 (tn o101_6 (tn o101_7 (tn o101_8 (tn o101_9 (tn o101_11 (tn o101_12 .leaf)))))))) (tn o101_4 (tn o101_2 (tn
 o101_5 (tn o101_6 (tn o101_7 (tn o101_8 (tn o101_9 (tn o101_11 (tn o101_12 .leaf)))))))))))) (.op o101_2 (.op o101_0 (tn o101_3 (tn o101_4 (tn o101_5 (tn
 o101_6 (tn o101_7 (tn o101_8 (tn o101_9 (tn o101_11 (tn o101_12 .leaf))))))))) (tn o101_3 (.op o101_0 (tn o101_4 (tn o101_5 (tn o101_6 (tn o101_7 (tn o101_8
 (tn o101_9 (tn o101_11 (tn o101_12 .leaf)))))))) (tn o101_4 (.op o101_0 (tn o101_5 (tn o101_6 (tn o101_7 (tn o101_8 (tn o101_9 (tn o101_11 (tn o101_12
 .leaf))))))) (tn o101_5 (tn o101_0 (tn o101_6 (tn o101_7 (tn o101_8 (tn o101_9 (tn o101_11 (tn o101_12 .leaf))))))))))))) (tn o101_3 (.op o101_0 (.op o101_2
 (tn o101_4 (tn o101_5 (tn o101_6 (tn o101_7 (tn o101_8 (tn o101_9 (tn o101_11 (tn o101_12 .leaf)))))))) (tn o101_4 (tn o101_2 (tn o101_5 (tn o101_6 (tn
 o101_7 (tn o101_8 (tn o101_9 (tn o101_11 (tn o101_12 .leaf)))))))))) (.op o101_2 (.op o101_0 (tn o101_4 (tn o101_5 (tn o101_6 (tn o101_7 (tn o101_8 (tn
 o101_9 (tn o101_11 (tn o101_12 .leaf)))))))) (tn o101_4 (.op o101_0 (tn o101_5 (tn o101_6 (tn o101_7 (tn o101_8 (tn o101_9 (tn o101_11 (tn o101_12 .leaf)))))))
 (tn o101_5 (tn o101_0 (tn o101_6 (tn o101_7 (tn o101_8 (tn o101_9 (tn o101_11 (tn o101_12 .leaf))))))))))) (tn o101_4 (.op o101_0 (tn o101_2 (tn o101_5
 (tn o101_6 (tn o101_7 (tn o101_8 (tn o101_9 (tn o101_11 (tn o101_12 .leaf)))))))) (tn o101_2 (.op o101_0 (tn o101_5 (tn o101_6 (tn o101_7 (tn o101_8 (tn
 o101_9 (tn o101_11 (tn o101_12 .leaf))))))) (tn o101_5 (tn o101_0 (tn o101_6 (tn o101_7 (tn o101_8 (tn o101_9 (tn o101_11 (tn o101_12 .leaf)))))))))))))))))))))
 (.op o101_3 (.op o101_0 (.op o101_1 (.op o101_2 (.op o101_4 (.op o101_5 (.op o101_6 (tn o101_7 (tn o101_8 (tn o101_9 (tn o101_10 (tn o101_11 (tn o101_12
 .leaf)))))) (tn o101_10 (tn o101_6 (tn o101_7 (tn o101_8 (tn o101_9 (tn o101_11 (tn o101_12 .leaf)))))))) (tn o101_10 (tn o101_5 (tn o101_6 (tn o101_7
 (tn o101_8 (tn o101_9 (tn o101_11 (tn o101_12 .leaf))))))))) (tn o101_10 (tn o101_4 (tn o101_5 (tn o101_6 (tn o101_7 (tn o101_8 (tn o101_9 (tn o101_11
 (tn o101_12 .leaf)))))))))) (.op o101_4 (.op o101_2 (.op o101_5 (.op o101_6 (tn o101_7 (tn o101_8 (tn o101_9 (tn o101_10 (tn o101_11 (tn o101_12 .leaf))))))
 (tn o101_10 (tn o101_6 (tn o101_7 (tn o101_8 (tn o101_9 (tn o101_11 (tn o101_12 .leaf)))))))) (tn o101_10 (tn o101_5 (tn o101_6 (tn o101_7 (tn o101_8 (tn
 o101_9 (tn o101_11 (tn o101_12 .leaf))))))))) (tn o101_10 (tn o101_2 (tn o101_5 (tn o101_6 (tn o101_7 (tn o101_8 (tn o101_9 (tn o101_11 (tn o101_12 .leaf))))))))))
 (tn o101_10 (.op o101_2 (tn o101_4 (tn o101_5 (tn o101_6 (tn o101_7 (tn o101_8 (tn o101_9 (tn o101_11 (tn o101_12 .leaf)))))))) (tn o101_4 (tn o101_2 (tn
 o101_5 (tn o101_6 (tn o101_7 (tn o101_8 (tn o101_9 (tn o101_11 (tn o101_12 .leaf))))))))))))) (.op o101_4 (.op o101_1 (.op o101_2 (.op o101_5 (.op o101_6
 (tn o101_7 (tn o101_8 (tn o101_9 (tn o101_10 (tn o101_11 (tn o101_12 .leaf)))))) (tn o101_10 (tn o101_6 (tn o101_7 (tn o101_8 (tn o101_9 (tn o101_11 (tn
 o101_12 .leaf)))))))) (tn o101_10 (tn o101_5 (tn o101_6 (tn o101_7 (tn o101_8 (tn o101_9 (tn o101_11 (tn o101_12 .leaf))))))))) (tn o101_10 (tn o101_2
 (tn o101_5 (tn o101_6 (tn o101_7 (tn o101_8 (tn o101_9 (tn o101_11 (tn o101_12 .leaf)))))))))) (tn o101_10 (tn o101_1 (tn o101_2 (tn o101_5 (tn o101_6
 (tn o101_7 (tn o101_8 (tn o101_9 (tn o101_11 (tn o101_12 .leaf))))))))))) (tn o101_10 (.op o101_1 (.op o101_2 (tn o101_4 (tn o101_5 (tn o101_6 (tn o101_7
 (tn o101_8 (tn o101_9 (tn o101_11 (tn o101_12 .leaf)))))))) (tn o101_4 (tn o101_2 (tn o101_5 (tn o101_6 (tn o101_7 (tn o101_8 (tn o101_9 (tn o101_11 (tn
 o101_12 .leaf)))))))))) (tn o101_4 (tn o101_1 (tn o101_2 (tn o101_5 (tn o101_6 (tn o101_7 (tn o101_8 (tn o101_9 (tn o101_11 (tn o101_12 .leaf))))))))))))))
 (.op o101_1 (.op o101_0 (.op o101_2 (.op o101_4 (.op o101_5 (.op o101_6 (tn o101_7 (tn o101_8 (tn o101_9 (tn o101_10 (tn o101_11 (tn o101_12 .leaf))))))
 (tn o101_10 (tn o101_6 (tn o101_7 (tn o101_8 (tn o101_9 (tn o101_11 (tn o101_12 .leaf)))))))) (tn o101_10 (tn o101_5 (tn o101_6 (tn o101_7 (tn o101_8 (tn
 o101_9 (tn o101_11 (tn o101_12 .leaf))))))))) (tn o101_10 (tn o101_4 (tn o101_5 (tn o101_6 (tn o101_7 (tn o101_8 (tn o101_9 (tn o101_11 (tn o101_12 .leaf))))))))))
 (.op o101_4 (.op o101_2 (.op o101_5 (.op o101_6 (tn o101_7 (tn o101_8 (tn o101_9 (tn o101_10 (tn o101_11 (tn o101_12 .leaf)))))) (tn o101_10 (tn o101_6
 (tn o101_7 (tn o101_8 (tn o101_9 (tn o101_11 (tn o101_12 .leaf)))))))) (tn o101_10 (tn o101_5 (tn o101_6 (tn o101_7 (tn o101_8 (tn o101_9 (tn o101_11 (tn
 o101_12 .leaf))))))))) (tn o101_10 (tn o101_2 (tn o101_5 (tn o101_6 (tn o101_7 (tn o101_8 (tn o101_9 (tn o101_11 (tn o101_12 .leaf)))))))))) (tn o101_10
 (.op o101_2 (tn o101_4 (tn o101_5 (tn o101_6 (tn o101_7 (tn o101_8 (tn o101_9 (tn o101_11 (tn o101_12 .leaf)))))))) (tn o101_4 (tn o101_2 (tn o101_5 (tn
 o101_6 (tn o101_7 (tn o101_8 (tn o101_9 (tn o101_11 (tn o101_12 .leaf))))))))))))) (.op o101_2 (.op o101_0 (.op o101_4 (.op o101_5 (.op o101_6 (tn o101_7
 (tn o101_8 (tn o101_9 (tn o101_10 (tn o101_11 (tn o101_12 .leaf)))))) (tn o101_10 (tn o101_6 (tn o101_7 (tn o101_8 (tn o101_9 (tn o101_11 (tn o101_12 .leaf))))))))
 (tn o101_10 (tn o101_5 (tn o101_6 (tn o101_7 (tn o101_8 (tn o101_9 (tn o101_11 (tn o101_12 .leaf))))))))) (tn o101_10 (tn o101_4 (tn o101_5 (tn o101_6
 (tn o101_7 (tn o101_8 (tn o101_9 (tn o101_11 (tn o101_12 .leaf)))))))))) (.op o101_4 (.op o101_0 (.op o101_5 (.op o101_6 (tn o101_7 (tn o101_8 (tn o101_9
 (tn o101_10 (tn o101_11 (tn o101_12 .leaf)))))) (tn o101_10 (tn o101_6 (tn o101_7 (tn o101_8 (tn o101_9 (tn o101_11 (tn o101_12 .leaf)))))))) (tn o101_10
 (tn o101_5 (tn o101_6 (tn o101_7 (tn o101_8 (tn o101_9 (tn o101_11 (tn o101_12 .leaf))))))))) (.op o101_5 (.op o101_0 (.op o101_6 (tn o101_7 (tn o101_8
 (tn o101_9 (tn o101_10 (tn o101_11 (tn o101_12 .leaf)))))) (tn o101_10 (tn o101_6 (tn o101_7 (tn o101_8 (tn o101_9 (tn o101_11 (tn o101_12 .leaf))))))))
 (tn o101_10 (tn o101_0 (tn o101_6 (tn o101_7 (tn o101_8 (tn o101_9 (tn o101_11 (tn o101_12 .leaf))))))))) (tn o101_10 (.op o101_0 (tn o101_5 (tn o101_6
 (tn o101_7 (tn o101_8 (tn o101_9 (tn o101_11 (tn o101_12 .leaf))))))) (tn o101_5 (tn o101_0 (tn o101_6 (tn o101_7 (tn o101_8 (tn o101_9 (tn o101_11 (tn
 o101_12 .leaf)))))))))))) (tn o101_10 (.op o101_0 (tn o101_4 (tn o101_5 (tn o101_6 (tn o101_7 (tn o101_8 (tn o101_9 (tn o101_11 (tn o101_12 .leaf))))))))
 (tn o101_4 (.op o101_0 (tn o101_5 (tn o101_6 (tn o101_7 (tn o101_8 (tn o101_9 (tn o101_11 (tn o101_12 .leaf))))))) (tn o101_5 (tn o101_0 (tn o101_6 (tn
 o101_7 (tn o101_8 (tn o101_9 (tn o101_11 (tn o101_12 .leaf)))))))))))))) (.op o101_4 (.op o101_0 (.op o101_2 (.op o101_5 (.op o101_6 (tn o101_7 (tn o101_8
 (tn o101_9 (tn o101_10 (tn o101_11 (tn o101_12 .leaf)))))) (tn o101_10 (tn o101_6 (tn o101_7 (tn o101_8 (tn o101_9 (tn o101_11 (tn o101_12 .leaf))))))))
 (tn o101_10 (tn o101_5 (tn o101_6 (tn o101_7 (tn o101_8 (tn o101_9 (tn o101_11 (tn o101_12 .leaf))))))))) (tn o101_10 (tn o101_2 (tn o101_5 (tn o101_6
 (tn o101_7 (tn o101_8 (tn o101_9 (tn o101_11 (tn o101_12 .leaf)))))))))) (.op o101_2 (.op o101_0 (.op o101_5 (.op o101_6 (tn o101_7 (tn o101_8 (tn o101_9
 (tn o101_10 (tn o101_11 (tn o101_12 .leaf)))))) (tn o101_10 (tn o101_6 (tn o101_7 (tn o101_8 (tn o101_9 (tn o101_11 (tn o101_12 .leaf)))))))) (tn o101_10
 (tn o101_5 (tn o101_6 (tn o101_7 (tn o101_8 (tn o101_9 (tn o101_11 (tn o101_12 .leaf))))))))) (.op o101_5 (.op o101_0 (.op o101_6 (tn o101_7 (tn o101_8
 (tn o101_9 (tn o101_10 (tn o101_11 (tn o101_12 .leaf)))))) (tn o101_10 (tn o101_6 (tn o101_7 (tn o101_8 (tn o101_9 (tn o101_11 (tn o101_12 .leaf))))))))
 (tn o101_10 (tn o101_0 (tn o101_6 (tn o101_7 (tn o101_8 (tn o101_9 (tn o101_11 (tn o101_12 .leaf))))))))) (tn o101_10 (.op o101_0 (tn o101_5 (tn o101_6
 (tn o101_7 (tn o101_8 (tn o101_9 (tn o101_11 (tn o101_12 .leaf))))))) (tn o101_5 (tn o101_0 (tn o101_6 (tn o101_7 (tn o101_8 (tn o101_9 (tn o101_11 (tn
 o101_12 .leaf)))))))))))) (tn o101_10 (.op o101_0 (tn o101_2 (tn o101_5 (tn o101_6 (tn o101_7 (tn o101_8 (tn o101_9 (tn o101_11 (tn o101_12 .leaf))))))))
 (tn o101_2 (.op o101_0 (tn o101_5 (tn o101_6 (tn o101_7 (tn o101_8 (tn o101_9 (tn o101_11 (tn o101_12 .leaf))))))) (tn o101_5 (tn o101_0 (tn o101_6 (tn
 o101_7 (tn o101_8 (tn o101_9 (tn o101_11 (tn o101_12 .leaf)))))))))))))) (tn o101_10 (.op o101_0 (.op o101_2 (tn o101_4 (tn o101_5 (tn o101_6 (tn o101_7
 (tn o101_8 (tn o101_9 (tn o101_11 (tn o101_12 .leaf)))))))) (tn o101_4 (tn o101_2 (tn o101_5 (tn o101_6 (tn o101_7 (tn o101_8 (tn o101_9 (tn o101_11 (tn
 o101_12 .leaf)))))))))) (.op o101_2 (.op o101_0 (tn o101_4 (tn o101_5 (tn o101_6 (tn o101_7 (tn o101_8 (tn o101_9 (tn o101_11 (tn o101_12 .leaf))))))))
 (tn o101_4 (.op o101_0 (tn o101_5 (tn o101_6 (tn o101_7 (tn o101_8 (tn o101_9 (tn o101_11 (tn o101_12 .leaf))))))) (tn o101_5 (tn o101_0 (tn o101_6 (tn
 o101_7 (tn o101_8 (tn o101_9 (tn o101_11 (tn o101_12 .leaf))))))))))) (tn o101_4 (.op o101_0 (tn o101_2 (tn o101_5 (tn o101_6 (tn o101_7 (tn o101_8 (tn
 o101_9 (tn o101_11 (tn o101_12 .leaf)))))))) (tn o101_2 (.op o101_0 (tn o101_5 (tn o101_6 (tn o101_7 (tn o101_8 (tn o101_9 (tn o101_11 (tn o101_12 .leaf)))))))
 (tn o101_5 (tn o101_0 (tn o101_6 (tn o101_7 (tn o101_8 (tn o101_9 (tn o101_11 (tn o101_12 .leaf)))))))))))))))))) (.op o101_4 (.op o101_0 (.op o101_1 (.op
 o101_2 (.op o101_5 (.op o101_6 (tn o101_7 (tn o101_8 (tn o101_9 (tn o101_10 (tn o101_11 (tn o101_12 .leaf)))))) (tn o101_10 (tn o101_6 (tn o101_7 (tn o101_8
 (tn o101_9 (tn o101_11 (tn o101_12 .leaf)))))))) (tn o101_10 (tn o101_5 (tn o101_6 (tn o101_7 (tn o101_8 (tn o101_9 (tn o101_11 (tn o101_12 .leaf)))))))))
 (tn o101_10 (tn o101_2 (tn o101_5 (tn o101_6 (tn o101_7 (tn o101_8 (tn o101_9 (tn o101_11 (tn o101_12 .leaf)))))))))) (tn o101_10 (tn o101_1 (tn o101_2
 (tn o101_5 (tn o101_6 (tn o101_7 (tn o101_8 (tn o101_9 (tn o101_11 (tn o101_12 .leaf))))))))))) (.op o101_1 (.op o101_0 (.op o101_2 (.op o101_5 (.op o101_6
 (tn o101_7 (tn o101_8 (tn o101_9 (tn o101_10 (tn o101_11 (tn o101_12 .leaf)))))) (tn o101_10 (tn o101_6 (tn o101_7 (tn o101_8 (tn o101_9 (tn o101_11 (tn
 o101_12 .leaf)))))))) (tn o101_10 (tn o101_5 (tn o101_6 (tn o101_7 (tn o101_8 (tn o101_9 (tn o101_11 (tn o101_12 .leaf))))))))) (tn o101_10 (tn o101_2
 (tn o101_5 (tn o101_6 (tn o101_7 (tn o101_8 (tn o101_9 (tn o101_11 (tn o101_12 .leaf)))))))))) (.op o101_2 (.op o101_0 (.op o101_5 (.op o101_6 (tn o101_7
 (tn o101_8 (tn o101_9 (tn o101_10 (tn o101_11 (tn o101_12 .leaf)))))) (tn o101_10 (tn o101_6 (tn o101_7 (tn o101_8 (tn o101_9 (tn o101_11 (tn o101_12 .leaf))))))))
 (tn o101_10 (tn o101_5 (tn o101_6 (tn o101_7 (tn o101_8 (tn o101_9 (tn o101_11 (tn o101_12 .leaf))))))))) (.op o101_5 (.op o101_0 (.op o101_6 (tn o101_7
 (tn o101_8 (tn o101_9 (tn o101_10 (tn o101_11 (tn o101_12 .leaf)))))) (tn o101_10 (tn o101_6 (tn o101_7 (tn o101_8 (tn o101_9 (tn o101_11 (tn o101_12 .leaf))))))))
 (tn o101_10 (tn o101_0 (tn o101_6 (tn o101_7 (tn o101_8 (tn o101_9 (tn o101_11 (tn o101_12 .leaf))))))))) (tn o101_10 (.op o101_0 (tn o101_5 (tn o101_6
 (tn o101_7 (tn o101_8 (tn o101_9 (tn o101_11 (tn o101_12 .leaf))))))) (tn o101_5 (tn o101_0 (tn o101_6 (tn o101_7 (tn o101_8 (tn o101_9 (tn o101_11 (tn
 o101_12 .leaf)))))))))))) (tn o101_10 (.op o101_0 (tn o101_2 (tn o101_5 (tn o101_6 (tn o101_7 (tn o101_8 (tn o101_9 (tn o101_11 (tn o101_12 .leaf))))))))
 (tn o101_2 (.op o101_0 (tn o101_5 (tn o101_6 (tn o101_7 (tn o101_8 (tn o101_9 (tn o101_11 (tn o101_12 .leaf))))))) (tn o101_5 (tn o101_0 (tn o101_6 (tn
 o101_7 (tn o101_8 (tn o101_9 (tn o101_11 (tn o101_12 .leaf)))))))))))))) (tn o101_10 (.op o101_0 (tn o101_1 (tn o101_2 (tn o101_5 (tn o101_6 (tn o101_7
 (tn o101_8 (tn o101_9 (tn o101_11 (tn o101_12 .leaf))))))))) (tn o101_1 (.op o101_0 (tn o101_2 (tn o101_5 (tn o101_6 (tn o101_7 (tn o101_8 (tn o101_9 (tn
 o101_11 (tn o101_12 .leaf)))))))) (tn o101_2 (.op o101_0 (tn o101_5 (tn o101_6 (tn o101_7 (tn o101_8 (tn o101_9 (tn o101_11 (tn o101_12 .leaf))))))) (tn
 o101_5 (tn o101_0 (tn o101_6 (tn o101_7 (tn o101_8 (tn o101_9 (tn o101_11 (tn o101_12 .leaf)))))))))))))))) (tn o101_10 (.op o101_0 (.op o101_1 (.op o101_2
 (tn o101_4 (tn o101_5 (tn o101_6 (tn o101_7 (tn o101_8 (tn o101_9 (tn o101_11 (tn o101_12 .leaf)))))))) (tn o101_4 (tn o101_2 (tn o101_5 (tn o101_6 (tn
 o101_7 (tn o101_8 (tn o101_9 (tn o101_11 (tn o101_12 .leaf)))))))))) (tn o101_4 (tn o101_1 (tn o101_2 (tn o101_5 (tn o101_6 (tn o101_7 (tn o101_8 (tn o101_9
 (tn o101_11 (tn o101_12 .leaf))))))))))) (.op o101_1 (.op o101_0 (.op o101_2 (tn o101_4 (tn o101_5 (tn o101_6 (tn o101_7 (tn o101_8 (tn o101_9 (tn o101_11
 (tn o101_12 .leaf)))))))) (tn o101_4 (tn o101_2 (tn o101_5 (tn o101_6 (tn o101_7 (tn o101_8 (tn o101_9 (tn o101_11 (tn o101_12 .leaf)))))))))) (.op o101_2
 (.op o101_0 (tn o101_4 (tn o101_5 (tn o101_6 (tn o101_7 (tn o101_8 (tn o101_9 (tn o101_11 (tn o101_12 .leaf)))))))) (tn o101_4 (.op o101_0 (tn o101_5 (tn
 o101_6 (tn o101_7 (tn o101_8 (tn o101_9 (tn o101_11 (tn o101_12 .leaf))))))) (tn o101_5 (tn o101_0 (tn o101_6 (tn o101_7 (tn o101_8 (tn o101_9 (tn o101_11
 (tn o101_12 .leaf))))))))))) (tn o101_4 (.op o101_0 (tn o101_2 (tn o101_5 (tn o101_6 (tn o101_7 (tn o101_8 (tn o101_9 (tn o101_11 (tn o101_12 .leaf))))))))
 (tn o101_2 (.op o101_0 (tn o101_5 (tn o101_6 (tn o101_7 (tn o101_8 (tn o101_9 (tn o101_11 (tn o101_12 .leaf))))))) (tn o101_5 (tn o101_0 (tn o101_6 (tn
 o101_7 (tn o101_8 (tn o101_9 (tn o101_11 (tn o101_12 .leaf)))))))))))))) (tn o101_4 (.op o101_0 (tn o101_1 (tn o101_2 (tn o101_5 (tn o101_6 (tn o101_7
 (tn o101_8 (tn o101_9 (tn o101_11 (tn o101_12 .leaf))))))))) (tn o101_1 (.op o101_0 (tn o101_2 (tn o101_5 (tn o101_6 (tn o101_7 (tn o101_8 (tn o101_9 (tn
 o101_11 (tn o101_12 .leaf)))))))) (tn o101_2 (.op o101_0 (tn o101_5 (tn o101_6 (tn o101_7 (tn o101_8 (tn o101_9 (tn o101_11 (tn o101_12 .leaf))))))) (tn
 o101_5 (tn o101_0 (tn o101_6 (tn o101_7 (tn o101_8 (tn o101_9 (tn o101_11 (tn o101_12 .leaf)))))))))))))))))))) (tn o101_10 (.op o101_0 (.op o101_1 (.op
 o101_2 (tn o101_3 (tn o101_4 (tn o101_5 (tn o101_6 (tn o101_7 (tn o101_8 (tn o101_9 (tn o101_11 (tn o101_12 .leaf))))))))) (tn o101_3 (.op o101_2 (tn o101_4
 (tn o101_5 (tn o101_6 (tn o101_7 (tn o101_8 (tn o101_9 (tn o101_11 (tn o101_12 .leaf)))))))) (tn o101_4 (tn o101_2 (tn o101_5 (tn o101_6 (tn o101_7 (tn
 o101_8 (tn o101_9 (tn o101_11 (tn o101_12 .leaf)))))))))))) (tn o101_3 (.op o101_1 (.op o101_2 (tn o101_4 (tn o101_5 (tn o101_6 (tn o101_7 (tn o101_8 (tn
 o101_9 (tn o101_11 (tn o101_12 .leaf)))))))) (tn o101_4 (tn o101_2 (tn o101_5 (tn o101_6 (tn o101_7 (tn o101_8 (tn o101_9 (tn o101_11 (tn o101_12 .leaf))))))))))
 (tn o101_4 (tn o101_1 (tn o101_2 (tn o101_5 (tn o101_6 (tn o101_7 (tn o101_8 (tn o101_9 (tn o101_11 (tn o101_12 .leaf))))))))))))) (.op o101_1 (.op o101_0
 (.op o101_2 (tn o101_3 (tn o101_4 (tn o101_5 (tn o101_6 (tn o101_7 (tn o101_8 (tn o101_9 (tn o101_11 (tn o101_12 .leaf))))))))) (tn o101_3 (.op o101_2
 (tn o101_4 (tn o101_5 (tn o101_6 (tn o101_7 (tn o101_8 (tn o101_9 (tn o101_11 (tn o101_12 .leaf)))))))) (tn o101_4 (tn o101_2 (tn o101_5 (tn o101_6 (tn
 o101_7 (tn o101_8 (tn o101_9 (tn o101_11 (tn o101_12 .leaf)))))))))))) (.op o101_2 (.op o101_0 (tn o101_3 (tn o101_4 (tn o101_5 (tn o101_6 (tn o101_7 (tn
 o101_8 (tn o101_9 (tn o101_11 (tn o101_12 .leaf))))))))) (tn o101_3 (.op o101_0 (tn o101_4 (tn o101_5 (tn o101_6 (tn o101_7 (tn o101_8 (tn o101_9 (tn o101_11
 (tn o101_12 .leaf)))))))) (tn o101_4 (.op o101_0 (tn o101_5 (tn o101_6 (tn o101_7 (tn o101_8 (tn o101_9 (tn o101_11 (tn o101_12 .leaf))))))) (tn o101_5
 (tn o101_0 (tn o101_6 (tn o101_7 (tn o101_8 (tn o101_9 (tn o101_11 (tn o101_12 .leaf))))))))))))) (tn o101_3 (.op o101_0 (.op o101_2 (tn o101_4 (tn o101_5
 (tn o101_6 (tn o101_7 (tn o101_8 (tn o101_9 (tn o101_11 (tn o101_12 .leaf)))))))) (tn o101_4 (tn o101_2 (tn o101_5 (tn o101_6 (tn o101_7 (tn o101_8 (tn
 o101_9 (tn o101_11 (tn o101_12 .leaf)))))))))) (.op o101_2 (.op o101_0 (tn o101_4 (tn o101_5 (tn o101_6 (tn o101_7 (tn o101_8 (tn o101_9 (tn o101_11 (tn
 o101_12 .leaf)))))))) (tn o101_4 (.op o101_0 (tn o101_5 (tn o101_6 (tn o101_7 (tn o101_8 (tn o101_9 (tn o101_11 (tn o101_12 .leaf))))))) (tn o101_5 (tn
 o101_0 (tn o101_6 (tn o101_7 (tn o101_8 (tn o101_9 (tn o101_11 (tn o101_12 .leaf))))))))))) (tn o101_4 (.op o101_0 (tn o101_2 (tn o101_5 (tn o101_6 (tn
 o101_7 (tn o101_8 (tn o101_9 (tn o101_11 (tn o101_12 .leaf)))))))) (tn o101_2 (.op o101_0 (tn o101_5 (tn o101_6 (tn o101_7 (tn o101_8 (tn o101_9 (tn o101_11
 (tn o101_12 .leaf))))))) (tn o101_5 (tn o101_0 (tn o101_6 (tn o101_7 (tn o101_8 (tn o101_9 (tn o101_11 (tn o101_12 .leaf))))))))))))))))) (tn o101_3 (.op
 o101_0 (.op o101_1 (.op o101_2 (tn o101_4 (tn o101_5 (tn o101_6 (tn o101_7 (tn o101_8 (tn o101_9 (tn o101_11 (tn o101_12 .leaf)))))))) (tn o101_4 (tn o101_2
 (tn o101_5 (tn o101_6 (tn o101_7 (tn o101_8 (tn o101_9 (tn o101_11 (tn o101_12 .leaf)))))))))) (tn o101_4 (tn o101_1 (tn o101_2 (tn o101_5 (tn o101_6 (tn
 o101_7 (tn o101_8 (tn o101_9 (tn o101_11 (tn o101_12 .leaf))))))))))) (.op o101_1 (.op o101_0 (.op o101_2 (tn o101_4 (tn o101_5 (tn o101_6 (tn o101_7 (tn
 o101_8 (tn o101_9 (tn o101_11 (tn o101_12 .leaf)))))))) (tn o101_4 (tn o101_2 (tn o101_5 (tn o101_6 (tn o101_7 (tn o101_8 (tn o101_9 (tn o101_11 (tn o101_12
 .leaf)))))))))) (.op o101_2 (.op o101_0 (tn o101_4 (tn o101_5 (tn o101_6 (tn o101_7 (tn o101_8 (tn o101_9 (tn o101_11 (tn o101_12 .leaf)))))))) (tn o101_4
 (.op o101_0 (tn o101_5 (tn o101_6 (tn o101_7 (tn o101_8 (tn o101_9 (tn o101_11 (tn o101_12 .leaf))))))) (tn o101_5 (tn o101_0 (tn o101_6 (tn o101_7 (tn
 o101_8 (tn o101_9 (tn o101_11 (tn o101_12 .leaf))))))))))) (tn o101_4 (.op o101_0 (tn o101_2 (tn o101_5 (tn o101_6 (tn o101_7 (tn o101_8 (tn o101_9 (tn
 o101_11 (tn o101_12 .leaf)))))))) (tn o101_2 (.op o101_0 (tn o101_5 (tn o101_6 (tn o101_7 (tn o101_8 (tn o101_9 (tn o101_11 (tn o101_12 .leaf))))))) (tn
 o101_5 (tn o101_0 (tn o101_6 (tn o101_7 (tn o101_8 (tn o101_9 (tn o101_11 (tn o101_12 .leaf)))))))))))))) (tn o101_4 (.op o101_0 (tn o101_1 (tn o101_2
 (tn o101_5 (tn o101_6 (tn o101_7 (tn o101_8 (tn o101_9 (tn o101_11 (tn o101_12 .leaf))))))))) (tn o101_1 (.op o101_0 (tn o101_2 (tn o101_5 (tn o101_6 (tn
 o101_7 (tn o101_8 (tn o101_9 (tn o101_11 (tn o101_12 .leaf)))))))) (tn o101_2 (.op o101_0 (tn o101_5 (tn o101_6 (tn o101_7 (tn o101_8 (tn o101_9 (tn o101_11
 (tn o101_12 .leaf))))))) (tn o101_5 (tn o101_0 (tn o101_6 (tn o101_7 (tn o101_8 (tn o101_9 (tn o101_11 (tn o101_12 .leaf))))))))))))))))))))))))))))
 s101t1))
def r101 : List RV := [.t 4]
theorem k101 : (Try.f101.body.bind (cC Try.prog), cR Try.prog Try.f101.results.toList, Try.f101.ntmps) = (some s101, some r101, 22) := by kernel_rfl
theorem q101 : Known Try.prog 101 := ⟨_, Try.func101, by decide, by simp [Try.f101]⟩
def C73h : PC := fun args K => ∃ (T : List Int) (m : Int) (L : List Rdg) (n : Nat) (f : Nat → List SV), (args = [.agg [.ints .i64 T, .int .i64 m], .rd 6 n f] ∨ args = [.agg [.ints .i64 T, .int .i64 m], .clipr 6 n f]) ∧ n = L.length ∧ (∀ i, i < L.length → f i = rgR L i) ∧ okS T m = true ∧ okL T L = true ∧ K (trS (trR T m L))
theorem p73h : PureOk Try.prog 73 C73h := by
 rintro w im args vs K him ha ⟨T, m, L, n, f, h, rfl, hf, hs, hL, hK⟩
 rcases h with rfl | rfl
 ·cases ha with
  | cons _ v0 _ vs0 h0 hs0 =>
   cases hs0 with
   | cons _ v1 _ vs1 h1 hs1 =>
    cases hs1
    exact p73 w im _ _ K him (.cons _ _ _ _ h0 (.cons _ _ _ _ (leR_ok (y := .rd 6 L.length (rgR L)) (x := .rd 6 L.length f) 4 ⟨rfl, rfl, hf⟩ h1) .nil)) ⟨T, m, L, rfl, hs, hL, hK⟩
 ·cases ha with
  | cons _ v0 _ vs0 h0 hs0 =>
   cases hs0 with
   | cons _ v1 _ vs1 h1 hs1 =>
    cases hs1
    exact p73 w im _ _ K him (.cons _ _ _ _ h0 (.cons _ _ _ _ (leR_ok (y := .rd 6 L.length (rgR L)) (x := .rd 6 L.length f) 4 ⟨rfl, rfl, hf⟩ h1.unclipr) .nil)) ⟨T, m, L, rfl, hs, hL, hK⟩
theorem okL_er {T : List Int} {L : List Rdg} (h : okL T L = true) (i : Nat) : okL T (L.eraseIdx i) = true := by
 simp only [okL, Bool.and_eq_true, decide_eq_true_eq, List.all_eq_true] at h ⊢
 refine ⟨?_, fun x hx => h.2 x (List.mem_of_mem_eraseIdx hx)⟩
 have := List.length_eraseIdx_le L i
 omega
theorem er_len {L : List Rdg} {i : Nat} (h : i < L.length) : (L.eraseIdx i).length = L.length - 1 := by rw [List.length_eraseIdx, if_pos h]
theorem er_get {L : List Rdg} {i : Nat} (j : Nat) : rgR (L.eraseIdx i) j = if j < i then rgR L j else rgR L (j + 1) := by
 simp only [rgR, rgG, List.getD, List.getElem?_eraseIdx]
 split <;> rfl
def sus (T : List Int) (m : Int) (L : List Rdg) (i : Nat) : Bool := (trR T m (L.eraseIdx i)).isSome
def C101 : PC := fun args K => ∃ (T : List Int) (m : Int) (L : List Rdg) (i : Nat), args = [.int .i64 i, .rp [.ints .i64 T, .int .i64 m] 0, .rp [.rd 6 L.length (rgR L)] 0] ∧ okS T m = true ∧ okL T L = true ∧ i < L.length ∧ K (.bool (sus T m L i))
set_option maxHeartbeats 4000000 in
theorem p101 : PureOk Try.prog 101 C101 := by
 refine pure_of (T := [(73, .pc C73h)]) ⟨⟨p73h, q73⟩, trivial⟩ Try.func101 k101 ?_
 rintro args K ⟨T, m, L, i, rfl, hs, hL, hi, hK⟩
 have hL24 : L.length ≤ 24 := by
  simp only [okL, Bool.and_eq_true, decide_eq_true_eq] at hL
  omega
 have z72 : (List.replicate 72 (SV.int .i64 0)) = arS 36 (fun _ => (0, 0)) := (arS_zero 36).symm
 have etk := fun d : Dst => @arS_tk d 36 72 rfl
 have espl := fun d d' : Dst => @arS_spl d d' 36
 have ell := fun d : Dst => @arS_ll d 36
 have eon := fun d : Dst => @arS_one d 36
 have ecl := fun d : Dst => @arS_clo d 36
 have ei : ((i : Int) - 0).toNat = i := by omega
 have e0 : (((0 : Nat) : Int) - 0).toNat = 0 := rfl
 have e2 : ((i : Int) + 1).toNat = i + 1 := by omega
 have e3 : ((L.length : Int) - ((i : Int) + 1)).toNat = L.length - (i + 1) := by omega
 have bT : (-9223372036854775808 ≤ (i : Int) + 1 ∧ (i : Int) + 1 ≤ 9223372036854775807) = True := eq_true (by omega)
 have bI : (0 ≤ (0 : Int) ∧ 0 ≤ (i : Int) ∧ (i : Int) ≤ (L.length : Int)) = True := eq_true (by omega)
 have bJ : (0 ≤ (i : Int) + 1 ∧ (i : Int) + 1 ≤ (L.length : Int) ∧ (L.length : Int) ≤ (L.length : Int)) = True := eq_true (by omega)
 have bK : ((i + (L.length - (i + 1))) * 48 ≤ 140737488355328 ∧ i + (L.length - (i + 1)) ≤ 9223372036854775807) = True := eq_true (by omega)
 by_cases hl : L.length - (i + 1) = 0
 ·have c1 := eq_true hl
  have c2 : (0 < L.length - (i + 1)) = False := eq_false (by omega)
  by_cases hi0 : i = 0
  ·have hi := hi
   subst hi0
   simp only [inr64, e_reg, e_tre, t_stop, t_op, and_self, e_seq, o_nil, o_cons, gd_none, putK_e, runK_e, vK_e, conK_e, callK_e, evh_v, evh_new, evh_app, evh_call, evh_slc, slcK_e, appK_y, appY_e, slO, bnd, slv, od_none, od_some, seqK_n, gam_e, gamK_p, pc_e, pcK_e, evp, bin, gt, gq, st, putf, X.get, gets, ap, mkfr, rep, clV, clL, clS, clo, ld, lda, tk, dr, gb, sb, pb, ln, lk, undef, Nat.reduceSub, beq_self_eq_true, true_and, and_true, s101, r101, tn, o101_0, o101_1, o101_2, o101_3, o101_4, o101_5, o101_6, o101_7, o101_8, o101_9, o101_10, o101_11, o101_12, e0, e2, e3, bT, bI, bJ, c1, c2, Int.toNat_zero, Nat.zero_add, true_implies, false_implies]
   repeat' (first | omega | (with_reducible refine And.intro ?_ ?_))
   all_goals
    refine ⟨T, m, L.eraseIdx 0, _, _, .inl rfl, by have := er_len hi; omega, fun j hj => by rw [er_len hi] at hj; rw [er_get]; exact absurd hj (by omega), hs, okL_er hL 0, ?_⟩
    cases htr : trR T m (L.eraseIdx 0) with
    | none =>
     have e : sus T m L 0 = false := by unfold sus; rw [htr]; rfl
     rw [e] at hK
     simp only [e_reg, t_leaf, t_stop, t_op, and_self, e_seq, e_ret, o_nil, o_cons, gd_none, putK_e, runK_e, vK_e, storeK3_e, storeK2_e, storeK_e, evh_v, evh_new, evh_store, seqK_n, ends_r, endK1_e, endK2_e, evp, gt, gq, st, putf, X.get, rdR, tupled, clV, clS, clo, sp, cs1, gb, sb, pb, ln, Nat.reduceMul, true_and, and_true, trS, z72, espl, ell, eon, s101t1]
     exact res hK (by simp [leR])
    | some d =>
     have e : sus T m L 0 = true := by unfold sus; rw [htr]; rfl
     rw [e] at hK
     simp only [e_reg, t_leaf, t_stop, t_op, and_self, e_seq, e_ret, o_nil, o_cons, gd_none, putK_e, runK_e, vK_e, storeK3_e, storeK2_e, storeK_e, evh_v, evh_new, evh_store, seqK_n, ends_r, endK1_e, endK2_e, evp, gt, gq, st, putf, X.get, rdR, tupled, clV, clS, clo, sp, cs1, gb, sb, pb, ln, Nat.reduceMul, true_and, and_true, trS, z72, espl, ell, eon, s101t1]
     exact res hK (by simp [leR])
  ·have l0 : (i = 0) = False := eq_false hi0
   simp only [inr64, e_reg, e_tre, t_stop, t_op, and_self, e_seq, o_nil, o_cons, gd_none, putK_e, runK_e, vK_e, conK_e, callK_e, evh_v, evh_new, evh_app, evh_call, evh_slc, slcK_e, appK_f, appCR_e, slO, bnd, slv, od_none, od_some, seqK_n, gam_e, gamK_p, pc_e, pcK_e, evp, bin, gt, gq, st, putf, X.get, gets, ap, mkfr, rep, clV, clL, clS, clo, ld, lda, tk, dr, gb, sb, pb, ln, lk, undef, Nat.reduceSub, beq_self_eq_true, true_and, and_true, s101, r101, tn, o101_0, o101_1, o101_2, o101_3, o101_4, o101_5, o101_6, o101_7, o101_8, o101_9, o101_10, o101_11, o101_12, ei, e2, e3, bT, bI, bJ, bK, c1, c2, l0, Int.toNat_zero, Nat.zero_add, true_implies, false_implies]
   repeat' (first | omega | (with_reducible refine And.intro ?_ ?_))
   all_goals
    refine ⟨T, m, L.eraseIdx i, _, _, .inl rfl, by have := er_len hi; omega, fun j hj => by rw [er_len hi] at hj; rw [er_get]; rw [if_pos (by omega)], hs, okL_er hL i, ?_⟩
    cases htr : trR T m (L.eraseIdx i) with
    | none =>
     have e : sus T m L i = false := by unfold sus; rw [htr]; rfl
     rw [e] at hK
     simp only [e_reg, t_leaf, t_stop, t_op, and_self, e_seq, e_ret, o_nil, o_cons, gd_none, putK_e, runK_e, vK_e, storeK3_e, storeK2_e, storeK_e, evh_v, evh_new, evh_store, seqK_n, ends_r, endK1_e, endK2_e, evp, gt, gq, st, putf, X.get, rdR, tupled, clV, clS, clo, sp, cs1, gb, sb, pb, ln, Nat.reduceMul, true_and, and_true, trS, z72, espl, ell, eon, s101t1]
     exact res hK (by simp [leR])
    | some d =>
     have e : sus T m L i = true := by unfold sus; rw [htr]; rfl
     rw [e] at hK
     simp only [e_reg, t_leaf, t_stop, t_op, and_self, e_seq, e_ret, o_nil, o_cons, gd_none, putK_e, runK_e, vK_e, storeK3_e, storeK2_e, storeK_e, evh_v, evh_new, evh_store, seqK_n, ends_r, endK1_e, endK2_e, evp, gt, gq, st, putf, X.get, rdR, tupled, clV, clS, clo, sp, cs1, gb, sb, pb, ln, Nat.reduceMul, true_and, and_true, trS, z72, espl, ell, eon, s101t1]
     exact res hK (by simp [leR])
 ·have c1 := eq_false hl
  have c2 : (0 < L.length - (i + 1)) = True := eq_true (by omega)
  by_cases hi0 : i = 0
  ·have hi := hi
   subst hi0
   simp only [inr64, e_reg, e_tre, t_stop, t_op, and_self, e_seq, o_nil, o_cons, gd_none, putK_e, runK_e, vK_e, conK_e, callK_e, evh_v, evh_new, evh_app, evh_call, evh_slc, slcK_e, appK_y, appY_e, slO, bnd, slv, od_none, od_some, seqK_n, gam_e, gamK_p, pc_e, pcK_e, evp, bin, gt, gq, st, putf, X.get, gets, ap, mkfr, rep, clV, clL, clS, clo, ld, lda, tk, dr, gb, sb, pb, ln, lk, undef, Nat.reduceSub, beq_self_eq_true, true_and, and_true, s101, r101, tn, o101_0, o101_1, o101_2, o101_3, o101_4, o101_5, o101_6, o101_7, o101_8, o101_9, o101_10, o101_11, o101_12, e0, e2, e3, bT, bI, bJ, c1, c2, Int.toNat_zero, Nat.zero_add, true_implies, false_implies]
   repeat' (first | omega | (with_reducible refine And.intro ?_ ?_))
   all_goals
    refine ⟨T, m, L.eraseIdx 0, _, _, .inl rfl, by have := er_len hi; omega, fun j hj => by rw [er_len hi] at hj; rw [er_get]; (rw [if_neg (by omega)] <;> rw [Nat.add_comm]), hs, okL_er hL 0, ?_⟩
    cases htr : trR T m (L.eraseIdx 0) with
    | none =>
     have e : sus T m L 0 = false := by unfold sus; rw [htr]; rfl
     rw [e] at hK
     simp only [e_reg, t_leaf, t_stop, t_op, and_self, e_seq, e_ret, o_nil, o_cons, gd_none, putK_e, runK_e, vK_e, storeK3_e, storeK2_e, storeK_e, evh_v, evh_new, evh_store, seqK_n, ends_r, endK1_e, endK2_e, evp, gt, gq, st, putf, X.get, rdR, tupled, clV, clS, clo, sp, cs1, gb, sb, pb, ln, Nat.reduceAdd, Nat.reduceMul, true_and, and_true, trS, z72, espl, ell, eon, s101t1]
     exact res hK (by simp [leR])
    | some d =>
     have e : sus T m L 0 = true := by unfold sus; rw [htr]; rfl
     rw [e] at hK
     simp only [e_reg, t_leaf, t_stop, t_op, and_self, e_seq, e_ret, o_nil, o_cons, gd_none, putK_e, runK_e, vK_e, storeK3_e, storeK2_e, storeK_e, evh_v, evh_new, evh_store, seqK_n, ends_r, endK1_e, endK2_e, evp, gt, gq, st, putf, X.get, rdR, tupled, clV, clS, clo, sp, cs1, gb, sb, pb, ln, Nat.reduceAdd, Nat.reduceMul, true_and, and_true, trS, z72, espl, ell, eon, s101t1]
     exact res hK (by simp [leR])
  ·have l0 : (i = 0) = False := eq_false hi0
   simp only [inr64, e_reg, e_tre, t_stop, t_op, and_self, e_seq, o_nil, o_cons, gd_none, putK_e, runK_e, vK_e, conK_e, callK_e, evh_v, evh_new, evh_app, evh_call, evh_slc, slcK_e, appK_f, appCR_e, slO, bnd, slv, od_none, od_some, seqK_n, gam_e, gamK_p, pc_e, pcK_e, evp, bin, gt, gq, st, putf, X.get, gets, ap, mkfr, rep, clV, clL, clS, clo, ld, lda, tk, dr, gb, sb, pb, ln, lk, undef, Nat.reduceSub, beq_self_eq_true, true_and, and_true, s101, r101, tn, o101_0, o101_1, o101_2, o101_3, o101_4, o101_5, o101_6, o101_7, o101_8, o101_9, o101_10, o101_11, o101_12, ei, e2, e3, bT, bI, bJ, bK, c1, c2, l0, Int.toNat_zero, Nat.zero_add, true_implies, false_implies]
   repeat' (first | omega | (with_reducible refine And.intro ?_ ?_))
   all_goals
    refine ⟨T, m, L.eraseIdx i, _, _, .inl rfl, by have := er_len hi; omega, fun j hj => by rw [er_len hi] at hj; rw [er_get]; (split; rfl; rw [show i + 1 + (j - i) = j + 1 by omega]), hs, okL_er hL i, ?_⟩
    cases htr : trR T m (L.eraseIdx i) with
    | none =>
     have e : sus T m L i = false := by unfold sus; rw [htr]; rfl
     rw [e] at hK
     simp only [e_reg, t_leaf, t_stop, t_op, and_self, e_seq, e_ret, o_nil, o_cons, gd_none, putK_e, runK_e, vK_e, storeK3_e, storeK2_e, storeK_e, evh_v, evh_new, evh_store, seqK_n, ends_r, endK1_e, endK2_e, evp, gt, gq, st, putf, X.get, rdR, tupled, clV, clS, clo, sp, cs1, gb, sb, pb, ln, Nat.reduceAdd, Nat.reduceMul, true_and, and_true, trS, z72, espl, ell, eon, s101t1]
     exact res hK (by simp [leR])
    | some d =>
     have e : sus T m L i = true := by unfold sus; rw [htr]; rfl
     rw [e] at hK
     simp only [e_reg, t_leaf, t_stop, t_op, and_self, e_seq, e_ret, o_nil, o_cons, gd_none, putK_e, runK_e, vK_e, storeK3_e, storeK2_e, storeK_e, evh_v, evh_new, evh_store, seqK_n, ends_r, endK1_e, endK2_e, evp, gt, gq, st, putf, X.get, rdR, tupled, clV, clS, clo, sp, cs1, gb, sb, pb, ln, Nat.reduceAdd, Nat.reduceMul, true_and, and_true, trS, z72, espl, ell, eon, s101t1]
     exact res hK (by simp [leR])
end Go.Proofs.Ytbbbpdajikblbaa
end
section
namespace Go.Proofs.Ytbbbpdajikblbaa
open Go Go.Vg
set_option linter.unusedSimpArgs false
set_option linter.unusedVariables false
set_option maxRecDepth 10000
def s78 : SC :=
 (.seq (.reg [⟨(some 2), none, .box 93 (.t 0)⟩,
  ⟨(some 3), none, .box 37 (.t 1)⟩,
  ⟨(some 4), none, .v (.mov (.c (.lit (.slice none 0 0))))⟩])
 (.seq (.reg [⟨(some 8), none, .v (.mkfn 101 [(.t 2), (.t 3)])⟩,
  ⟨(some 5), none, .v (.mov (.t 8))⟩])
 (.seq (.reg [⟨(some 6), none, .v (.mov (.c (.lit (.slice none 0 0))))⟩])
 (.seq (.seq (.reg [⟨(some 9), none, .v (.load (.t 3) none)⟩,
  ⟨(some 10), none, .v (.len (.t 9))⟩,
  ⟨(some 11), none, .v (.mov (.c (.int .i64 (0))))⟩])
 (.block 0 (.loop
  (.seq (.reg [⟨(some 12), none, .v (.bin .lss (.t 11) (.t 10))⟩])
  (.seq (.cond (.t 12)
   .skip
   (.exit 0))
  (.seq (.block 1 (.seq (.reg [⟨(some 13), none, .v (.mov (.t 11))⟩,
   ⟨(some 7), none, .v (.mov (.t 13))⟩])
  (.seq (.reg [⟨(some 14), none, .v (.mov (.t 5))⟩,
   ⟨(some 15), none, .v (.mov (.t 7))⟩,
   ⟨(some 16), none, .call (.t 14) [(.t 15)]⟩])
  (.cond (.t 16)
   (.reg [⟨(some 17), none, .v (.mov (.t 6))⟩,
    ⟨(some 18), none, .v (.mov (.t 7))⟩,
    ⟨(some 19), none, .bsl 3 1 [(.int .i64 (0))] [(0, 1, (.t 18))]⟩,
    ⟨(some 20), none, .app 3 1 8 (.t 17) (.t 19)⟩,
    ⟨(some 6), none, .v (.mov (.t 20))⟩])
   .skip))))
  (.reg [⟨(some 21), none, .v (.bin .add (.t 11) (.c (.int .i64 (1))))⟩,
   ⟨(some 11), none, .v (.mov (.t 21))⟩])))))))
 (.seq (.reg [⟨(some 22), none, .v (.mov (.t 6))⟩,
  ⟨(some 23), none, .v (.mov (.t 6))⟩,
  ⟨(some 24), none, .v (.len (.t 23))⟩,
  ⟨(some 25), none, .v (.mov (.t 6))⟩,
  ⟨(some 26), none, .v (.len (.t 25))⟩,
  ⟨(some 27), none, .slc (.t 22) none (some (.t 24)) (some (.t 26)) 1⟩,
  ⟨(some 4), none, .v (.mov (.t 27))⟩])
 .ret)))))
def r78 : List RV := [.t 4]
theorem k78 : (Try.f78.body.bind (cC Try.prog), cR Try.prog Try.f78.results.toList, Try.f78.ntmps) = (some s78, some r78, 28) := by kernel_rfl
theorem q78 : Known Try.prog 78 := ⟨_, Try.func78, by decide, by simp [Try.f78]⟩
def s30 : SC :=
 (.seq (.reg [⟨(some 2), none, .box 36 (.t 0)⟩,
  ⟨(some 4), none, .v (.mov (.c (.lit (.slice none 0 0))))⟩,
  ⟨(some 5), none, .v (.mov (.c (.int .i64 (0))))⟩])
 (.seq (.seq (.reg [⟨(some 10), none, .v (.load (.t 2) (some 2))⟩,
  ⟨(some 11), none, .v (.mov (.t 1))⟩,
  ⟨(some 12), none, .call (.c (.fn 68 [])) [(.t 10), (.t 11)]⟩,
  ⟨(some 6), none, .v (.mov (.t 12))⟩])
 (.seq (.reg [⟨(some 13), none, .v (.mov (.t 6))⟩,
  ⟨(some 14), none, .v (.bin .neq (.t 13) (.c (.int .i64 (0))))⟩])
 (.cond (.t 14)
  (.seq (.reg [⟨(some 15), none, .v (.mov (.t 6))⟩,
   ⟨(some 4), none, .v (.mov (.c (.lit (.slice none 0 0))))⟩,
   ⟨(some 5), none, .v (.mov (.t 15))⟩])
  .ret)
  .skip)))
 (.seq (.reg [⟨(some 16), none, .v (.load (.t 2) (some 2))⟩,
  ⟨(some 17), none, .bld [(.lit (.slice none 0 0)), (.int .i64 (0))] [(0, 2, (.t 16))]⟩,
  ⟨(some 7), none, .new 93 [(.lit (.slice none 0 0)), (.int .i64 (0))]⟩,
  ⟨none, none, .store 2 (.t 7) (.t 17)⟩])
 (.seq (.seq (.reg [⟨(some 19), none, .v (.load (.t 7) (some 2))⟩,
  ⟨(some 20), none, .v (.mov (.t 1))⟩,
  ⟨(some 21), none, .call (.c (.fn 73 [])) [(.t 19), (.t 20)]⟩,
  ⟨(some 18), none, .v (.mov (.t 21))⟩,
  ⟨(some 22), none, .v (.ext (.t 18) 0)⟩,
  ⟨(some 23), none, .v (.ext (.t 18) 1)⟩,
  ⟨(some 8), none, .new 98 (List.replicate 72 (.int .i64 (0)))⟩,
  ⟨none, none, .store 72 (.t 8) (.t 22)⟩,
  ⟨(some 9), none, .v (.mov (.t 23))⟩])
 (.seq (.reg [⟨(some 24), none, .v (.mov (.t 9))⟩])
 (.cond (.t 24)
  (.seq (.reg [⟨(some 4), none, .v (.mov (.c (.lit (.slice none 0 0))))⟩,
   ⟨(some 5), none, .v (.mov (.c (.int .i64 (4))))⟩])
  .ret)
  .skip)))
 (.seq (.reg [⟨(some 25), none, .v (.load (.t 7) (some 2))⟩,
  ⟨(some 26), none, .v (.mov (.t 1))⟩,
  ⟨(some 27), none, .call (.c (.fn 78 [])) [(.t 25), (.t 26)]⟩,
  ⟨(some 4), none, .v (.mov (.t 27))⟩,
  ⟨(some 5), none, .v (.mov (.c (.int .i64 (0))))⟩])
 .ret)))))
def r30 : List RV := [.t 4, .t 5]
theorem k30 : (Try.f30.body.bind (cC Try.prog), cR Try.prog Try.f30.results.toList, Try.f30.ntmps) = (some s30, some r30, 28) := by kernel_rfl
theorem q30 : Known Try.prog 30 := ⟨_, Try.func30, by decide, by simp [Try.f30]⟩
def suL (T : List Int) (m : Int) (L : List Rdg) (n : Nat) : List Int := ((List.range n).filter (sus T m L)).map Int.ofNat
theorem suL_succ (T : List Int) (m : Int) (L : List Rdg) (n : Nat) : suL T m L (n + 1) = suL T m L n ++ (if sus T m L n = true then [(n : Int)] else []) := by
 unfold suL
 rw [List.range_succ, List.filter_append, List.map_append]
 cases h : sus T m L n <;> simp [h]
theorem suL_len (T : List Int) (m : Int) (L : List Rdg) (n : Nat) : (suL T m L n).length ≤ n := by
 unfold suL
 rw [List.length_map]
 exact Nat.le_trans (List.length_filter_le _ _) (by simp)
def C78 : PC := fun args K => ∃ (T : List Int) (m : Int) (L : List Rdg), args = [.agg [.ints .i64 T, .int .i64 m], .rd 6 L.length (rgR L)] ∧ okS T m = true ∧ okL T L = true ∧ K (.ints .i64 (suL T m L L.length))
theorem p78 : PureOk Try.prog 78 C78 := by
 refine pure_of (T := [(101, .pc C101)]) ⟨⟨p101, q101⟩, trivial⟩ Try.func78 k78 ?_
 rintro args K ⟨T, m, L, rfl, hs, hL, hK⟩
 have hL24 : L.length ≤ 24 := by
  simp only [okL, Bool.and_eq_true, decide_eq_true_eq] at hL
  omega
 simp only [↓reduceIte, e_reg, e_seq, e_block, e_loop, o_nil, o_cons, gd_none, putK_e, runK_e, vK_e, boxK_e, evh_v, evh_box, seqK_n, evp, gt, gq, st, putf, X.get, gets, mkfr, rep, ld, lda, lens, cs1, one, gb, pb, ln, undef, Nat.reduceSub, Nat.reduceAdd, true_and, s78, r78]
 refine loop_cl 8 5 (x := .fn 101 [.rp [.ints .i64 T, .int .i64 m] 0, .rp [.rd 6 L.length (rgR L)] 0]) (by rfl) ?_
 simp only [st, sb]
 refine loop_at2 (G := Nat) (fun i => [(11, .int .i64 i), (6, .own 2)]) (fun i => [.fbox 93 [.ints .i64 T, .int .i64 m], .fbox 37 [.rd 6 L.length (rgR L)], .oi .i64 3 (suL T m L i)]) (fun i => i ≤ L.length) (fun i => L.length - i) 0 (Nat.zero_le _) ?_
 (intro fr1 hf1; simp only [forget, dstC, dstO, st] at hf1; subst hf1)
 refine ⟨?_, ?_⟩
 ·refine Lw_re 2 [none] (Nat.zero_le _) (by simp [ln]) (by simp [ln]) rfl ?_ ?_
  ·simp only [reL, reX, rn, List.getElem?_cons_zero, Nat.reduceSub, Nat.lt_irrefl, Nat.le_refl, reduceCtorEq, or_true, inb, inb.inbs, ln, sts, st, Bool.and_self, Nat.reduceLT, Nat.reduceAdd, decide_true, and_self, Int.natCast_zero, implies_true]
  ·simp only [reL, reX, reH, reB, reN, newB, inb, and_self, suL, List.range_zero, List.filter_nil, List.map_nil, implies_true]
 ·intro i hi1
  have hpl := suL_len T m L i
  by_cases hi2 : i < L.length
  ·have n0 : ((i : Int) < (L.length : Int)) = True := eq_true (by omega)
   simp only [condK_bt, decide_true, e_skip, e_reg, e_seq, e_cond, e_block, o_nil, o_cons, gd_none, putK_e, runK_e, vK_e, conK_e, callK_e, evh_v, evh_call, seqK_n, gam_e, gamK_p, pc_e, pcK_e, evp, bin, gt, st, putf, X.get, gets, ap, clV, clL, clS, clo, lk, beq_self_eq_true, true_and, sts, n0]
   refine ⟨T, m, L, i, rfl, hs, hL, hi2, ?_⟩
   have es := suL_succ T m L i
   cases hsu : sus T m L i with
   | true =>
    rw [hsu, if_pos rfl] at es
    simp only [condK_bt, inr64, ↓reduceIte, e_reg, o_nil, o_cons, gd_none, putK_e, runK_e, vK_e, bslK_e, appK2_oi, appK_e, evh_v, evh_bsl, evh_app, loopK_n, seqK_n, blockK_n, evp, bin, gt, st, putf, X.get, getp, sp, sp.spl, lay, ll, cs1, one, gb, sb, pb, ln, Nat.reduceAdd, beq_self_eq_true, true_and]
    repeat' (first | omega | (with_reducible refine And.intro ?_ ?_))
    refine Nx.mk (i + 1) (by show i + 1 ≤ L.length; omega) (by show L.length - (i + 1) < L.length - i; omega) (Lw_re 2 [some 4] (Nat.zero_le _) (by simp [ln]) (by simp [ln]) rfl ?_ ?_)
    ·simp only [reL, reX, rn, List.getElem?_cons_zero, Nat.reduceSub, Nat.lt_irrefl, Nat.le_refl, and_false, or_true, inb, inb.inbs, ln, Bool.and_self, Nat.reduceLT, Nat.reduceAdd, decide_true, and_self, Int.natCast_add, Int.natCast_one, implies_true]
    ·simp only [reL, reX, reH, reB, reM, reN, gb, Nat.reduceLeDiff, inb, ln, Nat.reduceLT, Nat.reduceAdd, and_self, es, implies_true]
   | false =>
    rw [hsu, if_neg (by simp), List.append_nil] at es
    simp only [condK_bf, inr64, e_skip, e_reg, o_nil, o_cons, gd_none, putK_e, runK_e, vK_e, evh_v, loopK_n, seqK_n, blockK_n, evp, bin, gt, st, putf, X.get, true_and]
    repeat' (first | omega | (with_reducible refine And.intro ?_ ?_))
    refine Nx.mk (i + 1) (by show i + 1 ≤ L.length; omega) (by show L.length - (i + 1) < L.length - i; omega) (Lw_re 3 [] (Nat.zero_le _) (by simp [ln]) (by simp [ln]) rfl ?_ ?_)
    ·simp only [reL, reX, rn, Nat.reduceSub, Nat.reduceLeDiff, false_and, or_false, reduceCtorEq, inb, inb.inbs, ln, Bool.and_self, Nat.reduceLT, Nat.reduceAdd, decide_true, and_true, and_self, Int.natCast_add, Int.natCast_one, implies_true]
    ·simp only [reL, reX, reH, reB, reN, inb, and_self, es, implies_true]
  ·have n0 : ((i : Int) < (L.length : Int)) = False := eq_false (by omega)
   obtain rfl : i = L.length := by omega
   simp only [condK_bf, decide_false, e_reg, e_seq, e_cond, e_exit, e_ret, o_nil, o_cons, gd_none, putK_e, runK_e, vK_e, evh_v, evh_slc, slcK_e, slO, bnd, slv, od_none, loopK_x, seqK_n, seqK_x, exitK_t, blockK_x, ends_r, endK1_e, endK2_e, evp, bin, gt, st, putf, X.get, rdR, tupled, clV, lens, gb, sb, beq_self_eq_true, true_and, sts, n0]
   exact ⟨by omega, res hK (by simp [leR])⟩
def susS (T : List Int) (m : Int) (L : List Rdg) : SV :=
 if chk T m L = 0 then match trR T m L with
  | some _ => .tup [.lit (.slice none 0 0), .int .i64 4]
  | none => .tup [.ints .i64 (suL T m L L.length), .int .i64 0]
 else .tup [.lit (.slice none 0 0), .int .i64 (chk T m L)]
def C30 : PC := fun args K => ∃ (T : List Int) (m : Int) (L : List Rdg), args = [.agg [.ints .i64 T, .int .i64 m], .rd 6 L.length (rgR L)] ∧ K (susS T m L)
theorem p30 : PureOk Try.prog 30 C30 := by
 refine pure_of (T := [(68, .pc C68), (73, .pc C73), (78, .pc C78)]) ⟨⟨p68, q68⟩, ⟨p73, q73⟩, ⟨p78, q78⟩, trivial⟩ Try.func30 k30 ?_
 rintro args K ⟨T, m, L, rfl, hK⟩
 have z72 : (List.replicate 72 (SV.int .i64 0)) = arS 36 (fun _ => (0, 0)) := (arS_zero 36).symm
 have etk := fun d : Dst => @arS_tk d 36 72 rfl
 have espl := fun d d' : Dst => @arS_spl d d' 36
 have ell := fun d : Dst => @arS_ll d 36
 have eon := fun d : Dst => @arS_one d 36
 have ecl := fun d : Dst => @arS_clo d 36
 simp only [e_reg, e_seq, o_nil, o_cons, gd_none, putK_e, runK_e, vK_e, boxK_e, conK_e, callK_e, evh_v, evh_box, evh_call, seqK_n, gam_e, gamK_p, pc_e, pcK_e, evp, bin, gt, st, putf, X.get, gets, ap, mkfr, rep, clV, clL, clS, clo, ld, lda, tk, dr, cs1, gb, pb, ln, lk, undef, Nat.reduceSub, beq_self_eq_true, true_and, s30, r30]
 refine ⟨T, m, L, rfl, ?_⟩
 by_cases h0 : chk T m L = 0
 ·have t0 := eq_true h0
  obtain ⟨hs, hL⟩ := chk_0.1 h0
  simp only [condK_bf, decide_true, e_skip, e_reg, and_self, e_seq, e_cond, o_nil, o_cons, gd_none, putK_e, runK_e, vK_e, bldK_e, storeK3_e, storeK2_e, storeK_e, conK_e, callK_e, evh_v, evh_new, evh_bld, evh_store, evh_call, seqK_n, gam_e, gamK_p, pc_e, pcK_e, evp, gt, st, putf, X.get, gets, getp, ap, clV, clL, clS, clo, ld, lda, tk, dr, sp, sp.spl, lay, ll, cs1, one, allOne, gb, sb, pb, ln, lk, Bool.and_true, Bool.not_true, Nat.reduceAdd, Nat.reduceBEq, beq_self_eq_true, true_and, t0]
  refine ⟨T, m, L, rfl, hs, hL, ?_⟩
  cases htr : trR T m L with
  | none =>
   have e : susS T m L = .tup [.ints .i64 (suL T m L L.length), .int .i64 0] := by simp [susS, h0, htr]
   rw [e] at hK
   simp only [condK_bf, e_skip, e_reg, and_self, e_seq, e_cond, e_ret, o_nil, o_cons, gd_none, putK_e, runK_e, vK_e, storeK3_e, storeK2_e, storeK_e, conK_e, callK_e, evh_v, evh_new, evh_store, evh_call, seqK_n, ends_r, endK1_e, gam_e, gamK_p, pc_e, pcK_e, evp, gt, gq, st, putf, X.get, gets, ap, rdR, tupled, clV, clL, clS, clo, ld, lda, tk, dr, sp, cs1, gb, sb, pb, ln, lk, Nat.reduceAdd, Nat.reduceMul, Nat.reduceBEq, beq_self_eq_true, true_and, trS, z72, ld, espl, ell, eon]
   refine ⟨T, m, L, rfl, hs, hL, ?_⟩
   simp only [endK2_e, clo]
   exact res hK (by simp [leR, leR.leRs])
  | some d =>
   have e : susS T m L = .tup [.lit (.slice none 0 0), .int .i64 4] := by simp [susS, h0, htr]
   rw [e] at hK
   simp only [condK_bt, e_reg, and_self, e_seq, e_cond, e_ret, o_nil, o_cons, gd_none, putK_e, runK_e, vK_e, storeK3_e, storeK2_e, storeK_e, evh_v, evh_new, evh_store, seqK_n, seqK_r, ends_r, endK1_e, endK2_e, evp, gt, gq, st, putf, X.get, rdR, tupled, clV, clL, clS, clo, sp, cs1, gb, sb, pb, ln, Nat.reduceAdd, Nat.reduceMul, true_and, trS, z72, espl, ell, eon]
   exact res hK (by simp [leR, leR.leRs])
 ·have t0 := eq_false h0
  have e : susS T m L = .tup [.lit (.slice none 0 0), .int .i64 (chk T m L)] := by simp [susS, h0]
  rw [e] at hK
  simp only [condK_bt, decide_false, e_reg, e_seq, e_cond, e_ret, o_nil, o_cons, gd_none, putK_e, runK_e, vK_e, evh_v, seqK_n, seqK_r, ends_r, endK1_e, endK2_e, evp, gt, st, putf, X.get, rdR, tupled, clV, clL, clS, clo, Bool.not_false, true_and, t0]
  exact res hK (by simp [leR, leR.leRs])
end Go.Proofs.Ytbbbpdajikblbaa
end
