import Derived.Test.YtplldhepmmjmmaaVgTP7
namespace Go.Proofs.Ytplldhepmmjmmaa
open Go Go.Vg
set_option linter.unusedSimpArgs false
set_option linter.unusedVariables false
set_option maxRecDepth 10000
def s39 : SC :=
 (.seq (.reg [⟨(some 2), none, .box 92 (.t 0)⟩,
  ⟨(some 4), none, .v (.mov (.c (.lit (.bool false))))⟩])
 (.seq (.reg [⟨(some 5), none, .v (.off (.t 2) 0)⟩,
  ⟨(some 6), none, .v (.load (.t 5) none)⟩,
  ⟨(some 7), none, .v (.mov (.t 1))⟩,
  ⟨(some 8), none, .v (.bin .leq (.t 6) (.t 7))⟩,
  ⟨(some 9), none, .v (.mov (.t 8))⟩,
  ⟨(some 10), (some (9, true)), .v (.mov (.t 1))⟩,
  ⟨(some 11), (some (9, true)), .v (.off (.t 2) 1)⟩,
  ⟨(some 12), (some (9, true)), .v (.load (.t 11) none)⟩,
  ⟨(some 13), (some (9, true)), .v (.bin .leq (.t 10) (.t 12))⟩,
  ⟨(some 14), none, .v (.pick (.t 9) (.t 13) (.c (.lit (.bool false))))⟩,
  ⟨(some 4), none, .v (.mov (.t 14))⟩])
 .ret))
def r39 : List RV := [.t 4]
theorem k39 : (Try.f39.body.bind (cC Try.prog), cR Try.prog Try.f39.results.toList, Try.f39.ntmps) = (some s39, some r39, 15) := by kernel_rfl
theorem q39 : Known Try.prog 39 := ⟨_, Try.func39, by decide, by simp [Try.f39]⟩
def s60 : SC :=
 (.seq (.reg [⟨(some 4), none, .v (.mov (.c (.lit (.bool false))))⟩])
 (.seq (.seq (.reg [⟨(some 7), none, .v (.mov (.t 1))⟩,
  ⟨(some 8), none, .v (.len (.t 7))⟩,
  ⟨(some 9), none, .v (.mov (.c (.int .i64 (0))))⟩])
 (.block 0 (.loop
  (.seq (.reg [⟨(some 10), none, .v (.bin .lss (.t 9) (.t 8))⟩])
  (.seq (.cond (.t 10)
   .skip
   (.exit 0))
  (.seq (.block 1 (.seq (.reg [⟨(some 11), none, .v (.ixa (.t 7) (.t 9) 1)⟩,
   ⟨(some 12), none, .v (.load (.t 11) none)⟩,
   ⟨(some 6), none, .v (.mov (.t 12))⟩])
  (.seq (.reg [⟨(some 13), none, .v (.mov (.t 0))⟩,
   ⟨(some 14), none, .v (.mov (.t 6))⟩,
   ⟨(some 15), none, .call (.t 13) [(.t 14)]⟩,
   ⟨(some 16), none, .v (.not (.t 15))⟩])
  (.cond (.t 16)
   (.seq (.reg [⟨(some 4), none, .v (.mov (.c (.lit (.bool false))))⟩])
   .ret)
   .skip))))
  (.reg [⟨(some 17), none, .v (.bin .add (.t 9) (.c (.int .i64 (1))))⟩,
   ⟨(some 9), none, .v (.mov (.t 17))⟩])))))))
 (.seq (.reg [⟨(some 4), none, .v (.mov (.c (.lit (.bool true))))⟩])
 .ret)))
def r60 : List RV := [.t 4]
theorem k60 : (Try.f60.body.bind (cC Try.prog), cR Try.prog Try.f60.results.toList, Try.f60.ntmps) = (some s60, some r60, 18) := by kernel_rfl
theorem q60 : Known Try.prog 60 := ⟨_, Try.func60, by decide, by simp [Try.f60]⟩
def s54 : SC :=
 (.seq (.reg [⟨(some 3), none, .box 31 (.t 0)⟩,
  ⟨(some 6), none, .v (.mov (.c (.lit (.bool false))))⟩])
 (.seq (.reg [⟨(some 7), none, .v (.off (.t 3) 0)⟩,
  ⟨(some 8), none, .v (.load (.t 7) none)⟩,
  ⟨(some 9), none, .v (.off (.t 3) 1)⟩,
  ⟨(some 10), none, .v (.load (.t 9) none)⟩,
  ⟨(some 11), none, .v (.bin .leq (.t 8) (.t 10))⟩,
  ⟨(some 12), none, .v (.mov (.t 11))⟩,
  ⟨(some 13), (some (12, true)), .v (.mov (.t 1))⟩,
  ⟨(some 14), (some (12, true)), .v (.mov (.t 2))⟩,
  ⟨(some 15), (some (12, true)), .bld [(.int .i64 (0)), (.int .i64 (0))] [(0, 1, (.t 13)), (1, 1, (.t 14))]⟩,
  ⟨(some 16), (some (12, true)), .v (.mkmv 39 [(.t 15)] [])⟩,
  ⟨(some 17), (some (12, true)), .v (.off (.t 3) 0)⟩,
  ⟨(some 18), (some (12, true)), .v (.load (.t 17) none)⟩,
  ⟨(some 19), (some (12, true)), .v (.off (.t 3) 1)⟩,
  ⟨(some 20), (some (12, true)), .v (.load (.t 19) none)⟩,
  ⟨(some 21), (some (12, true)), .bsl 3 2 [(.int .i64 (0)), (.int .i64 (0))] [(0, 1, (.t 18)), (1, 1, (.t 20))]⟩,
  ⟨(some 22), (some (12, true)), .call (.c (.fn 60 [])) [(.t 16), (.t 21)]⟩,
  ⟨(some 23), none, .v (.pick (.t 12) (.t 22) (.c (.lit (.bool false))))⟩,
  ⟨(some 6), none, .v (.mov (.t 23))⟩])
 .ret))
def r54 : List RV := [.t 6]
theorem k54 : (Try.f54.body.bind (cC Try.prog), cR Try.prog Try.f54.results.toList, Try.f54.ntmps) = (some s54, some r54, 24) := by kernel_rfl
theorem q54 : Known Try.prog 54 := ⟨_, Try.func54, by decide, by simp [Try.f54]⟩
def s40 : SC :=
 (.seq (.reg [⟨(some 1), none, .box 95 (.t 0)⟩,
  ⟨(some 2), none, .v (.mov (.c (.lit (.bool false))))⟩])
 (.seq (.reg [⟨(some 3), none, .v (.off (.t 1) 0)⟩,
  ⟨(some 4), none, .v (.off (.t 3) 0)⟩,
  ⟨(some 5), none, .v (.load (.t 4) (some 2))⟩,
  ⟨(some 6), none, .call (.c (.fn 54 [])) [(.t 5), (.c (.int .i64 (-1000))), (.c (.int .i64 (1000)))]⟩,
  ⟨(some 7), none, .v (.mov (.t 6))⟩,
  ⟨(some 8), (some (7, true)), .v (.off (.t 1) 0)⟩,
  ⟨(some 9), (some (7, true)), .v (.off (.t 8) 2)⟩,
  ⟨(some 10), (some (7, true)), .v (.load (.t 9) (some 2))⟩,
  ⟨(some 11), (some (7, true)), .call (.c (.fn 54 [])) [(.t 10), (.c (.int .i64 (0))), (.c (.int .i64 (1000)))]⟩,
  ⟨(some 12), none, .v (.pick (.t 7) (.t 11) (.c (.lit (.bool false))))⟩,
  ⟨(some 13), none, .v (.mov (.t 12))⟩,
  ⟨(some 14), (some (13, true)), .bld [(.int .i64 (0)), (.int .i64 (0))] [(0, 1, (.c (.int .i64 (-1)))), (1, 1, (.c (.int .i64 (1))))]⟩,
  ⟨(some 15), (some (13, true)), .v (.off (.t 1) 0)⟩,
  ⟨(some 16), (some (13, true)), .v (.off (.t 15) 4)⟩,
  ⟨(some 17), (some (13, true)), .v (.load (.t 16) none)⟩,
  ⟨(some 18), (some (13, true)), .call (.c (.fn 39 [])) [(.t 14), (.t 17)]⟩,
  ⟨(some 19), none, .v (.pick (.t 13) (.t 18) (.c (.lit (.bool false))))⟩,
  ⟨(some 2), none, .v (.mov (.t 19))⟩])
 .ret))
def r40 : List RV := [.t 2]
theorem k40 : (Try.f40.body.bind (cC Try.prog), cR Try.prog Try.f40.results.toList, Try.f40.ntmps) = (some s40, some r40, 20) := by kernel_rfl
theorem q40 : Known Try.prog 40 := ⟨_, Try.func40, by decide, by simp [Try.f40]⟩
def s20 : SC :=
 (.seq (.reg [⟨(some 2), none, .v (.mov (.c (.lit (.bool false))))⟩])
 (.seq (.seq (.reg [⟨(some 5), none, .bld [(.int .i64 (0)), (.int .i64 (0))] [(0, 1, (.c (.int .i64 (1)))), (1, 1, (.c (.int .i64 (12))))]⟩,
  ⟨(some 6), none, .v (.mov (.t 0))⟩,
  ⟨(some 7), none, .v (.len (.t 6))⟩,
  ⟨(some 8), none, .call (.c (.fn 39 [])) [(.t 5), (.t 7)]⟩,
  ⟨(some 9), none, .v (.not (.t 8))⟩])
 (.cond (.t 9)
  (.seq (.reg [⟨(some 2), none, .v (.mov (.c (.lit (.bool false))))⟩])
  .ret)
  .skip))
 (.seq (.seq (.reg [⟨(some 10), none, .v (.mov (.t 0))⟩,
  ⟨(some 11), none, .v (.len (.t 10))⟩,
  ⟨(some 12), none, .v (.mov (.c (.int .i64 (0))))⟩])
 (.block 0 (.loop
  (.seq (.reg [⟨(some 13), none, .v (.bin .lss (.t 12) (.t 11))⟩])
  (.seq (.cond (.t 13)
   .skip
   (.exit 0))
  (.seq (.block 1 (.seq (.reg [⟨(some 14), none, .v (.ixa (.t 10) (.t 12) 5)⟩,
   ⟨(some 15), none, .v (.load (.t 14) (some 5))⟩,
   ⟨(some 4), none, .new 45 [(.int .i64 (0)), (.int .i64 (0)), (.int .i64 (0)), (.int .i64 (0)), (.int .i64 (0))]⟩,
   ⟨none, none, .store 5 (.t 4) (.t 15)⟩])
  (.seq (.reg [⟨(some 16), none, .v (.load (.t 4) (some 5))⟩,
   ⟨(some 17), none, .bld [(.int .i64 (0)), (.int .i64 (0)), (.int .i64 (0)), (.int .i64 (0)), (.int .i64 (0))] [(0, 5, (.t 16))]⟩,
   ⟨(some 18), none, .call (.c (.fn 40 [])) [(.t 17)]⟩,
   ⟨(some 19), none, .v (.not (.t 18))⟩])
  (.cond (.t 19)
   (.seq (.reg [⟨(some 2), none, .v (.mov (.c (.lit (.bool false))))⟩])
   .ret)
   .skip))))
  (.reg [⟨(some 20), none, .v (.bin .add (.t 12) (.c (.int .i64 (1))))⟩,
   ⟨(some 12), none, .v (.mov (.t 20))⟩])))))))
 (.seq (.reg [⟨(some 2), none, .v (.mov (.c (.lit (.bool true))))⟩])
 .ret))))
def r20 : List RV := [.t 2]
theorem k20 : (Try.f20.body.bind (cC Try.prog), cR Try.prog Try.f20.results.toList, Try.f20.ntmps) = (some s20, some r20, 21) := by kernel_rfl
theorem q20 : Known Try.prog 20 := ⟨_, Try.func20, by decide, by simp [Try.f20]⟩
def s41 : SC :=
 (.seq (.reg [⟨(some 2), none, .box 95 (.t 0)⟩,
  ⟨(some 4), none, .v (.mov (.c (.lit (.bool false))))⟩])
 (.seq (.reg [⟨(some 7), none, .v (.off (.t 2) 0)⟩,
  ⟨(some 8), none, .v (.off (.t 7) 0)⟩,
  ⟨(some 9), none, .v (.off (.t 8) 0)⟩,
  ⟨(some 10), none, .v (.load (.t 9) none)⟩,
  ⟨(some 11), none, .v (.off (.t 2) 0)⟩,
  ⟨(some 12), none, .v (.off (.t 11) 2)⟩,
  ⟨(some 13), none, .v (.off (.t 12) 0)⟩,
  ⟨(some 14), none, .v (.load (.t 13) none)⟩,
  ⟨(some 15), none, .v (.bin .add (.t 10) (.t 14))⟩,
  ⟨(some 16), none, .v (.off (.t 2) 0)⟩,
  ⟨(some 17), none, .v (.off (.t 16) 0)⟩,
  ⟨(some 18), none, .v (.off (.t 17) 1)⟩,
  ⟨(some 19), none, .v (.load (.t 18) none)⟩,
  ⟨(some 20), none, .v (.off (.t 2) 0)⟩,
  ⟨(some 21), none, .v (.off (.t 20) 2)⟩,
  ⟨(some 22), none, .v (.off (.t 21) 1)⟩,
  ⟨(some 23), none, .v (.load (.t 22) none)⟩,
  ⟨(some 24), none, .v (.bin .add (.t 19) (.t 23))⟩,
  ⟨(some 25), none, .bld [(.int .i64 (0)), (.int .i64 (0))] [(0, 1, (.t 15)), (1, 1, (.t 24))]⟩,
  ⟨(some 5), none, .new 92 [(.int .i64 (0)), (.int .i64 (0))]⟩,
  ⟨none, none, .store 2 (.t 5) (.t 25)⟩])
 (.seq (.reg [⟨(some 26), none, .v (.off (.t 2) 0)⟩,
  ⟨(some 27), none, .v (.off (.t 26) 0)⟩,
  ⟨(some 28), none, .v (.off (.t 27) 0)⟩,
  ⟨(some 29), none, .v (.load (.t 28) none)⟩,
  ⟨(some 30), none, .v (.off (.t 2) 0)⟩,
  ⟨(some 31), none, .v (.off (.t 30) 2)⟩,
  ⟨(some 32), none, .v (.off (.t 31) 1)⟩,
  ⟨(some 33), none, .v (.load (.t 32) none)⟩,
  ⟨(some 34), none, .v (.bin .sub (.t 29) (.t 33))⟩,
  ⟨(some 35), none, .v (.off (.t 2) 0)⟩,
  ⟨(some 36), none, .v (.off (.t 35) 0)⟩,
  ⟨(some 37), none, .v (.off (.t 36) 1)⟩,
  ⟨(some 38), none, .v (.load (.t 37) none)⟩,
  ⟨(some 39), none, .v (.off (.t 2) 0)⟩,
  ⟨(some 40), none, .v (.off (.t 39) 2)⟩,
  ⟨(some 41), none, .v (.off (.t 40) 0)⟩,
  ⟨(some 42), none, .v (.load (.t 41) none)⟩,
  ⟨(some 43), none, .v (.bin .sub (.t 38) (.t 42))⟩,
  ⟨(some 44), none, .bld [(.int .i64 (0)), (.int .i64 (0))] [(0, 1, (.t 34)), (1, 1, (.t 43))]⟩,
  ⟨(some 6), none, .new 92 [(.int .i64 (0)), (.int .i64 (0))]⟩,
  ⟨none, none, .store 2 (.t 6) (.t 44)⟩])
 (.seq (.reg [⟨(some 45), none, .v (.off (.t 2) 0)⟩,
  ⟨(some 46), none, .v (.off (.t 45) 4)⟩,
  ⟨(some 47), none, .v (.load (.t 46) none)⟩,
  ⟨(some 48), none, .v (.bin .geq (.t 47) (.c (.int .i64 (0))))⟩,
  ⟨(some 49), none, .v (.mov (.t 48))⟩,
  ⟨(some 50), (some (49, true)), .v (.load (.t 5) (some 2))⟩,
  ⟨(some 51), (some (49, true)), .v (.mov (.t 1))⟩,
  ⟨(some 52), (some (49, true)), .call (.c (.fn 39 [])) [(.t 50), (.t 51)]⟩,
  ⟨(some 53), none, .v (.pick (.t 49) (.t 52) (.c (.lit (.bool false))))⟩,
  ⟨(some 54), none, .v (.mov (.t 53))⟩,
  ⟨(some 55), (some (54, false)), .v (.off (.t 2) 0)⟩,
  ⟨(some 56), (some (54, false)), .v (.off (.t 55) 4)⟩,
  ⟨(some 57), (some (54, false)), .v (.load (.t 56) none)⟩,
  ⟨(some 58), (some (54, false)), .v (.bin .leq (.t 57) (.c (.int .i64 (0))))⟩,
  ⟨(some 59), (some (54, false)), .v (.mov (.t 58))⟩,
  ⟨(some 60), (some (59, true)), .v (.load (.t 6) (some 2))⟩,
  ⟨(some 61), (some (59, true)), .v (.mov (.t 1))⟩,
  ⟨(some 62), (some (59, true)), .call (.c (.fn 39 [])) [(.t 60), (.t 61)]⟩,
  ⟨(some 63), (some (54, false)), .v (.pick (.t 59) (.t 62) (.c (.lit (.bool false))))⟩,
  ⟨(some 64), none, .v (.pick (.t 54) (.c (.lit (.bool true))) (.t 63))⟩,
  ⟨(some 4), none, .v (.mov (.t 64))⟩])
 .ret))))
def r41 : List RV := [.t 4]
theorem k41 : (Try.f41.body.bind (cC Try.prog), cR Try.prog Try.f41.results.toList, Try.f41.ntmps) = (some s41, some r41, 65) := by kernel_rfl
theorem q41 : Known Try.prog 41 := ⟨_, Try.func41, by decide, by simp [Try.f41]⟩
def s7 : SC :=
 (.seq (.reg [⟨(some 3), none, .box 31 (.t 0)⟩,
  ⟨(some 6), none, .v (.mov (.c (.lit (.bool false))))⟩])
 (.seq (.reg [⟨(some 7), none, .v (.mov (.t 1))⟩,
  ⟨(some 8), none, .v (.off (.t 3) 0)⟩,
  ⟨(some 9), none, .v (.load (.t 8) none)⟩,
  ⟨(some 10), none, .v (.bin .leq (.t 7) (.t 9))⟩,
  ⟨(some 11), none, .v (.mov (.t 10))⟩,
  ⟨(some 12), (some (11, true)), .v (.off (.t 3) 0)⟩,
  ⟨(some 13), (some (11, true)), .v (.load (.t 12) none)⟩,
  ⟨(some 14), (some (11, true)), .v (.off (.t 3) 1)⟩,
  ⟨(some 15), (some (11, true)), .v (.load (.t 14) none)⟩,
  ⟨(some 16), (some (11, true)), .v (.bin .leq (.t 13) (.t 15))⟩,
  ⟨(some 17), none, .v (.pick (.t 11) (.t 16) (.c (.lit (.bool false))))⟩,
  ⟨(some 18), none, .v (.mov (.t 17))⟩,
  ⟨(some 19), (some (18, true)), .v (.off (.t 3) 1)⟩,
  ⟨(some 20), (some (18, true)), .v (.load (.t 19) none)⟩,
  ⟨(some 21), (some (18, true)), .v (.mov (.t 2))⟩,
  ⟨(some 22), (some (18, true)), .v (.bin .leq (.t 20) (.t 21))⟩,
  ⟨(some 23), none, .v (.pick (.t 18) (.t 22) (.c (.lit (.bool false))))⟩,
  ⟨(some 6), none, .v (.mov (.t 23))⟩])
 .ret))
def r7 : List RV := [.t 6]
theorem k7 : (Try.f7.body.bind (cC Try.prog), cR Try.prog Try.f7.results.toList, Try.f7.ntmps) = (some s7, some r7, 24) := by kernel_rfl
theorem q7 : Known Try.prog 7 := ⟨_, Try.func7, by decide, by simp [Try.f7]⟩
def F39 : FC := fun args => match args with
 | [.agg [.int .i64 a, .int .i64 b], .int .i64 x] => some (True, .bool (decide (a ≤ x ∧ x ≤ b)))
 | _ => none
theorem p39 : PureOk Try.prog 39 (fcC F39) := by
 refine pure_of (T := []) trivial Try.func39 k39 ?_
 intro args K hC
 unfold fcC F39 at hC
 split at hC <;> first | (exact hC.elim) | skip
 rename_i h
 split at h <;> first | (cases h; done) | skip
 cases h
 obtain ⟨-, hK⟩ := hC
 simp only [e_reg, e_seq, e_ret, o_nil, o_cons, gd_none, gd_some, gdK_tt, gdK_ft, gdK_bt, putK_e, runK_e, skipK_e, vK_e, boxK_e, evh_v, evh_box, seqK_n, ends_r, endK1_e, endK2_e, evp, bin, gt, gq, st, putf, X.get, mkfr, rep, rdR, tupled, clV, clS, clo, ld, lda, cs1, gb, pb, ln, undef, Nat.reduceSub, Nat.reduceAdd, true_and, decide_eq_true_eq, decide_eq_false_iff_not, s39, r39]
 exact ⟨fun h1 => res hK (by simp [leR, h1]), fun h1 => res hK (by simp [leR, h1])⟩
def inL (a b : Int) (xs : List Int) : Bool := xs.all fun v => decide (a ≤ v ∧ v ≤ b)
theorem inL_no {a b : Int} {xs : List Int} {i : Nat} (hi : i < xs.length) (h : ¬ (a ≤ xs.getD i 0 ∧ xs.getD i 0 ≤ b)) : inL a b xs = false := by
 rw [Bool.eq_false_iff]
 intro h2
 unfold inL at h2
 rw [List.all_eq_true] at h2
 have := h2 (xs.getD i 0) (by simp [List.getD, hi])
 exact h (of_decide_eq_true this)
theorem inL_yes {a b : Int} {xs : List Int} (h : ∀ i, i < xs.length → (a ≤ xs.getD i 0 ∧ xs.getD i 0 ≤ b)) : inL a b xs = true := by
 unfold inL
 rw [List.all_eq_true]
 intro x hx
 obtain ⟨i, hi, rfl⟩ := List.getElem_of_mem hx
 have := h i hi
 simp only [List.getD, List.getElem?_eq_getElem hi, Option.getD_some] at this
 exact decide_eq_true this
def C60 : PC := fun args K => ∃ (a b : Int) (xs : List Int), args = [.mv 39 [.agg [.int .i64 a, .int .i64 b]] [], .ints .i64 xs] ∧ xs.length ≤ 1000 ∧ K (.bool (inL a b xs))
theorem p60 : PureOk Try.prog 60 C60 := by
 refine pure_of (T := [(39, .fc F39)]) ⟨⟨p39, q39⟩, trivial⟩ Try.func60 k60 ?_
 rintro args K ⟨a, b, xs, rfl, hxl, hK⟩
 simp only [e_reg, e_seq, e_block, e_loop, o_nil, o_cons, gd_none, putK_e, runK_e, vK_e, evh_v, seqK_n, evp, gt, st, putf, X.get, mkfr, rep, lens, undef, Nat.reduceSub, true_and, s60, r60]
 refine loop_atc (G := Nat) (fun i => [(9, .int .i64 i)]) (fun i => i ≤ xs.length ∧ ∀ j, j < i → a ≤ xs.getD j 0 ∧ xs.getD j 0 ≤ b) (fun i => xs.length - i) 0 ⟨Nat.zero_le _, fun j hj => by omega⟩ ?_
 (intro fr1 hf1; simp only [forget, dstC, dstO, st] at hf1; subst hf1)
 refine ⟨?_, ?_⟩
 ·refine Lw_re 0 [] (Nat.zero_le _) (by simp [ln]) (by simp [ln]) rfl ?_ ?_
  ·simp only [reL, reX, inb, inb.inbs, ln, sts, st, Bool.and_self, and_self, Int.natCast_zero]
  ·simp only [reH, reN]
 ·rintro i ⟨hi1, hp⟩
  by_cases hi2 : i < xs.length
  ·have n0 : ((i : Int) < (xs.length : Int)) = True := eq_true (by omega)
   by_cases hx : a ≤ xs.getD i 0 ∧ xs.getD i 0 ≤ b
   ·have t : decide (a ≤ xs.getD i 0 ∧ xs.getD i 0 ≤ b) = true := decide_eq_true hx
    simp only [condK_bt, condK_bf, decide_true, inr64, e_skip, e_reg, e_seq, e_cond, e_block, o_nil, o_cons, gd_none, putK_e, runK_e, vK_e, conK_e, callK_m, evh_v, evh_call, loopK_n, seqK_n, blockK_n, gam_e, gamK_f, pc_e, pcK_e, fcC_e, fcK_e, evp, bin, gt, gq, st, putf, X.get, gets, ap, clV, clL, clS, clo, ld, lda, ixs, lk, Bool.not_true, beq_self_eq_true, true_and, and_true, sts, n0, F39, t, Int.toNat_natCast]
    repeat' (first | omega | (with_reducible refine And.intro ?_ ?_))
    refine Nx.mk (i + 1) ⟨by omega, fun j hj => ?_⟩ (by omega) (Lw_re 0 [] (Nat.zero_le _) (by simp [ln]) (by simp [ln]) rfl ?_ ?_)
    ·by_cases h : j < i
     ·exact hp j h
     ·obtain rfl : j = i := by omega
      exact hx
    ·simp only [reL, reX, inb, inb.inbs, Bool.and_self, and_self, Int.natCast_add, Int.natCast_one]
    ·simp only [reH, reN]
   ·have t : decide (a ≤ xs.getD i 0 ∧ xs.getD i 0 ≤ b) = false := decide_eq_false hx
    rw [inL_no hi2 hx] at hK
    simp only [condK_bt, decide_true, e_skip, e_reg, e_seq, e_cond, e_block, e_ret, o_nil, o_cons, gd_none, putK_e, runK_e, vK_e, conK_e, callK_m, evh_v, evh_call, loopK_r, seqK_n, seqK_r, blockK_r, ends_r, endK1_e, endK2_e, gam_e, gamK_f, pc_e, pcK_e, fcC_e, fcK_e, evp, bin, gt, gq, st, putf, X.get, gets, ap, rdR, tupled, clV, clL, clS, clo, ld, lda, ixs, lk, Bool.not_false, beq_self_eq_true, true_and, and_true, sts, n0, F39, t, Int.toNat_natCast]
    repeat' (first | omega | (with_reducible refine And.intro ?_ ?_))
    exact res hK (by simp [leR])
  ·have n0 : ((i : Int) < (xs.length : Int)) = False := eq_false (by omega)
   rw [inL_yes fun j hj => hp j (by omega)] at hK
   simp only [condK_bf, decide_false, e_reg, e_seq, e_cond, e_exit, e_ret, o_nil, o_cons, gd_none, putK_e, runK_e, vK_e, evh_v, loopK_x, seqK_n, seqK_x, exitK_t, blockK_x, ends_r, endK1_e, endK2_e, evp, bin, gt, st, putf, X.get, rdR, tupled, clV, clS, clo, beq_self_eq_true, true_and, sts, n0]
   exact res hK (by simp [leR])
def F54 : FC := fun args => match args with
 | [.agg [.int .i64 a, .int .i64 b], .int .i64 lo, .int .i64 hi] => some (True, .bool (decide (a ≤ b ∧ ((lo ≤ a ∧ a ≤ hi) ∧ (lo ≤ b ∧ b ≤ hi)))))
 | _ => none
theorem p54 : PureOk Try.prog 54 (fcC F54) := by
 refine pure_of (T := [(60, .pc C60)]) ⟨⟨p60, q60⟩, trivial⟩ Try.func54 k54 ?_
 intro args K hC
 unfold fcC F54 at hC
 split at hC <;> first | (exact hC.elim) | skip
 rename_i h
 split at h <;> first | (cases h; done) | skip
 cases h
 rename_i a b lo hi
 obtain ⟨-, hK⟩ := hC
 by_cases h1 : a ≤ b
 ·have t := eq_true h1
  simp only [gdK_btt, decide_true, ↓reduceIte, e_reg, e_seq, o_nil, o_cons, gd_none, gd_some, gdK_tt, putK_e, runK_e, vK_e, boxK_e, bslK_e, bldK_e, conK_e, callK_e, evh_v, evh_box, evh_bsl, evh_bld, evh_call, seqK_n, gam_e, gamK_p, pc_e, evp, bin, gt, gq, st, putf, X.get, gets, getp, ap, mkfr, rep, clV, clL, clS, clo, clo.clos, ld, lda, sp, sp.spl, lay, ll, cs1, one, gb, sb, pb, ln, lk, undef, Bool.and_true, Nat.reduceSub, Nat.reduceAdd, Nat.reduceMul, Nat.reduceDiv, beq_self_eq_true, true_and, s54, r54, t]
  refine ⟨lo, hi, [a, b], rfl, by simp, ?_⟩
  simp only [e_ret, o_nil, o_cons, gd_none, putK_e, runK_e, vK_e, evh_v, seqK_n, ends_r, endK1_e, endK2_e, evp, gt, st, putf, X.get, rdR, tupled, clV, clS, clo, true_and]
  exact res hK (by simp [leR, inL, h1])
 ·have t := eq_false h1
  simp only [gdK_btf, decide_false, e_reg, e_seq, e_ret, o_nil, o_cons, gd_none, gd_some, gdK_ft, putK_e, runK_e, skipK_e, vK_e, boxK_e, evh_v, evh_box, seqK_n, ends_r, endK1_e, endK2_e, evp, bin, gt, gq, st, putf, X.get, mkfr, rep, rdR, tupled, clV, clS, clo, ld, lda, cs1, gb, pb, ln, undef, Nat.reduceSub, Nat.reduceAdd, true_and, s54, r54, t]
  exact res hK (by simp [leR, h1])
def okFr (p q r s e : Int) : Bool := decide (p ≤ q ∧ ((-1000 ≤ p ∧ p ≤ 1000) ∧ (-1000 ≤ q ∧ q ≤ 1000))) && (decide (r ≤ s ∧ ((0 ≤ r ∧ r ≤ 1000) ∧ (0 ≤ s ∧ s ≤ 1000))) && decide (-1 ≤ e ∧ e ≤ 1))
def F40 : FC := fun args => match args with
 | [.agg [.int .i64 p, .int .i64 q, .int .i64 r, .int .i64 s, .int .i64 e]] => some (True, .bool (okFr p q r s e))
 | _ => none
theorem p40 : PureOk Try.prog 40 (fcC F40) := by
 refine pure_of (T := [(39, .fc F39), (54, .fc F54)]) ⟨⟨p39, q39⟩, ⟨p54, q54⟩, trivial⟩ Try.func40 k40 ?_
 intro args K hC
 unfold fcC F40 at hC
 split at hC <;> first | (exact hC.elim) | skip
 rename_i h
 split at h <;> first | (cases h; done) | skip
 cases h
 rename_i p q r s e
 obtain ⟨-, hK⟩ := hC
 unfold okFr at hK
 cases h1 : decide (p ≤ q ∧ ((-1000 ≤ p ∧ p ≤ 1000) ∧ (-1000 ≤ q ∧ q ≤ 1000)))
 ·rw [h1] at hK
  simp only [gdK_btf, e_reg, e_seq, e_ret, o_nil, o_cons, gd_none, gd_some, gdK_ft, putK_e, runK_e, skipK_e, vK_e, boxK_e, conK_e, callK_e, evh_v, evh_box, evh_call, seqK_n, ends_r, endK1_e, endK2_e, gam_e, gamK_f, pc_e, pcK_e, fcC_e, fcK_e, evp, gt, st, putf, X.get, gets, ap, mkfr, rep, rdR, tupled, clV, clL, clS, clo, ld, lda, tk, dr, cs1, gb, pb, ln, lk, undef, Nat.reduceSub, Nat.reduceAdd, Nat.reduceBEq, beq_self_eq_true, true_and, s40, r40, F54, h1]
  exact res hK (by simp [leR])
 ·rw [h1] at hK
  cases h2 : decide (r ≤ s ∧ ((0 ≤ r ∧ r ≤ 1000) ∧ (0 ≤ s ∧ s ≤ 1000)))
  ·rw [h2] at hK
   simp only [gdK_btt, gdK_btf, e_reg, e_seq, e_ret, o_nil, o_cons, gd_none, gd_some, gdK_tt, gdK_ft, putK_e, runK_e, skipK_e, vK_e, boxK_e, conK_e, callK_e, evh_v, evh_box, evh_call, seqK_n, ends_r, endK1_e, endK2_e, gam_e, gamK_f, pc_e, pcK_e, fcC_e, fcK_e, evp, gt, st, putf, X.get, gets, ap, mkfr, rep, rdR, tupled, clV, clL, clS, clo, ld, lda, tk, dr, cs1, gb, pb, ln, lk, undef, Nat.reduceSub, Nat.reduceAdd, Nat.reduceBEq, beq_self_eq_true, true_and, s40, r40, F54, h1, h2]
   exact res hK (by simp [leR])
  ·rw [h2] at hK
   simp only [gdK_btt, ↓reduceIte, e_reg, e_seq, e_ret, o_nil, o_cons, gd_none, gd_some, gdK_tt, putK_e, runK_e, vK_e, boxK_e, bldK_e, conK_e, callK_e, evh_v, evh_box, evh_bld, evh_call, seqK_n, ends_r, endK1_e, endK2_e, gam_e, gamK_f, pc_e, pcK_e, fcC_e, fcK_e, evp, gt, gq, st, putf, X.get, gets, getp, ap, mkfr, rep, rdR, tupled, clV, clL, clS, clo, ld, lda, tk, dr, sp, sp.spl, lay, ll, cs1, one, gb, pb, ln, lk, undef, Nat.reduceSub, Nat.reduceAdd, Nat.reduceBEq, beq_self_eq_true, true_and, s40, r40, F39, F54, h1, h2]
   exact res hK (by simp [leR])
def C20 : PC := fun args K => ∃ (p q r s e : Int) (f : Nat → List SV), args = [.rd 5 1 f] ∧ f 0 = [.int .i64 p, .int .i64 q, .int .i64 r, .int .i64 s, .int .i64 e] ∧ K (.bool (okFr p q r s e))
theorem p20 : PureOk Try.prog 20 C20 := by
 refine pure_of (T := [(39, .fc F39), (40, .fc F40)]) ⟨⟨p39, q39⟩, ⟨p40, q40⟩, trivial⟩ Try.func20 k20 ?_
 rintro args K ⟨p, q, r, s, e, f, rfl, hf, hK⟩
 have h1 : decide (1 ≤ (((1 : Nat) : Int)) ∧ (((1 : Nat) : Int)) ≤ 12) = true := rfl
 simp only [condK_bf, ↓reduceIte, e_skip, e_reg, e_seq, e_cond, e_block, e_loop, o_nil, o_cons, gd_none, putK_e, runK_e, vK_e, bldK_e, conK_e, callK_e, evh_v, evh_bld, evh_call, seqK_n, gam_e, gamK_f, pc_e, pcK_e, fcC_e, fcK_e, evp, gt, st, putf, X.get, gets, getp, ap, mkfr, rep, clV, clL, clS, clo, lens, sp, sp.spl, lay, ll, cs1, one, lk, undef, Bool.not_true, Nat.reduceSub, Nat.reduceAdd, beq_self_eq_true, true_and, s20, r20, F39, h1]
 refine loop_at2 (G := Nat) (fun i => [(12, .int .i64 i)]) (fun _ => []) (fun i => i ≤ 1 ∧ (i = 1 → okFr p q r s e = true)) (fun i => 1 - i) 0 ⟨Nat.zero_le _, fun h => by omega⟩ ?_
 (intro fr1 hf1; simp only [forget, dstC, dstO, st] at hf1; subst hf1)
 refine ⟨?_, ?_⟩
 ·refine Lw_re 0 [] (Nat.zero_le _) (by simp [ln]) (by simp [ln]) rfl ?_ ?_
  ·simp only [reL, reX, inb, inb.inbs, ln, sts, st, Bool.and_self, and_self, Int.natCast_zero, implies_true]
  ·simp only [reH, reN]
 ·rintro i ⟨hi1, hp⟩
  by_cases hi2 : i < 1
  ·obtain rfl : i = 0 := by omega
   have n0 : (((0 : Nat) : Int) < ((1 : Nat) : Int)) = True := eq_true (by omega)
   cases hv : okFr p q r s e
   ·rw [hv] at hK
    simp only [condK_bt, decide_true, reduceCtorEq, e_skip, e_reg, and_self, e_seq, e_cond, e_block, e_ret, o_nil, o_cons, gd_none, putK_e, runK_e, vK_e, bldK_e, storeK3_e, storeK2_e, storeK_e, conK_e, callK_e, evh_v, evh_new, evh_bld, evh_store, evh_call, loopK_r, seqK_n, seqK_r, blockK_r, ends_r, endK1_e, endK2_e, gam_e, gamK_f, pc_e, pcK_e, fcC_e, fcK_e, evp, bin, gt, st, putf, X.get, gets, getp, ap, rdR, tupled, clV, clL, clS, clo, ld, lda, ixs, tk, dr, sp, sp.spl, lay, ll, cs1, one, allOne, gb, sb, pb, ln, lk, Bool.and_true, Bool.not_false, Nat.reduceSub, Nat.reduceAdd, Nat.reduceBEq, beq_self_eq_true, true_and, and_true, sts, n0, F40, hv, hf, Int.toNat_natCast]
    repeat' (first | omega | (with_reducible refine And.intro ?_ ?_))
    exact res hK (by simp [leR])
   ·simp only [condK_bt, condK_bf, decide_true, inr64, e_skip, e_reg, and_self, e_seq, e_cond, e_block, o_nil, o_cons, gd_none, putK_e, runK_e, vK_e, bldK_e, storeK3_e, storeK2_e, storeK_e, conK_e, callK_e, evh_v, evh_new, evh_bld, evh_store, evh_call, loopK_n, seqK_n, blockK_n, gam_e, gamK_f, pc_e, pcK_e, fcC_e, fcK_e, evp, bin, gt, st, putf, X.get, gets, getp, ap, clV, clL, clS, clo, ld, lda, ixs, tk, dr, sp, sp.spl, lay, ll, cs1, one, allOne, gb, sb, pb, ln, lk, Bool.and_true, Bool.not_true, Nat.reduceSub, Nat.reduceAdd, Nat.reduceBEq, beq_self_eq_true, true_and, and_true, sts, n0, F40, hv, hf, Int.toNat_natCast]
    repeat' (first | omega | (with_reducible refine And.intro ?_ ?_))
    refine Nx.mk 1 ⟨by omega, fun _ => trivial⟩ (by omega) (Lw_re 0 [] (Nat.zero_le _) (by simp [ln]) (by simp [ln]) rfl ?_ ?_)
    ·simp only [reL, reX, inb, inb.inbs, Bool.and_self, true_and, and_true, and_self, Int.natCast_one, implies_true]
     try rfl
    ·simp only [reH, reN]
  ·obtain rfl : i = 1 := by omega
   have n0 : (((1 : Nat) : Int) < ((1 : Nat) : Int)) = False := eq_false (by omega)
   rw [hp rfl] at hK
   simp only [condK_bf, decide_false, e_reg, e_seq, e_cond, e_exit, e_ret, o_nil, o_cons, gd_none, putK_e, runK_e, vK_e, evh_v, loopK_x, seqK_n, seqK_x, exitK_t, blockK_x, ends_r, endK1_e, endK2_e, evp, bin, gt, st, putf, X.get, rdR, tupled, clV, clS, clo, Nat.reduceSub, beq_self_eq_true, true_and, sts, n0]
   exact res hK (by simp [leR])
def agr (p q r s e x : Int) : Bool := decide ((0 ≤ e ∧ (p + r ≤ x ∧ x ≤ q + s)) ∨ (e ≤ 0 ∧ (p - s ≤ x ∧ x ≤ q - r)))
def F41 : FC := fun args => match args with
 | [.agg [.int .i64 p, .int .i64 q, .int .i64 r, .int .i64 s, .int .i64 e], .int .i64 x] => some (okFr p q r s e = true, .bool (agr p q r s e x))
 | _ => none
theorem p41 : PureOk Try.prog 41 (fcC F41) := by
 refine pure_of (T := [(39, .fc F39)]) ⟨⟨p39, q39⟩, trivial⟩ Try.func41 k41 ?_
 intro args K hC
 unfold fcC F41 at hC
 split at hC <;> first | (exact hC.elim) | skip
 rename_i h
 split at h <;> first | (cases h; done) | skip
 cases h
 rename_i p q r s e x
 obtain ⟨hok, hK⟩ := hC
 simp only [okFr, Bool.and_eq_true, decide_eq_true_eq] at hok
 by_cases h1 : 0 ≤ e
 ·have t1 : (e ≥ 0) = True := eq_true h1
  by_cases h2 : p + r ≤ x ∧ x ≤ q + s
  ·have t2 : decide (p + r ≤ x ∧ x ≤ q + s) = true := decide_eq_true h2
   have e0 : agr p q r s e x = true := decide_eq_true (.inl ⟨h1, h2⟩)
   rw [e0] at hK
   simp only [gdK_btt, gdK_bft, decide_true, inr64, ↓reduceIte, e_reg, and_self, e_seq, e_ret, o_nil, o_cons, gd_none, gd_some, gdK_tt, gdK_tf, gdK_u, putK_e, runK_e, skipK_e, vK_e, boxK_e, bldK_e, storeK3_e, storeK2_e, storeK_e, conK_e, callK_e, evh_v, evh_new, evh_box, evh_bld, evh_store, evh_call, seqK_n, ends_r, endK1_e, endK2_e, gam_e, gamK_f, pc_e, pcK_e, fcC_e, fcK_e, evp, bin, gt, gq, st, putf, X.get, gets, getp, ap, mkfr, rep, rdR, tupled, clV, clL, clS, clo, ld, lda, tk, dr, sp, sp.spl, lay, ll, cs1, one, allOne, gb, sb, pb, ln, lk, undef, Bool.and_true, Nat.reduceSub, Nat.reduceAdd, beq_self_eq_true, true_and, s41, r41, F39, t1, t2]
   repeat' (first | omega | (with_reducible refine And.intro ?_ ?_))
   exact res hK (by simp [leR])
  ·have t2 : decide (p + r ≤ x ∧ x ≤ q + s) = false := decide_eq_false h2
   by_cases h3 : e ≤ 0
   ·have t3 : (e ≤ 0) = True := eq_true h3
    have e0 : agr p q r s e x = decide (p - s ≤ x ∧ x ≤ q - r) := by
     unfold agr
     rw [Bool.eq_iff_iff, decide_eq_true_eq, decide_eq_true_eq]
     exact ⟨fun h => h.elim (fun h => absurd h.2 h2) (fun h => h.2), fun h => .inr ⟨h3, h⟩⟩
    rw [e0] at hK
    simp only [gdK_btt, gdK_bff, decide_true, inr64, ↓reduceIte, e_reg, and_self, e_seq, e_ret, o_nil, o_cons, gd_none, gd_some, gdK_tt, gdK_ff, putK_e, runK_e, vK_e, boxK_e, bldK_e, storeK3_e, storeK2_e, storeK_e, conK_e, callK_e, evh_v, evh_new, evh_box, evh_bld, evh_store, evh_call, seqK_n, ends_r, endK1_e, endK2_e, gam_e, gamK_f, pc_e, pcK_e, fcC_e, fcK_e, evp, bin, gt, gq, st, putf, X.get, gets, getp, ap, mkfr, rep, rdR, tupled, clV, clL, clS, clo, ld, lda, tk, dr, sp, sp.spl, lay, ll, cs1, one, allOne, gb, sb, pb, ln, lk, undef, Bool.and_true, Nat.reduceSub, Nat.reduceAdd, beq_self_eq_true, true_and, s41, r41, F39, t1, t2, t3]
    repeat' (first | omega | (with_reducible refine And.intro ?_ ?_))
    exact res hK (by simp [leR])
   ·have t3 : (e ≤ 0) = False := eq_false h3
    have e0 : agr p q r s e x = false := decide_eq_false fun h => h.elim (fun h => h2 h.2) (fun h => h3 h.1)
    rw [e0] at hK
    simp only [gdK_btt, gdK_btf, gdK_bff, decide_true, decide_false, inr64, ↓reduceIte, e_reg, and_self, e_seq, e_ret, o_nil, o_cons, gd_none, gd_some, gdK_tt, gdK_ft, gdK_ff, putK_e, runK_e, skipK_e, vK_e, boxK_e, bldK_e, storeK3_e, storeK2_e, storeK_e, conK_e, callK_e, evh_v, evh_new, evh_box, evh_bld, evh_store, evh_call, seqK_n, ends_r, endK1_e, endK2_e, gam_e, gamK_f, pc_e, pcK_e, fcC_e, fcK_e, evp, bin, gt, gq, st, putf, X.get, gets, getp, ap, mkfr, rep, rdR, tupled, clV, clL, clS, clo, ld, lda, tk, dr, sp, sp.spl, lay, ll, cs1, one, allOne, gb, sb, pb, ln, lk, undef, Bool.and_true, Nat.reduceSub, Nat.reduceAdd, beq_self_eq_true, true_and, s41, r41, F39, t1, t2, t3]
    repeat' (first | omega | (with_reducible refine And.intro ?_ ?_))
    exact res hK (by simp [leR])
 ·have t1 : (e ≥ 0) = False := eq_false h1
  have t3 : (e ≤ 0) = True := eq_true (by omega)
  have e0 : agr p q r s e x = decide (p - s ≤ x ∧ x ≤ q - r) := by
   unfold agr
   rw [Bool.eq_iff_iff, decide_eq_true_eq, decide_eq_true_eq]
   exact ⟨fun h => h.elim (fun h => absurd h.1 h1) (fun h => h.2), fun h => .inr ⟨by omega, h⟩⟩
  rw [e0] at hK
  simp only [gdK_btt, gdK_btf, decide_true, decide_false, inr64, ↓reduceIte, e_reg, and_self, e_seq, e_ret, o_nil, o_cons, gd_none, gd_some, gdK_tt, gdK_ft, gdK_ff, putK_e, runK_e, skipK_e, vK_e, boxK_e, bldK_e, storeK3_e, storeK2_e, storeK_e, conK_e, callK_e, evh_v, evh_new, evh_box, evh_bld, evh_store, evh_call, seqK_n, ends_r, endK1_e, endK2_e, gam_e, gamK_f, pc_e, pcK_e, fcC_e, fcK_e, evp, bin, gt, gq, st, putf, X.get, gets, getp, ap, mkfr, rep, rdR, tupled, clV, clL, clS, clo, ld, lda, tk, dr, sp, sp.spl, lay, ll, cs1, one, allOne, gb, sb, pb, ln, lk, undef, Bool.and_true, Nat.reduceSub, Nat.reduceAdd, beq_self_eq_true, true_and, s41, r41, F39, t1, t3]
  repeat' (first | omega | (with_reducible refine And.intro ?_ ?_))
  exact res hK (by simp [leR])
def Fspd : FC := fun args => match args with
 | [.agg [.int .i64 a, .int .i64 b], .int .i64 lo, .int .i64 hi] => some (True, .bool (decide ((lo ≤ a ∧ a ≤ b) ∧ b ≤ hi)))
 | _ => none
theorem p7 : PureOk Try.prog 7 (fcC Fspd) := by
 refine pure_of (T := []) trivial Try.func7 k7 ?_
 intro args K hC
 unfold fcC Fspd at hC
 split at hC <;> first | (exact hC.elim) | skip
 rename_i h
 split at h <;> first | (cases h; done) | skip
 cases h
 obtain ⟨-, hK⟩ := hC
 simp only [e_reg, e_seq, e_ret, o_nil, o_cons, gd_none, gd_some, gdK_tt, gdK_ft, gdK_bt, putK_e, runK_e, skipK_e, vK_e, boxK_e, evh_v, evh_box, seqK_n, ends_r, endK1_e, endK2_e, evp, bin, gt, gq, st, putf, X.get, mkfr, rep, rdR, tupled, clV, clS, clo, ld, lda, cs1, gb, pb, ln, undef, Nat.reduceSub, Nat.reduceAdd, true_and, decide_eq_true_eq, decide_eq_false_iff_not, s7, r7]
 exact ⟨fun h1 => ⟨fun h2 => res hK (by simp [leR, h1, h2]), fun h2 => res hK (by simp [leR, h1, h2])⟩, fun h1 => res hK (by simp [leR, h1])⟩
end Go.Proofs.Ytplldhepmmjmmaa
