/- Laps: what the program and the specification return, for all errors, nuts and limits. -/
import Derived.Test.YtbbbpdajikblbaaVgN2
namespace Go.Proofs.Ytbbbpdajikblbaa
open Go Go.Vg
set_option linter.unusedSimpArgs false
set_option linter.unusedVariables false
set_option maxRecDepth 10000
/- 32: octant/screw.Lap -/
def s32 : SC :=
  (.seq (.reg [⟨(some 4), none, .v (.mov (.c (.lit (.slice none 0 0))))⟩,
    ⟨(some 5), none, .v (.mov (.c (.int .i64 (0))))⟩])
  (.seq (.seq (.reg [⟨(some 6), none, .v (.mov (.t 0))⟩,
    ⟨(some 7), none, .call (.c (.fn 79 [])) [(.t 6)]⟩,
    ⟨(some 8), none, .v (.not (.t 7))⟩,
    ⟨(some 9), none, .v (.mov (.t 8))⟩,
    ⟨(some 10), (some (9, false)), .v (.mov (.t 1))⟩,
    ⟨(some 11), (some (9, false)), .v (.mov (.t 0))⟩,
    ⟨(some 12), (some (9, false)), .v (.len (.t 11))⟩,
    ⟨(some 13), (some (9, false)), .call (.c (.fn 60 [])) [(.t 10), (.c (.int .i64 (1))), (.t 12)]⟩,
    ⟨(some 14), (some (9, false)), .v (.not (.t 13))⟩,
    ⟨(some 15), none, .v (.pick (.t 9) (.c (.lit (.bool true))) (.t 14))⟩])
  (.cond (.t 15)
    (.seq (.reg [⟨(some 4), none, .v (.mov (.c (.lit (.slice none 0 0))))⟩,
      ⟨(some 5), none, .v (.mov (.c (.int .i64 (25))))⟩])
    .ret)
    .skip))
  (.seq (.reg [⟨(some 16), none, .v (.mov (.t 1))⟩,
    ⟨(some 17), none, .v (.mov (.t 0))⟩,
    ⟨(some 18), none, .call (.c (.fn 80 [])) [(.t 16), (.t 17)]⟩,
    ⟨(some 4), none, .v (.mov (.t 18))⟩,
    ⟨(some 5), none, .v (.mov (.c (.int .i64 (0))))⟩])
  .ret)))
def r32 : List RV := [.t 4, .t 5]
def n32 : Nat := 19
theorem k32 : (Try.f32.body.bind (cC Try.prog), cR Try.prog Try.f32.results.toList, Try.f32.ntmps) = (some s32, some r32, 19) := by kernel_rfl
theorem q32 : Known Try.prog 32 := ⟨_, Try.func32, by decide, by simp [Try.f32]⟩

/- 33: octant/octantref02.Lap -/
def s33 : SC :=
  (.seq (.reg [⟨(some 4), none, .v (.mov (.c (.lit (.slice none 0 0))))⟩,
    ⟨(some 5), none, .v (.mov (.c (.int .i64 (0))))⟩])
  (.seq (.seq (.reg [⟨(some 6), none, .v (.mov (.t 0))⟩,
    ⟨(some 7), none, .v (.mov (.t 1))⟩,
    ⟨(some 8), none, .call (.c (.fn 81 [])) [(.t 6), (.t 7)]⟩,
    ⟨(some 9), none, .v (.not (.t 8))⟩])
  (.cond (.t 9)
    (.seq (.reg [⟨(some 4), none, .v (.mov (.c (.lit (.slice none 0 0))))⟩,
      ⟨(some 5), none, .v (.mov (.c (.int .i64 (25))))⟩])
    .ret)
    .skip))
  (.seq (.reg [⟨(some 10), none, .v (.mov (.t 0))⟩,
    ⟨(some 11), none, .v (.mov (.t 1))⟩,
    ⟨(some 12), none, .call (.c (.fn 82 [])) [(.t 10), (.t 11)]⟩,
    ⟨(some 4), none, .v (.mov (.t 12))⟩,
    ⟨(some 5), none, .v (.mov (.c (.int .i64 (0))))⟩])
  .ret)))
def r33 : List RV := [.t 4, .t 5]
def n33 : Nat := 13
theorem k33 : (Try.f33.body.bind (cC Try.prog), cR Try.prog Try.f33.results.toList, Try.f33.ntmps) = (some s33, some r33, 13) := by kernel_rfl
theorem q33 : Known Try.prog 33 := ⟨_, Try.func33, by decide, by simp [Try.f33]⟩

/- 83: (octant/screw.length).laps -/
def s83 : SC :=
  (.seq (.reg [⟨(some 6), none, .v (.mov (.c (.int .i64 (0))))⟩,
    ⟨(some 7), none, .v (.mov (.c (.lit (.bool false))))⟩])
  (.seq (.reg [⟨(some 10), none, .v (.mov (.t 0))⟩,
    ⟨(some 11), none, .v (.mkmv 80 [(.t 10)] [])⟩,
    ⟨(some 8), none, .v (.mov (.t 11))⟩])
  (.seq (.seq (.reg [⟨(some 12), none, .v (.mov (.c (.int .i64 (0))))⟩])
  (.block 0 (.loop
    (.seq (.reg [⟨(some 13), none, .v (.bin .lss (.t 12) (.c (.int .i64 (5))))⟩])
    (.seq (.cond (.t 13)
      .skip
      (.exit 0))
    (.seq (.block 1 (.seq (.reg [⟨(some 14), none, .v (.mov (.t 12))⟩,
      ⟨(some 9), none, .v (.mov (.t 14))⟩])
    (.seq (.seq (.reg [⟨(some 15), none, .v (.mov (.t 1))⟩,
      ⟨(some 16), none, .call (.c (.fn 103 [])) [(.t 15)]⟩,
      ⟨(some 17), none, .v (.mov (.t 2))⟩,
      ⟨(some 18), none, .v (.bin .leq (.t 16) (.t 17))⟩])
    (.cond (.t 18)
      (.seq (.reg [⟨(some 19), none, .v (.mov (.t 9))⟩,
        ⟨(some 6), none, .v (.mov (.t 19))⟩,
        ⟨(some 7), none, .v (.mov (.c (.lit (.bool true))))⟩])
      .ret)
      .skip))
    (.seq (.seq (.reg [⟨(some 20), none, .v (.mov (.t 1))⟩,
      ⟨(some 21), none, .v (.len (.t 20))⟩,
      ⟨(some 22), none, .v (.mov (.t 0))⟩,
      ⟨(some 23), none, .v (.bin .lss (.t 21) (.t 22))⟩])
    (.cond (.t 23)
      (.exit 0)
      .skip))
    (.seq (.reg [⟨(some 24), none, .v (.mov (.t 8))⟩,
      ⟨(some 25), none, .v (.mov (.t 1))⟩,
      ⟨(some 26), none, .call (.t 24) [(.t 25)]⟩,
      ⟨(some 1), none, .v (.mov (.t 26))⟩])
    (.reg [⟨(some 27), none, .v (.mov (.t 2))⟩,
      ⟨(some 28), none, .v (.mov (.t 0))⟩,
      ⟨(some 29), none, .v (.bin .mul (.t 27) (.t 28))⟩,
      ⟨(some 2), none, .v (.mov (.t 29))⟩]))))))
    (.reg [⟨(some 30), none, .v (.bin .add (.t 12) (.c (.int .i64 (1))))⟩,
      ⟨(some 12), none, .v (.mov (.t 30))⟩])))))))
  (.seq (.reg [⟨(some 6), none, .v (.mov (.c (.int .i64 (0))))⟩,
    ⟨(some 7), none, .v (.mov (.c (.lit (.bool false))))⟩])
  .ret))))
def r83 : List RV := [.t 6, .t 7]
def n83 : Nat := 31
theorem k83 : (Try.f83.body.bind (cC Try.prog), cR Try.prog Try.f83.results.toList, Try.f83.ntmps) = (some s83, some r83, 31) := by kernel_rfl
theorem q83 : Known Try.prog 83 := ⟨_, Try.func83, by decide, by simp [Try.f83]⟩

/- 34: octant/screw.Laps -/
def s34 : SC :=
  (.seq (.reg [⟨(some 6), none, .v (.mov (.c (.int .i64 (0))))⟩,
    ⟨(some 7), none, .v (.mov (.c (.int .i64 (0))))⟩])
  (.seq (.seq (.reg [⟨(some 10), none, .v (.mov (.t 0))⟩,
    ⟨(some 11), none, .call (.c (.fn 79 [])) [(.t 10)]⟩,
    ⟨(some 12), none, .v (.not (.t 11))⟩,
    ⟨(some 13), none, .v (.mov (.t 12))⟩,
    ⟨(some 14), (some (13, false)), .v (.mov (.t 1))⟩,
    ⟨(some 15), (some (13, false)), .v (.mov (.t 0))⟩,
    ⟨(some 16), (some (13, false)), .v (.len (.t 15))⟩,
    ⟨(some 17), (some (13, false)), .call (.c (.fn 60 [])) [(.t 14), (.c (.int .i64 (1))), (.t 16)]⟩,
    ⟨(some 18), (some (13, false)), .v (.not (.t 17))⟩,
    ⟨(some 19), none, .v (.pick (.t 13) (.c (.lit (.bool true))) (.t 18))⟩])
  (.cond (.t 19)
    (.seq (.reg [⟨(some 6), none, .v (.mov (.c (.int .i64 (0))))⟩,
      ⟨(some 7), none, .v (.mov (.c (.int .i64 (25))))⟩])
    .ret)
    .skip))
  (.seq (.seq (.reg [⟨(some 20), none, .v (.mov (.t 2))⟩,
    ⟨(some 21), none, .call (.c (.fn 60 [])) [(.t 20), (.c (.int .i64 (0))), (.c (.int .i64 (2000000)))]⟩,
    ⟨(some 22), none, .v (.not (.t 21))⟩])
  (.cond (.t 22)
    (.seq (.reg [⟨(some 6), none, .v (.mov (.c (.int .i64 (0))))⟩,
      ⟨(some 7), none, .v (.mov (.c (.int .i64 (7))))⟩])
    .ret)
    .skip))
  (.seq (.reg [⟨(some 24), none, .v (.mov (.t 1))⟩,
    ⟨(some 25), none, .v (.mov (.t 0))⟩,
    ⟨(some 26), none, .v (.mov (.t 2))⟩,
    ⟨(some 27), none, .call (.c (.fn 83 [])) [(.t 24), (.t 25), (.t 26)]⟩,
    ⟨(some 23), none, .v (.mov (.t 27))⟩,
    ⟨(some 28), none, .v (.ext (.t 23) 0)⟩,
    ⟨(some 29), none, .v (.ext (.t 23) 1)⟩,
    ⟨(some 8), none, .v (.mov (.t 28))⟩,
    ⟨(some 9), none, .v (.mov (.t 29))⟩])
  (.seq (.seq (.reg [⟨(some 30), none, .v (.mov (.t 9))⟩,
    ⟨(some 31), none, .v (.not (.t 30))⟩])
  (.cond (.t 31)
    (.seq (.reg [⟨(some 6), none, .v (.mov (.c (.int .i64 (0))))⟩,
      ⟨(some 7), none, .v (.mov (.c (.int .i64 (4))))⟩])
    .ret)
    .skip))
  (.seq (.reg [⟨(some 32), none, .v (.mov (.t 8))⟩,
    ⟨(some 6), none, .v (.mov (.t 32))⟩,
    ⟨(some 7), none, .v (.mov (.c (.int .i64 (0))))⟩])
  .ret))))))
def r34 : List RV := [.t 6, .t 7]
def n34 : Nat := 33
theorem k34 : (Try.f34.body.bind (cC Try.prog), cR Try.prog Try.f34.results.toList, Try.f34.ntmps) = (some s34, some r34, 33) := by kernel_rfl
theorem q34 : Known Try.prog 34 := ⟨_, Try.func34, by decide, by simp [Try.f34]⟩

/- 35: octant/octantref02.Laps -/
def s35 : SC :=
  (.seq (.reg [⟨(some 6), none, .v (.mov (.c (.int .i64 (0))))⟩,
    ⟨(some 7), none, .v (.mov (.c (.int .i64 (0))))⟩])
  (.seq (.seq (.reg [⟨(some 9), none, .v (.mov (.t 0))⟩,
    ⟨(some 10), none, .v (.mov (.t 1))⟩,
    ⟨(some 11), none, .call (.c (.fn 81 [])) [(.t 9), (.t 10)]⟩,
    ⟨(some 12), none, .v (.not (.t 11))⟩])
  (.cond (.t 12)
    (.seq (.reg [⟨(some 6), none, .v (.mov (.c (.int .i64 (0))))⟩,
      ⟨(some 7), none, .v (.mov (.c (.int .i64 (25))))⟩])
    .ret)
    .skip))
  (.seq (.seq (.reg [⟨(some 13), none, .v (.mov (.t 2))⟩,
    ⟨(some 14), none, .call (.c (.fn 39 [])) [(.t 13), (.c (.int .i64 (0))), (.c (.int .i64 (2000000)))]⟩,
    ⟨(some 15), none, .v (.not (.t 14))⟩])
  (.cond (.t 15)
    (.seq (.reg [⟨(some 6), none, .v (.mov (.c (.int .i64 (0))))⟩,
      ⟨(some 7), none, .v (.mov (.c (.int .i64 (7))))⟩])
    .ret)
    .skip))
  (.seq (.seq (.reg [⟨(some 8), none, .v (.mov (.c (.int .i64 (0))))⟩])
  (.block 0 (.loop
    (.seq (.seq (.reg [⟨(some 16), none, .v (.mov (.t 8))⟩,
      ⟨(some 17), none, .v (.bin .leq (.t 16) (.c (.int .i64 (4))))⟩])
    (.cond (.t 17)
      .skip
      (.exit 0)))
    (.seq (.block 1 (.seq (.seq (.reg [⟨(some 20), none, .v (.mov (.t 0))⟩,
      ⟨(some 21), none, .call (.c (.fn 84 [])) [(.t 20)]⟩,
      ⟨(some 22), none, .v (.mov (.t 2))⟩,
      ⟨(some 23), none, .v (.bin .leq (.t 21) (.t 22))⟩])
    (.cond (.t 23)
      (.seq (.reg [⟨(some 24), none, .v (.mov (.t 8))⟩,
        ⟨(some 6), none, .v (.mov (.t 24))⟩,
        ⟨(some 7), none, .v (.mov (.c (.int .i64 (0))))⟩])
      .ret)
      .skip))
    (.seq (.seq (.reg [⟨(some 25), none, .v (.mov (.t 0))⟩,
      ⟨(some 26), none, .v (.len (.t 25))⟩,
      ⟨(some 27), none, .v (.mov (.t 1))⟩,
      ⟨(some 28), none, .v (.bin .lss (.t 26) (.t 27))⟩])
    (.cond (.t 28)
      (.seq (.reg [⟨(some 6), none, .v (.mov (.c (.int .i64 (0))))⟩,
        ⟨(some 7), none, .v (.mov (.c (.int .i64 (4))))⟩])
      .ret)
      .skip))
    (.reg [⟨(some 29), none, .v (.mov (.t 0))⟩,
      ⟨(some 30), none, .v (.mov (.t 1))⟩,
      ⟨(some 31), none, .call (.c (.fn 82 [])) [(.t 29), (.t 30)]⟩,
      ⟨(some 32), none, .v (.mov (.t 2))⟩,
      ⟨(some 33), none, .v (.mov (.t 1))⟩,
      ⟨(some 34), none, .v (.bin .mul (.t 32) (.t 33))⟩,
      ⟨(some 0), none, .v (.mov (.t 31))⟩,
      ⟨(some 2), none, .v (.mov (.t 34))⟩]))))
    (.reg [⟨(some 18), none, .v (.mov (.t 8))⟩,
      ⟨(some 19), none, .v (.bin .add (.t 18) (.c (.int .i64 (1))))⟩,
      ⟨(some 8), none, .v (.mov (.t 19))⟩]))))))
  (.seq (.reg [⟨(some 6), none, .v (.mov (.c (.int .i64 (0))))⟩,
    ⟨(some 7), none, .v (.mov (.c (.int .i64 (4))))⟩])
  .ret)))))
def r35 : List RV := [.t 6, .t 7]
def n35 : Nat := 35
theorem k35 : (Try.f35.body.bind (cC Try.prog), cR Try.prog Try.f35.results.toList, Try.f35.ntmps) = (some s35, some r35, 35) := by kernel_rfl
theorem q35 : Known Try.prog 35 := ⟨_, Try.func35, by decide, by simp [Try.f35]⟩

/- 5: octant/octantlaw02.ScrewLaps -/
def s5 : SC :=
  (.seq (.reg [⟨(some 6), none, .v (.mov (.c (.lit (.bool false))))⟩])
  (.seq (.reg [⟨(some 14), none, .v (.mov (.t 0))⟩,
    ⟨(some 15), none, .v (.mov (.t 1))⟩,
    ⟨(some 16), none, .call (.c (.fn 32 [])) [(.t 14), (.t 15)]⟩,
    ⟨(some 13), none, .v (.mov (.t 16))⟩,
    ⟨(some 17), none, .v (.ext (.t 13) 0)⟩,
    ⟨(some 18), none, .v (.ext (.t 13) 1)⟩,
    ⟨(some 7), none, .v (.mov (.t 17))⟩,
    ⟨(some 8), none, .v (.mov (.t 18))⟩])
  (.seq (.reg [⟨(some 20), none, .v (.mov (.t 0))⟩,
    ⟨(some 21), none, .v (.mov (.t 1))⟩,
    ⟨(some 22), none, .call (.c (.fn 33 [])) [(.t 20), (.t 21)]⟩,
    ⟨(some 19), none, .v (.mov (.t 22))⟩,
    ⟨(some 23), none, .v (.ext (.t 19) 0)⟩,
    ⟨(some 24), none, .v (.ext (.t 19) 1)⟩,
    ⟨(some 9), none, .v (.mov (.t 23))⟩,
    ⟨(some 10), none, .v (.mov (.t 24))⟩])
  (.seq (.seq (.reg [⟨(some 25), none, .v (.mov (.t 7))⟩,
    ⟨(some 26), none, .v (.mov (.t 9))⟩,
    ⟨(some 27), none, .call (.c (.fn 21 [])) [(.t 25), (.t 26)]⟩,
    ⟨(some 28), none, .v (.not (.t 27))⟩,
    ⟨(some 29), none, .v (.mov (.t 28))⟩,
    ⟨(some 30), (some (29, false)), .v (.mov (.t 8))⟩,
    ⟨(some 31), (some (29, false)), .v (.mov (.t 10))⟩,
    ⟨(some 32), (some (29, false)), .v (.bin .neq (.t 30) (.t 31))⟩,
    ⟨(some 33), none, .v (.pick (.t 29) (.c (.lit (.bool true))) (.t 32))⟩])
  (.cond (.t 33)
    (.seq (.reg [⟨(some 6), none, .v (.mov (.c (.lit (.bool false))))⟩])
    .ret)
    .skip))
  (.seq (.reg [⟨(some 35), none, .v (.mov (.t 0))⟩,
    ⟨(some 36), none, .v (.mov (.t 1))⟩,
    ⟨(some 37), none, .v (.mov (.t 2))⟩,
    ⟨(some 38), none, .call (.c (.fn 34 [])) [(.t 35), (.t 36), (.t 37)]⟩,
    ⟨(some 34), none, .v (.mov (.t 38))⟩,
    ⟨(some 39), none, .v (.ext (.t 34) 0)⟩,
    ⟨(some 40), none, .v (.ext (.t 34) 1)⟩,
    ⟨(some 11), none, .v (.mov (.t 39))⟩,
    ⟨(some 8), none, .v (.mov (.t 40))⟩])
  (.seq (.reg [⟨(some 42), none, .v (.mov (.t 0))⟩,
    ⟨(some 43), none, .v (.mov (.t 1))⟩,
    ⟨(some 44), none, .v (.mov (.t 2))⟩,
    ⟨(some 45), none, .call (.c (.fn 35 [])) [(.t 42), (.t 43), (.t 44)]⟩,
    ⟨(some 41), none, .v (.mov (.t 45))⟩,
    ⟨(some 46), none, .v (.ext (.t 41) 0)⟩,
    ⟨(some 47), none, .v (.ext (.t 41) 1)⟩,
    ⟨(some 12), none, .v (.mov (.t 46))⟩,
    ⟨(some 10), none, .v (.mov (.t 47))⟩])
  (.seq (.reg [⟨(some 48), none, .v (.mov (.t 11))⟩,
    ⟨(some 49), none, .v (.mov (.t 12))⟩,
    ⟨(some 50), none, .v (.bin .eql (.t 48) (.t 49))⟩,
    ⟨(some 51), none, .v (.mov (.t 50))⟩,
    ⟨(some 52), (some (51, true)), .v (.mov (.t 8))⟩,
    ⟨(some 53), (some (51, true)), .v (.mov (.t 10))⟩,
    ⟨(some 54), (some (51, true)), .v (.bin .eql (.t 52) (.t 53))⟩,
    ⟨(some 55), none, .v (.pick (.t 51) (.t 54) (.c (.lit (.bool false))))⟩,
    ⟨(some 56), none, .v (.mov (.t 55))⟩,
    ⟨(some 57), (some (56, true)), .call (.c (.fn 24 [])) []⟩,
    ⟨(some 58), none, .v (.pick (.t 56) (.t 57) (.c (.lit (.bool false))))⟩,
    ⟨(some 6), none, .v (.mov (.t 58))⟩])
  .ret)))))))
def r5 : List RV := [.t 6]
def n5 : Nat := 59
theorem k5 : (Try.f5.body.bind (cC Try.prog), cR Try.prog Try.f5.results.toList, Try.f5.ntmps) = (some s5, some r5, 59) := by kernel_rfl
theorem q5 : Known Try.prog 5 := ⟨_, Try.func5, by decide, by simp [Try.f5]⟩



theorem places2_iff {l : List Int} {n : Int} : places2 l n = true ↔ ((1 ≤ l.length ∧ l.length ≤ 64) ∧ within 1000000 l) ∧ 1 ≤ n ∧ n ≤ l.length := by
  simp only [places2, Bool.and_eq_true, decide_eq_true_eq, placesB_iff]
theorem within_le {B C : Int} {l : List Int} (h : within B l) (hB : B ≤ C) : within C l := fun x hx => by have := h x hx; omega
def F32 : FC := fun args => match args with
  | [.ints .i64 l, .int .i64 n] => some (True, .tup [.ints .i64 (if places2 l n then winL l n else []), .int .i64 (if places2 l n then 0 else 25)])
  | _ => none
theorem p32 : PureOk Try.prog 32 (fcC F32) := by
  refine pure_of (T := [(79, .fc F79), (60, .fc F39), (80, .fc F80)]) ⟨⟨p79, q79⟩, ⟨p60, q60⟩, ⟨p80, q80⟩, trivial⟩ Try.func32 k32 ?_
  intro args K hC
  unfold fcC F32 at hC
  split at hC <;> first | (exact hC.elim) | skip
  rename_i h
  split at h <;> first | (cases h; done) | skip
  cases h
  rename_i l n
  obtain ⟨-, hK⟩ := hC
  simp only [inr64, ↓reduceIte, ite_true, ite_false, List.cons.injEq, ne_eq, not_true_eq_false, not_false_eq_true, reduceCtorEq, e_skip, e_reg, e_drw, e_seq, e_cond, e_block, e_loop, e_exit, e_ret, e_shut, e_scp, scpK_n, scpK_x, scpK_r, shutH, shut1, shutB, slQ, o_nil, o_cons, gd_none, gd_some, gdK_tt, gdK_tf, gdK_ft, gdK_ff, gdK_u, gdK_bt, gdK_bf, putK_e, runK_e, skipK_e, vK_e, boxK_e, bslK_e, bldK_e, storeK3_e, storeK2_e, storeK_e, storeK_p, storeE_e, appK2_oi, appK2_or, appK_e, conK_e, callK_e, callK_m, evh_v, evh_new, evh_box, evh_bsl, evh_bld, evh_store, evh_app, evh_call, evh_inv, evh_slc, slcK_e, appC_e, appK_c, appK_l, slO, bnd, slv, od_none, od_some, invK_e, invK2_e, lkm, dX_e, dX_b, dX_l, dG_t, dG_f, d_nil, d_cons, creK_e, tlK_n, tlK_s, evc_e, loopK_n, loopK_x, loopK_r, seqK_n, seqK_x, seqK_r, condK_t, condK_f, condK_b, exitK_t, exitK_f, blockK_x, blockK_n, blockK_r, ends_r, ends_n, endK1_e, endK2_e, gam_e, gamK_f, gamK_p, gamK_c, gamq_e, gamqK_f, pc_e, pcK_e, fcC_e, fcK_e, evp, fit, InQ, nilq, nb, bin, binB, gt, gq, st, putf, X.get, gets, getp, ap, mkfr, rep, rdR, tupled, clV, clL, clS, clo, clo.clos, asB, ld, lda, lens, ixs, tk, dr, sp, sp.spl, lay, ll, cs1, one, allOne, gb, sb, pb, ln, lk, evq, gdl, crv, Value.oneCell', undef, Bool.and_true, Bool.true_and, Bool.not_true, Bool.not_false, cond_true, cond_false, Nat.reduceSub, Nat.reduceAdd, Nat.reduceMul, Nat.reduceDiv, Nat.reduceBEq, beq_self_eq_true, true_and, and_true, decide_eq_true_eq, decide_eq_false_iff_not, Bool.not_eq_eq_eq_not, sts, s32, r32, F79, F39, F80]
  refine ⟨fun h => ⟨fun h2 => res hK ?_, fun h2 => ⟨⟨h2, within_le (placesB_iff.1 h).2 (by omega), (placesB_iff.1 h).1.2⟩, res hK ?_⟩⟩, fun h => res hK ?_⟩
  · have : places2 l n = false := by rw [Bool.eq_false_iff]; intro h3; exact h2 (places2_iff.1 h3).2
    simp [leR, leR.leRs, this]
  · have : places2 l n = true := places2_iff.2 ⟨placesB_iff.1 h, h2⟩
    simp [leR, leR.leRs, this]
  · have : places2 l n = false := by rw [Bool.eq_false_iff]; intro h3; rw [placesB_iff.2 (places2_iff.1 h3).1] at h; cases h
    simp [leR, leR.leRs, this]
theorem p33 : PureOk Try.prog 33 (fcC F32) := by
  refine pure_of (T := [(81, .fc F81), (82, .fc F82)]) ⟨⟨p81, q81⟩, ⟨p82, q82⟩, trivial⟩ Try.func33 k33 ?_
  intro args K hC
  unfold fcC F32 at hC
  split at hC <;> first | (exact hC.elim) | skip
  rename_i h
  split at h <;> first | (cases h; done) | skip
  cases h
  rename_i l n
  obtain ⟨-, hK⟩ := hC
  simp only [inr64, ↓reduceIte, ite_true, ite_false, List.cons.injEq, ne_eq, not_true_eq_false, not_false_eq_true, reduceCtorEq, e_skip, e_reg, e_drw, e_seq, e_cond, e_block, e_loop, e_exit, e_ret, e_shut, e_scp, scpK_n, scpK_x, scpK_r, shutH, shut1, shutB, slQ, o_nil, o_cons, gd_none, gd_some, gdK_tt, gdK_tf, gdK_ft, gdK_ff, gdK_u, gdK_bt, gdK_bf, putK_e, runK_e, skipK_e, vK_e, boxK_e, bslK_e, bldK_e, storeK3_e, storeK2_e, storeK_e, storeK_p, storeE_e, appK2_oi, appK2_or, appK_e, conK_e, callK_e, callK_m, evh_v, evh_new, evh_box, evh_bsl, evh_bld, evh_store, evh_app, evh_call, evh_inv, evh_slc, slcK_e, appC_e, appK_c, appK_l, slO, bnd, slv, od_none, od_some, invK_e, invK2_e, lkm, dX_e, dX_b, dX_l, dG_t, dG_f, d_nil, d_cons, creK_e, tlK_n, tlK_s, evc_e, loopK_n, loopK_x, loopK_r, seqK_n, seqK_x, seqK_r, condK_t, condK_f, condK_b, exitK_t, exitK_f, blockK_x, blockK_n, blockK_r, ends_r, ends_n, endK1_e, endK2_e, gam_e, gamK_f, gamK_p, gamK_c, gamq_e, gamqK_f, pc_e, pcK_e, fcC_e, fcK_e, evp, fit, InQ, nilq, nb, bin, binB, gt, gq, st, putf, X.get, gets, getp, ap, mkfr, rep, rdR, tupled, clV, clL, clS, clo, clo.clos, asB, ld, lda, lens, ixs, tk, dr, sp, sp.spl, lay, ll, cs1, one, allOne, gb, sb, pb, ln, lk, evq, gdl, crv, Value.oneCell', undef, Bool.and_true, Bool.true_and, Bool.not_true, Bool.not_false, cond_true, cond_false, Nat.reduceSub, Nat.reduceAdd, Nat.reduceMul, Nat.reduceDiv, Nat.reduceBEq, beq_self_eq_true, true_and, and_true, decide_eq_true_eq, decide_eq_false_iff_not, Bool.not_eq_eq_eq_not, sts, s33, r33, F81, F82]
  refine ⟨fun h => res hK ?_, fun h => ⟨⟨(places2_iff.1 h).2, within_le (places2_iff.1 h).1.2 (by omega), (places2_iff.1 h).1.1.2⟩, res hK ?_⟩⟩
  · simp [leR, leR.leRs, h]
  · simp [leR, leR.leRs, h]
/-- After how many laps a screw is good, of at most k more. -/
def lapsG (n : Int) : Nat → Nat → List Int → Int → Option Nat
  | 0, _, _, _ => none
  | k + 1, d, l, lim => if spreadL l ≤ lim then some d else if (l.length : Int) < n then none else lapsG n k (d + 1) (winL l n) (lim * n)
theorem lapsG_succ (n : Int) (k d : Nat) (l : List Int) (lim : Int) : lapsG n (k + 1) d l lim = if spreadL l ≤ lim then some d else if (l.length : Int) < n then none else lapsG n k (d + 1) (winL l n) (lim * n) := rfl
theorem lapsG_zero (n : Int) (d : Nat) (l : List Int) (lim : Int) : lapsG n 0 d l lim = none := rfl
/-- What is so at each lap. -/
structure LapI (n : Int) (i : Nat) (l : List Int) (lim : Int) : Prop where
  hi : i ≤ 5
  l0 : 0 < l.length
  l1 : l.length ≤ 64
  b : within (1000000 * 64 ^ i) l
  m0 : 0 ≤ lim
  m1 : lim ≤ 2000000 * 64 ^ i
theorem LapI.b1 {n : Int} {i : Nat} {l : List Int} {lim : Int} (h : LapI n i l lim) (hi : i < 5) : within 100000000000000 l := by
  refine within_le h.b ?_
  have : i = 0 ∨ i = 1 ∨ i = 2 ∨ i = 3 ∨ i = 4 := by omega
  rcases this with rfl | rfl | rfl | rfl | rfl <;> decide
theorem LapI.m2 {n : Int} {i : Nat} {l : List Int} {lim : Int} (h : LapI n i l lim) (hi : i < 5) (hn : 1 ≤ n) (hn2 : n ≤ 64) : 0 ≤ lim * n ∧ lim * n ≤ 2000000 * 64 ^ (i + 1) := by
  have h1 : 0 ≤ lim * n := Int.mul_nonneg h.m0 (by omega)
  have h2 : lim * n ≤ lim * 64 := Int.mul_le_mul_of_nonneg_left hn2 h.m0
  have h3 : lim * 64 ≤ (2000000 * 64 ^ i) * 64 := Int.mul_le_mul_of_nonneg_right h.m1 (by omega)
  refine ⟨h1, ?_⟩
  rw [Int.pow_succ, ← Int.mul_assoc]
  omega
theorem LapI.m3 {n : Int} {i : Nat} {l : List Int} {lim : Int} (h : LapI n i l lim) (hi : i < 5) (hn : 1 ≤ n) (hn2 : n ≤ 64) : -9223372036854775808 ≤ lim * n ∧ lim * n ≤ 9223372036854775807 := by
  obtain ⟨h1, h2⟩ := h.m2 hi hn hn2
  have : (2000000 * 64 ^ (i + 1) : Int) ≤ 9223372036854775807 := by
    have : i = 0 ∨ i = 1 ∨ i = 2 ∨ i = 3 ∨ i = 4 := by omega
    rcases this with rfl | rfl | rfl | rfl | rfl <;> decide
  omega
theorem LapI.next {n : Int} {i : Nat} {l : List Int} {lim : Int} (h : LapI n i l lim) (hi : i < 5) (hn : 1 ≤ n) (hn2 : n ≤ l.length) : LapI n (i + 1) (winL l n) (lim * n) := by
  have h64 := h.l1
  obtain ⟨h1, h2⟩ := h.m2 hi hn (by omega)
  have hl : (winL l n).length = l.length + 1 - n.toNat := len_wins ..
  refine ⟨by omega, by omega, by omega, fun x hx => ?_, h1, h2⟩
  simp only [winL, wins, List.mem_map, List.mem_range] at hx
  obtain ⟨j, hj, rfl⟩ := hx
  have b2 := sum_bd (within_take (within_drop h.b j) n.toNat)
  have b3 : (((l.drop j).take n.toNat).length : Int) ≤ 64 := by simp; omega
  have b4 : (0 : Int) ≤ 1000000 * 64 ^ i := Int.mul_nonneg (by omega) (Int.pow_nonneg (by omega))
  have b5 : (1000000 * 64 ^ i : Int) * (((l.drop j).take n.toNat).length : Int) ≤ (1000000 * 64 ^ i) * 64 := Int.mul_le_mul_of_nonneg_left b3 b4
  rw [Int.pow_succ, ← Int.mul_assoc]
  omega
def F83 : FC := fun args => match args with
  | [.int .i64 n, .ints .i64 l, .int .i64 lim] => some ((1 ≤ n ∧ n ≤ 64) ∧ LapI n 0 l lim, .tup [.int .i64 (((lapsG n 5 0 l lim).getD 0 : Nat) : Int), .bool (lapsG n 5 0 l lim).isSome])
  | _ => none
theorem p83 : PureOk Try.prog 83 (fcC F83) := by
  refine pure_of (T := [(103, .fc F103), (80, .fc F80)]) ⟨⟨p103, q103⟩, ⟨p80, q80⟩, trivial⟩ Try.func83 k83 ?_
  intro args K hC
  unfold fcC F83 at hC
  split at hC <;> first | (exact hC.elim) | skip
  rename_i h
  split at h <;> first | (cases h; done) | skip
  cases h
  rename_i n l lim
  obtain ⟨⟨⟨hn1, hn2⟩, h0⟩, hK⟩ := hC
  simp only [inr64, ↓reduceIte, ite_true, ite_false, List.cons.injEq, ne_eq, not_true_eq_false, not_false_eq_true, reduceCtorEq, e_skip, e_reg, e_drw, e_seq, e_cond, e_block, e_loop, e_exit, e_ret, e_shut, e_scp, scpK_n, scpK_x, scpK_r, shutH, shut1, shutB, slQ, o_nil, o_cons, gd_none, gd_some, gdK_tt, gdK_tf, gdK_ft, gdK_ff, gdK_u, gdK_bt, gdK_bf, putK_e, runK_e, skipK_e, vK_e, boxK_e, bslK_e, bldK_e, storeK3_e, storeK2_e, storeK_e, storeK_p, storeE_e, appK2_oi, appK2_or, appK_e, conK_e, callK_e, callK_m, evh_v, evh_new, evh_box, evh_bsl, evh_bld, evh_store, evh_app, evh_call, evh_inv, evh_slc, slcK_e, appC_e, appK_c, appK_l, slO, bnd, slv, od_none, od_some, invK_e, invK2_e, lkm, dX_e, dX_b, dX_l, dG_t, dG_f, d_nil, d_cons, creK_e, tlK_n, tlK_s, evc_e, loopK_n, loopK_x, loopK_r, seqK_n, seqK_x, seqK_r, condK_t, condK_f, condK_b, exitK_t, exitK_f, blockK_x, blockK_n, blockK_r, ends_r, ends_n, endK1_e, endK2_e, gam_e, gamK_f, gamK_p, gamK_c, gamq_e, gamqK_f, pc_e, pcK_e, fcC_e, fcK_e, evp, fit, InQ, nilq, nb, bin, binB, gt, gq, st, putf, X.get, gets, getp, ap, mkfr, rep, rdR, tupled, clV, clL, clS, clo, clo.clos, asB, ld, lda, lens, ixs, tk, dr, sp, sp.spl, lay, ll, cs1, one, allOne, gb, sb, pb, ln, lk, evq, gdl, crv, Value.oneCell', undef, Bool.and_true, Bool.true_and, Bool.not_true, Bool.not_false, cond_true, cond_false, Nat.reduceSub, Nat.reduceAdd, Nat.reduceMul, Nat.reduceDiv, Nat.reduceBEq, beq_self_eq_true, true_and, and_true, decide_eq_true_eq, decide_eq_false_iff_not, Bool.not_eq_eq_eq_not, sts, s83, r83]
  refine loop_at2 (G := Nat × List Int × Int) (fun g => [(12, .int .i64 g.1), (1, .ints .i64 g.2.1), (2, .int .i64 g.2.2)]) (fun g => []) (fun g => LapI n g.1 g.2.1 g.2.2 ∧ lapsG n 5 0 l lim = lapsG n (5 - g.1) g.1 g.2.1 g.2.2) (fun g => 5 - g.1) (0, l, lim) ⟨h0, rfl⟩ ?_
  (intro fr1 hf1; simp only [forget, dstC, dstO, dstD, dst1, st] at hf1; subst hf1)
  refine ⟨?_, ?_⟩
  · refine Lw_re 0 [] (Nat.zero_le _) (by simp [ln]) (by simp [ln]) rfl ?_ ?_
    · simp only [reL, reX, reH, reB, reM, reN, newB, rn, once, gb, List.getElem?_cons_zero, List.getElem?_cons_succ, Nat.reduceSub, Nat.reduceLeDiff, Nat.lt_irrefl, Nat.le_refl, false_and, or_false, false_or, and_false, reduceCtorEq, true_or, or_true, leL, leX, leH, leB, news, inb, inb.inbs, ln, sts, st, Bool.and_self, Bool.and_true, Bool.true_and, Nat.reduceLT, Nat.reduceAdd, decide_true, true_and, and_true, and_self, SV.agg.injEq, Int.natCast_zero]
    · simp only [reL, reX, reH, reB, reM, reN, newB, rn, once, gb, List.getElem?_cons_zero, List.getElem?_cons_succ, Nat.reduceSub, Nat.reduceLeDiff, Nat.lt_irrefl, Nat.le_refl, false_and, or_false, false_or, and_false, reduceCtorEq, true_or, or_true, leL, leX, leH, leB, news, inb, inb.inbs, ln, sts, st, Bool.and_self, Bool.and_true, Bool.true_and, Nat.reduceLT, Nat.reduceAdd, decide_true, true_and, and_true, and_self, SV.agg.injEq]
  · rintro ⟨i, l', lim'⟩ ⟨hi, hp⟩
    dsimp only at hi hp
    simp only [inr64, ↓reduceIte, ite_true, ite_false, List.cons.injEq, ne_eq, not_true_eq_false, not_false_eq_true, reduceCtorEq, e_skip, e_reg, e_drw, e_seq, e_cond, e_block, e_loop, e_exit, e_ret, e_shut, e_scp, scpK_n, scpK_x, scpK_r, shutH, shut1, shutB, slQ, o_nil, o_cons, gd_none, gd_some, gdK_tt, gdK_tf, gdK_ft, gdK_ff, gdK_u, gdK_bt, gdK_bf, putK_e, runK_e, skipK_e, vK_e, boxK_e, bslK_e, bldK_e, storeK3_e, storeK2_e, storeK_e, storeK_p, storeE_e, appK2_oi, appK2_or, appK_e, conK_e, callK_e, callK_m, evh_v, evh_new, evh_box, evh_bsl, evh_bld, evh_store, evh_app, evh_call, evh_inv, evh_slc, slcK_e, appC_e, appK_c, appK_l, slO, bnd, slv, od_none, od_some, invK_e, invK2_e, lkm, dX_e, dX_b, dX_l, dG_t, dG_f, d_nil, d_cons, creK_e, tlK_n, tlK_s, evc_e, loopK_n, loopK_x, loopK_r, seqK_n, seqK_x, seqK_r, condK_t, condK_f, condK_b, exitK_t, exitK_f, blockK_x, blockK_n, blockK_r, ends_r, ends_n, endK1_e, endK2_e, gam_e, gamK_f, gamK_p, gamK_c, gamq_e, gamqK_f, pc_e, pcK_e, fcC_e, fcK_e, evp, fit, InQ, nilq, nb, bin, binB, gt, gq, st, putf, X.get, gets, getp, ap, mkfr, rep, rdR, tupled, clV, clL, clS, clo, clo.clos, asB, ld, lda, lens, ixs, tk, dr, sp, sp.spl, lay, ll, cs1, one, allOne, gb, sb, pb, ln, lk, evq, gdl, crv, Value.oneCell', undef, Bool.and_true, Bool.true_and, Bool.not_true, Bool.not_false, cond_true, cond_false, Nat.reduceSub, Nat.reduceAdd, Nat.reduceMul, Nat.reduceDiv, Nat.reduceBEq, beq_self_eq_true, true_and, and_true, decide_eq_true_eq, decide_eq_false_iff_not, Bool.not_eq_eq_eq_not, sts, Int.toNat_natCast, F103, F80]
    refine ⟨fun h => ?_, fun h => ?_⟩
    · have hi5 : i < 5 := by omega
      have hb := hi.b1 hi5
      have l0 := hi.l0
      have l1 := hi.l1
      obtain ⟨k, hk⟩ : ∃ k, 5 - i = k + 1 := ⟨4 - i, by omega⟩
      have hk' : 5 - (i + 1) = k := by omega
      rw [hk, lapsG_succ n k i l' lim'] at hp
      refine ⟨⟨l0, by omega, hb⟩, fun h1 => res hK ?_, fun h1 => ⟨fun h2 => res hK ?_, fun h2 => ⟨⟨⟨hn1, by omega⟩, hb, l1⟩, hi.m3 hi5 hn1 hn2, by omega, ?_⟩⟩⟩
      · rw [if_pos h1] at hp
        simp [leR, leR.leRs, hp]
      · rw [if_neg h1, if_pos h2] at hp
        simp [leR, leR.leRs, hp]
      · rw [if_neg h1, if_neg h2] at hp
        refine Nx.mk (i + 1, winL l' n, lim' * n) ⟨hi.next hi5 hn1 (by omega), by rw [hp, hk']⟩ (by show 5 - (i + 1) < 5 - i; omega) (Lw_re 0 [] (Nat.zero_le _) (by simp [ln]) (by simp [ln]) rfl ?_ ?_)
        · simp only [reL, reX, reH, reB, reM, reN, newB, rn, once, gb, List.getElem?_cons_zero, List.getElem?_cons_succ, Nat.reduceSub, Nat.reduceLeDiff, Nat.lt_irrefl, Nat.le_refl, false_and, or_false, false_or, and_false, reduceCtorEq, true_or, or_true, leL, leX, leH, leB, news, inb, inb.inbs, ln, sts, st, Bool.and_self, Bool.and_true, Bool.true_and, Nat.reduceLT, Nat.reduceAdd, decide_true, true_and, and_true, and_self, SV.agg.injEq, Int.natCast_add, Int.natCast_one]
        · simp only [reL, reX, reH, reB, reM, reN, newB, rn, once, gb, List.getElem?_cons_zero, List.getElem?_cons_succ, Nat.reduceSub, Nat.reduceLeDiff, Nat.lt_irrefl, Nat.le_refl, false_and, or_false, false_or, and_false, reduceCtorEq, true_or, or_true, leL, leX, leH, leB, news, inb, inb.inbs, ln, sts, st, Bool.and_self, Bool.and_true, Bool.true_and, Nat.reduceLT, Nat.reduceAdd, decide_true, true_and, and_true, and_self, SV.agg.injEq]
    · have : 5 - i = 0 := by omega
      rw [this, lapsG_zero n i l' lim'] at hp
      refine res hK ?_
      simp [leR, leR.leRs, hp]
def lapsA (l : List Int) (n lim : Int) : Int := if places2 l n then if 0 ≤ lim ∧ lim ≤ 2000000 then (((lapsG n 5 0 l lim).getD 0 : Nat) : Int) else 0 else 0
def lapsE (l : List Int) (n lim : Int) : Int := if places2 l n then if 0 ≤ lim ∧ lim ≤ 2000000 then if (lapsG n 5 0 l lim).isSome then 0 else 4 else 7 else 25
def F34 : FC := fun args => match args with
  | [.ints .i64 l, .int .i64 n, .int .i64 lim] => some (True, .tup [.int .i64 (lapsA l n lim), .int .i64 (lapsE l n lim)])
  | _ => none
theorem lapI0 {l : List Int} {n lim : Int} (h : places2 l n = true) (h2 : 0 ≤ lim ∧ lim ≤ 2000000) : LapI n 0 l lim ∧ 1 ≤ n ∧ n ≤ 64 ∧ n ≤ l.length := by
  obtain ⟨⟨⟨a, b⟩, c⟩, d, e⟩ := places2_iff.1 h
  exact ⟨⟨by omega, by omega, b, c, h2.1, h2.2⟩, d, by omega, e⟩
theorem p34 : PureOk Try.prog 34 (fcC F34) := by
  refine pure_of (T := [(79, .fc F79), (60, .fc F39), (83, .fc F83)]) ⟨⟨p79, q79⟩, ⟨p60, q60⟩, ⟨p83, q83⟩, trivial⟩ Try.func34 k34 ?_
  intro args K hC
  unfold fcC F34 at hC
  split at hC <;> first | (exact hC.elim) | skip
  rename_i h
  split at h <;> first | (cases h; done) | skip
  cases h
  rename_i l n lim
  obtain ⟨-, hK⟩ := hC
  simp only [inr64, ↓reduceIte, ite_true, ite_false, List.cons.injEq, ne_eq, not_true_eq_false, not_false_eq_true, reduceCtorEq, e_skip, e_reg, e_drw, e_seq, e_cond, e_block, e_loop, e_exit, e_ret, e_shut, e_scp, scpK_n, scpK_x, scpK_r, shutH, shut1, shutB, slQ, o_nil, o_cons, gd_none, gd_some, gdK_tt, gdK_tf, gdK_ft, gdK_ff, gdK_u, gdK_bt, gdK_bf, putK_e, runK_e, skipK_e, vK_e, boxK_e, bslK_e, bldK_e, storeK3_e, storeK2_e, storeK_e, storeK_p, storeE_e, appK2_oi, appK2_or, appK_e, conK_e, callK_e, callK_m, evh_v, evh_new, evh_box, evh_bsl, evh_bld, evh_store, evh_app, evh_call, evh_inv, evh_slc, slcK_e, appC_e, appK_c, appK_l, slO, bnd, slv, od_none, od_some, invK_e, invK2_e, lkm, dX_e, dX_b, dX_l, dG_t, dG_f, d_nil, d_cons, creK_e, tlK_n, tlK_s, evc_e, loopK_n, loopK_x, loopK_r, seqK_n, seqK_x, seqK_r, condK_t, condK_f, condK_b, exitK_t, exitK_f, blockK_x, blockK_n, blockK_r, ends_r, ends_n, endK1_e, endK2_e, gam_e, gamK_f, gamK_p, gamK_c, gamq_e, gamqK_f, pc_e, pcK_e, fcC_e, fcK_e, evp, fit, InQ, nilq, nb, bin, binB, gt, gq, st, putf, X.get, gets, getp, ap, mkfr, rep, rdR, tupled, clV, clL, clS, clo, clo.clos, asB, ld, lda, lens, ixs, tk, dr, sp, sp.spl, lay, ll, cs1, one, allOne, gb, sb, pb, ln, lk, evq, gdl, crv, Value.oneCell', undef, Bool.and_true, Bool.true_and, Bool.not_true, Bool.not_false, cond_true, cond_false, Nat.reduceSub, Nat.reduceAdd, Nat.reduceMul, Nat.reduceDiv, Nat.reduceBEq, beq_self_eq_true, true_and, and_true, decide_eq_true_eq, decide_eq_false_iff_not, Bool.not_eq_eq_eq_not, sts, s34, r34, F79, F39, F83]
  refine ⟨fun h => ⟨fun h2 => res hK ?_, fun h2 => ?_⟩, fun h => res hK ?_⟩
  · have : places2 l n = false := by rw [Bool.eq_false_iff]; intro h3; exact h2 (places2_iff.1 h3).2
    simp [leR, leR.leRs, this, lapsA, lapsE]
  · have hp : places2 l n = true := places2_iff.2 ⟨placesB_iff.1 h, h2⟩
    refine ⟨fun h3 => res hK ?_, fun h3 => ?_⟩
    · simp [leR, leR.leRs, hp, h3, lapsA, lapsE]
    · obtain ⟨h0, hn1, hn2, hn3⟩ := lapI0 hp h3
      refine ⟨⟨⟨hn1, hn2⟩, h0⟩, fun h4 => res hK ?_, fun h4 => res hK ?_⟩
      · have h5 : lapsG n 5 0 l lim = none := by simpa using h4
        simp [leR, leR.leRs, hp, h3, h5, lapsA, lapsE]
      · simp [leR, leR.leRs, hp, h3, h4, lapsA, lapsE]
  · have : places2 l n = false := by rw [Bool.eq_false_iff]; intro h3; rw [placesB_iff.2 (places2_iff.1 h3).1] at h; cases h
    simp [leR, leR.leRs, this, lapsA, lapsE]
theorem p35 : PureOk Try.prog 35 (fcC F34) := by
  refine pure_of (T := [(81, .fc F81), (39, .fc F39), (84, .fc F103), (82, .fc F82)]) ⟨⟨p81, q81⟩, ⟨p39, q39⟩, ⟨p84, q84⟩, ⟨p82, q82⟩, trivial⟩ Try.func35 k35 ?_
  intro args K hC
  unfold fcC F34 at hC
  split at hC <;> first | (exact hC.elim) | skip
  rename_i h
  split at h <;> first | (cases h; done) | skip
  cases h
  rename_i l n lim
  obtain ⟨-, hK⟩ := hC
  simp only [inr64, ↓reduceIte, ite_true, ite_false, List.cons.injEq, ne_eq, not_true_eq_false, not_false_eq_true, reduceCtorEq, e_skip, e_reg, e_drw, e_seq, e_cond, e_block, e_loop, e_exit, e_ret, e_shut, e_scp, scpK_n, scpK_x, scpK_r, shutH, shut1, shutB, slQ, o_nil, o_cons, gd_none, gd_some, gdK_tt, gdK_tf, gdK_ft, gdK_ff, gdK_u, gdK_bt, gdK_bf, putK_e, runK_e, skipK_e, vK_e, boxK_e, bslK_e, bldK_e, storeK3_e, storeK2_e, storeK_e, storeK_p, storeE_e, appK2_oi, appK2_or, appK_e, conK_e, callK_e, callK_m, evh_v, evh_new, evh_box, evh_bsl, evh_bld, evh_store, evh_app, evh_call, evh_inv, evh_slc, slcK_e, appC_e, appK_c, appK_l, slO, bnd, slv, od_none, od_some, invK_e, invK2_e, lkm, dX_e, dX_b, dX_l, dG_t, dG_f, d_nil, d_cons, creK_e, tlK_n, tlK_s, evc_e, loopK_n, loopK_x, loopK_r, seqK_n, seqK_x, seqK_r, condK_t, condK_f, condK_b, exitK_t, exitK_f, blockK_x, blockK_n, blockK_r, ends_r, ends_n, endK1_e, endK2_e, gam_e, gamK_f, gamK_p, gamK_c, gamq_e, gamqK_f, pc_e, pcK_e, fcC_e, fcK_e, evp, fit, InQ, nilq, nb, bin, binB, gt, gq, st, putf, X.get, gets, getp, ap, mkfr, rep, rdR, tupled, clV, clL, clS, clo, clo.clos, asB, ld, lda, lens, ixs, tk, dr, sp, sp.spl, lay, ll, cs1, one, allOne, gb, sb, pb, ln, lk, evq, gdl, crv, Value.oneCell', undef, Bool.and_true, Bool.true_and, Bool.not_true, Bool.not_false, cond_true, cond_false, Nat.reduceSub, Nat.reduceAdd, Nat.reduceMul, Nat.reduceDiv, Nat.reduceBEq, beq_self_eq_true, true_and, and_true, decide_eq_true_eq, decide_eq_false_iff_not, Bool.not_eq_eq_eq_not, sts, s35, r35, F81, F39]
  refine ⟨fun h => ?_, fun h => ⟨fun h2 => ?_, fun h2 => ?_⟩⟩
  · refine res hK ?_
    simp [leR, leR.leRs, h, lapsA, lapsE]
  · refine res hK ?_
    simp [leR, leR.leRs, h, h2, lapsA, lapsE]
  · obtain ⟨h0, hn1, hn2, hn3⟩ := lapI0 h h2
    have hq := h
    have hlim := h2
    refine loop_at2 (G := Nat × List Int × Int) (fun g => [(8, .int .i64 g.1), (0, .ints .i64 g.2.1), (2, .int .i64 g.2.2)]) (fun g => []) (fun g => LapI n g.1 g.2.1 g.2.2 ∧ lapsG n 5 0 l lim = lapsG n (5 - g.1) g.1 g.2.1 g.2.2) (fun g => 5 - g.1) (0, l, lim) ⟨h0, rfl⟩ ?_
    (intro fr1 hf1; simp only [forget, dstC, dstO, dstD, dst1, st] at hf1; subst hf1)
    refine ⟨?_, ?_⟩
    · refine Lw_re 0 [] (Nat.zero_le _) (by simp [ln]) (by simp [ln]) rfl ?_ ?_
      · simp only [reL, reX, reH, reB, reM, reN, newB, rn, once, gb, List.getElem?_cons_zero, List.getElem?_cons_succ, Nat.reduceSub, Nat.reduceLeDiff, Nat.lt_irrefl, Nat.le_refl, false_and, or_false, false_or, and_false, reduceCtorEq, true_or, or_true, leL, leX, leH, leB, news, inb, inb.inbs, ln, sts, st, Bool.and_self, Bool.and_true, Bool.true_and, Nat.reduceLT, Nat.reduceAdd, decide_true, true_and, and_true, and_self, SV.agg.injEq, Int.natCast_zero]
      · simp only [reL, reX, reH, reB, reM, reN, newB, rn, once, gb, List.getElem?_cons_zero, List.getElem?_cons_succ, Nat.reduceSub, Nat.reduceLeDiff, Nat.lt_irrefl, Nat.le_refl, false_and, or_false, false_or, and_false, reduceCtorEq, true_or, or_true, leL, leX, leH, leB, news, inb, inb.inbs, ln, sts, st, Bool.and_self, Bool.and_true, Bool.true_and, Nat.reduceLT, Nat.reduceAdd, decide_true, true_and, and_true, and_self, SV.agg.injEq]
    · rintro ⟨i, l', lim'⟩ ⟨hi, hp⟩
      dsimp only at hi hp
      simp only [inr64, ↓reduceIte, ite_true, ite_false, List.cons.injEq, ne_eq, not_true_eq_false, not_false_eq_true, reduceCtorEq, e_skip, e_reg, e_drw, e_seq, e_cond, e_block, e_loop, e_exit, e_ret, e_shut, e_scp, scpK_n, scpK_x, scpK_r, shutH, shut1, shutB, slQ, o_nil, o_cons, gd_none, gd_some, gdK_tt, gdK_tf, gdK_ft, gdK_ff, gdK_u, gdK_bt, gdK_bf, putK_e, runK_e, skipK_e, vK_e, boxK_e, bslK_e, bldK_e, storeK3_e, storeK2_e, storeK_e, storeK_p, storeE_e, appK2_oi, appK2_or, appK_e, conK_e, callK_e, callK_m, evh_v, evh_new, evh_box, evh_bsl, evh_bld, evh_store, evh_app, evh_call, evh_inv, evh_slc, slcK_e, appC_e, appK_c, appK_l, slO, bnd, slv, od_none, od_some, invK_e, invK2_e, lkm, dX_e, dX_b, dX_l, dG_t, dG_f, d_nil, d_cons, creK_e, tlK_n, tlK_s, evc_e, loopK_n, loopK_x, loopK_r, seqK_n, seqK_x, seqK_r, condK_t, condK_f, condK_b, exitK_t, exitK_f, blockK_x, blockK_n, blockK_r, ends_r, ends_n, endK1_e, endK2_e, gam_e, gamK_f, gamK_p, gamK_c, gamq_e, gamqK_f, pc_e, pcK_e, fcC_e, fcK_e, evp, fit, InQ, nilq, nb, bin, binB, gt, gq, st, putf, X.get, gets, getp, ap, mkfr, rep, rdR, tupled, clV, clL, clS, clo, clo.clos, asB, ld, lda, lens, ixs, tk, dr, sp, sp.spl, lay, ll, cs1, one, allOne, gb, sb, pb, ln, lk, evq, gdl, crv, Value.oneCell', undef, Bool.and_true, Bool.true_and, Bool.not_true, Bool.not_false, cond_true, cond_false, Nat.reduceSub, Nat.reduceAdd, Nat.reduceMul, Nat.reduceDiv, Nat.reduceBEq, beq_self_eq_true, true_and, and_true, decide_eq_true_eq, decide_eq_false_iff_not, Bool.not_eq_eq_eq_not, sts, Int.toNat_natCast, F103, F82]
      refine ⟨fun h => ?_, fun h => ?_⟩
      · have hi5 : i < 5 := by omega
        have hb := hi.b1 hi5
        have l0 := hi.l0
        have l1 := hi.l1
        obtain ⟨k, hk⟩ : ∃ k, 5 - i = k + 1 := ⟨4 - i, by omega⟩
        have hk' : 5 - (i + 1) = k := by omega
        rw [hk, lapsG_succ n k i l' lim'] at hp
        refine ⟨⟨l0, by omega, hb⟩, fun h1 => res hK ?_, fun h1 => ⟨fun h2 => res hK ?_, fun h2 => ⟨⟨⟨hn1, by omega⟩, hb, l1⟩, hi.m3 hi5 hn1 hn2, by omega, ?_⟩⟩⟩
        · rw [if_pos h1] at hp
          simp [leR, leR.leRs, hq, hlim, hp, lapsA, lapsE]
        · rw [if_neg h1, if_pos h2] at hp
          simp [leR, leR.leRs, hq, hlim, hp, lapsA, lapsE]
        · rw [if_neg h1, if_neg h2] at hp
          refine Nx.mk (i + 1, winL l' n, lim' * n) ⟨hi.next hi5 hn1 (by omega), by rw [hp, hk']⟩ (by show 5 - (i + 1) < 5 - i; omega) (Lw_re 0 [] (Nat.zero_le _) (by simp [ln]) (by simp [ln]) rfl ?_ ?_)
          · simp only [reL, reX, reH, reB, reM, reN, newB, rn, once, gb, List.getElem?_cons_zero, List.getElem?_cons_succ, Nat.reduceSub, Nat.reduceLeDiff, Nat.lt_irrefl, Nat.le_refl, false_and, or_false, false_or, and_false, reduceCtorEq, true_or, or_true, leL, leX, leH, leB, news, inb, inb.inbs, ln, sts, st, Bool.and_self, Bool.and_true, Bool.true_and, Nat.reduceLT, Nat.reduceAdd, decide_true, true_and, and_true, and_self, SV.agg.injEq, Int.natCast_add, Int.natCast_one]
          · simp only [reL, reX, reH, reB, reM, reN, newB, rn, once, gb, List.getElem?_cons_zero, List.getElem?_cons_succ, Nat.reduceSub, Nat.reduceLeDiff, Nat.lt_irrefl, Nat.le_refl, false_and, or_false, false_or, and_false, reduceCtorEq, true_or, or_true, leL, leX, leH, leB, news, inb, inb.inbs, ln, sts, st, Bool.and_self, Bool.and_true, Bool.true_and, Nat.reduceLT, Nat.reduceAdd, decide_true, true_and, and_true, and_self, SV.agg.injEq]
      · have : 5 - i = 0 := by omega
        rw [this, lapsG_zero n i l' lim'] at hp
        refine res hK ?_
        simp [leR, leR.leRs, hq, hlim, hp, lapsA, lapsE]
/-- The chapter's examples: carried out (the text that imports this one has it). -/
def F24 : FC := fun args => match args with
  | [] => some (True, .lit (.bool true))
  | _ => none
def F5 : FC := fun args => match args with
  | [.ints .i64 l, .int .i64 n, .int .i64 lim] => some (True, .bool true)
  | _ => none
theorem p5 (p24 : PureOk Try.prog 24 (fcC F24)) (q24 : Known Try.prog 24) : PureOk Try.prog 5 (fcC F5) := by
  refine pure_of (T := [(32, .fc F32), (33, .fc F32), (21, .fc F21), (34, .fc F34), (35, .fc F34), (24, .fc F24)]) ⟨⟨p32, q32⟩, ⟨p33, q33⟩, ⟨p21, q21⟩, ⟨p34, q34⟩, ⟨p35, q35⟩, ⟨p24, q24⟩, trivial⟩ Try.func5 k5 ?_
  intro args K hC
  unfold fcC F5 at hC
  split at hC <;> first | (exact hC.elim) | skip
  rename_i h
  split at h <;> first | (cases h; done) | skip
  cases h
  rename_i l n lim
  obtain ⟨-, hK⟩ := hC
  simp only [inr64, ↓reduceIte, ite_true, ite_false, List.cons.injEq, ne_eq, not_true_eq_false, not_false_eq_true, reduceCtorEq, e_skip, e_reg, e_drw, e_seq, e_cond, e_block, e_loop, e_exit, e_ret, e_shut, e_scp, scpK_n, scpK_x, scpK_r, shutH, shut1, shutB, slQ, o_nil, o_cons, gd_none, gd_some, gdK_tt, gdK_tf, gdK_ft, gdK_ff, gdK_u, gdK_bt, gdK_bf, putK_e, runK_e, skipK_e, vK_e, boxK_e, bslK_e, bldK_e, storeK3_e, storeK2_e, storeK_e, storeK_p, storeE_e, appK2_oi, appK2_or, appK_e, conK_e, callK_e, callK_m, evh_v, evh_new, evh_box, evh_bsl, evh_bld, evh_store, evh_app, evh_call, evh_inv, evh_slc, slcK_e, appC_e, appK_c, appK_l, slO, bnd, slv, od_none, od_some, invK_e, invK2_e, lkm, dX_e, dX_b, dX_l, dG_t, dG_f, d_nil, d_cons, creK_e, tlK_n, tlK_s, evc_e, loopK_n, loopK_x, loopK_r, seqK_n, seqK_x, seqK_r, condK_t, condK_f, condK_b, exitK_t, exitK_f, blockK_x, blockK_n, blockK_r, ends_r, ends_n, endK1_e, endK2_e, gam_e, gamK_f, gamK_p, gamK_c, gamq_e, gamqK_f, pc_e, pcK_e, fcC_e, fcK_e, evp, fit, InQ, nilq, nb, bin, binB, gt, gq, st, putf, X.get, gets, getp, ap, mkfr, rep, rdR, tupled, clV, clL, clS, clo, clo.clos, asB, ld, lda, lens, ixs, tk, dr, sp, sp.spl, lay, ll, cs1, one, allOne, gb, sb, pb, ln, lk, evq, gdl, crv, Value.oneCell', undef, Bool.and_true, Bool.true_and, Bool.not_true, Bool.not_false, cond_true, cond_false, Nat.reduceSub, Nat.reduceAdd, Nat.reduceMul, Nat.reduceDiv, Nat.reduceBEq, beq_self_eq_true, true_and, and_true, decide_eq_true_eq, decide_eq_false_iff_not, Bool.not_eq_eq_eq_not, sts, s5, r5, F32, F21, F34, F24]
  refine ⟨?_, fun _ => ⟨fun h => h.elim, fun _ => ⟨fun _ => ⟨fun _ => res hK (by simp [leR]), fun h => h.elim⟩, fun h => h.elim⟩⟩, fun h => h.elim⟩
  by_cases hp : places2 l n = true
  · rw [if_pos hp]
    obtain ⟨⟨⟨a, b⟩, c⟩, d, e⟩ := places2_iff.1 hp
    have : (winL l n).length = l.length + 1 - n.toNat := len_wins ..
    omega
  · rw [if_neg hp]; simp
end Go.Proofs.Ytbbbpdajikblbaa
