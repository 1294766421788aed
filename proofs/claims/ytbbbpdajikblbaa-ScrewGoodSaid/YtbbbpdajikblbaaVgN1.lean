/- Sums, spreads, windows: what the program's and the specification's functions of laps return, for all lists within bounds. -/
import Derived.Test.YtbbbpdajikblbaaVgV9
import Derived.Test.YtbbbpdajikblbaaProg
import Derived.KernelRfl
namespace Go.Proofs.Ytbbbpdajikblbaa
open Go Go.Vg
set_option linter.unusedSimpArgs false
set_option linter.unusedVariables false
set_option maxRecDepth 10000
/- 39: octant/octantref00.In -/
def s39 : SC :=
  (.seq (.reg [⟨(some 6), none, .v (.mov (.c (.lit (.bool false))))⟩])
  (.seq (.reg [⟨(some 7), none, .v (.mov (.t 0))⟩,
    ⟨(some 8), none, .v (.mov (.t 1))⟩,
    ⟨(some 9), none, .v (.bin .geq (.t 7) (.t 8))⟩,
    ⟨(some 10), none, .v (.mov (.t 9))⟩,
    ⟨(some 11), (some (10, true)), .v (.mov (.t 0))⟩,
    ⟨(some 12), (some (10, true)), .v (.mov (.t 2))⟩,
    ⟨(some 13), (some (10, true)), .v (.bin .leq (.t 11) (.t 12))⟩,
    ⟨(some 14), none, .v (.pick (.t 10) (.t 13) (.c (.lit (.bool false))))⟩,
    ⟨(some 6), none, .v (.mov (.t 14))⟩])
  .ret))
def r39 : List RV := [.t 6]
def n39 : Nat := 15
theorem k39 : (Try.f39.body.bind (cC Try.prog), cR Try.prog Try.f39.results.toList, Try.f39.ntmps) = (some s39, some r39, 15) := by kernel_rfl
theorem q39 : Known Try.prog 39 := ⟨_, Try.func39, by decide, by simp [Try.f39]⟩

/- 60: octant/screw.within -/
def s60 : SC :=
  (.seq (.reg [⟨(some 6), none, .v (.mov (.c (.lit (.bool false))))⟩])
  (.seq (.reg [⟨(some 7), none, .v (.mov (.t 1))⟩,
    ⟨(some 8), none, .v (.mov (.t 0))⟩,
    ⟨(some 9), none, .v (.bin .leq (.t 7) (.t 8))⟩,
    ⟨(some 10), none, .v (.mov (.t 9))⟩,
    ⟨(some 11), (some (10, true)), .v (.mov (.t 0))⟩,
    ⟨(some 12), (some (10, true)), .v (.mov (.t 2))⟩,
    ⟨(some 13), (some (10, true)), .v (.bin .leq (.t 11) (.t 12))⟩,
    ⟨(some 14), none, .v (.pick (.t 10) (.t 13) (.c (.lit (.bool false))))⟩,
    ⟨(some 6), none, .v (.mov (.t 14))⟩])
  .ret))
def r60 : List RV := [.t 6]
def n60 : Nat := 15
theorem k60 : (Try.f60.body.bind (cC Try.prog), cR Try.prog Try.f60.results.toList, Try.f60.ntmps) = (some s60, some r60, 15) := by kernel_rfl
theorem q60 : Known Try.prog 60 := ⟨_, Try.func60, by decide, by simp [Try.f60]⟩

/- 21: octant/octantref00.Same -/
def s21 : SC :=
  (.seq (.reg [⟨(some 4), none, .v (.mov (.c (.lit (.bool false))))⟩])
  (.seq (.seq (.reg [⟨(some 6), none, .v (.mov (.t 0))⟩,
    ⟨(some 7), none, .v (.len (.t 6))⟩,
    ⟨(some 8), none, .v (.mov (.t 1))⟩,
    ⟨(some 9), none, .v (.len (.t 8))⟩,
    ⟨(some 10), none, .v (.bin .neq (.t 7) (.t 9))⟩])
  (.cond (.t 10)
    (.seq (.reg [⟨(some 4), none, .v (.mov (.c (.lit (.bool false))))⟩])
    .ret)
    .skip))
  (.seq (.seq (.reg [⟨(some 5), none, .v (.mov (.c (.int .i64 (0))))⟩])
  (.block 0 (.loop
    (.seq (.seq (.reg [⟨(some 11), none, .v (.mov (.t 5))⟩,
      ⟨(some 12), none, .v (.mov (.t 0))⟩,
      ⟨(some 13), none, .v (.len (.t 12))⟩,
      ⟨(some 14), none, .v (.bin .lss (.t 11) (.t 13))⟩])
    (.cond (.t 14)
      .skip
      (.exit 0)))
    (.seq (.block 1 (.seq (.drw [(0, ⟨(some 17), none, .v (.mov (.t 0))⟩, false),
      (1, ⟨(some 18), none, .v (.mov (.t 5))⟩, false),
      (2, ⟨(some 19), none, .v (.ixa (.t 17) (.t 18) 1)⟩, false),
      (3, ⟨(some 20), none, .v (.load (.t 19) none)⟩, false),
      (4, ⟨(some 21), none, .v (.mov (.t 1))⟩, false),
      (5, ⟨(some 22), none, .v (.mov (.t 5))⟩, false),
      (6, ⟨(some 23), none, .v (.ixa (.t 21) (.t 22) 1)⟩, false),
      (7, ⟨(some 24), none, .v (.load (.t 23) none)⟩, false)]
      none
      [⟨(some 25), none, .v (.bin .neq (.t 20) (.t 24))⟩])
    (.cond (.t 25)
      (.seq (.reg [⟨(some 4), none, .v (.mov (.c (.lit (.bool false))))⟩])
      .ret)
      .skip)))
    (.reg [⟨(some 15), none, .v (.mov (.t 5))⟩,
      ⟨(some 16), none, .v (.bin .add (.t 15) (.c (.int .i64 (1))))⟩,
      ⟨(some 5), none, .v (.mov (.t 16))⟩]))))))
  (.seq (.reg [⟨(some 4), none, .v (.mov (.c (.lit (.bool true))))⟩])
  .ret))))
def r21 : List RV := [.t 4]
def n21 : Nat := 26
theorem k21 : (Try.f21.body.bind (cC Try.prog), cR Try.prog Try.f21.results.toList, Try.f21.ntmps) = (some s21, some r21, 26) := by kernel_rfl
theorem q21 : Known Try.prog 21 := ⟨_, Try.func21, by decide, by simp [Try.f21]⟩

/- 49: octant/octantref00.Sum -/
def s49 : SC :=
  (.seq (.reg [⟨(some 2), none, .v (.mov (.c (.int .i64 (0))))⟩])
  (.seq (.reg [⟨(some 3), none, .v (.mov (.c (.int .i64 (0))))⟩])
  (.seq (.seq (.reg [⟨(some 4), none, .v (.mov (.c (.int .i64 (0))))⟩])
  (.block 0 (.loop
    (.seq (.seq (.reg [⟨(some 5), none, .v (.mov (.t 4))⟩,
      ⟨(some 6), none, .v (.mov (.t 0))⟩,
      ⟨(some 7), none, .v (.len (.t 6))⟩,
      ⟨(some 8), none, .v (.bin .lss (.t 5) (.t 7))⟩])
    (.cond (.t 8)
      .skip
      (.exit 0)))
    (.seq (.block 1 (.reg [⟨(some 11), none, .v (.mov (.t 3))⟩,
      ⟨(some 12), none, .v (.mov (.t 0))⟩,
      ⟨(some 13), none, .v (.mov (.t 4))⟩,
      ⟨(some 14), none, .v (.ixa (.t 12) (.t 13) 1)⟩,
      ⟨(some 15), none, .v (.load (.t 14) none)⟩,
      ⟨(some 16), none, .v (.bin .add (.t 11) (.t 15))⟩,
      ⟨(some 3), none, .v (.mov (.t 16))⟩]))
    (.reg [⟨(some 9), none, .v (.mov (.t 4))⟩,
      ⟨(some 10), none, .v (.bin .add (.t 9) (.c (.int .i64 (1))))⟩,
      ⟨(some 4), none, .v (.mov (.t 10))⟩]))))))
  (.seq (.reg [⟨(some 17), none, .v (.mov (.t 3))⟩,
    ⟨(some 2), none, .v (.mov (.t 17))⟩])
  .ret))))
def r49 : List RV := [.t 2]
def n49 : Nat := 18
theorem k49 : (Try.f49.body.bind (cC Try.prog), cR Try.prog Try.f49.results.toList, Try.f49.ntmps) = (some s49, some r49, 18) := by kernel_rfl
theorem q49 : Known Try.prog 49 := ⟨_, Try.func49, by decide, by simp [Try.f49]⟩

/- 102: octant/screw.sum[int] -/
def s102 : SC :=
  (.seq (.reg [⟨(some 2), none, .v (.mov (.c (.int .i64 (0))))⟩])
  (.seq (.reg [⟨(some 3), none, .v (.mov (.c (.int .i64 (0))))⟩])
  (.seq (.seq (.reg [⟨(some 6), none, .v (.mov (.t 0))⟩,
    ⟨(some 7), none, .v (.len (.t 6))⟩,
    ⟨(some 8), none, .v (.mov (.c (.int .i64 (0))))⟩])
  (.block 0 (.loop
    (.seq (.reg [⟨(some 9), none, .v (.bin .lss (.t 8) (.t 7))⟩])
    (.seq (.cond (.t 9)
      .skip
      (.exit 0))
    (.seq (.block 1 (.seq (.reg [⟨(some 10), none, .v (.ixa (.t 6) (.t 8) 1)⟩,
      ⟨(some 11), none, .v (.load (.t 10) none)⟩,
      ⟨(some 5), none, .v (.mov (.t 11))⟩])
    (.reg [⟨(some 12), none, .v (.mov (.t 3))⟩,
      ⟨(some 13), none, .v (.mov (.t 5))⟩,
      ⟨(some 14), none, .v (.bin .add (.t 12) (.t 13))⟩,
      ⟨(some 3), none, .v (.mov (.t 14))⟩])))
    (.reg [⟨(some 15), none, .v (.bin .add (.t 8) (.c (.int .i64 (1))))⟩,
      ⟨(some 8), none, .v (.mov (.t 15))⟩])))))))
  (.seq (.reg [⟨(some 16), none, .v (.mov (.t 3))⟩,
    ⟨(some 2), none, .v (.mov (.t 16))⟩])
  .ret))))
def r102 : List RV := [.t 2]
def n102 : Nat := 17
theorem k102 : (Try.f102.body.bind (cC Try.prog), cR Try.prog Try.f102.results.toList, Try.f102.ntmps) = (some s102, some r102, 17) := by kernel_rfl
theorem q102 : Known Try.prog 102 := ⟨_, Try.func102, by decide, by simp [Try.f102]⟩

/- 112: octant/screw.greatest[int]$1 -/
def s112 : SC :=
  (.seq (.reg [⟨(some 4), none, .v (.mov (.c (.lit (.bool false))))⟩])
  (.seq (.reg [⟨(some 5), none, .v (.mov (.t 0))⟩,
    ⟨(some 6), none, .v (.mov (.t 1))⟩,
    ⟨(some 7), none, .v (.bin .gtr (.t 5) (.t 6))⟩,
    ⟨(some 4), none, .v (.mov (.t 7))⟩])
  .ret))
def r112 : List RV := [.t 4]
def n112 : Nat := 8
theorem k112 : (Try.f112.body.bind (cC Try.prog), cR Try.prog Try.f112.results.toList, Try.f112.ntmps) = (some s112, some r112, 8) := by kernel_rfl
theorem q112 : Known Try.prog 112 := ⟨_, Try.func112, by decide, by simp [Try.f112]⟩

/- 113: octant/screw.least[int]$1 -/
def s113 : SC :=
  (.seq (.reg [⟨(some 4), none, .v (.mov (.c (.lit (.bool false))))⟩])
  (.seq (.reg [⟨(some 5), none, .v (.mov (.t 0))⟩,
    ⟨(some 6), none, .v (.mov (.t 1))⟩,
    ⟨(some 7), none, .v (.bin .lss (.t 5) (.t 6))⟩,
    ⟨(some 4), none, .v (.mov (.t 7))⟩])
  .ret))
def r113 : List RV := [.t 4]
def n113 : Nat := 8
theorem k113 : (Try.f113.body.bind (cC Try.prog), cR Try.prog Try.f113.results.toList, Try.f113.ntmps) = (some s113, some r113, 8) := by kernel_rfl
theorem q113 : Known Try.prog 113 := ⟨_, Try.func113, by decide, by simp [Try.f113]⟩

/- 111: octant/screw.best[int] -/
def s111 : SC :=
  (.seq (.reg [⟨(some 6), none, .v (.mov (.c (.int .i64 (0))))⟩])
  (.seq (.seq (.reg [⟨(some 9), none, .v (.mov (.t 2))⟩,
    ⟨(some 10), none, .v (.len (.t 9))⟩,
    ⟨(some 11), none, .v (.mov (.c (.int .i64 (0))))⟩])
  (.block 0 (.loop
    (.seq (.reg [⟨(some 12), none, .v (.bin .lss (.t 11) (.t 10))⟩])
    (.seq (.cond (.t 12)
      .skip
      (.exit 0))
    (.seq (.block 1 (.seq (.reg [⟨(some 13), none, .v (.ixa (.t 9) (.t 11) 1)⟩,
      ⟨(some 14), none, .v (.load (.t 13) none)⟩,
      ⟨(some 8), none, .v (.mov (.t 14))⟩])
    (.seq (.reg [⟨(some 15), none, .v (.mov (.t 0))⟩,
      ⟨(some 16), none, .v (.mov (.t 8))⟩,
      ⟨(some 17), none, .v (.mov (.t 1))⟩,
      ⟨(some 18), none, .call (.t 15) [(.t 16), (.t 17)]⟩])
    (.cond (.t 18)
      (.reg [⟨(some 19), none, .v (.mov (.t 8))⟩,
        ⟨(some 1), none, .v (.mov (.t 19))⟩])
      .skip))))
    (.reg [⟨(some 20), none, .v (.bin .add (.t 11) (.c (.int .i64 (1))))⟩,
      ⟨(some 11), none, .v (.mov (.t 20))⟩])))))))
  (.seq (.reg [⟨(some 21), none, .v (.mov (.t 1))⟩,
    ⟨(some 6), none, .v (.mov (.t 21))⟩])
  .ret)))
def r111 : List RV := [.t 6]
def n111 : Nat := 22
theorem k111 : (Try.f111.body.bind (cC Try.prog), cR Try.prog Try.f111.results.toList, Try.f111.ntmps) = (some s111, some r111, 22) := by kernel_rfl
theorem q111 : Known Try.prog 111 := ⟨_, Try.func111, by decide, by simp [Try.f111]⟩

/- 104: octant/screw.greatest[int] -/
def s104 : SC :=
  (.seq (.reg [⟨(some 4), none, .v (.mov (.c (.int .i64 (0))))⟩])
  (.seq (.reg [⟨(some 5), none, .v (.mov (.t 0))⟩,
    ⟨(some 6), none, .v (.mov (.t 1))⟩,
    ⟨(some 7), none, .call (.c (.fn 111 [])) [(.c (.fn 112 [])), (.t 5), (.t 6)]⟩,
    ⟨(some 4), none, .v (.mov (.t 7))⟩])
  .ret))
def r104 : List RV := [.t 4]
def n104 : Nat := 8
theorem k104 : (Try.f104.body.bind (cC Try.prog), cR Try.prog Try.f104.results.toList, Try.f104.ntmps) = (some s104, some r104, 8) := by kernel_rfl
theorem q104 : Known Try.prog 104 := ⟨_, Try.func104, by decide, by simp [Try.f104]⟩

/- 105: octant/screw.least[int] -/
def s105 : SC :=
  (.seq (.reg [⟨(some 4), none, .v (.mov (.c (.int .i64 (0))))⟩])
  (.seq (.reg [⟨(some 5), none, .v (.mov (.t 0))⟩,
    ⟨(some 6), none, .v (.mov (.t 1))⟩,
    ⟨(some 7), none, .call (.c (.fn 111 [])) [(.c (.fn 113 [])), (.t 5), (.t 6)]⟩,
    ⟨(some 4), none, .v (.mov (.t 7))⟩])
  .ret))
def r105 : List RV := [.t 4]
def n105 : Nat := 8
theorem k105 : (Try.f105.body.bind (cC Try.prog), cR Try.prog Try.f105.results.toList, Try.f105.ntmps) = (some s105, some r105, 8) := by kernel_rfl
theorem q105 : Known Try.prog 105 := ⟨_, Try.func105, by decide, by simp [Try.f105]⟩

/- 103: octant/screw.spread -/
def s103 : SC :=
  (.seq (.reg [⟨(some 2), none, .v (.mov (.c (.int .i64 (0))))⟩])
  (.seq (.shut [0, 3, 4, 6, 5, 7, 9, 10, 12, 11, 13, 8, 14, 15]
    (.drw [(0, ⟨(some 3), none, .v (.mov (.t 0))⟩, false),
      (1, ⟨(some 4), none, .v (.ixa (.t 3) (.c (.int .i64 (0))) 1)⟩, false),
      (2, ⟨(some 5), none, .v (.load (.t 4) none)⟩, false),
      (3, ⟨(some 6), none, .v (.mov (.t 0))⟩, false),
      (4, ⟨(some 7), none, .slc (.t 6) (some (.c (.int .i64 (1)))) none none 1⟩, false),
      (5, ⟨(some 8), none, .call (.c (.fn 104 [])) [(.t 5), (.t 7)]⟩, false),
      (6, ⟨(some 9), none, .v (.mov (.t 0))⟩, false),
      (7, ⟨(some 10), none, .v (.ixa (.t 9) (.c (.int .i64 (0))) 1)⟩, false),
      (8, ⟨(some 11), none, .v (.load (.t 10) none)⟩, false),
      (9, ⟨(some 12), none, .v (.mov (.t 0))⟩, false),
      (10, ⟨(some 13), none, .slc (.t 12) (some (.c (.int .i64 (1)))) none none 1⟩, false)]
      none
      [⟨(some 14), none, .call (.c (.fn 105 [])) [(.t 11), (.t 13)]⟩,
      ⟨(some 15), none, .v (.bin .sub (.t 8) (.t 14))⟩,
      ⟨(some 2), none, .v (.mov (.t 15))⟩]))
  .ret))
def r103 : List RV := [.t 2]
def n103 : Nat := 16
theorem k103 : (Try.f103.body.bind (cC Try.prog), cR Try.prog Try.f103.results.toList, Try.f103.ntmps) = (some s103, some r103, 16) := by kernel_rfl
theorem q103 : Known Try.prog 103 := ⟨_, Try.func103, by decide, by simp [Try.f103]⟩

/- 84: octant/octantref02.Spread -/
def s84 : SC :=
  (.seq (.reg [⟨(some 2), none, .v (.mov (.c (.int .i64 (0))))⟩])
  (.seq (.drw [(0, ⟨(some 6), none, .v (.mov (.t 0))⟩, false),
    (1, ⟨(some 7), none, .v (.ixa (.t 6) (.c (.int .i64 (0))) 1)⟩, false),
    (2, ⟨(some 8), none, .v (.load (.t 7) none)⟩, false),
    (3, ⟨(some 9), none, .v (.mov (.t 0))⟩, false),
    (4, ⟨(some 10), none, .v (.ixa (.t 9) (.c (.int .i64 (0))) 1)⟩, false),
    (5, ⟨(some 11), none, .v (.load (.t 10) none)⟩, false),
    (6, ⟨(some 3), none, .v (.mov (.t 8))⟩, false)]
    none
    [⟨(some 4), none, .v (.mov (.t 11))⟩])
  (.seq (.seq (.reg [⟨(some 5), none, .v (.mov (.c (.int .i64 (0))))⟩])
  (.block 0 (.loop
    (.seq (.seq (.reg [⟨(some 12), none, .v (.mov (.t 5))⟩,
      ⟨(some 13), none, .v (.mov (.t 0))⟩,
      ⟨(some 14), none, .v (.len (.t 13))⟩,
      ⟨(some 15), none, .v (.bin .lss (.t 12) (.t 14))⟩])
    (.cond (.t 15)
      .skip
      (.exit 0)))
    (.seq (.block 1 (.drw [(0, ⟨(some 18), none, .v (.mov (.t 3))⟩, false),
      (1, ⟨(some 19), none, .v (.mov (.t 0))⟩, false),
      (2, ⟨(some 20), none, .v (.mov (.t 5))⟩, false),
      (3, ⟨(some 21), none, .v (.ixa (.t 19) (.t 20) 1)⟩, false),
      (4, ⟨(some 22), none, .v (.load (.t 21) none)⟩, false),
      (5, ⟨(some 23), none, .v (.min2 (.t 18) (.t 22))⟩, false),
      (6, ⟨(some 24), none, .v (.mov (.t 4))⟩, false),
      (7, ⟨(some 25), none, .v (.mov (.t 0))⟩, false),
      (8, ⟨(some 26), none, .v (.mov (.t 5))⟩, false),
      (9, ⟨(some 27), none, .v (.ixa (.t 25) (.t 26) 1)⟩, false),
      (10, ⟨(some 28), none, .v (.load (.t 27) none)⟩, false),
      (11, ⟨(some 29), none, .v (.max2 (.t 24) (.t 28))⟩, false),
      (12, ⟨(some 3), none, .v (.mov (.t 23))⟩, false)]
      none
      [⟨(some 4), none, .v (.mov (.t 29))⟩]))
    (.reg [⟨(some 16), none, .v (.mov (.t 5))⟩,
      ⟨(some 17), none, .v (.bin .add (.t 16) (.c (.int .i64 (1))))⟩,
      ⟨(some 5), none, .v (.mov (.t 17))⟩]))))))
  (.seq (.reg [⟨(some 30), none, .v (.mov (.t 4))⟩,
    ⟨(some 31), none, .v (.mov (.t 3))⟩,
    ⟨(some 32), none, .v (.bin .sub (.t 30) (.t 31))⟩,
    ⟨(some 2), none, .v (.mov (.t 32))⟩])
  .ret))))
def r84 : List RV := [.t 2]
def n84 : Nat := 33
theorem k84 : (Try.f84.body.bind (cC Try.prog), cR Try.prog Try.f84.results.toList, Try.f84.ntmps) = (some s84, some r84, 33) := by kernel_rfl
theorem q84 : Known Try.prog 84 := ⟨_, Try.func84, by decide, by simp [Try.f84]⟩



/-- A result that is right as it is. -/
theorem res {K : SV → Prop} {x y : SV} (h : K y) (e : leR 4 x y) : ∃ r', K r' ∧ leR 4 x r' := ⟨y, h, e⟩
theorem take_snoc {cs : List Int} {i : Nat} (h : i < cs.length) : cs.take (i + 1) = cs.take i ++ [cs.getD i 0] := by
  rw [List.take_add_one, List.getElem?_eq_getElem h]; simp [List.getD, h]
theorem getD_mem {cs : List Int} {i : Nat} (h : i < cs.length) : cs.getD i 0 ∈ cs := by
  simp [List.getD, h]
theorem eq_of_take {a b : List Int} (hl : a.length = b.length) (h : a.take a.length = b.take a.length) : a = b := by
  rw [List.take_length] at h; rw [hl, List.take_length] at h; exact h

def F39 : FC := fun args => match args with
  | [.int .i64 x, .int .i64 lo, .int .i64 hi] => some (True, .bool (decide (lo ≤ x ∧ x ≤ hi)))
  | _ => none
theorem p39 : PureOk Try.prog 39 (fcC F39) := by
  refine pure_of (T := []) trivial Try.func39 k39 ?_
  intro args K hC
  unfold fcC F39 at hC
  split at hC <;> first | (exact hC.elim) | skip
  rename_i h
  split at h <;> first | (cases h; done) | skip
  cases h
  simp only [inr64, ↓reduceIte, ite_true, ite_false, List.cons.injEq, ne_eq, not_true_eq_false, not_false_eq_true, reduceCtorEq, e_skip, e_reg, e_drw, e_seq, e_cond, e_block, e_loop, e_exit, e_ret, e_shut, e_scp, scpK_n, scpK_x, scpK_r, shutH, shut1, shutB, slQ, o_nil, o_cons, gd_none, gd_some, gdK_tt, gdK_tf, gdK_ft, gdK_ff, gdK_u, gdK_bt, gdK_bf, putK_e, runK_e, skipK_e, vK_e, boxK_e, bslK_e, bldK_e, storeK3_e, storeK2_e, storeK_e, storeK_p, storeE_e, appK2_oi, appK2_or, appK_e, conK_e, callK_e, callK_m, evh_v, evh_new, evh_box, evh_bsl, evh_bld, evh_store, evh_app, evh_call, evh_inv, evh_slc, slcK_e, appC_e, appK_c, appK_l, slO, bnd, slv, od_none, od_some, invK_e, invK2_e, lkm, dX_e, dX_b, dX_l, dG_t, dG_f, d_nil, d_cons, creK_e, tlK_n, tlK_s, evc_e, loopK_n, loopK_x, loopK_r, seqK_n, seqK_x, seqK_r, condK_t, condK_f, condK_b, exitK_t, exitK_f, blockK_x, blockK_n, blockK_r, ends_r, ends_n, endK1_e, endK2_e, gam_e, gamK_f, gamK_p, gamK_c, gamq_e, gamqK_f, pc_e, pcK_e, fcC_e, fcK_e, evp, fit, InQ, nilq, nb, bin, binB, gt, gq, st, putf, X.get, gets, getp, ap, mkfr, rep, rdR, tupled, clV, clL, clS, clo, clo.clos, asB, ld, lda, lens, ixs, tk, dr, sp, sp.spl, lay, ll, cs1, one, allOne, gb, sb, pb, ln, lk, evq, gdl, crv, Value.oneCell', undef, Bool.and_true, Bool.true_and, Bool.not_true, Bool.not_false, cond_true, cond_false, Nat.reduceSub, Nat.reduceAdd, Nat.reduceMul, Nat.reduceDiv, Nat.reduceBEq, beq_self_eq_true, true_and, and_true, decide_eq_true_eq, decide_eq_false_iff_not, Bool.not_eq_eq_eq_not, sts, s39, r39]
  exact ⟨fun h => res hC.2 (by simp [leR, h]), fun h => res hC.2 (by simp [leR, h])⟩
theorem p60 : PureOk Try.prog 60 (fcC F39) := by
  refine pure_of (T := []) trivial Try.func60 k60 ?_
  intro args K hC
  unfold fcC F39 at hC
  split at hC <;> first | (exact hC.elim) | skip
  rename_i h
  split at h <;> first | (cases h; done) | skip
  cases h
  simp only [inr64, ↓reduceIte, ite_true, ite_false, List.cons.injEq, ne_eq, not_true_eq_false, not_false_eq_true, reduceCtorEq, e_skip, e_reg, e_drw, e_seq, e_cond, e_block, e_loop, e_exit, e_ret, e_shut, e_scp, scpK_n, scpK_x, scpK_r, shutH, shut1, shutB, slQ, o_nil, o_cons, gd_none, gd_some, gdK_tt, gdK_tf, gdK_ft, gdK_ff, gdK_u, gdK_bt, gdK_bf, putK_e, runK_e, skipK_e, vK_e, boxK_e, bslK_e, bldK_e, storeK3_e, storeK2_e, storeK_e, storeK_p, storeE_e, appK2_oi, appK2_or, appK_e, conK_e, callK_e, callK_m, evh_v, evh_new, evh_box, evh_bsl, evh_bld, evh_store, evh_app, evh_call, evh_inv, evh_slc, slcK_e, appC_e, appK_c, appK_l, slO, bnd, slv, od_none, od_some, invK_e, invK2_e, lkm, dX_e, dX_b, dX_l, dG_t, dG_f, d_nil, d_cons, creK_e, tlK_n, tlK_s, evc_e, loopK_n, loopK_x, loopK_r, seqK_n, seqK_x, seqK_r, condK_t, condK_f, condK_b, exitK_t, exitK_f, blockK_x, blockK_n, blockK_r, ends_r, ends_n, endK1_e, endK2_e, gam_e, gamK_f, gamK_p, gamK_c, gamq_e, gamqK_f, pc_e, pcK_e, fcC_e, fcK_e, evp, fit, InQ, nilq, nb, bin, binB, gt, gq, st, putf, X.get, gets, getp, ap, mkfr, rep, rdR, tupled, clV, clL, clS, clo, clo.clos, asB, ld, lda, lens, ixs, tk, dr, sp, sp.spl, lay, ll, cs1, one, allOne, gb, sb, pb, ln, lk, evq, gdl, crv, Value.oneCell', undef, Bool.and_true, Bool.true_and, Bool.not_true, Bool.not_false, cond_true, cond_false, Nat.reduceSub, Nat.reduceAdd, Nat.reduceMul, Nat.reduceDiv, Nat.reduceBEq, beq_self_eq_true, true_and, and_true, decide_eq_true_eq, decide_eq_false_iff_not, Bool.not_eq_eq_eq_not, sts, s60, r60]
  exact ⟨fun h => res hC.2 (by simp [leR, h]), fun h => res hC.2 (by simp [leR, h])⟩

def F21 : FC := fun args => match args with
  | [.ints .i64 a, .ints .i64 b] => some (a.length ≤ 1000000, .bool (decide (a = b)))
  | _ => none
theorem p21 : PureOk Try.prog 21 (fcC F21) := by
  refine pure_of (T := []) trivial Try.func21 k21 ?_
  intro args K hC
  unfold fcC F21 at hC
  split at hC <;> first | (exact hC.elim) | skip
  rename_i h
  split at h <;> first | (cases h; done) | skip
  · cases h
    rename_i a b
    obtain ⟨hlen, hK⟩ := hC
    simp only [inr64, ↓reduceIte, ite_true, ite_false, List.cons.injEq, ne_eq, not_true_eq_false, not_false_eq_true, reduceCtorEq, e_skip, e_reg, e_drw, e_seq, e_cond, e_block, e_loop, e_exit, e_ret, e_shut, e_scp, scpK_n, scpK_x, scpK_r, shutH, shut1, shutB, slQ, o_nil, o_cons, gd_none, gd_some, gdK_tt, gdK_tf, gdK_ft, gdK_ff, gdK_u, gdK_bt, gdK_bf, putK_e, runK_e, skipK_e, vK_e, boxK_e, bslK_e, bldK_e, storeK3_e, storeK2_e, storeK_e, storeK_p, storeE_e, appK2_oi, appK2_or, appK_e, conK_e, callK_e, callK_m, evh_v, evh_new, evh_box, evh_bsl, evh_bld, evh_store, evh_app, evh_call, evh_inv, evh_slc, slcK_e, appC_e, appK_c, appK_l, slO, bnd, slv, od_none, od_some, invK_e, invK2_e, lkm, dX_e, dX_b, dX_l, dG_t, dG_f, d_nil, d_cons, creK_e, tlK_n, tlK_s, evc_e, loopK_n, loopK_x, loopK_r, seqK_n, seqK_x, seqK_r, condK_t, condK_f, condK_b, exitK_t, exitK_f, blockK_x, blockK_n, blockK_r, ends_r, ends_n, endK1_e, endK2_e, gam_e, gamK_f, gamK_p, gamK_c, gamq_e, gamqK_f, pc_e, pcK_e, fcC_e, fcK_e, evp, fit, InQ, nilq, nb, bin, binB, gt, gq, st, putf, X.get, gets, getp, ap, mkfr, rep, rdR, tupled, clV, clL, clS, clo, clo.clos, asB, ld, lda, lens, ixs, tk, dr, sp, sp.spl, lay, ll, cs1, one, allOne, gb, sb, pb, ln, lk, evq, gdl, crv, Value.oneCell', undef, Bool.and_true, Bool.true_and, Bool.not_true, Bool.not_false, cond_true, cond_false, Nat.reduceSub, Nat.reduceAdd, Nat.reduceMul, Nat.reduceDiv, Nat.reduceBEq, beq_self_eq_true, true_and, and_true, decide_eq_true_eq, decide_eq_false_iff_not, Bool.not_eq_eq_eq_not, sts, s21, r21]
    refine ⟨fun h => res hK ?_, fun h => ?_⟩
    · have : ¬ a = b := fun e => h (by rw [e])
      simp [leR, this]
    · have hab : a.length = b.length := by omega
      refine loop_at2 (G := Nat) (fun i => [(5, .int .i64 i)]) (fun i => []) (fun i => i ≤ a.length ∧ a.take i = b.take i) (fun i => a.length - i) 0 ⟨Nat.zero_le _, by simp⟩ ?_
      (intro fr1 hf1; simp only [forget, dstC, dstO, dstD, dst1, st] at hf1; subst hf1)
      refine ⟨?_, ?_⟩
      · refine Lw_re 0 [] (Nat.zero_le _) (by simp [ln]) (by simp [ln]) rfl ?_ ?_
        · simp only [reL, reX, reH, reB, reM, reN, newB, rn, once, gb, List.getElem?_cons_zero, List.getElem?_cons_succ, Nat.reduceSub, Nat.reduceLeDiff, Nat.lt_irrefl, Nat.le_refl, false_and, or_false, false_or, and_false, reduceCtorEq, true_or, or_true, leL, leX, leH, leB, news, inb, inb.inbs, ln, sts, st, Bool.and_self, Bool.and_true, Bool.true_and, Nat.reduceLT, Nat.reduceAdd, decide_true, true_and, and_true, and_self, SV.agg.injEq, Int.natCast_zero]
        · simp only [reL, reX, reH, reB, reM, reN, newB, rn, once, gb, List.getElem?_cons_zero, List.getElem?_cons_succ, Nat.reduceSub, Nat.reduceLeDiff, Nat.lt_irrefl, Nat.le_refl, false_and, or_false, false_or, and_false, reduceCtorEq, true_or, or_true, leL, leX, leH, leB, news, inb, inb.inbs, ln, sts, st, Bool.and_self, Bool.and_true, Bool.true_and, Nat.reduceLT, Nat.reduceAdd, decide_true, true_and, and_true, and_self, SV.agg.injEq]
      · rintro i ⟨hi, hp⟩
        simp only [inr64, ↓reduceIte, ite_true, ite_false, List.cons.injEq, ne_eq, not_true_eq_false, not_false_eq_true, reduceCtorEq, e_skip, e_reg, e_drw, e_seq, e_cond, e_block, e_loop, e_exit, e_ret, e_shut, e_scp, scpK_n, scpK_x, scpK_r, shutH, shut1, shutB, slQ, o_nil, o_cons, gd_none, gd_some, gdK_tt, gdK_tf, gdK_ft, gdK_ff, gdK_u, gdK_bt, gdK_bf, putK_e, runK_e, skipK_e, vK_e, boxK_e, bslK_e, bldK_e, storeK3_e, storeK2_e, storeK_e, storeK_p, storeE_e, appK2_oi, appK2_or, appK_e, conK_e, callK_e, callK_m, evh_v, evh_new, evh_box, evh_bsl, evh_bld, evh_store, evh_app, evh_call, evh_inv, evh_slc, slcK_e, appC_e, appK_c, appK_l, slO, bnd, slv, od_none, od_some, invK_e, invK2_e, lkm, dX_e, dX_b, dX_l, dG_t, dG_f, d_nil, d_cons, creK_e, tlK_n, tlK_s, evc_e, loopK_n, loopK_x, loopK_r, seqK_n, seqK_x, seqK_r, condK_t, condK_f, condK_b, exitK_t, exitK_f, blockK_x, blockK_n, blockK_r, ends_r, ends_n, endK1_e, endK2_e, gam_e, gamK_f, gamK_p, gamK_c, gamq_e, gamqK_f, pc_e, pcK_e, fcC_e, fcK_e, evp, fit, InQ, nilq, nb, bin, binB, gt, gq, st, putf, X.get, gets, getp, ap, mkfr, rep, rdR, tupled, clV, clL, clS, clo, clo.clos, asB, ld, lda, lens, ixs, tk, dr, sp, sp.spl, lay, ll, cs1, one, allOne, gb, sb, pb, ln, lk, evq, gdl, crv, Value.oneCell', undef, Bool.and_true, Bool.true_and, Bool.not_true, Bool.not_false, cond_true, cond_false, Nat.reduceSub, Nat.reduceAdd, Nat.reduceMul, Nat.reduceDiv, Nat.reduceBEq, beq_self_eq_true, true_and, and_true, decide_eq_true_eq, decide_eq_false_iff_not, Bool.not_eq_eq_eq_not, sts, Int.toNat_natCast]
        refine ⟨fun h => ?_, fun h => ?_⟩
        · have ha : i < a.length := by omega
          have hb : i < b.length := by omega
          repeat (refine ⟨by omega, ?_⟩)
          refine ⟨fun hne => res hK ?_, fun he => ⟨by omega, Nx.mk (i + 1) ⟨by omega, by rw [take_snoc ha, take_snoc hb, hp, he]⟩ (by omega) (Lw_re 0 [] (Nat.zero_le _) (by simp [ln]) (by simp [ln]) rfl ?_ ?_)⟩⟩
          · have : ¬ a = b := fun e => hne (by rw [e])
            simp [leR, this]
          · simp only [reL, reX, reH, reB, reM, reN, newB, rn, once, gb, List.getElem?_cons_zero, List.getElem?_cons_succ, Nat.reduceSub, Nat.reduceLeDiff, Nat.lt_irrefl, Nat.le_refl, false_and, or_false, false_or, and_false, reduceCtorEq, true_or, or_true, leL, leX, leH, leB, news, inb, inb.inbs, ln, sts, st, Bool.and_self, Bool.and_true, Bool.true_and, Nat.reduceLT, Nat.reduceAdd, decide_true, true_and, and_true, and_self, SV.agg.injEq, Int.natCast_add, Int.natCast_one]
          · simp only [reL, reX, reH, reB, reM, reN, newB, rn, once, gb, List.getElem?_cons_zero, List.getElem?_cons_succ, Nat.reduceSub, Nat.reduceLeDiff, Nat.lt_irrefl, Nat.le_refl, false_and, or_false, false_or, and_false, reduceCtorEq, true_or, or_true, leL, leX, leH, leB, news, inb, inb.inbs, ln, sts, st, Bool.and_self, Bool.and_true, Bool.true_and, Nat.reduceLT, Nat.reduceAdd, decide_true, true_and, and_true, and_self, SV.agg.injEq]
        · have : i = a.length := by omega
          subst this
          have := eq_of_take hab hp
          exact res hK (by simp [leR, this])

/- Sums. -/
def within (B : Int) (l : List Int) : Prop := ∀ x, x ∈ l → -B ≤ x ∧ x ≤ B
theorem sum_bd {B : Int} : ∀ {l : List Int}, within B l → -(B * l.length) ≤ l.sum ∧ l.sum ≤ B * l.length
  | [], _ => by simp
  | x :: t, h => by
    have h1 := h x (List.mem_cons_self ..)
    have h2 := sum_bd (l := t) (fun y hy => h y (List.mem_cons_of_mem _ hy))
    simp only [List.sum_cons, List.length_cons, Int.natCast_add, Int.natCast_one, Int.mul_add, Int.mul_one]
    omega
theorem within_take {B : Int} {l : List Int} (h : within B l) (i : Nat) : within B (l.take i) := fun x hx => h x (List.mem_of_mem_take hx)
theorem within_drop {B : Int} {l : List Int} (h : within B l) (i : Nat) : within B (l.drop i) := fun x hx => h x (List.mem_of_mem_drop hx)
theorem sum_snoc {l : List Int} {i : Nat} (h : i < l.length) : (l.take (i + 1)).sum = (l.take i).sum + l.getD i 0 := by
  rw [take_snoc h]; simp
theorem sum_take_bd {B : Int} {l : List Int} (h : within B l) (hB : 0 ≤ B) (i : Nat) : -(B * l.length) ≤ (l.take i).sum ∧ (l.take i).sum ≤ B * l.length := by
  have h1 := sum_bd (within_take h i)
  have h2 : B * ((l.take i).length : Int) ≤ B * l.length := Int.mul_le_mul_of_nonneg_left (by rw [List.length_take]; omega) hB
  omega
def F49 : FC := fun args => match args with
  | [.ints .i64 l] => some (within 100000000000000 l ∧ l.length ≤ 64, .int .i64 l.sum)
  | _ => none
theorem p49 : PureOk Try.prog 49 (fcC F49) := by
  refine pure_of (T := []) trivial Try.func49 k49 ?_
  intro args K hC
  unfold fcC F49 at hC
  split at hC <;> first | (exact hC.elim) | skip
  rename_i h
  split at h <;> first | (cases h; done) | skip
  cases h
  rename_i l
  obtain ⟨⟨hb, hlen⟩, hK⟩ := hC
  simp only [inr64, ↓reduceIte, ite_true, ite_false, List.cons.injEq, ne_eq, not_true_eq_false, not_false_eq_true, reduceCtorEq, e_skip, e_reg, e_drw, e_seq, e_cond, e_block, e_loop, e_exit, e_ret, e_shut, e_scp, scpK_n, scpK_x, scpK_r, shutH, shut1, shutB, slQ, o_nil, o_cons, gd_none, gd_some, gdK_tt, gdK_tf, gdK_ft, gdK_ff, gdK_u, gdK_bt, gdK_bf, putK_e, runK_e, skipK_e, vK_e, boxK_e, bslK_e, bldK_e, storeK3_e, storeK2_e, storeK_e, storeK_p, storeE_e, appK2_oi, appK2_or, appK_e, conK_e, callK_e, callK_m, evh_v, evh_new, evh_box, evh_bsl, evh_bld, evh_store, evh_app, evh_call, evh_inv, evh_slc, slcK_e, appC_e, appK_c, appK_l, slO, bnd, slv, od_none, od_some, invK_e, invK2_e, lkm, dX_e, dX_b, dX_l, dG_t, dG_f, d_nil, d_cons, creK_e, tlK_n, tlK_s, evc_e, loopK_n, loopK_x, loopK_r, seqK_n, seqK_x, seqK_r, condK_t, condK_f, condK_b, exitK_t, exitK_f, blockK_x, blockK_n, blockK_r, ends_r, ends_n, endK1_e, endK2_e, gam_e, gamK_f, gamK_p, gamK_c, gamq_e, gamqK_f, pc_e, pcK_e, fcC_e, fcK_e, evp, fit, InQ, nilq, nb, bin, binB, gt, gq, st, putf, X.get, gets, getp, ap, mkfr, rep, rdR, tupled, clV, clL, clS, clo, clo.clos, asB, ld, lda, lens, ixs, tk, dr, sp, sp.spl, lay, ll, cs1, one, allOne, gb, sb, pb, ln, lk, evq, gdl, crv, Value.oneCell', undef, Bool.and_true, Bool.true_and, Bool.not_true, Bool.not_false, cond_true, cond_false, Nat.reduceSub, Nat.reduceAdd, Nat.reduceMul, Nat.reduceDiv, Nat.reduceBEq, beq_self_eq_true, true_and, and_true, decide_eq_true_eq, decide_eq_false_iff_not, Bool.not_eq_eq_eq_not, sts, s49, r49]
  refine loop_at2 (G := Nat) (fun i => [(4, .int .i64 i), (3, .int .i64 (l.take i).sum)]) (fun i => []) (fun i => i ≤ l.length) (fun i => l.length - i) 0 (Nat.zero_le _) ?_
  (intro fr1 hf1; simp only [forget, dstC, dstO, dstD, dst1, st] at hf1; subst hf1)
  refine ⟨?_, ?_⟩
  · refine Lw_re 0 [] (Nat.zero_le _) (by simp [ln]) (by simp [ln]) rfl ?_ ?_
    · simp only [reL, reX, reH, reB, reM, reN, newB, rn, once, gb, List.getElem?_cons_zero, List.getElem?_cons_succ, Nat.reduceSub, Nat.reduceLeDiff, Nat.lt_irrefl, Nat.le_refl, false_and, or_false, false_or, and_false, reduceCtorEq, true_or, or_true, leL, leX, leH, leB, news, inb, inb.inbs, ln, sts, st, Bool.and_self, Bool.and_true, Bool.true_and, Nat.reduceLT, Nat.reduceAdd, decide_true, true_and, and_true, and_self, SV.agg.injEq, Int.natCast_zero, List.take_zero, List.sum_nil]
    · simp only [reL, reX, reH, reB, reM, reN, newB, rn, once, gb, List.getElem?_cons_zero, List.getElem?_cons_succ, Nat.reduceSub, Nat.reduceLeDiff, Nat.lt_irrefl, Nat.le_refl, false_and, or_false, false_or, and_false, reduceCtorEq, true_or, or_true, leL, leX, leH, leB, news, inb, inb.inbs, ln, sts, st, Bool.and_self, Bool.and_true, Bool.true_and, Nat.reduceLT, Nat.reduceAdd, decide_true, true_and, and_true, and_self, SV.agg.injEq]
  · intro i hi
    simp only [inr64, ↓reduceIte, ite_true, ite_false, List.cons.injEq, ne_eq, not_true_eq_false, not_false_eq_true, reduceCtorEq, e_skip, e_reg, e_drw, e_seq, e_cond, e_block, e_loop, e_exit, e_ret, e_shut, e_scp, scpK_n, scpK_x, scpK_r, shutH, shut1, shutB, slQ, o_nil, o_cons, gd_none, gd_some, gdK_tt, gdK_tf, gdK_ft, gdK_ff, gdK_u, gdK_bt, gdK_bf, putK_e, runK_e, skipK_e, vK_e, boxK_e, bslK_e, bldK_e, storeK3_e, storeK2_e, storeK_e, storeK_p, storeE_e, appK2_oi, appK2_or, appK_e, conK_e, callK_e, callK_m, evh_v, evh_new, evh_box, evh_bsl, evh_bld, evh_store, evh_app, evh_call, evh_inv, evh_slc, slcK_e, appC_e, appK_c, appK_l, slO, bnd, slv, od_none, od_some, invK_e, invK2_e, lkm, dX_e, dX_b, dX_l, dG_t, dG_f, d_nil, d_cons, creK_e, tlK_n, tlK_s, evc_e, loopK_n, loopK_x, loopK_r, seqK_n, seqK_x, seqK_r, condK_t, condK_f, condK_b, exitK_t, exitK_f, blockK_x, blockK_n, blockK_r, ends_r, ends_n, endK1_e, endK2_e, gam_e, gamK_f, gamK_p, gamK_c, gamq_e, gamqK_f, pc_e, pcK_e, fcC_e, fcK_e, evp, fit, InQ, nilq, nb, bin, binB, gt, gq, st, putf, X.get, gets, getp, ap, mkfr, rep, rdR, tupled, clV, clL, clS, clo, clo.clos, asB, ld, lda, lens, ixs, tk, dr, sp, sp.spl, lay, ll, cs1, one, allOne, gb, sb, pb, ln, lk, evq, gdl, crv, Value.oneCell', undef, Bool.and_true, Bool.true_and, Bool.not_true, Bool.not_false, cond_true, cond_false, Nat.reduceSub, Nat.reduceAdd, Nat.reduceMul, Nat.reduceDiv, Nat.reduceBEq, beq_self_eq_true, true_and, and_true, decide_eq_true_eq, decide_eq_false_iff_not, Bool.not_eq_eq_eq_not, sts, Int.toNat_natCast]
    refine ⟨fun h => ?_, fun h => ?_⟩
    · have ha : i < l.length := by omega
      have s1 := sum_take_bd hb (by omega) (i + 1)
      rw [sum_snoc ha] at s1
      iterate 3 (refine ⟨by omega, ?_⟩)
      refine Nx.mk (i + 1) (by show i + 1 ≤ l.length; omega) (by show l.length - (i + 1) < l.length - i; omega) (Lw_re 0 [] (Nat.zero_le _) (by simp [ln]) (by simp [ln]) rfl ?_ ?_)
      · simp only [reL, reX, reH, reB, reM, reN, newB, rn, once, gb, List.getElem?_cons_zero, List.getElem?_cons_succ, Nat.reduceSub, Nat.reduceLeDiff, Nat.lt_irrefl, Nat.le_refl, false_and, or_false, false_or, and_false, reduceCtorEq, true_or, or_true, leL, leX, leH, leB, news, inb, inb.inbs, ln, sts, st, Bool.and_self, Bool.and_true, Bool.true_and, Nat.reduceLT, Nat.reduceAdd, decide_true, true_and, and_true, and_self, SV.agg.injEq, Int.natCast_add, Int.natCast_one, sum_snoc, ha]
      · simp only [reL, reX, reH, reB, reM, reN, newB, rn, once, gb, List.getElem?_cons_zero, List.getElem?_cons_succ, Nat.reduceSub, Nat.reduceLeDiff, Nat.lt_irrefl, Nat.le_refl, false_and, or_false, false_or, and_false, reduceCtorEq, true_or, or_true, leL, leX, leH, leB, news, inb, inb.inbs, ln, sts, st, Bool.and_self, Bool.and_true, Bool.true_and, Nat.reduceLT, Nat.reduceAdd, decide_true, true_and, and_true, and_self, SV.agg.injEq]
    · have : i = l.length := by omega
      subst this
      rw [List.take_length]
      exact res hK (by simp [leR])
theorem p102 : PureOk Try.prog 102 (fcC F49) := by
  refine pure_of (T := []) trivial Try.func102 k102 ?_
  intro args K hC
  unfold fcC F49 at hC
  split at hC <;> first | (exact hC.elim) | skip
  rename_i h
  split at h <;> first | (cases h; done) | skip
  cases h
  rename_i l
  obtain ⟨⟨hb, hlen⟩, hK⟩ := hC
  simp only [inr64, ↓reduceIte, ite_true, ite_false, List.cons.injEq, ne_eq, not_true_eq_false, not_false_eq_true, reduceCtorEq, e_skip, e_reg, e_drw, e_seq, e_cond, e_block, e_loop, e_exit, e_ret, e_shut, e_scp, scpK_n, scpK_x, scpK_r, shutH, shut1, shutB, slQ, o_nil, o_cons, gd_none, gd_some, gdK_tt, gdK_tf, gdK_ft, gdK_ff, gdK_u, gdK_bt, gdK_bf, putK_e, runK_e, skipK_e, vK_e, boxK_e, bslK_e, bldK_e, storeK3_e, storeK2_e, storeK_e, storeK_p, storeE_e, appK2_oi, appK2_or, appK_e, conK_e, callK_e, callK_m, evh_v, evh_new, evh_box, evh_bsl, evh_bld, evh_store, evh_app, evh_call, evh_inv, evh_slc, slcK_e, appC_e, appK_c, appK_l, slO, bnd, slv, od_none, od_some, invK_e, invK2_e, lkm, dX_e, dX_b, dX_l, dG_t, dG_f, d_nil, d_cons, creK_e, tlK_n, tlK_s, evc_e, loopK_n, loopK_x, loopK_r, seqK_n, seqK_x, seqK_r, condK_t, condK_f, condK_b, exitK_t, exitK_f, blockK_x, blockK_n, blockK_r, ends_r, ends_n, endK1_e, endK2_e, gam_e, gamK_f, gamK_p, gamK_c, gamq_e, gamqK_f, pc_e, pcK_e, fcC_e, fcK_e, evp, fit, InQ, nilq, nb, bin, binB, gt, gq, st, putf, X.get, gets, getp, ap, mkfr, rep, rdR, tupled, clV, clL, clS, clo, clo.clos, asB, ld, lda, lens, ixs, tk, dr, sp, sp.spl, lay, ll, cs1, one, allOne, gb, sb, pb, ln, lk, evq, gdl, crv, Value.oneCell', undef, Bool.and_true, Bool.true_and, Bool.not_true, Bool.not_false, cond_true, cond_false, Nat.reduceSub, Nat.reduceAdd, Nat.reduceMul, Nat.reduceDiv, Nat.reduceBEq, beq_self_eq_true, true_and, and_true, decide_eq_true_eq, decide_eq_false_iff_not, Bool.not_eq_eq_eq_not, sts, s102, r102]
  refine loop_at2 (G := Nat) (fun i => [(8, .int .i64 i), (3, .int .i64 (l.take i).sum)]) (fun i => []) (fun i => i ≤ l.length) (fun i => l.length - i) 0 (Nat.zero_le _) ?_
  (intro fr1 hf1; simp only [forget, dstC, dstO, dstD, dst1, st] at hf1; subst hf1)
  refine ⟨?_, ?_⟩
  · refine Lw_re 0 [] (Nat.zero_le _) (by simp [ln]) (by simp [ln]) rfl ?_ ?_
    · simp only [reL, reX, reH, reB, reM, reN, newB, rn, once, gb, List.getElem?_cons_zero, List.getElem?_cons_succ, Nat.reduceSub, Nat.reduceLeDiff, Nat.lt_irrefl, Nat.le_refl, false_and, or_false, false_or, and_false, reduceCtorEq, true_or, or_true, leL, leX, leH, leB, news, inb, inb.inbs, ln, sts, st, Bool.and_self, Bool.and_true, Bool.true_and, Nat.reduceLT, Nat.reduceAdd, decide_true, true_and, and_true, and_self, SV.agg.injEq, Int.natCast_zero, List.take_zero, List.sum_nil]
    · simp only [reL, reX, reH, reB, reM, reN, newB, rn, once, gb, List.getElem?_cons_zero, List.getElem?_cons_succ, Nat.reduceSub, Nat.reduceLeDiff, Nat.lt_irrefl, Nat.le_refl, false_and, or_false, false_or, and_false, reduceCtorEq, true_or, or_true, leL, leX, leH, leB, news, inb, inb.inbs, ln, sts, st, Bool.and_self, Bool.and_true, Bool.true_and, Nat.reduceLT, Nat.reduceAdd, decide_true, true_and, and_true, and_self, SV.agg.injEq]
  · intro i hi
    simp only [inr64, ↓reduceIte, ite_true, ite_false, List.cons.injEq, ne_eq, not_true_eq_false, not_false_eq_true, reduceCtorEq, e_skip, e_reg, e_drw, e_seq, e_cond, e_block, e_loop, e_exit, e_ret, e_shut, e_scp, scpK_n, scpK_x, scpK_r, shutH, shut1, shutB, slQ, o_nil, o_cons, gd_none, gd_some, gdK_tt, gdK_tf, gdK_ft, gdK_ff, gdK_u, gdK_bt, gdK_bf, putK_e, runK_e, skipK_e, vK_e, boxK_e, bslK_e, bldK_e, storeK3_e, storeK2_e, storeK_e, storeK_p, storeE_e, appK2_oi, appK2_or, appK_e, conK_e, callK_e, callK_m, evh_v, evh_new, evh_box, evh_bsl, evh_bld, evh_store, evh_app, evh_call, evh_inv, evh_slc, slcK_e, appC_e, appK_c, appK_l, slO, bnd, slv, od_none, od_some, invK_e, invK2_e, lkm, dX_e, dX_b, dX_l, dG_t, dG_f, d_nil, d_cons, creK_e, tlK_n, tlK_s, evc_e, loopK_n, loopK_x, loopK_r, seqK_n, seqK_x, seqK_r, condK_t, condK_f, condK_b, exitK_t, exitK_f, blockK_x, blockK_n, blockK_r, ends_r, ends_n, endK1_e, endK2_e, gam_e, gamK_f, gamK_p, gamK_c, gamq_e, gamqK_f, pc_e, pcK_e, fcC_e, fcK_e, evp, fit, InQ, nilq, nb, bin, binB, gt, gq, st, putf, X.get, gets, getp, ap, mkfr, rep, rdR, tupled, clV, clL, clS, clo, clo.clos, asB, ld, lda, lens, ixs, tk, dr, sp, sp.spl, lay, ll, cs1, one, allOne, gb, sb, pb, ln, lk, evq, gdl, crv, Value.oneCell', undef, Bool.and_true, Bool.true_and, Bool.not_true, Bool.not_false, cond_true, cond_false, Nat.reduceSub, Nat.reduceAdd, Nat.reduceMul, Nat.reduceDiv, Nat.reduceBEq, beq_self_eq_true, true_and, and_true, decide_eq_true_eq, decide_eq_false_iff_not, Bool.not_eq_eq_eq_not, sts, Int.toNat_natCast]
    refine ⟨fun h => ?_, fun h => ?_⟩
    · have ha : i < l.length := by omega
      have s1 := sum_take_bd hb (by omega) (i + 1)
      rw [sum_snoc ha] at s1
      iterate 3 (refine ⟨by omega, ?_⟩)
      refine Nx.mk (i + 1) (by show i + 1 ≤ l.length; omega) (by show l.length - (i + 1) < l.length - i; omega) (Lw_re 0 [] (Nat.zero_le _) (by simp [ln]) (by simp [ln]) rfl ?_ ?_)
      · simp only [reL, reX, reH, reB, reM, reN, newB, rn, once, gb, List.getElem?_cons_zero, List.getElem?_cons_succ, Nat.reduceSub, Nat.reduceLeDiff, Nat.lt_irrefl, Nat.le_refl, false_and, or_false, false_or, and_false, reduceCtorEq, true_or, or_true, leL, leX, leH, leB, news, inb, inb.inbs, ln, sts, st, Bool.and_self, Bool.and_true, Bool.true_and, Nat.reduceLT, Nat.reduceAdd, decide_true, true_and, and_true, and_self, SV.agg.injEq, Int.natCast_add, Int.natCast_one, sum_snoc, ha]
      · simp only [reL, reX, reH, reB, reM, reN, newB, rn, once, gb, List.getElem?_cons_zero, List.getElem?_cons_succ, Nat.reduceSub, Nat.reduceLeDiff, Nat.lt_irrefl, Nat.le_refl, false_and, or_false, false_or, and_false, reduceCtorEq, true_or, or_true, leL, leX, leH, leB, news, inb, inb.inbs, ln, sts, st, Bool.and_self, Bool.and_true, Bool.true_and, Nat.reduceLT, Nat.reduceAdd, decide_true, true_and, and_true, and_self, SV.agg.injEq]
    · have : i = l.length := by omega
      subst this
      rw [List.take_length]
      exact res hK (by simp [leR])
/-- The same for a row without room behind it. -/
theorem p102c : PureOk Try.prog 102 (leC (fcC F49)) := pure_le p102
theorem p49c : PureOk Try.prog 49 (leC (fcC F49)) := pure_le p49

/- The greatest, the least. -/
def F112 : FC := fun args => match args with
  | [.int .i64 a, .int .i64 b] => some (True, .bool (decide (b < a)))
  | _ => none
theorem p112 : PureOk Try.prog 112 (fcC F112) := by
  refine pure_of (T := []) trivial Try.func112 k112 ?_
  intro args K hC
  unfold fcC F112 at hC
  split at hC <;> first | (exact hC.elim) | skip
  rename_i h
  split at h <;> first | (cases h; done) | skip
  cases h
  simp only [inr64, ↓reduceIte, ite_true, ite_false, List.cons.injEq, ne_eq, not_true_eq_false, not_false_eq_true, reduceCtorEq, e_skip, e_reg, e_drw, e_seq, e_cond, e_block, e_loop, e_exit, e_ret, e_shut, e_scp, scpK_n, scpK_x, scpK_r, shutH, shut1, shutB, slQ, o_nil, o_cons, gd_none, gd_some, gdK_tt, gdK_tf, gdK_ft, gdK_ff, gdK_u, gdK_bt, gdK_bf, putK_e, runK_e, skipK_e, vK_e, boxK_e, bslK_e, bldK_e, storeK3_e, storeK2_e, storeK_e, storeK_p, storeE_e, appK2_oi, appK2_or, appK_e, conK_e, callK_e, callK_m, evh_v, evh_new, evh_box, evh_bsl, evh_bld, evh_store, evh_app, evh_call, evh_inv, evh_slc, slcK_e, appC_e, appK_c, appK_l, slO, bnd, slv, od_none, od_some, invK_e, invK2_e, lkm, dX_e, dX_b, dX_l, dG_t, dG_f, d_nil, d_cons, creK_e, tlK_n, tlK_s, evc_e, loopK_n, loopK_x, loopK_r, seqK_n, seqK_x, seqK_r, condK_t, condK_f, condK_b, exitK_t, exitK_f, blockK_x, blockK_n, blockK_r, ends_r, ends_n, endK1_e, endK2_e, gam_e, gamK_f, gamK_p, gamK_c, gamq_e, gamqK_f, pc_e, pcK_e, fcC_e, fcK_e, evp, fit, InQ, nilq, nb, bin, binB, gt, gq, st, putf, X.get, gets, getp, ap, mkfr, rep, rdR, tupled, clV, clL, clS, clo, clo.clos, asB, ld, lda, lens, ixs, tk, dr, sp, sp.spl, lay, ll, cs1, one, allOne, gb, sb, pb, ln, lk, evq, gdl, crv, Value.oneCell', undef, Bool.and_true, Bool.true_and, Bool.not_true, Bool.not_false, cond_true, cond_false, Nat.reduceSub, Nat.reduceAdd, Nat.reduceMul, Nat.reduceDiv, Nat.reduceBEq, beq_self_eq_true, true_and, and_true, decide_eq_true_eq, decide_eq_false_iff_not, Bool.not_eq_eq_eq_not, sts, s112, r112]
  exact res hC.2 (by simp [leR])
def F113 : FC := fun args => match args with
  | [.int .i64 a, .int .i64 b] => some (True, .bool (decide (a < b)))
  | _ => none
theorem p113 : PureOk Try.prog 113 (fcC F113) := by
  refine pure_of (T := []) trivial Try.func113 k113 ?_
  intro args K hC
  unfold fcC F113 at hC
  split at hC <;> first | (exact hC.elim) | skip
  rename_i h
  split at h <;> first | (cases h; done) | skip
  cases h
  simp only [inr64, ↓reduceIte, ite_true, ite_false, List.cons.injEq, ne_eq, not_true_eq_false, not_false_eq_true, reduceCtorEq, e_skip, e_reg, e_drw, e_seq, e_cond, e_block, e_loop, e_exit, e_ret, e_shut, e_scp, scpK_n, scpK_x, scpK_r, shutH, shut1, shutB, slQ, o_nil, o_cons, gd_none, gd_some, gdK_tt, gdK_tf, gdK_ft, gdK_ff, gdK_u, gdK_bt, gdK_bf, putK_e, runK_e, skipK_e, vK_e, boxK_e, bslK_e, bldK_e, storeK3_e, storeK2_e, storeK_e, storeK_p, storeE_e, appK2_oi, appK2_or, appK_e, conK_e, callK_e, callK_m, evh_v, evh_new, evh_box, evh_bsl, evh_bld, evh_store, evh_app, evh_call, evh_inv, evh_slc, slcK_e, appC_e, appK_c, appK_l, slO, bnd, slv, od_none, od_some, invK_e, invK2_e, lkm, dX_e, dX_b, dX_l, dG_t, dG_f, d_nil, d_cons, creK_e, tlK_n, tlK_s, evc_e, loopK_n, loopK_x, loopK_r, seqK_n, seqK_x, seqK_r, condK_t, condK_f, condK_b, exitK_t, exitK_f, blockK_x, blockK_n, blockK_r, ends_r, ends_n, endK1_e, endK2_e, gam_e, gamK_f, gamK_p, gamK_c, gamq_e, gamqK_f, pc_e, pcK_e, fcC_e, fcK_e, evp, fit, InQ, nilq, nb, bin, binB, gt, gq, st, putf, X.get, gets, getp, ap, mkfr, rep, rdR, tupled, clV, clL, clS, clo, clo.clos, asB, ld, lda, lens, ixs, tk, dr, sp, sp.spl, lay, ll, cs1, one, allOne, gb, sb, pb, ln, lk, evq, gdl, crv, Value.oneCell', undef, Bool.and_true, Bool.true_and, Bool.not_true, Bool.not_false, cond_true, cond_false, Nat.reduceSub, Nat.reduceAdd, Nat.reduceMul, Nat.reduceDiv, Nat.reduceBEq, beq_self_eq_true, true_and, and_true, decide_eq_true_eq, decide_eq_false_iff_not, Bool.not_eq_eq_eq_not, sts, s113, r113]
  exact res hC.2 (by simp [leR])
def mxL (a : Int) (l : List Int) : Int := l.foldl max a
def mnL (a : Int) (l : List Int) : Int := l.foldl min a
theorem mxL_snoc {a : Int} {l : List Int} {i : Nat} (h : i < l.length) : mxL a (l.take (i + 1)) = max (mxL a (l.take i)) (l.getD i 0) := by
  unfold mxL; rw [take_snoc h]; simp
theorem mnL_snoc {a : Int} {l : List Int} {i : Nat} (h : i < l.length) : mnL a (l.take (i + 1)) = min (mnL a (l.take i)) (l.getD i 0) := by
  unfold mnL; rw [take_snoc h]; simp
def F111 : FC := fun args => match args with
  | [.fn 112 [], .int .i64 a, .ints .i64 l] => some (l.length ≤ 1000000, .int .i64 (mxL a l))
  | [.fn 113 [], .int .i64 a, .ints .i64 l] => some (l.length ≤ 1000000, .int .i64 (mnL a l))
  | _ => none
theorem p111 : PureOk Try.prog 111 (fcC F111) := by
  refine pure_of (T := [(112, .fc F112), (113, .fc F113)]) ⟨⟨p112, q112⟩, ⟨p113, q113⟩, trivial⟩ Try.func111 k111 ?_
  intro args K hC
  unfold fcC F111 at hC
  split at hC <;> first | (exact hC.elim) | skip
  rename_i h
  split at h <;> first | (cases h; done) | skip
  · cases h
    rename_i a l
    obtain ⟨hlen, hK⟩ := hC
    simp only [inr64, ↓reduceIte, ite_true, ite_false, List.cons.injEq, ne_eq, not_true_eq_false, not_false_eq_true, reduceCtorEq, e_skip, e_reg, e_drw, e_seq, e_cond, e_block, e_loop, e_exit, e_ret, e_shut, e_scp, scpK_n, scpK_x, scpK_r, shutH, shut1, shutB, slQ, o_nil, o_cons, gd_none, gd_some, gdK_tt, gdK_tf, gdK_ft, gdK_ff, gdK_u, gdK_bt, gdK_bf, putK_e, runK_e, skipK_e, vK_e, boxK_e, bslK_e, bldK_e, storeK3_e, storeK2_e, storeK_e, storeK_p, storeE_e, appK2_oi, appK2_or, appK_e, conK_e, callK_e, callK_m, evh_v, evh_new, evh_box, evh_bsl, evh_bld, evh_store, evh_app, evh_call, evh_inv, evh_slc, slcK_e, appC_e, appK_c, appK_l, slO, bnd, slv, od_none, od_some, invK_e, invK2_e, lkm, dX_e, dX_b, dX_l, dG_t, dG_f, d_nil, d_cons, creK_e, tlK_n, tlK_s, evc_e, loopK_n, loopK_x, loopK_r, seqK_n, seqK_x, seqK_r, condK_t, condK_f, condK_b, exitK_t, exitK_f, blockK_x, blockK_n, blockK_r, ends_r, ends_n, endK1_e, endK2_e, gam_e, gamK_f, gamK_p, gamK_c, gamq_e, gamqK_f, pc_e, pcK_e, fcC_e, fcK_e, evp, fit, InQ, nilq, nb, bin, binB, gt, gq, st, putf, X.get, gets, getp, ap, mkfr, rep, rdR, tupled, clV, clL, clS, clo, clo.clos, asB, ld, lda, lens, ixs, tk, dr, sp, sp.spl, lay, ll, cs1, one, allOne, gb, sb, pb, ln, lk, evq, gdl, crv, Value.oneCell', undef, Bool.and_true, Bool.true_and, Bool.not_true, Bool.not_false, cond_true, cond_false, Nat.reduceSub, Nat.reduceAdd, Nat.reduceMul, Nat.reduceDiv, Nat.reduceBEq, beq_self_eq_true, true_and, and_true, decide_eq_true_eq, decide_eq_false_iff_not, Bool.not_eq_eq_eq_not, sts, s111, r111, F112]
    refine loop_at2 (G := Nat) (fun i => [(11, .int .i64 i), (1, .int .i64 (mxL a (l.take i)))]) (fun i => []) (fun i => i ≤ l.length) (fun i => l.length - i) 0 (Nat.zero_le _) ?_
    (intro fr1 hf1; simp only [forget, dstC, dstO, dstD, dst1, st] at hf1; subst hf1)
    refine ⟨?_, ?_⟩
    · refine Lw_re 0 [] (Nat.zero_le _) (by simp [ln]) (by simp [ln]) rfl ?_ ?_
      · simp only [reL, reX, reH, reB, reM, reN, newB, rn, once, gb, List.getElem?_cons_zero, List.getElem?_cons_succ, Nat.reduceSub, Nat.reduceLeDiff, Nat.lt_irrefl, Nat.le_refl, false_and, or_false, false_or, and_false, reduceCtorEq, true_or, or_true, leL, leX, leH, leB, news, inb, inb.inbs, ln, sts, st, Bool.and_self, Bool.and_true, Bool.true_and, Nat.reduceLT, Nat.reduceAdd, decide_true, true_and, and_true, and_self, SV.agg.injEq, Int.natCast_zero, List.take_zero, mxL, List.foldl_nil]
      · simp only [reL, reX, reH, reB, reM, reN, newB, rn, once, gb, List.getElem?_cons_zero, List.getElem?_cons_succ, Nat.reduceSub, Nat.reduceLeDiff, Nat.lt_irrefl, Nat.le_refl, false_and, or_false, false_or, and_false, reduceCtorEq, true_or, or_true, leL, leX, leH, leB, news, inb, inb.inbs, ln, sts, st, Bool.and_self, Bool.and_true, Bool.true_and, Nat.reduceLT, Nat.reduceAdd, decide_true, true_and, and_true, and_self, SV.agg.injEq]
    · intro i hi
      simp only [inr64, ↓reduceIte, ite_true, ite_false, List.cons.injEq, ne_eq, not_true_eq_false, not_false_eq_true, reduceCtorEq, e_skip, e_reg, e_drw, e_seq, e_cond, e_block, e_loop, e_exit, e_ret, e_shut, e_scp, scpK_n, scpK_x, scpK_r, shutH, shut1, shutB, slQ, o_nil, o_cons, gd_none, gd_some, gdK_tt, gdK_tf, gdK_ft, gdK_ff, gdK_u, gdK_bt, gdK_bf, putK_e, runK_e, skipK_e, vK_e, boxK_e, bslK_e, bldK_e, storeK3_e, storeK2_e, storeK_e, storeK_p, storeE_e, appK2_oi, appK2_or, appK_e, conK_e, callK_e, callK_m, evh_v, evh_new, evh_box, evh_bsl, evh_bld, evh_store, evh_app, evh_call, evh_inv, evh_slc, slcK_e, appC_e, appK_c, appK_l, slO, bnd, slv, od_none, od_some, invK_e, invK2_e, lkm, dX_e, dX_b, dX_l, dG_t, dG_f, d_nil, d_cons, creK_e, tlK_n, tlK_s, evc_e, loopK_n, loopK_x, loopK_r, seqK_n, seqK_x, seqK_r, condK_t, condK_f, condK_b, exitK_t, exitK_f, blockK_x, blockK_n, blockK_r, ends_r, ends_n, endK1_e, endK2_e, gam_e, gamK_f, gamK_p, gamK_c, gamq_e, gamqK_f, pc_e, pcK_e, fcC_e, fcK_e, evp, fit, InQ, nilq, nb, bin, binB, gt, gq, st, putf, X.get, gets, getp, ap, mkfr, rep, rdR, tupled, clV, clL, clS, clo, clo.clos, asB, ld, lda, lens, ixs, tk, dr, sp, sp.spl, lay, ll, cs1, one, allOne, gb, sb, pb, ln, lk, evq, gdl, crv, Value.oneCell', undef, Bool.and_true, Bool.true_and, Bool.not_true, Bool.not_false, cond_true, cond_false, Nat.reduceSub, Nat.reduceAdd, Nat.reduceMul, Nat.reduceDiv, Nat.reduceBEq, beq_self_eq_true, true_and, and_true, decide_eq_true_eq, decide_eq_false_iff_not, Bool.not_eq_eq_eq_not, sts, Int.toNat_natCast, F112]
      refine ⟨fun h => ?_, fun h => ?_⟩
      · have ha : i < l.length := by omega
        have e := mxL_snoc (a := a) ha
        repeat (refine ⟨by omega, ?_⟩)
        refine ⟨fun hc => ⟨by omega, ?_⟩, fun hc => ⟨by omega, ?_⟩⟩
        · refine Nx.mk (i + 1) (by show i + 1 ≤ l.length; omega) (by show l.length - (i + 1) < l.length - i; omega) (Lw_re 0 [] (Nat.zero_le _) (by simp [ln]) (by simp [ln]) rfl ?_ ?_)
          · rw [e, show max (mxL a (l.take i)) (l.getD i 0) = l.getD i 0 by omega]
            simp only [reL, reX, reH, reB, reM, reN, newB, rn, once, gb, List.getElem?_cons_zero, List.getElem?_cons_succ, Nat.reduceSub, Nat.reduceLeDiff, Nat.lt_irrefl, Nat.le_refl, false_and, or_false, false_or, and_false, reduceCtorEq, true_or, or_true, leL, leX, leH, leB, news, inb, inb.inbs, ln, sts, st, Bool.and_self, Bool.and_true, Bool.true_and, Nat.reduceLT, Nat.reduceAdd, decide_true, true_and, and_true, and_self, SV.agg.injEq, Int.natCast_add, Int.natCast_one]
          · simp only [reL, reX, reH, reB, reM, reN, newB, rn, once, gb, List.getElem?_cons_zero, List.getElem?_cons_succ, Nat.reduceSub, Nat.reduceLeDiff, Nat.lt_irrefl, Nat.le_refl, false_and, or_false, false_or, and_false, reduceCtorEq, true_or, or_true, leL, leX, leH, leB, news, inb, inb.inbs, ln, sts, st, Bool.and_self, Bool.and_true, Bool.true_and, Nat.reduceLT, Nat.reduceAdd, decide_true, true_and, and_true, and_self, SV.agg.injEq]
        · refine Nx.mk (i + 1) (by show i + 1 ≤ l.length; omega) (by show l.length - (i + 1) < l.length - i; omega) (Lw_re 0 [] (Nat.zero_le _) (by simp [ln]) (by simp [ln]) rfl ?_ ?_)
          · rw [e, show max (mxL a (l.take i)) (l.getD i 0) = mxL a (l.take i) by omega]
            simp only [reL, reX, reH, reB, reM, reN, newB, rn, once, gb, List.getElem?_cons_zero, List.getElem?_cons_succ, Nat.reduceSub, Nat.reduceLeDiff, Nat.lt_irrefl, Nat.le_refl, false_and, or_false, false_or, and_false, reduceCtorEq, true_or, or_true, leL, leX, leH, leB, news, inb, inb.inbs, ln, sts, st, Bool.and_self, Bool.and_true, Bool.true_and, Nat.reduceLT, Nat.reduceAdd, decide_true, true_and, and_true, and_self, SV.agg.injEq, Int.natCast_add, Int.natCast_one]
          · simp only [reL, reX, reH, reB, reM, reN, newB, rn, once, gb, List.getElem?_cons_zero, List.getElem?_cons_succ, Nat.reduceSub, Nat.reduceLeDiff, Nat.lt_irrefl, Nat.le_refl, false_and, or_false, false_or, and_false, reduceCtorEq, true_or, or_true, leL, leX, leH, leB, news, inb, inb.inbs, ln, sts, st, Bool.and_self, Bool.and_true, Bool.true_and, Nat.reduceLT, Nat.reduceAdd, decide_true, true_and, and_true, and_self, SV.agg.injEq]
      · have : i = l.length := by omega
        subst this
        rw [List.take_length]
        exact res hK (by simp [leR])
  · cases h
    rename_i a l
    obtain ⟨hlen, hK⟩ := hC
    simp only [inr64, ↓reduceIte, ite_true, ite_false, List.cons.injEq, ne_eq, not_true_eq_false, not_false_eq_true, reduceCtorEq, e_skip, e_reg, e_drw, e_seq, e_cond, e_block, e_loop, e_exit, e_ret, e_shut, e_scp, scpK_n, scpK_x, scpK_r, shutH, shut1, shutB, slQ, o_nil, o_cons, gd_none, gd_some, gdK_tt, gdK_tf, gdK_ft, gdK_ff, gdK_u, gdK_bt, gdK_bf, putK_e, runK_e, skipK_e, vK_e, boxK_e, bslK_e, bldK_e, storeK3_e, storeK2_e, storeK_e, storeK_p, storeE_e, appK2_oi, appK2_or, appK_e, conK_e, callK_e, callK_m, evh_v, evh_new, evh_box, evh_bsl, evh_bld, evh_store, evh_app, evh_call, evh_inv, evh_slc, slcK_e, appC_e, appK_c, appK_l, slO, bnd, slv, od_none, od_some, invK_e, invK2_e, lkm, dX_e, dX_b, dX_l, dG_t, dG_f, d_nil, d_cons, creK_e, tlK_n, tlK_s, evc_e, loopK_n, loopK_x, loopK_r, seqK_n, seqK_x, seqK_r, condK_t, condK_f, condK_b, exitK_t, exitK_f, blockK_x, blockK_n, blockK_r, ends_r, ends_n, endK1_e, endK2_e, gam_e, gamK_f, gamK_p, gamK_c, gamq_e, gamqK_f, pc_e, pcK_e, fcC_e, fcK_e, evp, fit, InQ, nilq, nb, bin, binB, gt, gq, st, putf, X.get, gets, getp, ap, mkfr, rep, rdR, tupled, clV, clL, clS, clo, clo.clos, asB, ld, lda, lens, ixs, tk, dr, sp, sp.spl, lay, ll, cs1, one, allOne, gb, sb, pb, ln, lk, evq, gdl, crv, Value.oneCell', undef, Bool.and_true, Bool.true_and, Bool.not_true, Bool.not_false, cond_true, cond_false, Nat.reduceSub, Nat.reduceAdd, Nat.reduceMul, Nat.reduceDiv, Nat.reduceBEq, beq_self_eq_true, true_and, and_true, decide_eq_true_eq, decide_eq_false_iff_not, Bool.not_eq_eq_eq_not, sts, s111, r111, F113]
    refine loop_at2 (G := Nat) (fun i => [(11, .int .i64 i), (1, .int .i64 (mnL a (l.take i)))]) (fun i => []) (fun i => i ≤ l.length) (fun i => l.length - i) 0 (Nat.zero_le _) ?_
    (intro fr1 hf1; simp only [forget, dstC, dstO, dstD, dst1, st] at hf1; subst hf1)
    refine ⟨?_, ?_⟩
    · refine Lw_re 0 [] (Nat.zero_le _) (by simp [ln]) (by simp [ln]) rfl ?_ ?_
      · simp only [reL, reX, reH, reB, reM, reN, newB, rn, once, gb, List.getElem?_cons_zero, List.getElem?_cons_succ, Nat.reduceSub, Nat.reduceLeDiff, Nat.lt_irrefl, Nat.le_refl, false_and, or_false, false_or, and_false, reduceCtorEq, true_or, or_true, leL, leX, leH, leB, news, inb, inb.inbs, ln, sts, st, Bool.and_self, Bool.and_true, Bool.true_and, Nat.reduceLT, Nat.reduceAdd, decide_true, true_and, and_true, and_self, SV.agg.injEq, Int.natCast_zero, List.take_zero, mnL, List.foldl_nil]
      · simp only [reL, reX, reH, reB, reM, reN, newB, rn, once, gb, List.getElem?_cons_zero, List.getElem?_cons_succ, Nat.reduceSub, Nat.reduceLeDiff, Nat.lt_irrefl, Nat.le_refl, false_and, or_false, false_or, and_false, reduceCtorEq, true_or, or_true, leL, leX, leH, leB, news, inb, inb.inbs, ln, sts, st, Bool.and_self, Bool.and_true, Bool.true_and, Nat.reduceLT, Nat.reduceAdd, decide_true, true_and, and_true, and_self, SV.agg.injEq]
    · intro i hi
      simp only [inr64, ↓reduceIte, ite_true, ite_false, List.cons.injEq, ne_eq, not_true_eq_false, not_false_eq_true, reduceCtorEq, e_skip, e_reg, e_drw, e_seq, e_cond, e_block, e_loop, e_exit, e_ret, e_shut, e_scp, scpK_n, scpK_x, scpK_r, shutH, shut1, shutB, slQ, o_nil, o_cons, gd_none, gd_some, gdK_tt, gdK_tf, gdK_ft, gdK_ff, gdK_u, gdK_bt, gdK_bf, putK_e, runK_e, skipK_e, vK_e, boxK_e, bslK_e, bldK_e, storeK3_e, storeK2_e, storeK_e, storeK_p, storeE_e, appK2_oi, appK2_or, appK_e, conK_e, callK_e, callK_m, evh_v, evh_new, evh_box, evh_bsl, evh_bld, evh_store, evh_app, evh_call, evh_inv, evh_slc, slcK_e, appC_e, appK_c, appK_l, slO, bnd, slv, od_none, od_some, invK_e, invK2_e, lkm, dX_e, dX_b, dX_l, dG_t, dG_f, d_nil, d_cons, creK_e, tlK_n, tlK_s, evc_e, loopK_n, loopK_x, loopK_r, seqK_n, seqK_x, seqK_r, condK_t, condK_f, condK_b, exitK_t, exitK_f, blockK_x, blockK_n, blockK_r, ends_r, ends_n, endK1_e, endK2_e, gam_e, gamK_f, gamK_p, gamK_c, gamq_e, gamqK_f, pc_e, pcK_e, fcC_e, fcK_e, evp, fit, InQ, nilq, nb, bin, binB, gt, gq, st, putf, X.get, gets, getp, ap, mkfr, rep, rdR, tupled, clV, clL, clS, clo, clo.clos, asB, ld, lda, lens, ixs, tk, dr, sp, sp.spl, lay, ll, cs1, one, allOne, gb, sb, pb, ln, lk, evq, gdl, crv, Value.oneCell', undef, Bool.and_true, Bool.true_and, Bool.not_true, Bool.not_false, cond_true, cond_false, Nat.reduceSub, Nat.reduceAdd, Nat.reduceMul, Nat.reduceDiv, Nat.reduceBEq, beq_self_eq_true, true_and, and_true, decide_eq_true_eq, decide_eq_false_iff_not, Bool.not_eq_eq_eq_not, sts, Int.toNat_natCast, F113]
      refine ⟨fun h => ?_, fun h => ?_⟩
      · have ha : i < l.length := by omega
        have e := mnL_snoc (a := a) ha
        repeat (refine ⟨by omega, ?_⟩)
        refine ⟨fun hc => ⟨by omega, ?_⟩, fun hc => ⟨by omega, ?_⟩⟩
        · refine Nx.mk (i + 1) (by show i + 1 ≤ l.length; omega) (by show l.length - (i + 1) < l.length - i; omega) (Lw_re 0 [] (Nat.zero_le _) (by simp [ln]) (by simp [ln]) rfl ?_ ?_)
          · rw [e, show min (mnL a (l.take i)) (l.getD i 0) = l.getD i 0 by omega]
            simp only [reL, reX, reH, reB, reM, reN, newB, rn, once, gb, List.getElem?_cons_zero, List.getElem?_cons_succ, Nat.reduceSub, Nat.reduceLeDiff, Nat.lt_irrefl, Nat.le_refl, false_and, or_false, false_or, and_false, reduceCtorEq, true_or, or_true, leL, leX, leH, leB, news, inb, inb.inbs, ln, sts, st, Bool.and_self, Bool.and_true, Bool.true_and, Nat.reduceLT, Nat.reduceAdd, decide_true, true_and, and_true, and_self, SV.agg.injEq, Int.natCast_add, Int.natCast_one]
          · simp only [reL, reX, reH, reB, reM, reN, newB, rn, once, gb, List.getElem?_cons_zero, List.getElem?_cons_succ, Nat.reduceSub, Nat.reduceLeDiff, Nat.lt_irrefl, Nat.le_refl, false_and, or_false, false_or, and_false, reduceCtorEq, true_or, or_true, leL, leX, leH, leB, news, inb, inb.inbs, ln, sts, st, Bool.and_self, Bool.and_true, Bool.true_and, Nat.reduceLT, Nat.reduceAdd, decide_true, true_and, and_true, and_self, SV.agg.injEq]
        · refine Nx.mk (i + 1) (by show i + 1 ≤ l.length; omega) (by show l.length - (i + 1) < l.length - i; omega) (Lw_re 0 [] (Nat.zero_le _) (by simp [ln]) (by simp [ln]) rfl ?_ ?_)
          · rw [e, show min (mnL a (l.take i)) (l.getD i 0) = mnL a (l.take i) by omega]
            simp only [reL, reX, reH, reB, reM, reN, newB, rn, once, gb, List.getElem?_cons_zero, List.getElem?_cons_succ, Nat.reduceSub, Nat.reduceLeDiff, Nat.lt_irrefl, Nat.le_refl, false_and, or_false, false_or, and_false, reduceCtorEq, true_or, or_true, leL, leX, leH, leB, news, inb, inb.inbs, ln, sts, st, Bool.and_self, Bool.and_true, Bool.true_and, Nat.reduceLT, Nat.reduceAdd, decide_true, true_and, and_true, and_self, SV.agg.injEq, Int.natCast_add, Int.natCast_one]
          · simp only [reL, reX, reH, reB, reM, reN, newB, rn, once, gb, List.getElem?_cons_zero, List.getElem?_cons_succ, Nat.reduceSub, Nat.reduceLeDiff, Nat.lt_irrefl, Nat.le_refl, false_and, or_false, false_or, and_false, reduceCtorEq, true_or, or_true, leL, leX, leH, leB, news, inb, inb.inbs, ln, sts, st, Bool.and_self, Bool.and_true, Bool.true_and, Nat.reduceLT, Nat.reduceAdd, decide_true, true_and, and_true, and_self, SV.agg.injEq]
      · have : i = l.length := by omega
        subst this
        rw [List.take_length]
        exact res hK (by simp [leR])
def F104 : FC := fun args => match args with
  | [.int .i64 a, .ints .i64 l] => some (l.length ≤ 1000000, .int .i64 (mxL a l))
  | _ => none
theorem p104 : PureOk Try.prog 104 (fcC F104) := by
  refine pure_of (T := [(111, .fc F111)]) ⟨⟨p111, q111⟩, trivial⟩ Try.func104 k104 ?_
  intro args K hC
  unfold fcC F104 at hC
  split at hC <;> first | (exact hC.elim) | skip
  rename_i h
  split at h <;> first | (cases h; done) | skip
  cases h
  obtain ⟨hlen, hK⟩ := hC
  simp only [inr64, ↓reduceIte, ite_true, ite_false, List.cons.injEq, ne_eq, not_true_eq_false, not_false_eq_true, reduceCtorEq, e_skip, e_reg, e_drw, e_seq, e_cond, e_block, e_loop, e_exit, e_ret, e_shut, e_scp, scpK_n, scpK_x, scpK_r, shutH, shut1, shutB, slQ, o_nil, o_cons, gd_none, gd_some, gdK_tt, gdK_tf, gdK_ft, gdK_ff, gdK_u, gdK_bt, gdK_bf, putK_e, runK_e, skipK_e, vK_e, boxK_e, bslK_e, bldK_e, storeK3_e, storeK2_e, storeK_e, storeK_p, storeE_e, appK2_oi, appK2_or, appK_e, conK_e, callK_e, callK_m, evh_v, evh_new, evh_box, evh_bsl, evh_bld, evh_store, evh_app, evh_call, evh_inv, evh_slc, slcK_e, appC_e, appK_c, appK_l, slO, bnd, slv, od_none, od_some, invK_e, invK2_e, lkm, dX_e, dX_b, dX_l, dG_t, dG_f, d_nil, d_cons, creK_e, tlK_n, tlK_s, evc_e, loopK_n, loopK_x, loopK_r, seqK_n, seqK_x, seqK_r, condK_t, condK_f, condK_b, exitK_t, exitK_f, blockK_x, blockK_n, blockK_r, ends_r, ends_n, endK1_e, endK2_e, gam_e, gamK_f, gamK_p, gamK_c, gamq_e, gamqK_f, pc_e, pcK_e, fcC_e, fcK_e, evp, fit, InQ, nilq, nb, bin, binB, gt, gq, st, putf, X.get, gets, getp, ap, mkfr, rep, rdR, tupled, clV, clL, clS, clo, clo.clos, asB, ld, lda, lens, ixs, tk, dr, sp, sp.spl, lay, ll, cs1, one, allOne, gb, sb, pb, ln, lk, evq, gdl, crv, Value.oneCell', undef, Bool.and_true, Bool.true_and, Bool.not_true, Bool.not_false, cond_true, cond_false, Nat.reduceSub, Nat.reduceAdd, Nat.reduceMul, Nat.reduceDiv, Nat.reduceBEq, beq_self_eq_true, true_and, and_true, decide_eq_true_eq, decide_eq_false_iff_not, Bool.not_eq_eq_eq_not, sts, s104, r104, F111]
  exact ⟨hlen, res hK (by simp [leR])⟩
def F105 : FC := fun args => match args with
  | [.int .i64 a, .ints .i64 l] => some (l.length ≤ 1000000, .int .i64 (mnL a l))
  | _ => none
theorem p105 : PureOk Try.prog 105 (fcC F105) := by
  refine pure_of (T := [(111, .fc F111)]) ⟨⟨p111, q111⟩, trivial⟩ Try.func105 k105 ?_
  intro args K hC
  unfold fcC F105 at hC
  split at hC <;> first | (exact hC.elim) | skip
  rename_i h
  split at h <;> first | (cases h; done) | skip
  cases h
  obtain ⟨hlen, hK⟩ := hC
  simp only [inr64, ↓reduceIte, ite_true, ite_false, List.cons.injEq, ne_eq, not_true_eq_false, not_false_eq_true, reduceCtorEq, e_skip, e_reg, e_drw, e_seq, e_cond, e_block, e_loop, e_exit, e_ret, e_shut, e_scp, scpK_n, scpK_x, scpK_r, shutH, shut1, shutB, slQ, o_nil, o_cons, gd_none, gd_some, gdK_tt, gdK_tf, gdK_ft, gdK_ff, gdK_u, gdK_bt, gdK_bf, putK_e, runK_e, skipK_e, vK_e, boxK_e, bslK_e, bldK_e, storeK3_e, storeK2_e, storeK_e, storeK_p, storeE_e, appK2_oi, appK2_or, appK_e, conK_e, callK_e, callK_m, evh_v, evh_new, evh_box, evh_bsl, evh_bld, evh_store, evh_app, evh_call, evh_inv, evh_slc, slcK_e, appC_e, appK_c, appK_l, slO, bnd, slv, od_none, od_some, invK_e, invK2_e, lkm, dX_e, dX_b, dX_l, dG_t, dG_f, d_nil, d_cons, creK_e, tlK_n, tlK_s, evc_e, loopK_n, loopK_x, loopK_r, seqK_n, seqK_x, seqK_r, condK_t, condK_f, condK_b, exitK_t, exitK_f, blockK_x, blockK_n, blockK_r, ends_r, ends_n, endK1_e, endK2_e, gam_e, gamK_f, gamK_p, gamK_c, gamq_e, gamqK_f, pc_e, pcK_e, fcC_e, fcK_e, evp, fit, InQ, nilq, nb, bin, binB, gt, gq, st, putf, X.get, gets, getp, ap, mkfr, rep, rdR, tupled, clV, clL, clS, clo, clo.clos, asB, ld, lda, lens, ixs, tk, dr, sp, sp.spl, lay, ll, cs1, one, allOne, gb, sb, pb, ln, lk, evq, gdl, crv, Value.oneCell', undef, Bool.and_true, Bool.true_and, Bool.not_true, Bool.not_false, cond_true, cond_false, Nat.reduceSub, Nat.reduceAdd, Nat.reduceMul, Nat.reduceDiv, Nat.reduceBEq, beq_self_eq_true, true_and, and_true, decide_eq_true_eq, decide_eq_false_iff_not, Bool.not_eq_eq_eq_not, sts, s105, r105, F111]
  exact ⟨hlen, res hK (by simp [leR])⟩
theorem mxL_bd {B a : Int} : ∀ {l : List Int}, within B l → -B ≤ a → a ≤ B → -B ≤ mxL a l ∧ mxL a l ≤ B := by
  intro l
  induction l generalizing a with
  | nil => intro _ h1 h2; exact ⟨h1, h2⟩
  | cons x t ih =>
    intro h h1 h2
    have hx := h x (List.mem_cons_self ..)
    exact ih (a := max a x) (fun y hy => h y (List.mem_cons_of_mem _ hy)) (by omega) (by omega)
theorem mnL_bd {B a : Int} : ∀ {l : List Int}, within B l → -B ≤ a → a ≤ B → -B ≤ mnL a l ∧ mnL a l ≤ B := by
  intro l
  induction l generalizing a with
  | nil => intro _ h1 h2; exact ⟨h1, h2⟩
  | cons x t ih =>
    intro h h1 h2
    have hx := h x (List.mem_cons_self ..)
    exact ih (a := min a x) (fun y hy => h y (List.mem_cons_of_mem _ hy)) (by omega) (by omega)
/-- The greatest number of a list less its least one. -/
def spreadL (l : List Int) : Int := mxL (l.getD 0 0) (l.drop 1) - mnL (l.getD 0 0) (l.drop 1)
def F103 : FC := fun args => match args with
  | [.ints .i64 l] => some (0 < l.length ∧ l.length ≤ 1000 ∧ within 100000000000000 l, .int .i64 (spreadL l))
  | _ => none
theorem p103 : PureOk Try.prog 103 (fcC F103) := by
  refine pure_of (T := [(104, .fc F104), (105, .fc F105)]) ⟨⟨p104, q104⟩, ⟨p105, q105⟩, trivial⟩ Try.func103 k103 ?_
  intro args K hC
  unfold fcC F103 at hC
  split at hC <;> first | (exact hC.elim) | skip
  rename_i h
  split at h <;> first | (cases h; done) | skip
  cases h
  rename_i l
  obtain ⟨⟨h0, hlen, hb⟩, hK⟩ := hC
  have hx := hb _ (getD_mem h0)
  have m1 := mxL_bd (within_drop hb 1) hx.1 hx.2
  have m2 := mnL_bd (within_drop hb 1) hx.1 hx.2
  have e1 : (l.drop 1).take ((l.length : Int) - 1).toNat = l.drop 1 := List.take_of_length_le (by simp)
  simp only [inr64, ↓reduceIte, ite_true, ite_false, List.cons.injEq, ne_eq, not_true_eq_false, not_false_eq_true, reduceCtorEq, e_skip, e_reg, e_drw, e_seq, e_cond, e_block, e_loop, e_exit, e_ret, e_shut, e_scp, scpK_n, scpK_x, scpK_r, shutH, shut1, shutB, slQ, o_nil, o_cons, gd_none, gd_some, gdK_tt, gdK_tf, gdK_ft, gdK_ff, gdK_u, gdK_bt, gdK_bf, putK_e, runK_e, skipK_e, vK_e, boxK_e, bslK_e, bldK_e, storeK3_e, storeK2_e, storeK_e, storeK_p, storeE_e, appK2_oi, appK2_or, appK_e, conK_e, callK_e, callK_m, evh_v, evh_new, evh_box, evh_bsl, evh_bld, evh_store, evh_app, evh_call, evh_inv, evh_slc, slcK_e, appC_e, appK_c, appK_l, slO, bnd, slv, od_none, od_some, invK_e, invK2_e, lkm, dX_e, dX_b, dX_l, dG_t, dG_f, d_nil, d_cons, creK_e, tlK_n, tlK_s, evc_e, loopK_n, loopK_x, loopK_r, seqK_n, seqK_x, seqK_r, condK_t, condK_f, condK_b, exitK_t, exitK_f, blockK_x, blockK_n, blockK_r, ends_r, ends_n, endK1_e, endK2_e, gam_e, gamK_f, gamK_p, gamK_c, gamq_e, gamqK_f, pc_e, pcK_e, fcC_e, fcK_e, evp, fit, InQ, nilq, nb, bin, binB, gt, gq, st, putf, X.get, gets, getp, ap, mkfr, rep, rdR, tupled, clV, clL, clS, clo, clo.clos, asB, ld, lda, lens, ixs, tk, dr, sp, sp.spl, lay, ll, cs1, one, allOne, gb, sb, pb, ln, lk, evq, gdl, crv, Value.oneCell', undef, Bool.and_true, Bool.true_and, Bool.not_true, Bool.not_false, cond_true, cond_false, Nat.reduceSub, Nat.reduceAdd, Nat.reduceMul, Nat.reduceDiv, Nat.reduceBEq, beq_self_eq_true, true_and, and_true, decide_eq_true_eq, decide_eq_false_iff_not, Bool.not_eq_eq_eq_not, sts, s103, r103, F104, F105, Int.toNat_one, Int.toNat_zero, Int.reduceToNat]
  rw [e1]
  repeat (refine ⟨by first | omega | (simp; omega), ?_⟩)
  exact res hK (by simp [leR, spreadL])
theorem p84 : PureOk Try.prog 84 (fcC F103) := by
  refine pure_of (T := []) trivial Try.func84 k84 ?_
  intro args K hC
  unfold fcC F103 at hC
  split at hC <;> first | (exact hC.elim) | skip
  rename_i h
  split at h <;> first | (cases h; done) | skip
  cases h
  rename_i l
  obtain ⟨⟨h0, hlen, hb⟩, hK⟩ := hC
  have hx := hb _ (getD_mem h0)
  have e0 : l = l.getD 0 0 :: l.drop 1 := by cases l with
    | nil => simp at h0
    | cons x t => simp
  have ex : mxL (l.getD 0 0) l = mxL (l.getD 0 0) (l.drop 1) := by
    conv => lhs; rw [e0]
    simp [mxL]
  have en : mnL (l.getD 0 0) l = mnL (l.getD 0 0) (l.drop 1) := by
    conv => lhs; rw [e0]
    simp [mnL]
  have m1 := mxL_bd hb hx.1 hx.2
  have m2 := mnL_bd hb hx.1 hx.2
  simp only [inr64, ↓reduceIte, ite_true, ite_false, List.cons.injEq, ne_eq, not_true_eq_false, not_false_eq_true, reduceCtorEq, e_skip, e_reg, e_drw, e_seq, e_cond, e_block, e_loop, e_exit, e_ret, e_shut, e_scp, scpK_n, scpK_x, scpK_r, shutH, shut1, shutB, slQ, o_nil, o_cons, gd_none, gd_some, gdK_tt, gdK_tf, gdK_ft, gdK_ff, gdK_u, gdK_bt, gdK_bf, putK_e, runK_e, skipK_e, vK_e, boxK_e, bslK_e, bldK_e, storeK3_e, storeK2_e, storeK_e, storeK_p, storeE_e, appK2_oi, appK2_or, appK_e, conK_e, callK_e, callK_m, evh_v, evh_new, evh_box, evh_bsl, evh_bld, evh_store, evh_app, evh_call, evh_inv, evh_slc, slcK_e, appC_e, appK_c, appK_l, slO, bnd, slv, od_none, od_some, invK_e, invK2_e, lkm, dX_e, dX_b, dX_l, dG_t, dG_f, d_nil, d_cons, creK_e, tlK_n, tlK_s, evc_e, loopK_n, loopK_x, loopK_r, seqK_n, seqK_x, seqK_r, condK_t, condK_f, condK_b, exitK_t, exitK_f, blockK_x, blockK_n, blockK_r, ends_r, ends_n, endK1_e, endK2_e, gam_e, gamK_f, gamK_p, gamK_c, gamq_e, gamqK_f, pc_e, pcK_e, fcC_e, fcK_e, evp, fit, InQ, nilq, nb, bin, binB, gt, gq, st, putf, X.get, gets, getp, ap, mkfr, rep, rdR, tupled, clV, clL, clS, clo, clo.clos, asB, ld, lda, lens, ixs, tk, dr, sp, sp.spl, lay, ll, cs1, one, allOne, gb, sb, pb, ln, lk, evq, gdl, crv, Value.oneCell', undef, Bool.and_true, Bool.true_and, Bool.not_true, Bool.not_false, cond_true, cond_false, Nat.reduceSub, Nat.reduceAdd, Nat.reduceMul, Nat.reduceDiv, Nat.reduceBEq, beq_self_eq_true, true_and, and_true, decide_eq_true_eq, decide_eq_false_iff_not, Bool.not_eq_eq_eq_not, sts, s84, r84, Int.reduceToNat]
  repeat (refine ⟨by omega, ?_⟩)
  refine loop_at2 (G := Nat) (fun i => [(5, .int .i64 i), (3, .int .i64 (mnL (l.getD 0 0) (l.take i))), (4, .int .i64 (mxL (l.getD 0 0) (l.take i)))]) (fun i => []) (fun i => i ≤ l.length) (fun i => l.length - i) 0 (Nat.zero_le _) ?_
  (intro fr1 hf1; simp only [forget, dstC, dstO, dstD, dst1, st] at hf1; subst hf1)
  refine ⟨?_, ?_⟩
  · refine Lw_re 0 [] (Nat.zero_le _) (by simp [ln]) (by simp [ln]) rfl ?_ ?_
    · simp only [reL, reX, reH, reB, reM, reN, newB, rn, once, gb, List.getElem?_cons_zero, List.getElem?_cons_succ, Nat.reduceSub, Nat.reduceLeDiff, Nat.lt_irrefl, Nat.le_refl, false_and, or_false, false_or, and_false, reduceCtorEq, true_or, or_true, leL, leX, leH, leB, news, inb, inb.inbs, ln, sts, st, Bool.and_self, Bool.and_true, Bool.true_and, Nat.reduceLT, Nat.reduceAdd, decide_true, true_and, and_true, and_self, SV.agg.injEq, Int.natCast_zero, List.take_zero, mxL, mnL, List.foldl_nil]
    · simp only [reL, reX, reH, reB, reM, reN, newB, rn, once, gb, List.getElem?_cons_zero, List.getElem?_cons_succ, Nat.reduceSub, Nat.reduceLeDiff, Nat.lt_irrefl, Nat.le_refl, false_and, or_false, false_or, and_false, reduceCtorEq, true_or, or_true, leL, leX, leH, leB, news, inb, inb.inbs, ln, sts, st, Bool.and_self, Bool.and_true, Bool.true_and, Nat.reduceLT, Nat.reduceAdd, decide_true, true_and, and_true, and_self, SV.agg.injEq]
  · intro i hi
    simp only [inr64, ↓reduceIte, ite_true, ite_false, List.cons.injEq, ne_eq, not_true_eq_false, not_false_eq_true, reduceCtorEq, e_skip, e_reg, e_drw, e_seq, e_cond, e_block, e_loop, e_exit, e_ret, e_shut, e_scp, scpK_n, scpK_x, scpK_r, shutH, shut1, shutB, slQ, o_nil, o_cons, gd_none, gd_some, gdK_tt, gdK_tf, gdK_ft, gdK_ff, gdK_u, gdK_bt, gdK_bf, putK_e, runK_e, skipK_e, vK_e, boxK_e, bslK_e, bldK_e, storeK3_e, storeK2_e, storeK_e, storeK_p, storeE_e, appK2_oi, appK2_or, appK_e, conK_e, callK_e, callK_m, evh_v, evh_new, evh_box, evh_bsl, evh_bld, evh_store, evh_app, evh_call, evh_inv, evh_slc, slcK_e, appC_e, appK_c, appK_l, slO, bnd, slv, od_none, od_some, invK_e, invK2_e, lkm, dX_e, dX_b, dX_l, dG_t, dG_f, d_nil, d_cons, creK_e, tlK_n, tlK_s, evc_e, loopK_n, loopK_x, loopK_r, seqK_n, seqK_x, seqK_r, condK_t, condK_f, condK_b, exitK_t, exitK_f, blockK_x, blockK_n, blockK_r, ends_r, ends_n, endK1_e, endK2_e, gam_e, gamK_f, gamK_p, gamK_c, gamq_e, gamqK_f, pc_e, pcK_e, fcC_e, fcK_e, evp, fit, InQ, nilq, nb, bin, binB, gt, gq, st, putf, X.get, gets, getp, ap, mkfr, rep, rdR, tupled, clV, clL, clS, clo, clo.clos, asB, ld, lda, lens, ixs, tk, dr, sp, sp.spl, lay, ll, cs1, one, allOne, gb, sb, pb, ln, lk, evq, gdl, crv, Value.oneCell', undef, Bool.and_true, Bool.true_and, Bool.not_true, Bool.not_false, cond_true, cond_false, Nat.reduceSub, Nat.reduceAdd, Nat.reduceMul, Nat.reduceDiv, Nat.reduceBEq, beq_self_eq_true, true_and, and_true, decide_eq_true_eq, decide_eq_false_iff_not, Bool.not_eq_eq_eq_not, sts, Int.toNat_natCast]
    refine ⟨fun h => ?_, fun h => ?_⟩
    · have ha : i < l.length := by omega
      iterate 3 (refine ⟨by omega, ?_⟩)
      refine Nx.mk (i + 1) (by show i + 1 ≤ l.length; omega) (by show l.length - (i + 1) < l.length - i; omega) (Lw_re 0 [] (Nat.zero_le _) (by simp [ln]) (by simp [ln]) rfl ?_ ?_)
      · simp only [reL, reX, reH, reB, reM, reN, newB, rn, once, gb, List.getElem?_cons_zero, List.getElem?_cons_succ, Nat.reduceSub, Nat.reduceLeDiff, Nat.lt_irrefl, Nat.le_refl, false_and, or_false, false_or, and_false, reduceCtorEq, true_or, or_true, leL, leX, leH, leB, news, inb, inb.inbs, ln, sts, st, Bool.and_self, Bool.and_true, Bool.true_and, Nat.reduceLT, Nat.reduceAdd, decide_true, true_and, and_true, and_self, SV.agg.injEq, Int.natCast_add, Int.natCast_one, mxL_snoc, ha, mnL_snoc, ha]
        exact ⟨by congr 1; split <;> omega, by congr 1; split <;> omega⟩
      · simp only [reL, reX, reH, reB, reM, reN, newB, rn, once, gb, List.getElem?_cons_zero, List.getElem?_cons_succ, Nat.reduceSub, Nat.reduceLeDiff, Nat.lt_irrefl, Nat.le_refl, false_and, or_false, false_or, and_false, reduceCtorEq, true_or, or_true, leL, leX, leH, leB, news, inb, inb.inbs, ln, sts, st, Bool.and_self, Bool.and_true, Bool.true_and, Nat.reduceLT, Nat.reduceAdd, decide_true, true_and, and_true, and_self, SV.agg.injEq]
    · have : i = l.length := by omega
      subst this
      rw [List.take_length, ex, en]
      rw [ex] at m1
      rw [en] at m2
      exact ⟨by omega, res hK (by simp [leR, spreadL])⟩
end Go.Proofs.Ytbbbpdajikblbaa
