import Derived.Test.YtlegfejimphfbaaVgV12
import Derived.Test.YtlegfejimphfbaaChecked
import Derived.KernelRfl
section
namespace Go.Proofs.Ytlegfejimphfbaa
open Go Go.Vg
set_option linter.unusedSimpArgs false
set_option linter.unusedVariables false
set_option maxRecDepth 10000
def s46 : SC :=
 (.seq (.reg [⟨(some 6), none, .v (.mov (.c (.lit (.bool false))))⟩])
 (.seq (.reg [⟨(some 7), none, .v (.mov (.t 1))⟩,
  ⟨(some 8), none, .v (.mov (.t 0))⟩,
  ⟨(some 9), none, .v (.bin .leq (.t 7) (.t 8))⟩,
  ⟨(some 10), none, .v (.mov (.t 9))⟩,
  ⟨(some 11), (some (10, true)), .v (.mov (.t 0))⟩,
  ⟨(some 12), (some (10, true)), .v (.mov (.t 2))⟩,
  ⟨(some 13), (some (10, true)), .v (.bin .leq (.t 11) (.t 12))⟩,
  ⟨(some 14), none, .v (.pick (.t 10) (.t 13) (.c (.lit (.bool false))))⟩,
  ⟨(some 6), none, .v (.mov (.t 14))⟩])
 .ret))
def r46 : List RV := [.t 6]
theorem k46 : (Try.f18.body.bind (cC Try.prog), cR Try.prog Try.f18.results.toList, Try.f18.ntmps) = (some s46, some r46, 15) := by kernel_rfl
theorem q46 : Known Try.prog 18 := ⟨_, Try.func18, by decide, by simp [Try.f18]⟩
def s47 : SC :=
 (.seq (.reg [⟨(some 1), none, .box 58 (.t 0)⟩,
  ⟨(some 2), none, .v (.mov (.c (.int .i64 (0))))⟩])
 (.seq (.reg [⟨(some 3), none, .v (.off (.t 1) 0)⟩,
  ⟨(some 4), none, .v (.off (.t 3) 0)⟩,
  ⟨(some 5), none, .v (.load (.t 4) none)⟩,
  ⟨(some 6), none, .v (.ixa (.t 5) (.c (.int .i64 (0))) 1)⟩,
  ⟨(some 7), none, .v (.load (.t 6) none)⟩,
  ⟨(some 2), none, .v (.mov (.t 7))⟩])
 .ret))
def r47 : List RV := [.t 2]
theorem k47 : (Try.f19.body.bind (cC Try.prog), cR Try.prog Try.f19.results.toList, Try.f19.ntmps) = (some s47, some r47, 8) := by kernel_rfl
theorem q47 : Known Try.prog 19 := ⟨_, Try.func19, by decide, by simp [Try.f19]⟩
def s48 : SC :=
 (.seq (.reg [⟨(some 1), none, .box 58 (.t 0)⟩,
  ⟨(some 2), none, .v (.mov (.c (.int .i64 (0))))⟩])
 (.seq (.reg [⟨(some 3), none, .v (.off (.t 1) 0)⟩,
  ⟨(some 4), none, .v (.off (.t 3) 0)⟩,
  ⟨(some 5), none, .v (.load (.t 4) none)⟩,
  ⟨(some 6), none, .v (.off (.t 1) 0)⟩,
  ⟨(some 7), none, .v (.off (.t 6) 0)⟩,
  ⟨(some 8), none, .v (.load (.t 7) none)⟩,
  ⟨(some 9), none, .v (.len (.t 8))⟩,
  ⟨(some 10), none, .v (.bin .sub (.t 9) (.c (.int .i64 (1))))⟩,
  ⟨(some 11), none, .v (.ixa (.t 5) (.t 10) 1)⟩,
  ⟨(some 12), none, .v (.load (.t 11) none)⟩,
  ⟨(some 2), none, .v (.mov (.t 12))⟩])
 .ret))
def r48 : List RV := [.t 2]
theorem k48 : (Try.f20.body.bind (cC Try.prog), cR Try.prog Try.f20.results.toList, Try.f20.ntmps) = (some s48, some r48, 13) := by kernel_rfl
theorem q48 : Known Try.prog 20 := ⟨_, Try.func20, by decide, by simp [Try.f20]⟩
def s82 : SC :=
 (.seq (.reg [⟨(some 3), none, .box 25 (.t 0)⟩,
  ⟨(some 6), none, .v (.mov (.c (.lit (.bool false))))⟩])
 (.seq (.reg [⟨(some 7), none, .v (.mov (.t 1))⟩,
  ⟨(some 8), none, .v (.off (.t 3) 0)⟩,
  ⟨(some 9), none, .v (.load (.t 8) none)⟩,
  ⟨(some 10), none, .v (.bin .leq (.t 7) (.t 9))⟩,
  ⟨(some 11), none, .v (.mov (.t 10))⟩,
  ⟨(some 12), (some (11, true)), .v (.off (.t 3) 0)⟩,
  ⟨(some 13), (some (11, true)), .v (.load (.t 12) none)⟩,
  ⟨(some 14), (some (11, true)), .v (.off (.t 3) 1)⟩,
  ⟨(some 15), (some (11, true)), .v (.load (.t 14) none)⟩,
  ⟨(some 16), (some (11, true)), .v (.bin .leq (.t 13) (.t 15))⟩,
  ⟨(some 17), none, .v (.pick (.t 11) (.t 16) (.c (.lit (.bool false))))⟩,
  ⟨(some 18), none, .v (.mov (.t 17))⟩,
  ⟨(some 19), (some (18, true)), .v (.off (.t 3) 1)⟩,
  ⟨(some 20), (some (18, true)), .v (.load (.t 19) none)⟩,
  ⟨(some 21), (some (18, true)), .v (.mov (.t 2))⟩,
  ⟨(some 22), (some (18, true)), .v (.bin .leq (.t 20) (.t 21))⟩,
  ⟨(some 23), none, .v (.pick (.t 18) (.t 22) (.c (.lit (.bool false))))⟩,
  ⟨(some 6), none, .v (.mov (.t 23))⟩])
 .ret))
def r82 : List RV := [.t 6]
theorem k82 : (Try.f45.body.bind (cC Try.prog), cR Try.prog Try.f45.results.toList, Try.f45.ntmps) = (some s82, some r82, 24) := by kernel_rfl
theorem q82 : Known Try.prog 45 := ⟨_, Try.func45, by decide, by simp [Try.f45]⟩
def s81 : SC :=
 (.seq (.reg [⟨(some 6), none, .v (.mov (.c (.lit (.bool false))))⟩])
 (.seq (.seq (.reg [⟨(some 9), none, .v (.mov (.t 0))⟩,
  ⟨(some 10), none, .v (.len (.t 9))⟩,
  ⟨(some 11), none, .v (.mov (.c (.int .i64 (0))))⟩])
 (.block 0 (.loop
  (.seq (.reg [⟨(some 12), none, .v (.bin .lss (.t 11) (.t 10))⟩])
  (.seq (.cond (.t 12)
   .skip
   (.exit 0))
  (.seq (.block 1 (.seq (.reg [⟨(some 13), none, .v (.ixa (.t 9) (.t 11) 2)⟩,
   ⟨(some 14), none, .v (.load (.t 13) (some 2))⟩,
   ⟨(some 8), none, .new 25 [(.int .i64 (0)), (.int .i64 (0))]⟩,
   ⟨none, none, .store 2 (.t 8) (.t 14)⟩])
  (.seq (.reg [⟨(some 15), none, .v (.load (.t 8) (some 2))⟩,
   ⟨(some 16), none, .v (.mov (.t 1))⟩,
   ⟨(some 17), none, .v (.mov (.t 2))⟩,
   ⟨(some 18), none, .call (.c (.fn 45 [])) [(.t 15), (.t 16), (.t 17)]⟩,
   ⟨(some 19), none, .v (.not (.t 18))⟩])
  (.cond (.t 19)
   (.seq (.reg [⟨(some 6), none, .v (.mov (.c (.lit (.bool false))))⟩])
   .ret)
   .skip))))
  (.reg [⟨(some 20), none, .v (.bin .add (.t 11) (.c (.int .i64 (1))))⟩,
   ⟨(some 11), none, .v (.mov (.t 20))⟩])))))))
 (.seq (.reg [⟨(some 6), none, .v (.mov (.c (.lit (.bool true))))⟩])
 .ret)))
def r81 : List RV := [.t 6]
theorem k81 : (Try.f44.body.bind (cC Try.prog), cR Try.prog Try.f44.results.toList, Try.f44.ntmps) = (some s81, some r81, 21) := by kernel_rfl
theorem q81 : Known Try.prog 44 := ⟨_, Try.func44, by decide, by simp [Try.f44]⟩
def s80 : SC :=
 (.seq (.reg [⟨(some 1), none, .box 58 (.t 0)⟩,
  ⟨(some 2), none, .v (.mov (.c (.lit (.bool false))))⟩])
 (.seq (.reg [⟨(some 3), none, .v (.mov (.c (.int .i64 (0))))⟩])
 (.seq (.seq (.reg [⟨(some 6), none, .v (.off (.t 1) 0)⟩,
  ⟨(some 7), none, .v (.off (.t 6) 0)⟩,
  ⟨(some 8), none, .v (.load (.t 7) none)⟩,
  ⟨(some 9), none, .v (.len (.t 8))⟩,
  ⟨(some 10), none, .v (.mov (.c (.int .i64 (0))))⟩])
 (.block 0 (.loop
  (.seq (.reg [⟨(some 11), none, .v (.bin .lss (.t 10) (.t 9))⟩])
  (.seq (.cond (.t 11)
   .skip
   (.exit 0))
  (.seq (.block 1 (.seq (.reg [⟨(some 12), none, .v (.ixa (.t 8) (.t 10) 1)⟩,
   ⟨(some 13), none, .v (.load (.t 12) none)⟩,
   ⟨(some 5), none, .v (.mov (.t 13))⟩])
  (.seq (.seq (.reg [⟨(some 14), none, .v (.mov (.t 5))⟩,
   ⟨(some 15), none, .v (.mov (.t 3))⟩,
   ⟨(some 16), none, .call (.c (.fn 18 [])) [(.t 14), (.t 15), (.c (.int .i64 (60)))]⟩,
   ⟨(some 17), none, .v (.not (.t 16))⟩])
  (.cond (.t 17)
   (.seq (.reg [⟨(some 2), none, .v (.mov (.c (.lit (.bool false))))⟩])
   .ret)
   .skip))
  (.reg [⟨(some 18), none, .v (.mov (.t 5))⟩,
   ⟨(some 19), none, .v (.bin .add (.t 18) (.c (.int .i64 (1))))⟩,
   ⟨(some 3), none, .v (.mov (.t 19))⟩]))))
  (.reg [⟨(some 20), none, .v (.bin .add (.t 10) (.c (.int .i64 (1))))⟩,
   ⟨(some 10), none, .v (.mov (.t 20))⟩])))))))
 (.seq (.reg [⟨(some 2), none, .v (.mov (.c (.lit (.bool true))))⟩])
 .ret))))
def r80 : List RV := [.t 2]
theorem k80 : (Try.f43.body.bind (cC Try.prog), cR Try.prog Try.f43.results.toList, Try.f43.ntmps) = (some s80, some r80, 21) := by kernel_rfl
theorem q80 : Known Try.prog 43 := ⟨_, Try.func43, by decide, by simp [Try.f43]⟩
def s52 : SC :=
 (.seq (.reg [⟨(some 1), none, .box 58 (.t 0)⟩,
  ⟨(some 2), none, .v (.mov (.c (.lit (.bool false))))⟩])
 (.seq (.reg [⟨(some 3), none, .v (.off (.t 1) 0)⟩,
  ⟨(some 4), none, .v (.off (.t 3) 0)⟩,
  ⟨(some 5), none, .v (.load (.t 4) none)⟩,
  ⟨(some 6), none, .v (.len (.t 5))⟩,
  ⟨(some 7), none, .call (.c (.fn 18 [])) [(.t 6), (.c (.int .i64 (2))), (.c (.int .i64 (8)))]⟩,
  ⟨(some 8), none, .v (.mov (.t 7))⟩,
  ⟨(some 9), (some (8, true)), .v (.load (.t 1) (some 6))⟩,
  ⟨(some 10), (some (8, true)), .call (.c (.fn 43 [])) [(.t 9)]⟩,
  ⟨(some 11), none, .v (.pick (.t 8) (.t 10) (.c (.lit (.bool false))))⟩,
  ⟨(some 12), none, .v (.mov (.t 11))⟩,
  ⟨(some 13), (some (12, true)), .v (.off (.t 1) 0)⟩,
  ⟨(some 14), (some (12, true)), .v (.off (.t 13) 1)⟩,
  ⟨(some 15), (some (12, true)), .v (.load (.t 14) none)⟩,
  ⟨(some 16), (some (12, true)), .v (.len (.t 15))⟩,
  ⟨(some 17), (some (12, true)), .v (.off (.t 1) 0)⟩,
  ⟨(some 18), (some (12, true)), .v (.off (.t 17) 0)⟩,
  ⟨(some 19), (some (12, true)), .v (.load (.t 18) none)⟩,
  ⟨(some 20), (some (12, true)), .v (.len (.t 19))⟩,
  ⟨(some 21), (some (12, true)), .v (.bin .eql (.t 16) (.t 20))⟩,
  ⟨(some 22), none, .v (.pick (.t 12) (.t 21) (.c (.lit (.bool false))))⟩,
  ⟨(some 23), none, .v (.mov (.t 22))⟩,
  ⟨(some 24), (some (23, true)), .v (.off (.t 1) 0)⟩,
  ⟨(some 25), (some (23, true)), .v (.off (.t 24) 1)⟩,
  ⟨(some 26), (some (23, true)), .v (.load (.t 25) none)⟩,
  ⟨(some 27), (some (23, true)), .call (.c (.fn 44 [])) [(.t 26), (.c (.int .i64 (-100000))), (.c (.int .i64 (100000)))]⟩,
  ⟨(some 28), none, .v (.pick (.t 23) (.t 27) (.c (.lit (.bool false))))⟩,
  ⟨(some 29), none, .v (.mov (.t 28))⟩,
  ⟨(some 30), (some (29, true)), .v (.off (.t 1) 0)⟩,
  ⟨(some 31), (some (29, true)), .v (.off (.t 30) 2)⟩,
  ⟨(some 32), (some (29, true)), .v (.load (.t 31) (some 2))⟩,
  ⟨(some 33), (some (29, true)), .call (.c (.fn 45 [])) [(.t 32), (.c (.int .i64 (-1000))), (.c (.int .i64 (1000)))]⟩,
  ⟨(some 34), none, .v (.pick (.t 29) (.t 33) (.c (.lit (.bool false))))⟩,
  ⟨(some 35), none, .v (.mov (.t 34))⟩,
  ⟨(some 36), (some (35, true)), .v (.off (.t 1) 0)⟩,
  ⟨(some 37), (some (35, true)), .v (.off (.t 36) 4)⟩,
  ⟨(some 38), (some (35, true)), .v (.load (.t 37) (some 2))⟩,
  ⟨(some 39), (some (35, true)), .call (.c (.fn 45 [])) [(.t 38), (.c (.int .i64 (-10000000))), (.c (.int .i64 (10000000)))]⟩,
  ⟨(some 40), none, .v (.pick (.t 35) (.t 39) (.c (.lit (.bool false))))⟩,
  ⟨(some 2), none, .v (.mov (.t 40))⟩])
 .ret))
def r52 : List RV := [.t 2]
theorem k52 : (Try.f26.body.bind (cC Try.prog), cR Try.prog Try.f26.results.toList, Try.f26.ntmps) = (some s52, some r52, 41) := by kernel_rfl
theorem q52 : Known Try.prog 26 := ⟨_, Try.func26, by decide, by simp [Try.f26]⟩
def s16 : SC :=
 (.seq (.reg [⟨(some 1), none, .box 27 (.t 0)⟩,
  ⟨(some 2), none, .v (.mov (.c (.int .i64 (0))))⟩])
 (.seq (.seq (.reg [⟨(some 3), none, .v (.load (.t 1) (some 6))⟩,
  ⟨(some 4), none, .bld [(.lit (.slice none 0 0)), (.lit (.slice none 0 0)), (.int .i64 (0)), (.int .i64 (0)), (.int .i64 (0)), (.int .i64 (0))] [(0, 6, (.t 3))]⟩,
  ⟨(some 5), none, .call (.c (.fn 26 [])) [(.t 4)]⟩,
  ⟨(some 6), none, .v (.not (.t 5))⟩])
 (.cond (.t 6)
  (.seq (.reg [⟨(some 2), none, .v (.mov (.c (.int .i64 (70))))⟩])
  .ret)
  .skip))
 (.seq (.reg [⟨(some 2), none, .v (.mov (.c (.int .i64 (0))))⟩])
 .ret)))
def r16 : List RV := [.t 2]
theorem k16 : (Try.f9.body.bind (cC Try.prog), cR Try.prog Try.f9.results.toList, Try.f9.ntmps) = (some s16, some r16, 7) := by kernel_rfl
theorem q16 : Known Try.prog 9 := ⟨_, Try.func9, by decide, by simp [Try.f9]⟩
def s77 : SC :=
 (.seq (.reg [⟨(some 1), none, .box 58 (.t 0)⟩,
  ⟨(some 2), none, .new 76 [(.lit (.slice none 0 0)), (.lit (.slice none 0 0)), (.int .i64 (0)), (.int .i64 (0)), (.int .i64 (0)), (.int .i64 (0)), (.lit .nilFunc)]⟩])
 (.seq (.reg [⟨(some 3), none, .v (.load (.t 1) (some 6))⟩,
  ⟨(some 4), none, .bld [(.lit (.slice none 0 0)), (.lit (.slice none 0 0)), (.int .i64 (0)), (.int .i64 (0)), (.int .i64 (0)), (.int .i64 (0)), (.lit .nilFunc)] [(0, 6, (.t 3)), (6, 1, (.c (.fn 56 [])))]⟩,
  ⟨none, none, .store 7 (.t 2) (.t 4)⟩])
 .ret))
def r77 : List RV := [.c 2 (some 7)]
theorem k77 : (Try.f36.body.bind (cC Try.prog), cR Try.prog Try.f36.results.toList, Try.f36.ntmps) = (some s77, some r77, 5) := by kernel_rfl
theorem q77 : Known Try.prog 36 := ⟨_, Try.func36, by decide, by simp [Try.f36]⟩
def s78 : SC :=
 (.seq (.reg [⟨(some 1), none, .box 58 (.t 0)⟩,
  ⟨(some 2), none, .new 76 [(.lit (.slice none 0 0)), (.lit (.slice none 0 0)), (.int .i64 (0)), (.int .i64 (0)), (.int .i64 (0)), (.int .i64 (0)), (.lit .nilFunc)]⟩])
 (.seq (.reg [⟨(some 3), none, .v (.load (.t 1) (some 6))⟩,
  ⟨(some 4), none, .bld [(.lit (.slice none 0 0)), (.lit (.slice none 0 0)), (.int .i64 (0)), (.int .i64 (0)), (.int .i64 (0)), (.int .i64 (0)), (.lit .nilFunc)] [(0, 6, (.t 3)), (6, 1, (.c (.fn 57 [])))]⟩,
  ⟨none, none, .store 7 (.t 2) (.t 4)⟩])
 .ret))
def r78 : List RV := [.c 2 (some 7)]
theorem k78 : (Try.f37.body.bind (cC Try.prog), cR Try.prog Try.f37.results.toList, Try.f37.ntmps) = (some s78, some r78, 5) := by kernel_rfl
theorem q78 : Known Try.prog 37 := ⟨_, Try.func37, by decide, by simp [Try.f37]⟩
def s101 : SC :=
 (.seq (.reg [⟨(some 1), none, .box 25 (.t 0)⟩,
  ⟨(some 2), none, .v (.mov (.c (.int .i64 (0))))⟩])
 (.seq (.reg [⟨(some 3), none, .v (.off (.t 1) 0)⟩,
  ⟨(some 4), none, .v (.load (.t 3) none)⟩,
  ⟨(some 2), none, .v (.mov (.t 4))⟩])
 .ret))
def r101 : List RV := [.t 2]
theorem k101 : (Try.f56.body.bind (cC Try.prog), cR Try.prog Try.f56.results.toList, Try.f56.ntmps) = (some s101, some r101, 5) := by kernel_rfl
theorem q101 : Known Try.prog 56 := ⟨_, Try.func56, by decide, by simp [Try.f56]⟩
def s102 : SC :=
 (.seq (.reg [⟨(some 1), none, .box 25 (.t 0)⟩,
  ⟨(some 2), none, .v (.mov (.c (.int .i64 (0))))⟩])
 (.seq (.reg [⟨(some 3), none, .v (.off (.t 1) 1)⟩,
  ⟨(some 4), none, .v (.load (.t 3) none)⟩,
  ⟨(some 2), none, .v (.mov (.t 4))⟩])
 .ret))
def r102 : List RV := [.t 2]
theorem k102 : (Try.f57.body.bind (cC Try.prog), cR Try.prog Try.f57.results.toList, Try.f57.ntmps) = (some s102, some r102, 5) := by kernel_rfl
theorem q102 : Known Try.prog 57 := ⟨_, Try.func57, by decide, by simp [Try.f57]⟩
theorem res {K : SV → Prop} {x y : SV} (h : K y) (e : leR 4 x y) : ∃ r', K r' ∧ leR 4 x r' := ⟨y, h, e⟩
def lo (L : List (Int × Int)) (i : Nat) : Int := (L.getD i (0, 0)).1
def hi (L : List (Int × Int)) (i : Nat) : Int := (L.getD i (0, 0)).2
def rowsS (L : List (Int × Int)) (i : Nat) : List SV := [.int .i64 (lo L i), .int .i64 (hi L i)]
def rlo (f : Nat → List SV) (i : Nat) : Int := match f i with
 | [.int _ a, _] => a
 | _ => 0
def rhi (f : Nat → List SV) (i : Nat) : Int := match f i with
 | [_, .int _ b] => b
 | _ => 0
def Tof (n : Nat) (f : Nat → List SV) : List (Int × Int) := (List.range n).map fun i => (rlo f i, rhi f i)
theorem Tof_rows {L : List (Int × Int)} : Tof L.length (rowsS L) = L := by
 refine List.ext_getElem (by simp [Tof]) fun i h1 h2 => ?_
 simp [Tof, rlo, rhi, rowsS, lo, hi, List.getD, h2]
theorem getD_memS {L : List (Int × Int)} {i : Nat} (h : i < L.length) : L.getD i (0, 0) ∈ L := by simp [List.getD, h]
structure Ck where
 (T : List Int) (R : List (Int × Int)) (a b e g : Int)
def Ck.sv (c : Ck) : SV := .agg [.ints .i64 c.T, .rd 2 c.R.length (rowsS c.R), .int .i64 c.a, .int .i64 c.b, .int .i64 c.e, .int .i64 c.g]
def Fin : FC := fun args => match args with
 | [.int .i64 x, .int .i64 lo, .int .i64 hi] => some (True, .bool (decide (lo ≤ x ∧ x ≤ hi)))
 | _ => none
theorem p46 : PureOk Try.prog 18 (fcC Fin) := by
 refine pure_of (T := []) trivial Try.func18 k46 ?_
 intro args K hC
 unfold fcC Fin at hC
 split at hC <;> first | (exact hC.elim) | skip
 rename_i h
 split at h <;> first | (cases h; done) | skip
 cases h
 simp only [e_reg, e_seq, e_ret, o_nil, o_cons, gd_none, gd_some, gdK_tt, gdK_ft, gdK_bt, putK_e, runK_e, skipK_e, vK_e, evh_v, seqK_n, ends_r, endK1_e, endK2_e, evp, bin, gt, st, putf, X.get, mkfr, rep, rdR, tupled, clV, clS, clo, undef, Nat.reduceSub, true_and, decide_eq_true_eq, decide_eq_false_iff_not, s46, r46]
 exact ⟨fun h => res hC.2 (by simp [leR, h]), fun h => res hC.2 (by simp [leR, h])⟩
def Fsp : FC := fun args => match args with
 | [.agg [.int .i64 a, .int .i64 b], .int .i64 lo, .int .i64 hi] => some (True, .bool (decide ((lo ≤ a ∧ a ≤ b) ∧ b ≤ hi)))
 | _ => none
theorem p82 : PureOk Try.prog 45 (fcC Fsp) := by
 refine pure_of (T := []) trivial Try.func45 k82 ?_
 intro args K hC
 unfold fcC Fsp at hC
 split at hC <;> first | (exact hC.elim) | skip
 rename_i h
 split at h <;> first | (cases h; done) | skip
 cases h
 obtain ⟨-, hK⟩ := hC
 simp only [e_reg, e_seq, e_ret, o_nil, o_cons, gd_none, gd_some, gdK_tt, gdK_ft, gdK_bt, putK_e, runK_e, skipK_e, vK_e, boxK_e, evh_v, evh_box, seqK_n, ends_r, endK1_e, endK2_e, evp, bin, gt, gq, st, putf, X.get, mkfr, rep, rdR, tupled, clV, clS, clo, ld, lda, cs1, gb, pb, ln, undef, Nat.reduceSub, Nat.reduceAdd, true_and, decide_eq_true_eq, decide_eq_false_iff_not, s82, r82]
 exact ⟨fun h1 => ⟨fun h2 => res hK (by simp [leR, h1, h2]), fun h2 => res hK (by simp [leR, h1, h2])⟩, fun h1 => res hK (by simp [leR, h1])⟩
def Fcold : FC := fun args => match args with
 | [.agg [.ints .i64 T, .rd 2 n f, .int .i64 a, .int .i64 b, .int .i64 e, .int .i64 g]] => some (0 < T.length, .int .i64 (T.getD 0 0))
 | _ => none
theorem p47 : PureOk Try.prog 19 (fcC Fcold) := by
 refine pure_of (T := []) trivial Try.func19 k47 ?_
 intro args K hC
 unfold fcC Fcold at hC
 split at hC <;> first | (exact hC.elim) | skip
 rename_i h
 split at h <;> first | (cases h; done) | skip
 cases h
 obtain ⟨h0, hK⟩ := hC
 simp only [e_reg, e_seq, e_ret, o_nil, o_cons, gd_none, putK_e, runK_e, vK_e, boxK_e, evh_v, evh_box, seqK_n, ends_r, endK1_e, endK2_e, evp, gt, gq, st, putf, X.get, mkfr, rep, rdR, tupled, clV, clS, clo, ld, lda, ixs, cs1, gb, pb, ln, undef, Nat.reduceSub, Nat.reduceAdd, true_and, s47, r47]
 exact ⟨by omega, res hK (by simp [leR])⟩
def Fwarm : FC := fun args => match args with
 | [.agg [.ints .i64 T, .rd 2 n f, .int .i64 a, .int .i64 b, .int .i64 e, .int .i64 g]] => some (0 < T.length ∧ T.length ≤ 1000, .int .i64 (T.getD (T.length - 1) 0))
 | _ => none
theorem p48 : PureOk Try.prog 20 (fcC Fwarm) := by
 refine pure_of (T := []) trivial Try.func20 k48 ?_
 intro args K hC
 unfold fcC Fwarm at hC
 split at hC <;> first | (exact hC.elim) | skip
 rename_i h
 split at h <;> first | (cases h; done) | skip
 cases h
 rename_i T n f a b e g
 obtain ⟨h0, hK⟩ := hC
 have e1 : ((T.length : Int) - 1).toNat = T.length - 1 := by omega
 simp only [inr64, e_reg, e_seq, e_ret, o_nil, o_cons, gd_none, putK_e, runK_e, vK_e, boxK_e, evh_v, evh_box, seqK_n, ends_r, endK1_e, endK2_e, evp, bin, gt, gq, st, putf, X.get, mkfr, rep, rdR, tupled, clV, clS, clo, ld, lda, lens, ixs, cs1, gb, pb, ln, undef, Nat.reduceSub, Nat.reduceAdd, true_and, s48, r48, e1]
 exact ⟨by omega, by omega, res hK (by simp [leR])⟩
def spE (l h : Int) (x : Int × Int) : Bool := decide ((l ≤ x.1 ∧ x.1 ≤ x.2) ∧ x.2 ≤ h)
theorem allS_snoc {l h : Int} {L : List (Int × Int)} {i : Nat} (hi : i < L.length) : (L.take (i + 1)).all (spE l h) = ((L.take i).all (spE l h) && spE l h (L.getD i (0, 0))) := by
 rw [List.take_add_one, List.getElem?_eq_getElem hi, List.all_append]; simp [List.getD, hi]
def C81 : PC := fun args K => ∃ (L : List (Int × Int)) (l h : Int), args = [.rd 2 L.length (rowsS L), .int .i64 l, .int .i64 h] ∧ L.length ≤ 1000 ∧ K (.bool (L.all (spE l h)))
theorem p81 : PureOk Try.prog 44 C81 := by
 refine pure_of (T := [(45, .fc Fsp)]) ⟨⟨p82, q82⟩, trivial⟩ Try.func44 k81 ?_
 rintro args K ⟨L, l, hh, rfl, hl, hK⟩
 simp only [e_reg, e_seq, e_block, e_loop, o_nil, o_cons, gd_none, putK_e, runK_e, vK_e, evh_v, seqK_n, evp, gt, st, putf, X.get, mkfr, rep, lens, undef, Nat.reduceSub, true_and, s81, r81]
 refine loop_at2 (G := Nat) (fun i => [(11, .int .i64 i)]) (fun i => []) (fun i => i ≤ L.length ∧ (L.take i).all (spE l hh) = true) (fun i => L.length - i) 0 ⟨Nat.zero_le _, by simp⟩ ?_
 (intro fr1 hf1; simp only [forget, dstC, dstO, st] at hf1; subst hf1)
 refine ⟨?_, ?_⟩
 ·refine Lw_re 0 [] (Nat.zero_le _) (by simp [ln]) (by simp [ln]) rfl ?_ ?_
  ·simp only [reL, reX, inb, ln, sts, st, and_self, Int.natCast_zero, implies_true]
  ·simp only [reH, reN]
 ·rintro i ⟨hi1, hp⟩
  simp only [inr64, e_skip, e_reg, and_self, e_seq, e_cond, e_block, e_exit, e_ret, o_nil, o_cons, gd_none, putK_e, runK_e, vK_e, storeK3_e, storeK2_e, storeK_e, conK_e, callK_e, evh_v, evh_new, evh_store, evh_call, loopK_n, loopK_x, loopK_r, seqK_n, seqK_x, seqK_r, condK_b, exitK_t, blockK_x, blockK_n, blockK_r, ends_r, endK1_e, endK2_e, gam_e, gamK_f, pc_e, pcK_e, fcC_e, fcK_e, evp, bin, gt, st, putf, X.get, gets, ap, rdR, tupled, clV, clL, clS, clo, ld, lda, ixs, tk, dr, sp, sp.spl, ll, cs1, one, allOne, gb, sb, pb, ln, lk, Bool.and_true, Bool.not_true, Bool.not_false, Nat.reduceAdd, beq_self_eq_true, true_and, decide_eq_true_eq, decide_eq_false_iff_not, Bool.not_eq_eq_eq_not, sts, Int.toNat_natCast, rowsS, Fsp]
  have hsp : spE l hh (L.getD i (0, 0)) = decide ((l ≤ lo L i ∧ lo L i ≤ hi L i) ∧ hi L i ≤ hh) := rfl
  refine ⟨fun h => ⟨by omega, fun h1 => res hK ?_, fun h1 => ⟨by omega, ?_⟩⟩, fun h => res hK ?_⟩
  ·have ha : i < L.length := by omega
   have : L.all (spE l hh) = false := by
    rw [Bool.eq_false_iff]; intro h2
    rw [List.all_eq_true] at h2
    have := h2 _ (getD_memS ha)
    rw [hsp, decide_eq_true_eq] at this
    exact h1 this
   simp [leR, this]
  ·have ha : i < L.length := by omega
   refine Nx.mk (i + 1) ⟨by omega, ?_⟩ (by show L.length - (i + 1) < L.length - i; omega) (Lw_re 0 [] (Nat.zero_le _) (by simp [ln]) (by simp [ln]) rfl ?_ ?_)
   ·rw [allS_snoc ha, hp, hsp, decide_eq_true h1]; rfl
   ·simp only [reL, reX, inb, and_self, Int.natCast_add, Int.natCast_one, implies_true]
   ·simp only [reH, reN]
  ·have : i = L.length := by omega
   subst this
   rw [List.take_length] at hp
   simp [leR, hp]
def risF : Int → List Int → Bool
 | _, [] => true
 | l, t :: ts => decide (l ≤ t ∧ t ≤ 60) && risF (t + 1) ts
def C80 : PC := fun args K => ∃ c : Ck, args = [c.sv] ∧ c.T.length ≤ 1000 ∧ K (.bool (risF 0 c.T))
theorem p80 : PureOk Try.prog 43 C80 := by
 refine pure_of (T := [(18, .fc Fin)]) ⟨⟨p46, q46⟩, trivial⟩ Try.func43 k80 ?_
 rintro args K ⟨⟨T, R, a, b, e, g⟩, rfl, hl, hK⟩
 simp only at hl hK
 simp only [Ck.sv]
 simp only [e_reg, e_seq, e_block, e_loop, o_nil, o_cons, gd_none, putK_e, runK_e, vK_e, boxK_e, evh_v, evh_box, seqK_n, evp, gt, gq, st, putf, X.get, mkfr, rep, ld, lda, lens, cs1, gb, pb, ln, undef, Nat.reduceSub, Nat.reduceAdd, true_and, s80, r80]
 refine loop_at2 (G := Nat × Int) (fun x => [(10, .int .i64 x.1), (3, .int .i64 x.2)]) (fun x => [.box 58 [.ints .i64 T, .rd 2 R.length (rowsS R), .int .i64 a, .int .i64 b, .int .i64 e, .int .i64 g]]) (fun x => (x.1 ≤ T.length ∧ 0 ≤ x.2 ∧ x.2 ≤ 61) ∧ risF x.2 (T.drop x.1) = risF 0 T) (fun x => T.length - x.1) (0, 0) ⟨⟨Nat.zero_le _, by omega, by omega⟩, rfl⟩ ?_
 (intro fr1 hf1; simp only [forget, dstC, dstO, st] at hf1; subst hf1)
 refine ⟨?_, ?_⟩
 ·refine Lw_re 1 [] (Nat.zero_le _) (by simp [ln]) (by simp [ln]) rfl ?_ ?_
  ·simp only [reL, reX, inb, inb.inbs, ln, sts, st, Bool.and_self, Nat.reduceLT, Nat.reduceAdd, decide_true, and_self, Int.natCast_zero]
  ·simp only [reL, reX, reH, reB, reN, inb, and_self, implies_true]
 ·rintro ⟨i, m⟩ ⟨⟨hi1, hm1, hm2⟩, hp⟩
  dsimp only at hi1 hm1 hm2 hp
  simp only [inr64, e_skip, e_reg, e_seq, e_cond, e_block, e_exit, e_ret, o_nil, o_cons, gd_none, putK_e, runK_e, vK_e, conK_e, callK_e, evh_v, evh_call, loopK_n, loopK_x, loopK_r, seqK_n, seqK_x, seqK_r, condK_b, exitK_t, blockK_x, blockK_n, blockK_r, ends_r, endK1_e, endK2_e, gam_e, gamK_f, pc_e, pcK_e, fcC_e, fcK_e, evp, bin, gt, gq, st, putf, X.get, gets, ap, rdR, tupled, clV, clL, clS, clo, ld, lda, ixs, lk, Bool.not_true, Bool.not_false, beq_self_eq_true, true_and, decide_eq_true_eq, decide_eq_false_iff_not, Bool.not_eq_eq_eq_not, sts, Int.toNat_natCast, Fin]
  refine ⟨fun h => ?_, fun h => res hK ?_⟩
  ·have ha : i < T.length := by omega
   have hd : risF m (T.drop i) = (decide (m ≤ T.getD i 0 ∧ T.getD i 0 ≤ 60) && risF (T.getD i 0 + 1) (T.drop (i + 1))) := by
    rw [List.drop_eq_getElem_cons ha]; simp [risF, List.getD, ha]
   rw [hd] at hp
   refine ⟨by omega, fun h1 => res hK ?_, fun h1 => ⟨by omega, by omega, ?_⟩⟩
   ·rw [decide_eq_false h1] at hp
    simp [leR, ← hp]
   ·rw [decide_eq_true h1] at hp
    refine Nx.mk (i + 1, T.getD i 0 + 1) ⟨⟨by show i + 1 ≤ T.length; omega, by simp only; omega, by simp only; omega⟩, by simpa using hp⟩ (by show T.length - (i + 1) < T.length - i; omega) (Lw_re 1 [] (Nat.zero_le _) (by simp [ln]) (by simp [ln]) rfl ?_ ?_)
    ·simp only [reL, reX, inb, inb.inbs, Bool.and_self, Nat.reduceLT, decide_true, and_self, Int.natCast_add, Int.natCast_one]
    ·simp only [reL, reX, reH, reB, reN, inb, and_self, implies_true]
  ·have : T.drop i = [] := List.drop_eq_nil_of_le (by omega)
   rw [this] at hp
   simp [leR, ← hp, risF]
def Ck.ok (c : Ck) : Prop := ((2 ≤ (c.T.length : Int) ∧ (c.T.length : Int) ≤ 8) ∧ risF 0 c.T = true ∧ (c.R.length : Int) = c.T.length ∧ c.R.all (spE (-100000) 100000) = true) ∧
 ((-1000 ≤ c.a ∧ c.a ≤ c.b) ∧ c.b ≤ 1000) ∧ ((-10000000 ≤ c.e ∧ c.e ≤ c.g) ∧ c.g ≤ 10000000)
instance (c : Ck) : Decidable c.ok := by unfold Ck.ok; infer_instance
def C52 : PC := fun args K => ∃ c : Ck, args = [c.sv] ∧ K (.bool (decide c.ok))
theorem p52 : PureOk Try.prog 26 C52 := by
 refine pure_of (T := [(18, .fc Fin), (43, .pc C80), (44, .pc C81), (45, .fc Fsp)]) ⟨⟨p46, q46⟩, ⟨p80, q80⟩, ⟨p81, q81⟩, ⟨p82, q82⟩, trivial⟩ Try.func26 k52 ?_
 rintro args K ⟨⟨T, R, a, b, e, g⟩, rfl, hK⟩
 have hn : ¬ Ck.ok ⟨T, R, a, b, e, g⟩ → ∃ r', K r' ∧ leR 4 (SV.lit (.bool false)) r' := fun h => res hK (by simp [leR, h])
 simp only [Ck.sv]
 simp only [e_reg, e_seq, e_ret, o_nil, o_cons, gd_none, gd_some, gdK_tt, gdK_ft, gdK_bt, putK_e, runK_e, skipK_e, vK_e, boxK_e, conK_e, callK_e, evh_v, evh_box, evh_call, seqK_n, ends_r, endK1_e, endK2_e, gam_e, gamK_f, gamK_p, pc_e, pcK_e, fcC_e, fcK_e, evp, gt, gq, st, putf, X.get, gets, ap, mkfr, rep, rdR, tupled, clV, clL, clS, clo, ld, lda, lens, tk, dr, cs1, gb, pb, ln, lk, undef, Nat.reduceSub, Nat.reduceAdd, Nat.reduceBEq, beq_self_eq_true, true_and, decide_eq_true_eq, decide_eq_false_iff_not, s52, r52, Fin]
 refine ⟨fun h1 => ⟨⟨T, R, a, b, e, g⟩, rfl, by simp only; omega, ?_⟩, fun h1 => hn fun h => h1 h.1.1⟩
 simp only [e_ret, o_nil, o_cons, gd_none, gd_some, gdK_tt, gdK_ft, gdK_bt, putK_e, runK_e, skipK_e, vK_e, conK_e, callK_e, evh_v, evh_call, seqK_n, ends_r, endK1_e, endK2_e, gam_e, gamK_p, pc_e, pcK_e, evp, bin, gt, gq, st, putf, X.get, gets, ap, rdR, tupled, clV, clL, clS, clo, ld, lda, lens, gb, lk, undef, Nat.reduceAdd, Nat.reduceBEq, beq_self_eq_true, true_and, decide_eq_true_eq, decide_eq_false_iff_not]
 refine ⟨fun h2 => ⟨fun h3 => ⟨R, -100000, 100000, rfl, by omega, ?_⟩, fun h3 => hn fun h => h3 h.1.2.2.1⟩, fun h2 => hn fun h => by rw [h.1.2.1] at h2; cases h2⟩
 simp only [e_ret, o_nil, o_cons, gd_none, gd_some, gdK_tt, gdK_ft, gdK_bt, putK_e, runK_e, skipK_e, vK_e, conK_e, callK_e, evh_v, evh_call, seqK_n, ends_r, endK1_e, endK2_e, gam_e, gamK_f, pc_e, pcK_e, fcC_e, fcK_e, evp, gt, st, putf, X.get, gets, ap, rdR, tupled, clV, clL, clS, clo, ld, lda, tk, dr, gb, lk, undef, Nat.reduceAdd, Nat.reduceBEq, beq_self_eq_true, true_and, decide_eq_true_eq, decide_eq_false_iff_not, Fsp]
 refine ⟨fun h4 => ⟨fun h5 => res hK ?_, fun h5 => hn fun h => h5 h.2.1⟩, fun h4 => hn fun h => by rw [h.1.2.2.2] at h4; cases h4⟩
 have : Ck.ok ⟨T, R, a, b, e, g⟩ ↔ ((-10000000 ≤ e ∧ e ≤ g) ∧ g ≤ 10000000) := ⟨fun h => h.2.2, fun h => ⟨⟨h1, h2, h3, h4⟩, h5, h⟩⟩
 simp only [leR, this]
def Ck.chk (c : Ck) : Int := if c.ok then 0 else 70
def C16 : PC := fun args K => ∃ c : Ck, args = [c.sv] ∧ K (.int .i64 c.chk)
theorem p16 : PureOk Try.prog 9 C16 := by
 refine pure_of (T := [(26, .pc C52)]) ⟨⟨p52, q52⟩, trivial⟩ Try.func9 k16 ?_
 rintro args K ⟨⟨T, R, a, b, e, g⟩, rfl, hK⟩
 simp only [Ck.sv, Ck.chk] at hK ⊢
 simp only [e_reg, e_seq, o_nil, o_cons, gd_none, putK_e, runK_e, vK_e, boxK_e, bldK_e, conK_e, callK_e, evh_v, evh_box, evh_bld, evh_call, seqK_n, gam_e, gamK_p, pc_e, pcK_e, evp, gt, st, putf, X.get, gets, getp, ap, mkfr, rep, clV, clL, clS, clo, ld, lda, tk, dr, sp, sp.spl, lay, ll, cs1, gb, pb, ln, lk, undef, Nat.reduceSub, Nat.reduceAdd, beq_self_eq_true, true_and, s16, r16]
 refine ⟨⟨T, R, a, b, e, g⟩, rfl, ?_⟩
 simp only [e_skip, e_reg, e_seq, e_cond, e_ret, o_nil, o_cons, gd_none, putK_e, runK_e, vK_e, evh_v, seqK_n, seqK_r, condK_b, ends_r, endK1_e, endK2_e, evp, gt, st, putf, X.get, rdR, tupled, clV, clS, clo, Bool.not_true, Bool.not_false, true_and, decide_eq_true_eq, decide_eq_false_iff_not, Bool.not_eq_eq_eq_not]
 exact ⟨fun h => res hK (by simp [leR, h]), fun h => res hK (by simp [leR, h])⟩
def Fslow : FC := fun args => match args with
 | [.agg [.int .i64 a, .int .i64 b]] => some (True, .int .i64 a)
 | _ => none
theorem p101 : PureOk Try.prog 56 (fcC Fslow) := by
 refine pure_of (T := []) trivial Try.func56 k101 ?_
 intro args K hC
 unfold fcC Fslow at hC
 split at hC <;> first | (exact hC.elim) | skip
 rename_i h
 split at h <;> first | (cases h; done) | skip
 cases h
 simp only [e_reg, e_seq, e_ret, o_nil, o_cons, gd_none, putK_e, runK_e, vK_e, boxK_e, evh_v, evh_box, seqK_n, ends_r, endK1_e, endK2_e, evp, gt, gq, st, putf, X.get, mkfr, rep, rdR, tupled, clV, clS, clo, ld, lda, cs1, gb, pb, ln, undef, Nat.reduceSub, Nat.reduceAdd, true_and, s101, r101]
 exact res hC.2 (by simp [leR])
def Ffast : FC := fun args => match args with
 | [.agg [.int .i64 a, .int .i64 b]] => some (True, .int .i64 b)
 | _ => none
theorem p102 : PureOk Try.prog 57 (fcC Ffast) := by
 refine pure_of (T := []) trivial Try.func57 k102 ?_
 intro args K hC
 unfold fcC Ffast at hC
 split at hC <;> first | (exact hC.elim) | skip
 rename_i h
 split at h <;> first | (cases h; done) | skip
 cases h
 simp only [e_reg, e_seq, e_ret, o_nil, o_cons, gd_none, putK_e, runK_e, vK_e, boxK_e, evh_v, evh_box, seqK_n, ends_r, endK1_e, endK2_e, evp, gt, gq, st, putf, X.get, mkfr, rep, rdR, tupled, clV, clS, clo, ld, lda, cs1, gb, pb, ln, undef, Nat.reduceSub, Nat.reduceAdd, true_and, s102, r102]
 exact res hC.2 (by simp [leR])
def F77 : FC := fun args => match args with
 | [.agg [.ints .i64 T, .rd 2 n f, .int .i64 a, .int .i64 b, .int .i64 e, .int .i64 g]] => some (True, .agg [.ints .i64 T, .rd 2 n f, .int .i64 a, .int .i64 b, .int .i64 e, .int .i64 g, .fn 56 []])
 | _ => none
theorem p77 : PureOk Try.prog 36 (fcC F77) := by
 refine pure_of (T := []) trivial Try.func36 k77 ?_
 intro args K hC
 unfold fcC F77 at hC
 split at hC <;> first | (exact hC.elim) | skip
 rename_i h
 split at h <;> first | (cases h; done) | skip
 cases h
 simp only [↓reduceIte, e_reg, and_self, e_seq, e_ret, o_nil, o_cons, gd_none, putK_e, runK_e, vK_e, boxK_e, bldK_e, storeK3_e, storeK2_e, storeK_e, evh_v, evh_new, evh_box, evh_bld, evh_store, seqK_n, ends_r, endK1_e, endK2_e, evp, gt, st, putf, X.get, getp, mkfr, rep, rdR, tupled, clV, clL, clS, clo, ld, lda, tk, dr, sp, sp.spl, lay, ll, cs1, one, allOne, gb, sb, pb, ln, undef, Bool.and_true, Nat.reduceSub, Nat.reduceAdd, beq_self_eq_true, true_and, s77, r77]
 exact res hC.2 (by simp [leR, leR.leRs])
def F78 : FC := fun args => match args with
 | [.agg [.ints .i64 T, .rd 2 n f, .int .i64 a, .int .i64 b, .int .i64 e, .int .i64 g]] => some (True, .agg [.ints .i64 T, .rd 2 n f, .int .i64 a, .int .i64 b, .int .i64 e, .int .i64 g, .fn 57 []])
 | _ => none
theorem p78 : PureOk Try.prog 37 (fcC F78) := by
 refine pure_of (T := []) trivial Try.func37 k78 ?_
 intro args K hC
 unfold fcC F78 at hC
 split at hC <;> first | (exact hC.elim) | skip
 rename_i h
 split at h <;> first | (cases h; done) | skip
 cases h
 simp only [↓reduceIte, e_reg, and_self, e_seq, e_ret, o_nil, o_cons, gd_none, putK_e, runK_e, vK_e, boxK_e, bldK_e, storeK3_e, storeK2_e, storeK_e, evh_v, evh_new, evh_box, evh_bld, evh_store, seqK_n, ends_r, endK1_e, endK2_e, evp, gt, st, putf, X.get, getp, mkfr, rep, rdR, tupled, clV, clL, clS, clo, ld, lda, tk, dr, sp, sp.spl, lay, ll, cs1, one, allOne, gb, sb, pb, ln, undef, Bool.and_true, Nat.reduceSub, Nat.reduceAdd, beq_self_eq_true, true_and, s78, r78]
 exact res hC.2 (by simp [leR, leR.leRs])
end Go.Proofs.Ytlegfejimphfbaa
end
section
namespace Go.Proofs.Ytlegfejimphfbaa
open Go Go.Vg
set_option linter.unusedSimpArgs false
set_option linter.unusedVariables false
set_option maxRecDepth 10000
def s87 : SC :=
 (.seq (.reg [⟨(some 3), none, .box 58 (.t 0)⟩,
  ⟨(some 6), none, .v (.mov (.c (.lit .nilIface)))⟩])
 (.seq (.reg [⟨(some 8), none, .v (.off (.t 3) 0)⟩,
  ⟨(some 9), none, .v (.off (.t 8) 0)⟩,
  ⟨(some 10), none, .v (.load (.t 9) none)⟩,
  ⟨(some 11), none, .v (.len (.t 10))⟩,
  ⟨(some 7), none, .v (.mov (.t 11))⟩])
 (.seq (.shut [3, 12, 13, 7, 14, 15, 16, 1, 18, 19, 20, 17, 21, 22, 2, 24, 23, 25, 26, 27]
  (.drw [(0, ⟨(some 12), none, .v (.off (.t 3) 0)⟩, false),
   (1, ⟨(some 13), none, .v (.off (.t 12) 0)⟩, false),
   (2, ⟨(some 14), none, .v (.load (.t 13) none)⟩, false),
   (3, ⟨(some 15), none, .v (.mov (.t 7))⟩, false),
   (4, ⟨(some 16), none, .v (.mov (.t 7))⟩, false),
   (5, ⟨(some 17), none, .slc (.t 14) none (some (.t 15)) (some (.t 16)) 1⟩, false),
   (6, ⟨(some 18), none, .v (.mov (.t 1))⟩, false),
   (7, ⟨(some 19), none, .v (.mov (.t 7))⟩, false),
   (8, ⟨(some 20), none, .v (.mov (.t 7))⟩, false),
   (9, ⟨(some 21), none, .slc (.t 18) none (some (.t 19)) (some (.t 20)) 1⟩, false),
   (10, ⟨(some 22), none, .bld [(.lit (.slice none 0 0)), (.lit (.slice none 0 0))] [(0, 1, (.t 17)), (1, 1, (.t 21))]⟩, false),
   (11, ⟨(some 23), none, .v (.ifc 111 (.t 22))⟩, false),
   (12, ⟨(some 24), none, .v (.mov (.t 2))⟩, false),
   (13, ⟨(some 25), none, .v (.ifc 112 (.t 24))⟩, false)]
   none
   [⟨(some 26), none, .bsl 78 2 [(.lit .nilIface), (.lit .nilIface)] [(0, 1, (.t 23)), (1, 1, (.t 25))]⟩,
   ⟨(some 27), none, .v (.ifc 114 (.t 26))⟩,
   ⟨(some 6), none, .v (.mov (.t 27))⟩]))
 .ret)))
def r87 : List RV := [.t 6]
theorem k87 : (Try.f41.body.bind (cC Try.prog), cR Try.prog Try.f41.results.toList, Try.f41.ntmps) = (some s87, some r87, 28) := by kernel_rfl
theorem q87 : Known Try.prog 41 := ⟨_, Try.func41, by decide, by simp [Try.f41]⟩
def s130 : SC :=
 (.seq (.reg [⟨(some 2), none, .v (.mov (.c (.lit (.bool false))))⟩])
 (.seq (.reg [⟨(some 3), none, .v (.mov (.t 0))⟩,
  ⟨(some 4), none, .v (.mov (.t 0))⟩,
  ⟨(some 5), none, .v (.bin .neq (.t 3) (.t 4))⟩,
  ⟨(some 2), none, .v (.mov (.t 5))⟩])
 .ret))
def r130 : List RV := [.t 2]
theorem k130 : (Try.f85.body.bind (cC Try.prog), cR Try.prog Try.f85.results.toList, Try.f85.ntmps) = (some s130, some r130, 6) := by kernel_rfl
theorem q130 : Known Try.prog 85 := ⟨_, Try.func85, by decide, by simp [Try.f85]⟩
def s160 : SC :=
 (.seq (.reg [⟨(some 2), none, .v (.mov (.c (.lit (.bool false))))⟩])
 (.seq (.reg [⟨(some 3), none, .v (.mov (.t 0))⟩,
  ⟨(some 4), none, .v (.mov (.t 0))⟩,
  ⟨(some 5), none, .v (.bin .neq (.t 3) (.t 4))⟩,
  ⟨(some 2), none, .v (.mov (.t 5))⟩])
 .ret))
def r160 : List RV := [.t 2]
theorem k160 : (Try.f115.body.bind (cC Try.prog), cR Try.prog Try.f115.results.toList, Try.f115.ntmps) = (some s160, some r160, 6) := by kernel_rfl
theorem q160 : Known Try.prog 115 := ⟨_, Try.func115, by decide, by simp [Try.f115]⟩
def s159 : SC :=
 (.seq (.reg [⟨(some 4), none, .v (.mov (.c (.lit (.bool false))))⟩])
 (.seq (.reg [⟨(some 5), none, .v (.mov (.t 0))⟩,
  ⟨(some 6), none, .call (.c (.fn 85 [])) [(.t 5)]⟩,
  ⟨(some 7), none, .v (.mov (.t 6))⟩,
  ⟨(some 8), (some (7, true)), .v (.mov (.t 1))⟩,
  ⟨(some 9), (some (7, true)), .call (.c (.fn 85 [])) [(.t 8)]⟩,
  ⟨(some 10), (some (7, true)), .v (.not (.t 9))⟩,
  ⟨(some 11), none, .v (.pick (.t 7) (.t 10) (.c (.lit (.bool false))))⟩,
  ⟨(some 12), none, .v (.mov (.t 11))⟩,
  ⟨(some 13), (some (12, false)), .v (.mov (.t 0))⟩,
  ⟨(some 14), (some (12, false)), .v (.mov (.t 1))⟩,
  ⟨(some 15), (some (12, false)), .v (.bin .lss (.t 13) (.t 14))⟩,
  ⟨(some 16), none, .v (.pick (.t 12) (.c (.lit (.bool true))) (.t 15))⟩,
  ⟨(some 4), none, .v (.mov (.t 16))⟩])
 .ret))
def r159 : List RV := [.t 4]
theorem k159 : (Try.f114.body.bind (cC Try.prog), cR Try.prog Try.f114.results.toList, Try.f114.ntmps) = (some s159, some r159, 17) := by kernel_rfl
theorem q159 : Known Try.prog 114 := ⟨_, Try.func114, by decide, by simp [Try.f114]⟩
def s157 : SC :=
 (.seq (.reg [⟨(some 4), none, .v (.mov (.c (.int .i64 (0))))⟩,
  ⟨(some 5), none, .v (.mov (.c (.lit (.bool false))))⟩])
 (.seq (.reg [⟨(some 10), none, .v (.mov (.t 0))⟩,
  ⟨(some 11), none, .v (.len (.t 10))⟩,
  ⟨(some 6), none, .v (.mov (.t 11))⟩])
 (.seq (.reg [⟨(some 12), none, .v (.mov (.t 6))⟩,
  ⟨(some 7), none, .v (.mov (.c (.int .i64 (0))))⟩,
  ⟨(some 8), none, .v (.mov (.t 12))⟩])
 (.seq (.block 0 (.loop
  (.seq (.seq (.reg [⟨(some 13), none, .v (.mov (.t 7))⟩,
   ⟨(some 14), none, .v (.mov (.t 8))⟩,
   ⟨(some 15), none, .v (.bin .lss (.t 13) (.t 14))⟩])
  (.cond (.t 15)
   .skip
   (.exit 0)))
  (.block 1 (.seq (.reg [⟨(some 16), none, .v (.mov (.t 7))⟩,
   ⟨(some 17), none, .v (.mov (.t 8))⟩,
   ⟨(some 18), none, .v (.bin .add (.t 16) (.t 17))⟩,
   ⟨(some 19), none, .v (.conv .u64 (.t 18))⟩,
   ⟨(some 20), none, .v (.bin .shr (.t 19) (.c (.int .u64 (1))))⟩,
   ⟨(some 21), none, .v (.conv .i64 (.t 20))⟩,
   ⟨(some 9), none, .v (.mov (.t 21))⟩])
  (.seq (.reg [⟨(some 22), none, .v (.mov (.t 0))⟩,
   ⟨(some 23), none, .v (.mov (.t 9))⟩,
   ⟨(some 24), none, .v (.ixa (.t 22) (.t 23) 1)⟩,
   ⟨(some 25), none, .v (.load (.t 24) none)⟩,
   ⟨(some 26), none, .v (.mov (.t 1))⟩,
   ⟨(some 27), none, .call (.c (.fn 114 [])) [(.t 25), (.t 26)]⟩])
  (.cond (.t 27)
   (.reg [⟨(some 28), none, .v (.mov (.t 9))⟩,
    ⟨(some 29), none, .v (.bin .add (.t 28) (.c (.int .i64 (1))))⟩,
    ⟨(some 7), none, .v (.mov (.t 29))⟩])
   (.reg [⟨(some 30), none, .v (.mov (.t 9))⟩,
    ⟨(some 8), none, .v (.mov (.t 30))⟩]))))))))
 (.seq (.reg [⟨(some 31), none, .v (.mov (.t 7))⟩,
  ⟨(some 32), none, .v (.mov (.t 7))⟩,
  ⟨(some 33), none, .v (.mov (.t 6))⟩,
  ⟨(some 34), none, .v (.bin .lss (.t 32) (.t 33))⟩,
  ⟨(some 35), none, .v (.mov (.t 34))⟩,
  ⟨(some 36), (some (35, true)), .v (.mov (.t 0))⟩,
  ⟨(some 37), (some (35, true)), .v (.mov (.t 7))⟩,
  ⟨(some 38), (some (35, true)), .v (.ixa (.t 36) (.t 37) 1)⟩,
  ⟨(some 39), (some (35, true)), .v (.load (.t 38) none)⟩,
  ⟨(some 40), (some (35, true)), .v (.mov (.t 1))⟩,
  ⟨(some 41), (some (35, true)), .v (.bin .eql (.t 39) (.t 40))⟩,
  ⟨(some 42), (some (35, true)), .v (.mov (.t 41))⟩,
  ⟨(some 43), (some (42, false)), .v (.mov (.t 0))⟩,
  ⟨(some 44), (some (42, false)), .v (.mov (.t 7))⟩,
  ⟨(some 45), (some (42, false)), .v (.ixa (.t 43) (.t 44) 1)⟩,
  ⟨(some 46), (some (42, false)), .v (.load (.t 45) none)⟩,
  ⟨(some 47), (some (42, false)), .call (.c (.fn 115 [])) [(.t 46)]⟩,
  ⟨(some 48), (some (42, false)), .v (.mov (.t 47))⟩,
  ⟨(some 49), (some (48, true)), .v (.mov (.t 1))⟩,
  ⟨(some 50), (some (48, true)), .call (.c (.fn 115 [])) [(.t 49)]⟩,
  ⟨(some 51), (some (42, false)), .v (.pick (.t 48) (.t 50) (.c (.lit (.bool false))))⟩,
  ⟨(some 52), (some (35, true)), .v (.pick (.t 42) (.c (.lit (.bool true))) (.t 51))⟩,
  ⟨(some 53), none, .v (.pick (.t 35) (.t 52) (.c (.lit (.bool false))))⟩,
  ⟨(some 4), none, .v (.mov (.t 31))⟩,
  ⟨(some 5), none, .v (.mov (.t 53))⟩])
 .ret)))))
def r157 : List RV := [.t 4, .t 5]
theorem k157 : (Try.f112.body.bind (cC Try.prog), cR Try.prog Try.f112.results.toList, Try.f112.ntmps) = (some s157, some r157, 54) := by kernel_rfl
theorem q157 : Known Try.prog 112 := ⟨_, Try.func112, by decide, by simp [Try.f112]⟩
def s158 : SC :=
 (.seq (.reg [⟨(some 4), none, .v (.mov (.c (.int .i64 (0))))⟩])
 (.seq (.reg [⟨(some 6), none, .v (.mov (.t 0))⟩,
  ⟨(some 7), none, .v (.mov (.t 1))⟩,
  ⟨(some 8), none, .v (.bin .quo (.t 6) (.t 7))⟩,
  ⟨(some 5), none, .v (.mov (.t 8))⟩])
 (.seq (.seq (.reg [⟨(some 9), none, .v (.mov (.t 0))⟩,
  ⟨(some 10), none, .v (.mov (.t 1))⟩,
  ⟨(some 11), none, .v (.bin .rem (.t 9) (.t 10))⟩,
  ⟨(some 12), none, .v (.bin .lss (.t 11) (.c (.int .i64 (0))))⟩])
 (.cond (.t 12)
  (.reg [⟨(some 13), none, .v (.mov (.t 5))⟩,
   ⟨(some 14), none, .v (.bin .sub (.t 13) (.c (.int .i64 (1))))⟩,
   ⟨(some 5), none, .v (.mov (.t 14))⟩])
  .skip))
 (.seq (.reg [⟨(some 15), none, .v (.mov (.t 5))⟩,
  ⟨(some 4), none, .v (.mov (.t 15))⟩])
 .ret))))
def r158 : List RV := [.t 4]
theorem k158 : (Try.f113.body.bind (cC Try.prog), cR Try.prog Try.f113.results.toList, Try.f113.ntmps) = (some s158, some r158, 16) := by kernel_rfl
theorem q158 : Known Try.prog 113 := ⟨_, Try.func113, by decide, by simp [Try.f113]⟩
def s156 : SC :=
 (.seq (.reg [⟨(some 2), none, .box 111 (.t 0)⟩,
  ⟨(some 3), none, .box 82 (.t 1)⟩,
  ⟨(some 4), none, .v (.mov (.c (.int .i64 (0))))⟩])
 (.seq (.reg [⟨(some 11), none, .v (.off (.t 2) 0)⟩,
  ⟨(some 12), none, .v (.load (.t 11) none)⟩,
  ⟨(some 13), none, .v (.off (.t 3) 1)⟩,
  ⟨(some 14), none, .v (.load (.t 13) none)⟩,
  ⟨(some 15), none, .call (.c (.fn 112 [])) [(.t 12), (.t 14)]⟩,
  ⟨(some 10), none, .v (.mov (.t 15))⟩,
  ⟨(some 16), none, .v (.ext (.t 10) 0)⟩,
  ⟨(some 17), none, .v (.ext (.t 10) 1)⟩,
  ⟨(some 5), none, .v (.mov (.t 16))⟩,
  ⟨(some 6), none, .v (.mov (.t 17))⟩])
 (.seq (.seq (.reg [⟨(some 18), none, .v (.mov (.t 6))⟩])
 (.cond (.t 18)
  (.seq (.reg [⟨(some 19), none, .v (.off (.t 2) 1)⟩,
   ⟨(some 20), none, .v (.load (.t 19) none)⟩,
   ⟨(some 21), none, .v (.mov (.t 5))⟩,
   ⟨(some 22), none, .v (.ixa (.t 20) (.t 21) 1)⟩,
   ⟨(some 23), none, .v (.load (.t 22) none)⟩,
   ⟨(some 4), none, .v (.mov (.t 23))⟩])
  .ret)
  .skip))
 (.seq (.reg [⟨(some 24), none, .v (.mov (.t 5))⟩,
  ⟨(some 25), none, .v (.bin .sub (.t 24) (.c (.int .i64 (1))))⟩,
  ⟨(some 7), none, .v (.mov (.t 25))⟩])
 (.seq (.drw [(0, ⟨(some 26), none, .v (.off (.t 2) 0)⟩, false),
  (1, ⟨(some 27), none, .v (.load (.t 26) none)⟩, false),
  (2, ⟨(some 28), none, .v (.mov (.t 5))⟩, false),
  (3, ⟨(some 29), none, .v (.ixa (.t 27) (.t 28) 1)⟩, false),
  (4, ⟨(some 30), none, .v (.load (.t 29) none)⟩, false),
  (5, ⟨(some 31), none, .v (.off (.t 2) 0)⟩, false),
  (6, ⟨(some 32), none, .v (.load (.t 31) none)⟩, false),
  (7, ⟨(some 33), none, .v (.mov (.t 7))⟩, false),
  (8, ⟨(some 34), none, .v (.ixa (.t 32) (.t 33) 1)⟩, false),
  (9, ⟨(some 35), none, .v (.load (.t 34) none)⟩, false),
  (10, ⟨(some 36), none, .v (.bin .sub (.t 30) (.t 35))⟩, false),
  (11, ⟨(some 37), none, .v (.off (.t 3) 1)⟩, false),
  (12, ⟨(some 38), none, .v (.load (.t 37) none)⟩, false),
  (13, ⟨(some 39), none, .v (.off (.t 2) 0)⟩, false),
  (14, ⟨(some 40), none, .v (.load (.t 39) none)⟩, false),
  (15, ⟨(some 41), none, .v (.mov (.t 7))⟩, false),
  (16, ⟨(some 42), none, .v (.ixa (.t 40) (.t 41) 1)⟩, false),
  (17, ⟨(some 43), none, .v (.load (.t 42) none)⟩, false),
  (18, ⟨(some 44), none, .v (.bin .sub (.t 38) (.t 43))⟩, false),
  (19, ⟨(some 8), none, .v (.mov (.t 36))⟩, false)]
  none
  [⟨(some 9), none, .v (.mov (.t 44))⟩])
 (.seq (.drw [(0, ⟨(some 45), none, .v (.off (.t 2) 1)⟩, false),
  (1, ⟨(some 46), none, .v (.load (.t 45) none)⟩, false),
  (2, ⟨(some 47), none, .v (.mov (.t 7))⟩, false),
  (3, ⟨(some 48), none, .v (.ixa (.t 46) (.t 47) 1)⟩, false),
  (4, ⟨(some 49), none, .v (.load (.t 48) none)⟩, false),
  (5, ⟨(some 50), none, .v (.mov (.t 8))⟩, false),
  (6, ⟨(some 51), none, .v (.mov (.t 9))⟩, false),
  (7, ⟨(some 52), none, .v (.bin .sub (.t 50) (.t 51))⟩, false),
  (8, ⟨(some 53), none, .v (.bin .mul (.t 49) (.t 52))⟩, false),
  (9, ⟨(some 54), none, .v (.off (.t 2) 1)⟩, false),
  (10, ⟨(some 55), none, .v (.load (.t 54) none)⟩, false),
  (11, ⟨(some 56), none, .v (.mov (.t 5))⟩, false),
  (12, ⟨(some 57), none, .v (.ixa (.t 55) (.t 56) 1)⟩, false),
  (13, ⟨(some 58), none, .v (.load (.t 57) none)⟩, false),
  (14, ⟨(some 59), none, .v (.mov (.t 9))⟩, false),
  (15, ⟨(some 60), none, .v (.bin .mul (.t 58) (.t 59))⟩, false),
  (16, ⟨(some 61), none, .v (.bin .add (.t 53) (.t 60))⟩, false),
  (17, ⟨(some 62), none, .v (.mov (.t 8))⟩, false)]
  none
  [⟨(some 63), none, .call (.c (.fn 113 [])) [(.t 61), (.t 62)]⟩,
  ⟨(some 4), none, .v (.mov (.t 63))⟩])
 .ret))))))
def r156 : List RV := [.t 4]
theorem k156 : (Try.f111.body.bind (cC Try.prog), cR Try.prog Try.f111.results.toList, Try.f111.ntmps) = (some s156, some r156, 64) := by kernel_rfl
theorem q156 : Known Try.prog 111 := ⟨_, Try.func111, by decide, by simp [Try.f111]⟩
def s161 : SC :=
 (.seq (.reg [⟨(some 3), none, .box 82 (.t 1)⟩,
  ⟨(some 4), none, .v (.mov (.c (.int .i64 (0))))⟩])
 (.seq (.reg [⟨(some 5), none, .v (.mov (.t 0))⟩,
  ⟨(some 6), none, .v (.off (.t 3) 0)⟩,
  ⟨(some 7), none, .v (.load (.t 6) none)⟩,
  ⟨(some 8), none, .v (.bin .mul (.t 5) (.t 7))⟩,
  ⟨(some 4), none, .v (.mov (.t 8))⟩])
 .ret))
def r161 : List RV := [.t 4]
theorem k161 : (Try.f116.body.bind (cC Try.prog), cR Try.prog Try.f116.results.toList, Try.f116.ntmps) = (some s161, some r161, 9) := by kernel_rfl
theorem q161 : Known Try.prog 116 := ⟨_, Try.func116, by decide, by simp [Try.f116]⟩
def s162 : SC :=
 (.seq (.reg [⟨(some 3), none, .box 82 (.t 1)⟩,
  ⟨(some 4), none, .v (.mov (.c (.int .i64 (0))))⟩])
 (.seq (.reg [⟨(some 5), none, .v (.mov (.c (.int .i64 (0))))⟩])
 (.seq (.seq (.reg [⟨(some 8), none, .v (.mov (.t 0))⟩,
  ⟨(some 9), none, .v (.len (.t 8))⟩,
  ⟨(some 10), none, .v (.mov (.c (.int .i64 (0))))⟩])
 (.block 0 (.loop
  (.seq (.reg [⟨(some 11), none, .v (.bin .lss (.t 10) (.t 9))⟩])
  (.seq (.cond (.t 11)
   .skip
   (.exit 0))
  (.seq (.block 1 (.seq (.reg [⟨(some 12), none, .v (.ixa (.t 8) (.t 10) 1)⟩,
   ⟨(some 13), none, .v (.load (.t 12) none)⟩,
   ⟨(some 7), none, .v (.mov (.t 13))⟩])
  (.reg [⟨(some 14), none, .v (.mov (.t 5))⟩,
   ⟨(some 15), none, .v (.mov (.t 7))⟩,
   ⟨(some 16), none, .v (.load (.t 3) (some 2))⟩,
   ⟨(some 17), none, .inv [(111, 111), (112, 116), (114, 117)] (.t 15) [(.t 16)]⟩,
   ⟨(some 18), none, .v (.bin .add (.t 14) (.t 17))⟩,
   ⟨(some 5), none, .v (.mov (.t 18))⟩])))
  (.reg [⟨(some 19), none, .v (.bin .add (.t 10) (.c (.int .i64 (1))))⟩,
   ⟨(some 10), none, .v (.mov (.t 19))⟩])))))))
 (.seq (.reg [⟨(some 20), none, .v (.mov (.t 5))⟩,
  ⟨(some 4), none, .v (.mov (.t 20))⟩])
 .ret))))
def r162 : List RV := [.t 4]
theorem k162 : (Try.f117.body.bind (cC Try.prog), cR Try.prog Try.f117.results.toList, Try.f117.ntmps) = (some s162, some r162, 21) := by kernel_rfl
theorem q162 : Known Try.prog 117 := ⟨_, Try.func117, by decide, by simp [Try.f117]⟩
def ps : List Int → Int → Nat
 | [], _ => 0
 | t :: T, x => if t < x then ps T x + 1 else 0
theorem ps_le : ∀ (T : List Int) (x : Int), ps T x ≤ T.length
 | [], _ => Nat.le_refl _
 | t :: T, x => by simp only [ps]; have := ps_le T x; split <;> simp <;> omega
theorem ps_lt : ∀ {T : List Int} {x : Int} {k : Nat}, k < ps T x → T.getD k 0 < x
 | [], _, k, h => by simp [ps] at h
 | t :: T, x, k, h => by
  simp only [ps] at h
  split at h
  ·cases k with
   | zero => simpa using ‹t < x›
   | succ k => simpa using ps_lt (T := T) (x := x) (k := k) (by omega)
  ·omega
theorem ps_ge : ∀ {T : List Int} {x : Int}, ps T x < T.length → x ≤ T.getD (ps T x) 0
 | [], _, h => by simp at h
 | t :: T, x, h => by
  simp only [ps] at h ⊢
  split
  ·rename_i hc
   rw [if_pos hc] at h
   simpa using ps_ge (T := T) (x := x) (by simpa using h)
  ·simp; omega
theorem ps_eq {T : List Int} {x : Int} {i : Nat} (hi : i ≤ T.length) (h1 : ∀ k, k < i → T.getD k 0 < x) (h2 : i < T.length → x ≤ T.getD i 0) : ps T x = i := by
 have h3 := ps_le T x
 rcases Nat.lt_trichotomy (ps T x) i with h | h | h
 ·have := h1 _ h; have := ps_ge (T := T) (x := x) (by omega); omega
 ·exact h
 ·have := ps_lt h; have := h2 (by omega); omega
structure Tb (T : List Int) : Prop where
 len : 2 ≤ T.length ∧ T.length ≤ 8
 rs : ∀ i j, i < j → j < T.length → T.getD i 0 < T.getD j 0
 b : ∀ i, 0 ≤ T.getD i 0 ∧ T.getD i 0 ≤ 60
def Rb (R : List Int) : Prop := ∀ i, -100000 ≤ R.getD i 0 ∧ R.getD i 0 ≤ 100000
def At (T : List Int) (x : Int) : Prop := T.getD 0 0 ≤ x ∧ x ≤ T.getD (T.length - 1) 0
def itp (T R : List Int) (x : Int) : Int :=
 if T.getD (ps T x) 0 = x then R.getD (ps T x) 0 else
  (R.getD (ps T x - 1) 0 * (T.getD (ps T x) 0 - T.getD (ps T x - 1) 0 - (x - T.getD (ps T x - 1) 0)) + R.getD (ps T x) 0 * (x - T.getD (ps T x - 1) 0)) / (T.getD (ps T x) 0 - T.getD (ps T x - 1) 0)
structure PsAt (T : List Int) (x : Int) : Prop where
 lt : ps T x < T.length
 ge : x ≤ T.getD (ps T x) 0
 nx : T.getD (ps T x) 0 ≠ x → 0 < ps T x ∧ T.getD (ps T x - 1) 0 < x ∧ x < T.getD (ps T x) 0
theorem psAt {T : List Int} {x : Int} (hT : Tb T) (hx : At T x) : PsAt T x := by
 have hl := hT.len
 have h1 := ps_le T x
 have h2 : ps T x < T.length := by
  refine Nat.lt_of_le_of_ne h1 fun e => ?_
  have := ps_lt (T := T) (x := x) (k := T.length - 1) (by omega)
  have := hx.2
  omega
 have h3 := ps_ge h2
 refine ⟨h2, h3, fun hne => ?_⟩
 have h4 : 0 < ps T x := by
  refine Nat.pos_of_ne_zero fun e => ?_
  rw [e] at h3 hne
  have := hx.1
  omega
 exact ⟨h4, ps_lt (by omega), by omega⟩
theorem mulB {x y : Int} (h1 : -100000 ≤ x) (h2 : x ≤ 100000) (h3 : 0 ≤ y) (h4 : y ≤ 60) : -6000000 ≤ x * y ∧ x * y ≤ 6000000 := by
 have a := Int.mul_le_mul_of_nonneg_right h2 h3
 have b := Int.mul_le_mul_of_nonneg_right h1 h3
 omega
theorem mixB {r r' w d : Int} (h1 : -100000 ≤ r) (h2 : r ≤ 100000) (h3 : -100000 ≤ r') (h4 : r' ≤ 100000) (hd : 0 ≤ d) (hw : 0 < w) (hdw : d ≤ w) : -100000 ≤ (r * (w - d) + r' * d) / w ∧ (r * (w - d) + r' * d) / w ≤ 100000 := by
 have a1 := Int.mul_le_mul_of_nonneg_right h2 (show 0 ≤ w - d by omega)
 have a2 := Int.mul_le_mul_of_nonneg_right h4 hd
 have b1 := Int.mul_le_mul_of_nonneg_right h1 (show 0 ≤ w - d by omega)
 have b2 := Int.mul_le_mul_of_nonneg_right h3 hd
 have e1 : (100000 : Int) * (w - d) + 100000 * d = 100000 * w := by rw [← Int.mul_add]; congr 1; omega
 have e2 : (-100000 : Int) * (w - d) + -100000 * d = -100000 * w := by rw [← Int.mul_add]; congr 1; omega
 constructor
 ·exact Int.le_ediv_of_mul_le hw (by omega)
 ·exact Int.ediv_le_of_le_mul hw (by omega)
theorem itpB {T R : List Int} {x : Int} (hT : Tb T) (hR : Rb R) (hx : At T x) : -100000 ≤ itp T R x ∧ itp T R x ≤ 100000 := by
 have h := psAt hT hx
 unfold itp
 split
 ·exact hR _
 ·rename_i hne
  obtain ⟨h1, h2, h3⟩ := h.nx hne
  exact mixB (hR _).1 (hR _).2 (hR _).1 (hR _).2 (by omega) (by omega) (by omega)
theorem itp_mono {T R R' : List Int} {x : Int} (hT : Tb T) (hx : At T x) (hR : ∀ i, i < T.length → R.getD i 0 ≤ R'.getD i 0) : itp T R x ≤ itp T R' x := by
 have h := psAt hT hx
 have h0 := h.lt
 unfold itp
 split
 ·exact hR _ h0
 ·rename_i hne
  obtain ⟨h1, h2, h3⟩ := h.nx hne
  refine Int.ediv_le_ediv (by omega) ?_
  have a := Int.mul_le_mul_of_nonneg_right (hR (ps T x - 1) (by omega)) (show 0 ≤ T.getD (ps T x) 0 - T.getD (ps T x - 1) 0 - (x - T.getD (ps T x - 1) 0) by omega)
  have b := Int.mul_le_mul_of_nonneg_right (hR (ps T x) h0) (show 0 ≤ x - T.getD (ps T x - 1) 0 by omega)
  omega
def rateV (T R : List Int) (age : Int) : SV := .ifc 114 (.rd 1 2 (rowOf 1 [.ifc 111 (.agg [.ints .i64 T, .ints .i64 R]), .ifc 112 (.int .i64 age)]))
theorem row2_0 {x y : SV} : rowOf 1 [x, y] 0 = [x] := rfl
theorem row2_1 {x y : SV} : rowOf 1 [x, y] 1 = [y] := rfl
def F87 : FC := fun args => match args with
 | [.agg [.ints .i64 T, .rd 2 n f, .int .i64 a, .int .i64 b, .int .i64 e, .int .i64 g], .ints .i64 R, .int .i64 age] => some (T.length = R.length ∧ T.length ≤ 1000, rateV T R age)
 | _ => none
theorem p87 : PureOk Try.prog 41 (fcC F87) := by
 refine pure_of (T := []) trivial Try.func41 k87 ?_
 intro args K hC
 unfold fcC F87 at hC
 split at hC <;> first | (exact hC.elim) | skip
 rename_i h
 split at h <;> first | (cases h; done) | skip
 cases h
 rename_i T n f a b e g R age
 obtain ⟨⟨h1, h2⟩, hK⟩ := hC
 unfold rateV at hK
 have e0 : List.take T.length R = R := by rw [h1]; exact List.take_length
 simp only [↓reduceIte, e_reg, e_drw, e_seq, e_ret, e_shut, shutG, shutQ, shut2, shutH, shut1, slQ, o_nil, o_cons, gd_none, putK_e, runK_e, vK_e, boxK_e, bslK_e, evh_v, evh_box, evh_bsl, bnd, slv, od_none, dX_e, dG_t, d_nil, d_cons, tlK_n, seqK_n, ends_r, endK1_e, endK2_e, evp, gt, gq, st, putf, X.get, getp, mkfr, rep, rdR, tupled, clV, clL, clS, clo, ld, lda, lens, sp, sp.spl, lay, ll, cs1, one, gb, sb, pb, ln, evq, gdl, undef, Nat.reduceSub, Nat.reduceAdd, Nat.reduceMul, Nat.reduceDiv, beq_self_eq_true, true_and, s87, r87, Int.toNat_natCast, Int.sub_zero, List.drop_zero, List.take_length, Int.toNat_zero, e0, toInts, Nat.reduceDiv, Nat.reduceMul]
 repeat' (first | omega | (exact ⟨_, hK, by simp [leR]⟩) | apply And.intro)
def Fnan : FC := fun args => match args with
 | [.int .i64 x] => some (True, .bool false)
 | _ => none
theorem p130 : PureOk Try.prog 85 (fcC Fnan) := by
 refine pure_of (T := []) trivial Try.func85 k130 ?_
 intro args K hC
 unfold fcC Fnan at hC
 split at hC <;> first | (exact hC.elim) | skip
 rename_i h
 split at h <;> first | (cases h; done) | skip
 cases h
 simp only [e_reg, e_seq, e_ret, o_nil, o_cons, gd_none, putK_e, runK_e, vK_e, evh_v, seqK_n, ends_r, endK1_e, endK2_e, evp, bin, gt, st, putf, X.get, mkfr, rep, rdR, tupled, clV, clS, clo, undef, Nat.reduceSub, true_and, s130, r130]
 exact res hC.2 (by simp [leR])
theorem p160 : PureOk Try.prog 115 (fcC Fnan) := by
 refine pure_of (T := []) trivial Try.func115 k160 ?_
 intro args K hC
 unfold fcC Fnan at hC
 split at hC <;> first | (exact hC.elim) | skip
 rename_i h
 split at h <;> first | (cases h; done) | skip
 cases h
 simp only [e_reg, e_seq, e_ret, o_nil, o_cons, gd_none, putK_e, runK_e, vK_e, evh_v, seqK_n, ends_r, endK1_e, endK2_e, evp, bin, gt, st, putf, X.get, mkfr, rep, rdR, tupled, clV, clS, clo, undef, Nat.reduceSub, true_and, s160, r160]
 exact res hC.2 (by simp [leR])
def Fless : FC := fun args => match args with
 | [.int .i64 x, .int .i64 y] => some (True, .bool (decide (x < y)))
 | _ => none
theorem p159 : PureOk Try.prog 114 (fcC Fless) := by
 refine pure_of (T := [(85, .fc Fnan)]) ⟨⟨p130, q130⟩, trivial⟩ Try.func114 k159 ?_
 intro args K hC
 unfold fcC Fless at hC
 split at hC <;> first | (exact hC.elim) | skip
 rename_i h
 split at h <;> first | (cases h; done) | skip
 cases h
 obtain ⟨-, hK⟩ := hC
 simp only [gdK_btf, e_reg, e_seq, e_ret, o_nil, o_cons, gd_none, gd_some, gdK_ft, gdK_ff, putK_e, runK_e, skipK_e, vK_e, conK_e, callK_e, evh_v, evh_call, seqK_n, ends_r, endK1_e, endK2_e, gam_e, gamK_f, pc_e, pcK_e, fcC_e, fcK_e, evp, bin, gt, st, putf, X.get, gets, ap, mkfr, rep, rdR, tupled, clV, clL, clS, clo, lk, undef, Nat.reduceSub, beq_self_eq_true, true_and, s159, r159, Fnan]
 exact res hK (by simp [leR])
def F157 : FC := fun args => match args with
 | [.ints .i64 T, .int .i64 x] => some (T.length ≤ 1000 ∧ (∀ i j, i < j → j < T.length → T.getD i 0 < T.getD j 0), .tup [.int .i64 (ps T x), .bool (decide (ps T x < T.length ∧ T.getD (ps T x) 0 = x))])
 | _ => none
theorem inrU {n : Int} (h1 : 0 ≤ n) (h2 : n ≤ 9223372036854775807) : InR .u64 n = True := by
 refine eq_true ?_
 show IntKind.u64.wrap n = n
 simp [IntKind.wrap, IntKind.bits, IntKind.signed]
 omega
theorem p157 : PureOk Try.prog 112 (fcC F157) := by
 refine pure_of (T := [(114, .fc Fless), (115, .fc Fnan)]) ⟨⟨p159, q159⟩, ⟨p160, q160⟩, trivial⟩ Try.func112 k157 ?_
 intro args K hC
 unfold fcC F157 at hC
 split at hC <;> first | (exact hC.elim) | skip
 rename_i h
 split at h <;> first | (cases h; done) | skip
 cases h
 rename_i T x
 obtain ⟨⟨hl, hr⟩, hK⟩ := hC
 have e2 : ((2 ^ Int.toNat 1 : Nat) : Int) = 2 := rfl
 simp only [e_reg, e_seq, e_block, e_loop, o_nil, o_cons, gd_none, putK_e, runK_e, vK_e, evh_v, seqK_n, evp, gt, st, putf, X.get, mkfr, rep, lens, undef, Nat.reduceSub, true_and, s157, r157]
 refine loop_at2 (G := Nat × Nat) (fun x => [(7, .int .i64 x.1), (8, .int .i64 x.2)]) (fun x => []) (fun g => (g.1 ≤ g.2 ∧ g.2 ≤ T.length) ∧ (∀ k, k < g.1 → T.getD k 0 < x) ∧ (g.2 < T.length → x ≤ T.getD g.2 0)) (fun x => x.2 - x.1) (0, T.length) ⟨⟨Nat.zero_le _, Nat.le_refl _⟩, fun k hk => by simp at hk, fun h => by simp at h⟩ ?_
 (intro fr1 hf1; simp only [forget, dstC, dstO, st] at hf1; subst hf1)
 refine ⟨?_, ?_⟩
 ·refine Lw_re 0 [] (Nat.zero_le _) (by simp [ln]) (by simp [ln]) rfl ?_ ?_
  ·simp only [reL, reX, inb, ln, sts, st, and_self, Int.natCast_zero]
  ·simp only [reH, reN]
 ·rintro ⟨i, j⟩ ⟨⟨hi1, hj1⟩, hp, hq⟩
  dsimp only at hi1 hj1 hp hq
  by_cases hij : i < j
  ·have n1 : ((i : Int) < (j : Int)) = True := by simp [hij]
   have eh : ((i : Int) + j) / 2 = ((i + j) / 2 : Nat) := by omega
   have hu : InR .u64 ((i : Int) + j) = True := inrU (by omega) (by omega)
   by_cases hc : T.getD ((i + j) / 2) 0 < x
   ·have n2 : (T.getD ((i + j) / 2) 0 < x) = True := by simp only [hc]
    simp only [condK_bt, decide_true, inr64, e_skip, e_reg, e_seq, e_cond, e_block, o_nil, o_cons, gd_none, putK_e, runK_e, vK_e, conK_e, callK_e, evh_v, evh_call, loopK_n, seqK_n, blockK_n, gam_e, gamK_f, pc_e, pcK_e, fcC_e, fcK_e, evp, bin, gt, gq, st, putf, X.get, gets, ap, clV, clL, clS, clo, ld, lda, ixs, lk, beq_self_eq_true, true_and, sts, n1, hu, e2, eh, Int.toNat_natCast, Fless, n2]
    repeat refine And.intro (by first | omega | decide) ?_
    refine Nx.mk ((i + j) / 2 + 1, j) ⟨⟨by simp only; omega, by simp only; omega⟩, fun k hk => ?_, hq⟩ (by simp only; omega) (Lw_re 0 [] (Nat.zero_le _) (by simp [ln]) (by simp [ln]) rfl ?_ ?_)
    ·simp only at hk
     by_cases hk2 : k = (i + j) / 2
     ·subst hk2; exact hc
     ·have := hr k ((i + j) / 2) (by omega) (by omega); omega
    ·simp only [reL, reX, inb, and_self, Int.natCast_add, Int.natCast_one]
    ·simp only [reH, reN]
   ·have n2 : (T.getD ((i + j) / 2) 0 < x) = False := by simp only [hc]
    simp only [condK_bt, condK_bf, decide_true, decide_false, inr64, e_skip, e_reg, e_seq, e_cond, e_block, o_nil, o_cons, gd_none, putK_e, runK_e, vK_e, conK_e, callK_e, evh_v, evh_call, loopK_n, seqK_n, blockK_n, gam_e, gamK_f, pc_e, pcK_e, fcC_e, fcK_e, evp, bin, gt, gq, st, putf, X.get, gets, ap, clV, clL, clS, clo, ld, lda, ixs, lk, beq_self_eq_true, true_and, sts, n1, hu, e2, eh, Int.toNat_natCast, Fless, n2]
    repeat refine And.intro (by first | omega | decide) ?_
    refine Nx.mk (i, (i + j) / 2) ⟨⟨by simp only; omega, by simp only; omega⟩, hp, fun _ => by simp only; omega⟩ (by simp only; omega) (Lw_re 0 [] (Nat.zero_le _) (by simp [ln]) (by simp [ln]) rfl ?_ ?_)
    ·simp only [reL, reX, inb, and_self]
    ·simp only [reH, reN]
  ·have n1 : ((i : Int) < (j : Int)) = False := by simp; omega
   have eij : i = j := by omega
   subst eij
   have hps : ps T x = i := ps_eq hj1 hp hq
   simp only [condK_bf, decide_false, e_reg, e_seq, e_cond, e_exit, o_nil, o_cons, gd_none, gd_some, putK_e, runK_e, vK_e, evh_v, loopK_x, seqK_n, seqK_x, exitK_t, blockK_x, evp, bin, gt, st, putf, X.get, beq_self_eq_true, true_and, sts, n1]
   simp only [reduceCtorEq, e_ret, o_nil, o_cons, gd_none, gd_some, gdK_tt, gdK_tf, gdK_ft, gdK_ff, gdK_u, gdK_bt, gdK_bf, putK_e, runK_e, skipK_e, vK_e, conK_e, callK_e, evh_v, evh_call, seqK_n, ends_r, endK1_e, endK2_e, gam_e, gamK_f, pc_e, pcK_e, fcC_e, fcK_e, evp, bin, gt, gq, st, putf, X.get, gets, ap, rdR, tupled, clV, clL, clS, clo, ld, lda, ixs, gb, lk, undef, Nat.reduceBEq, beq_self_eq_true, true_and, decide_eq_true_eq, decide_eq_false_iff_not, Fnan, Int.toNat_natCast]
   rw [hps] at hK
   refine ⟨fun h => ⟨by omega, fun h2 => ⟨by omega, fun h => h.elim, fun _ => res hK ?_⟩, fun h2 => res hK ?_⟩, fun h => res hK ?_⟩
   ·have h3 : decide (i < T.length ∧ T.getD i 0 = x) = false := decide_eq_false fun h => h2 h.2
    rw [h3]; simp [leR, leR.leRs]
   ·have h3 : decide (i < T.length ∧ T.getD i 0 = x) = true := decide_eq_true ⟨by omega, h2⟩
    rw [h3]; simp [leR, leR.leRs]
   ·have h3 : ¬ i < T.length := by omega
    simp [leR, leR.leRs, h3]
def Fdwn : FC := fun args => match args with
 | [.int .i64 a, .int .i64 b] => some (0 < b ∧ b ≤ 4611686018427387904 ∧ -4611686018427387904 ≤ a ∧ a ≤ 4611686018427387904, .int .i64 (a / b))
 | _ => none
theorem p158 : PureOk Try.prog 113 (fcC Fdwn) := by
 refine pure_of (T := []) trivial Try.func113 k158 ?_
 intro args K hC
 unfold fcC Fdwn at hC
 split at hC <;> first | (exact hC.elim) | skip
 rename_i h
 split at h <;> first | (cases h; done) | skip
 cases h
 rename_i a b
 obtain ⟨⟨hb, hb2, ha, ha2⟩, hK⟩ := hC
 have e3 : -4611686018427387904 ≤ a / b := Int.le_ediv_of_mul_le hb (by omega)
 have e4 : a / b ≤ 4611686018427387904 := Int.ediv_le_of_le_mul hb (by omega)
 have m1 := Int.tmod_eq_emod (a := a) (b := b)
 have m2 := Int.tdiv_eq_ediv (a := a) (b := b)
 have m3 := Int.emod_nonneg a (show b ≠ 0 by omega)
 have m4 := Int.emod_lt_of_pos a hb
 have m5 : b.sign = 1 := Int.sign_eq_one_of_pos hb
 rw [m5] at m2
 have m6 : (b.natAbs : Int) = b := by omega
 have m7 : b ∣ a → a % b = 0 := fun h => Int.emod_eq_zero_of_dvd h
 simp only [inr64, ne_eq, e_skip, e_reg, e_seq, e_cond, e_ret, o_nil, o_cons, gd_none, putK_e, runK_e, vK_e, evh_v, seqK_n, condK_b, ends_r, endK1_e, endK2_e, evp, bin, gt, st, putf, X.get, mkfr, rep, rdR, tupled, clV, clS, clo, undef, Nat.reduceSub, true_and, decide_eq_true_eq, decide_eq_false_iff_not, s158, r158]
 by_cases hc : 0 ≤ a ∨ b ∣ a
 ·rw [if_pos hc] at m1 m2
  refine ⟨⟨by omega, by omega⟩, by omega, fun h => by exfalso; omega, fun h => res hK (by simp [leR]; omega)⟩
 ·rw [if_neg hc] at m1 m2
  rw [m6] at m1
  have m8 : a % b ≠ 0 := fun h => hc (.inr (Int.dvd_of_emod_eq_zero h))
  refine ⟨⟨by omega, by omega⟩, by omega, fun h => ⟨by omega, res hK (by simp [leR]; omega)⟩, fun h => by exfalso; omega⟩
def F156 : FC := fun args => match args with
 | [.agg [.ints .i64 T, .ints .i64 R], .agg [.int .i64 d, .int .i64 x]] => some (Tb T ∧ Rb R ∧ T.length = R.length ∧ At T x, .int .i64 (itp T R x))
 | _ => none
theorem p156 : PureOk Try.prog 111 (fcC F156) := by
 refine pure_of (T := [(112, .fc F157), (113, .fc Fdwn)]) ⟨⟨p157, q157⟩, ⟨p158, q158⟩, trivial⟩ Try.func111 k156 ?_
 intro args K hC
 unfold fcC F156 at hC
 split at hC <;> first | (exact hC.elim) | skip
 rename_i h
 split at h <;> first | (cases h; done) | skip
 cases h
 rename_i T R d x
 obtain ⟨⟨hT, hR, hl, hx⟩, hK⟩ := hC
 have h := psAt hT hx
 have h0 := h.lt
 have hl8 := hT.len
 have hrs := hT.rs
 unfold itp at hK
 by_cases hf : T.getD (ps T x) 0 = x
 ·have n1 : (ps T x < T.length ∧ T.getD (ps T x) 0 = x) = True := by simp only [h0, hf, and_self]
  rw [if_pos hf] at hK
  simp only [condK_bt, decide_true, e_reg, e_seq, e_cond, e_ret, o_nil, o_cons, gd_none, putK_e, runK_e, vK_e, boxK_e, conK_e, callK_e, evh_v, evh_box, evh_call, seqK_n, seqK_r, ends_r, endK1_e, endK2_e, gam_e, gamK_f, pc_e, pcK_e, fcC_e, fcK_e, evp, gt, gq, st, putf, X.get, gets, ap, mkfr, rep, rdR, tupled, clV, clL, clS, clo, ld, lda, ixs, cs1, gb, pb, ln, lk, undef, Nat.reduceSub, Nat.reduceAdd, beq_self_eq_true, true_and, s156, r156, F157, n1, Int.toNat_natCast]
  repeat' (first | omega | exact hrs | (exact res hK (by simp [leR])) | apply And.intro)
 ·have n1 : (ps T x < T.length ∧ T.getD (ps T x) 0 = x) = False := by simp only [hf, and_false]
  rw [if_neg hf] at hK
  obtain ⟨h1, h2, h3⟩ := h.nx hf
  have e1 : ((ps T x : Int) - 1).toNat = ps T x - 1 := by omega
  have b0 := hT.b (ps T x)
  have b1 := hT.b (ps T x - 1)
  have c0 := hR (ps T x)
  have c1 := hR (ps T x - 1)
  simp only [condK_bf, decide_false, inr64, e_skip, e_reg, e_drw, e_seq, e_cond, e_ret, o_nil, o_cons, gd_none, putK_e, runK_e, vK_e, boxK_e, conK_e, callK_e, evh_v, evh_box, evh_call, dX_e, dG_t, d_nil, d_cons, tlK_n, seqK_n, ends_r, endK1_e, endK2_e, gam_e, gamK_f, pc_e, pcK_e, fcC_e, fcK_e, evp, bin, gt, gq, st, putf, X.get, gets, ap, mkfr, rep, rdR, tupled, clV, clL, clS, clo, ld, lda, ixs, cs1, gb, pb, ln, lk, evq, gdl, undef, Nat.reduceSub, Nat.reduceAdd, Nat.reduceBEq, beq_self_eq_true, true_and, s156, r156, F157, n1, Int.toNat_natCast, e1, Fdwn]
  generalize T.getD (ps T x) 0 = t1 at *
  generalize T.getD (ps T x - 1) 0 = t0 at *
  generalize R.getD (ps T x) 0 = r1 at *
  generalize R.getD (ps T x - 1) 0 = r0 at *
  have d0 := mulB c1.1 c1.2 (show 0 ≤ t1 - t0 - (x - t0) by omega) (by omega)
  have d1 := mulB c0.1 c0.2 (show 0 ≤ x - t0 by omega) (by omega)
  generalize hp0 : r0 * (t1 - t0 - (x - t0)) = p0 at *
  generalize hp1 : r1 * (x - t0) = p1 at *
  repeat' (first | omega | exact hrs | (exact res hK (by simp [leR])) | apply And.intro)
def F161 : FC := fun args => match args with
 | [.int .i64 age, .agg [.int .i64 d, .int .i64 x]] => some ((-1000 ≤ age ∧ age ≤ 1000) ∧ 0 ≤ d ∧ d ≤ 60, .int .i64 (age * d))
 | _ => none
theorem ageB {x y : Int} (h1 : -1000 ≤ x) (h2 : x ≤ 1000) (h3 : 0 ≤ y) (h4 : y ≤ 60) : -60000 ≤ x * y ∧ x * y ≤ 60000 := by
 have a := Int.mul_le_mul_of_nonneg_right h2 h3
 have b := Int.mul_le_mul_of_nonneg_right h1 h3
 omega
theorem p161 : PureOk Try.prog 116 (fcC F161) := by
 refine pure_of (T := []) trivial Try.func116 k161 ?_
 intro args K hC
 unfold fcC F161 at hC
 split at hC <;> first | (exact hC.elim) | skip
 rename_i h
 split at h <;> first | (cases h; done) | skip
 cases h
 obtain ⟨⟨⟨h1, h2⟩, h3, h4⟩, hK⟩ := hC
 have := ageB h1 h2 h3 h4
 simp only [inr64, e_reg, e_seq, e_ret, o_nil, o_cons, gd_none, putK_e, runK_e, vK_e, boxK_e, evh_v, evh_box, seqK_n, ends_r, endK1_e, endK2_e, evp, bin, gt, gq, st, putf, X.get, mkfr, rep, rdR, tupled, clV, clS, clo, ld, lda, cs1, gb, pb, ln, undef, Nat.reduceSub, Nat.reduceAdd, true_and, s161, r161]
 exact ⟨by omega, res hK (by simp [leR])⟩
def F162 : FC := fun args => match args with
 | [.rd 1 2 g, .agg [.int .i64 d, .int .i64 x]] => match g 0, g 1 with
  | [.ifc 111 (.agg [.ints .i64 T, .ints .i64 R])], [.ifc 112 (.int .i64 age)] => some ((Tb T ∧ Rb R ∧ T.length = R.length ∧ At T x) ∧ (-1000 ≤ age ∧ age ≤ 1000) ∧ 0 ≤ d ∧ d ≤ 60, .int .i64 (itp T R x + age * d))
  | _, _ => none
 | _ => none
def s3 (a b : Int) : Nat → Int
 | 0 => 0
 | 1 => a
 | _ => a + b
theorem p162 : PureOk Try.prog 117 (fcC F162) := by
 refine pure_of (T := [(111, .fc F156), (116, .fc F161)]) ⟨⟨p156, q156⟩, ⟨p161, q161⟩, trivial⟩ Try.func117 k162 ?_
 intro args K hC
 unfold fcC F162 at hC
 split at hC <;> first | (exact hC.elim) | skip
 rename_i h
 split at h <;> first | (cases h; done) | skip
 split at h <;> first | (cases h; done) | skip
 rename_i T R age g0 g1
 cases h
 rename_i g d x _ _
 obtain ⟨⟨⟨hT, hR, hl, hx⟩, hag, hd⟩, hK⟩ := hC
 have b1 := itpB hT hR hx
 have b2 := ageB hag.1 hag.2 hd.1 hd.2
 simp only [e_reg, e_seq, e_block, e_loop, o_nil, o_cons, gd_none, putK_e, runK_e, vK_e, boxK_e, evh_v, evh_box, seqK_n, evp, gt, st, putf, X.get, mkfr, rep, lens, cs1, pb, ln, undef, Nat.reduceSub, true_and, s162, r162]
 refine loop_at2 (G := Nat) (fun i => [(10, .int .i64 i), (5, .int .i64 (s3 (itp T R x) (age * d) i))]) (fun i => [.box 82 [.int .i64 d, .int .i64 x]]) (fun i => i ≤ 2) (fun i => 2 - i) 0 (Nat.zero_le _) ?_
 (intro fr1 hf1; simp only [forget, dstC, dstO, st] at hf1; subst hf1)
 refine ⟨?_, ?_⟩
 ·refine Lw_re 1 [] (Nat.zero_le _) (by simp [ln]) (by simp [ln]) rfl ?_ ?_
  ·simp only [reL, reX, inb, inb.inbs, ln, sts, st, Bool.and_self, Nat.reduceLT, Nat.reduceAdd, decide_true, and_self, Int.natCast_zero, implies_true, s3]
  ·simp only [reL, reX, reH, reB, reN, inb, and_self]
 ·intro i hi
  rcases (show i = 0 ∨ i = 1 ∨ i = 2 by omega) with rfl | rfl | rfl
  ·have n0 : ((0 : Int) < ((2 : Nat) : Int)) = True := by simp
   simp only [condK_bt, decide_true, inr64, e_skip, e_reg, e_seq, e_cond, e_block, o_nil, o_cons, gd_none, putK_e, runK_e, vK_e, conK_e, evh_v, evh_inv, invK_e, invK2_e, lkm, loopK_n, seqK_n, blockK_n, gam_e, gamK_f, pc_e, pcK_e, fcC_e, fcK_e, evp, bin, gt, gq, st, putf, X.get, gets, clV, clL, clS, clo, ld, lda, ixs, tk, dr, gb, lk, Nat.reduceSub, beq_self_eq_true, true_and, and_true, sts, n0, Int.natCast_zero, Int.toNat_zero, g0, F156, s3]
   repeat' (first | omega | exact hT | exact hR | exact hl | exact hx | apply And.intro)
   refine Nx.mk 1 (by omega) (by omega) (Lw_re 1 [] (Nat.zero_le _) (by simp [ln]) (by simp [ln]) rfl ?_ ?_)
   ·simp only [reL, reX, inb, inb.inbs, Bool.and_self, Nat.reduceLT, decide_true, and_self, Int.natCast_one, implies_true, Int.zero_add]
   ·simp only [reL, reX, reH, reB, reN, inb, and_self]
  ·have n0 : ((1 : Int) < ((2 : Nat) : Int)) = True := by simp
   simp only [condK_bt, decide_true, inr64, e_skip, e_reg, e_seq, e_cond, e_block, o_nil, o_cons, gd_none, putK_e, runK_e, vK_e, conK_e, evh_v, evh_inv, invK_e, invK2_e, lkm, loopK_n, seqK_n, blockK_n, gam_e, gamK_f, pc_e, pcK_e, fcC_e, fcK_e, evp, bin, gt, gq, st, putf, X.get, gets, clV, clL, clS, clo, ld, lda, ixs, tk, dr, gb, lk, Nat.reduceSub, Nat.reduceBEq, beq_self_eq_true, true_and, and_true, sts, n0, Int.natCast_one, Int.toNat_one, g1, F161, s3]
   repeat' (first | omega | apply And.intro)
   refine Nx.mk 2 (by omega) (by omega) (Lw_re 1 [] (Nat.zero_le _) (by simp [ln]) (by simp [ln]) rfl ?_ ?_)
   ·simp only [reL, reX, inb, inb.inbs, Bool.and_self, Nat.reduceLT, decide_true, true_and, and_true, and_self, implies_true, Int.reduceAdd]
    rfl
   ·simp only [reL, reX, reH, reB, reN, inb, and_self]
  ·have n1 : (((2 : Nat) : Int) < ((2 : Nat) : Int)) = False := by simp
   simp only [condK_bf, decide_false, e_reg, e_seq, e_cond, e_exit, e_ret, o_nil, o_cons, gd_none, putK_e, runK_e, vK_e, evh_v, loopK_x, seqK_n, seqK_x, exitK_t, blockK_x, ends_r, endK1_e, endK2_e, evp, bin, gt, st, putf, X.get, rdR, tupled, clV, clS, clo, Nat.reduceSub, beq_self_eq_true, true_and, sts, n1, s3]
   exact res hK (by simp [leR])
end Go.Proofs.Ytlegfejimphfbaa
end
section
namespace Go.Proofs.Ytlegfejimphfbaa
open Go Go.Vg
set_option linter.unusedSimpArgs false
set_option linter.unusedVariables false
set_option maxRecDepth 10000
def s75 : SC :=
 (.seq (.reg [⟨(some 1), none, .box 76 (.t 0)⟩,
  ⟨(some 2), none, .v (.mov (.c (.lit .nilIface)))⟩])
 (.seq (.reg [⟨(some 3), none, .v (.mov (.c (.lit (.slice none 0 0))))⟩])
 (.seq (.seq (.reg [⟨(some 6), none, .v (.off (.t 1) 0)⟩,
  ⟨(some 7), none, .v (.off (.t 6) 0)⟩,
  ⟨(some 8), none, .v (.off (.t 7) 1)⟩,
  ⟨(some 9), none, .v (.load (.t 8) none)⟩,
  ⟨(some 10), none, .v (.len (.t 9))⟩,
  ⟨(some 11), none, .v (.mov (.c (.int .i64 (0))))⟩])
 (.block 0 (.loop
  (.seq (.reg [⟨(some 12), none, .v (.bin .lss (.t 11) (.t 10))⟩])
  (.seq (.cond (.t 12)
   .skip
   (.exit 0))
  (.seq (.block 1 (.seq (.reg [⟨(some 13), none, .v (.ixa (.t 9) (.t 11) 2)⟩,
   ⟨(some 14), none, .v (.load (.t 13) (some 2))⟩,
   ⟨(some 5), none, .new 25 [(.int .i64 (0)), (.int .i64 (0))]⟩,
   ⟨none, none, .store 2 (.t 5) (.t 14)⟩])
  (.reg [⟨(some 15), none, .v (.mov (.t 3))⟩,
   ⟨(some 16), none, .v (.off (.t 1) 6)⟩,
   ⟨(some 17), none, .v (.load (.t 16) none)⟩,
   ⟨(some 18), none, .v (.load (.t 5) (some 2))⟩,
   ⟨(some 19), none, .call (.t 17) [(.t 18)]⟩,
   ⟨(some 20), none, .bsl 3 1 [(.int .i64 (0))] [(0, 1, (.t 19))]⟩,
   ⟨(some 21), none, .app 3 1 8 (.t 15) (.t 20)⟩,
   ⟨(some 3), none, .v (.mov (.t 21))⟩])))
  (.reg [⟨(some 22), none, .v (.bin .add (.t 11) (.c (.int .i64 (1))))⟩,
   ⟨(some 11), none, .v (.mov (.t 22))⟩])))))))
 (.seq (.tre (.op ⟨(some 23), none, .v (.off (.t 1) 0)⟩ (.op ⟨(some 25), none, .v (.mov (.t 3))⟩ (.op ⟨(some 26), none, .v (.off (.t 1) 6)⟩ (.op ⟨(some 27), none, .v (.load (.t 26) none)⟩ (.op ⟨(some 28), none, .v (.off (.t 1) 0)⟩ (.op ⟨(some 29), none, .v (.off (.t 28) 0)⟩ (.op ⟨(some 30), none, .v (.off (.t 29) 2)⟩ (.op ⟨(some 31), none, .v (.load (.t 30) (some 2))⟩ (.op ⟨(some 24), none, .v (.load (.t 23) (some 6))⟩ (.op ⟨(some 32), none, .call (.t 27) [(.t 31)]⟩ (.op ⟨(some 33), none, .call (.c (.fn 41 [])) [(.t 24), (.t 25), (.t 32)]⟩ (.op ⟨(some 2), none, .v (.mov (.t 33))⟩ .leaf
  .stop)
  .stop)
  .stop)
  (.op ⟨(some 32), none, .call (.t 27) [(.t 31)]⟩ (.op ⟨(some 24), none, .v (.load (.t 23) (some 6))⟩ (.op ⟨(some 33), none, .call (.c (.fn 41 [])) [(.t 24), (.t 25), (.t 32)]⟩ (.op ⟨(some 2), none, .v (.mov (.t 33))⟩ .leaf
  .stop)
  .stop)
  .stop)
  .stop))
  .stop)
  .stop)
  .stop)
  .stop)
  .stop)
  .stop)
  .stop)
  .stop))
 .ret))))
def r75 : List RV := [.t 2]
theorem k75 : (Try.f34.body.bind (cC Try.prog), cR Try.prog Try.f34.results.toList, Try.f34.ntmps) = (some s75, some r75, 34) := by kernel_rfl
theorem q75 : Known Try.prog 34 := ⟨_, Try.func34, by decide, by simp [Try.f34]⟩
def s74 : SC :=
 (.seq (.reg [⟨(some 3), none, .box 76 (.t 0)⟩,
  ⟨(some 4), none, .v (.mov (.c (.int .i64 (0))))⟩])
 (.seq (.drw [(0, ⟨(some 5), none, .v (.load (.t 3) (some 7))⟩, false),
  (1, ⟨(some 6), none, .call (.c (.fn 34 [])) [(.t 5)]⟩, false),
  (2, ⟨(some 7), none, .v (.load (.t 1) none)⟩, false),
  (3, ⟨(some 8), none, .v (.load (.t 2) none)⟩, false),
  (4, ⟨(some 9), none, .bld [(.int .i64 (0)), (.int .i64 (0))] [(0, 1, (.t 7)), (1, 1, (.t 8))]⟩, false)]
  none
  [⟨(some 10), none, .inv [(111, 111), (112, 116), (114, 117)] (.t 6) [(.t 9)]⟩,
  ⟨(some 4), none, .v (.mov (.t 10))⟩])
 .ret))
def r74 : List RV := [.t 4]
theorem k74 : (Try.f33.body.bind (cC Try.prog), cR Try.prog Try.f33.results.toList, Try.f33.ntmps) = (some s74, some r74, 11) := by kernel_rfl
theorem q74 : Known Try.prog 33 := ⟨_, Try.func33, by decide, by simp [Try.f33]⟩
def sel (w : Nat) (x : Int × Int) : Int := if w = 56 then x.1 else x.2
def endsL (w : Nat) (L : List (Int × Int)) : List Int := L.map (sel w)
theorem ends_len {w : Nat} {L : List (Int × Int)} : (endsL w L).length = L.length := by simp [endsL]
theorem ends_snoc {w : Nat} {R : List (Int × Int)} {i : Nat} (h : i < R.length) : endsL w (R.take (i + 1)) = endsL w (R.take i) ++ [sel w (R.getD i (0, 0))] := by
 unfold endsL
 rw [List.take_add_one, List.getElem?_eq_getElem h, List.map_append]; simp [List.getD, h]
theorem ends_getD {w : Nat} {R : List (Int × Int)} {i : Nat} (h : i < R.length) : (endsL w R).getD i 0 = sel w (R.getD i (0, 0)) := by
 unfold endsL; simp [List.getD, h]
def F75 : FC := fun args => match args with
 | [.agg [.ints .i64 T, .rd 2 n f, .int .i64 a, .int .i64 b, .int .i64 e, .int .i64 g, .fn w []]] => some ((w = 56 ∨ w = 57) ∧ (T.length = n ∧ n ≤ 1000) ∧ ∃ R, n = R.length ∧ f = rowsS R, rateV T (endsL w (Tof n f)) (sel w (a, b)))
 | _ => none
theorem p75 : PureOk Try.prog 34 (fcC F75) := by
 refine pure_of (T := [(41, .fc F87), (56, .fc Fslow), (57, .fc Ffast)]) ⟨⟨p87, q87⟩, ⟨p101, q101⟩, ⟨p102, q102⟩, trivial⟩ Try.func34 k75 ?_
 intro args K hC
 unfold fcC F75 at hC
 split at hC <;> first | (exact hC.elim) | skip
 rename_i h
 split at h <;> first | (cases h; done) | skip
 cases h
 rename_i T n f a b e g w
 obtain ⟨⟨hw, ⟨hT, hn⟩, R, rfl, rfl⟩, hK⟩ := hC
 rw [Tof_rows] at hK
 rcases hw with rfl | rfl
 ·simp only [e_reg, e_seq, e_block, e_loop, o_nil, o_cons, gd_none, putK_e, runK_e, vK_e, boxK_e, evh_v, evh_box, seqK_n, evp, gt, gq, st, putf, X.get, mkfr, rep, ld, lda, lens, cs1, gb, pb, ln, undef, Nat.reduceSub, Nat.reduceAdd, true_and, s75, r75]
  refine loop_at2 (G := Nat) (fun i => [(11, .int .i64 i), (3, .own 1)]) (fun i => [.box 76 [.ints .i64 T, .rd 2 R.length (rowsS R), .int .i64 a, .int .i64 b, .int .i64 e, .int .i64 g, .fn 56 []], .oi .i64 3 (endsL 56 (R.take i))]) (fun i => i ≤ R.length) (fun i => R.length - i) 0 (Nat.zero_le _) ?_
  (intro fr1 hf1; simp only [forget, dstC, dstO, st] at hf1; subst hf1)
  refine ⟨?_, ?_⟩
  ·refine Lw_re 1 [none] (Nat.zero_le _) (by simp [ln]) (by simp [ln]) rfl ?_ ?_
   ·simp only [reL, reX, rn, List.getElem?_cons_zero, Nat.reduceSub, Nat.lt_irrefl, Nat.le_refl, reduceCtorEq, or_true, inb, inb.inbs, ln, sts, st, Bool.and_self, Nat.reduceLT, Nat.reduceAdd, decide_true, and_self, Int.natCast_zero, implies_true]
   ·simp only [reL, reX, reH, reB, reN, newB, inb, inb.inbs, and_self, implies_true, List.take_zero, endsL, List.map_nil]
  ·intro i hi
   by_cases hlt : i < R.length
   ·have n0 : ((i : Int) < (R.length : Int)) = True := by simp; omega
    have hs := ends_snoc (w := 56) hlt
    have hs2 := ends_snoc (w := 57) hlt
    have hl1 : (endsL 56 (R.take i)).length = i := by simp [endsL]; omega
    have hl2 : (endsL 57 (R.take i)).length = i := by simp [endsL]; omega
    simp only [condK_bt, decide_true, inr64, ↓reduceIte, e_skip, e_reg, and_self, e_seq, e_cond, e_block, o_nil, o_cons, gd_none, putK_e, runK_e, vK_e, bslK_e, storeK3_e, storeK2_e, storeK_e, appK2_oi, appK_e, conK_e, callK_e, evh_v, evh_new, evh_bsl, evh_store, evh_app, evh_call, loopK_n, seqK_n, blockK_n, gam_e, gamK_f, pc_e, pcK_e, fcC_e, fcK_e, evp, bin, gt, gq, st, putf, X.get, gets, getp, ap, clV, clL, clS, clo, ld, lda, ixs, tk, dr, sp, sp.spl, lay, ll, cs1, one, allOne, gb, sb, pb, ln, lk, Value.oneCell', Bool.and_true, Nat.reduceAdd, Nat.reduceBEq, beq_self_eq_true, true_and, and_true, sts, n0, Int.toNat_natCast, rowsS, Fslow, hl1]
    repeat refine And.intro (by first | omega | decide) ?_
    refine Nx.mk (i + 1) (by omega) (by omega) (Lw_re 1 [some 4] (Nat.zero_le _) (by simp [ln]) (by simp [ln]) rfl ?_ ?_)
    ·simp only [reL, reX, rn, List.getElem?_cons_zero, Nat.reduceSub, Nat.lt_irrefl, Nat.le_refl, and_false, or_true, inb, inb.inbs, ln, Bool.and_self, Nat.reduceLT, Nat.reduceAdd, decide_true, and_self, Int.natCast_add, Int.natCast_one, implies_true]
    ·simp only [reL, reX, reH, reB, reM, reN, gb, Nat.reduceLeDiff, inb, inb.inbs, ln, Nat.reduceLT, Nat.reduceAdd, true_and, and_true, and_self, implies_true, hs]
     rfl
   ·have n0 : ((i : Int) < (R.length : Int)) = False := by simp; omega
    have ei : i = R.length := by omega
    subst ei
    have hl1 := ends_len (w := 56) (L := R)
    have hl2 := ends_len (w := 57) (L := R)
    simp only [condK_bf, decide_false, e_reg, e_tre, t_leaf, t_stop, t_op, and_self, e_seq, e_cond, e_exit, e_ret, o_nil, o_cons, gd_none, putK_e, runK_e, vK_e, conK_e, callK_e, evh_v, evh_call, loopK_x, seqK_n, seqK_x, exitK_t, blockK_x, ends_r, endK1_e, gam_e, gamK_f, pc_e, pcK_e, fcC_e, fcK_e, evp, bin, gt, gq, st, putf, X.get, gets, ap, rdR, tupled, clV, clL, clS, clo, ld, lda, tk, dr, gb, sb, lk, Nat.reduceAdd, Nat.reduceBEq, beq_self_eq_true, true_and, and_true, sts, n0, Fslow, F87, List.take_length]
    repeat' (first | omega | (exact ⟨_, hK, by simp [leR, rateV, sel]⟩) | apply And.intro)
 ·simp only [e_reg, e_seq, e_block, e_loop, o_nil, o_cons, gd_none, putK_e, runK_e, vK_e, boxK_e, evh_v, evh_box, seqK_n, evp, gt, gq, st, putf, X.get, mkfr, rep, ld, lda, lens, cs1, gb, pb, ln, undef, Nat.reduceSub, Nat.reduceAdd, true_and, s75, r75]
  refine loop_at2 (G := Nat) (fun i => [(11, .int .i64 i), (3, .own 1)]) (fun i => [.box 76 [.ints .i64 T, .rd 2 R.length (rowsS R), .int .i64 a, .int .i64 b, .int .i64 e, .int .i64 g, .fn 57 []], .oi .i64 3 (endsL 57 (R.take i))]) (fun i => i ≤ R.length) (fun i => R.length - i) 0 (Nat.zero_le _) ?_
  (intro fr1 hf1; simp only [forget, dstC, dstO, st] at hf1; subst hf1)
  refine ⟨?_, ?_⟩
  ·refine Lw_re 1 [none] (Nat.zero_le _) (by simp [ln]) (by simp [ln]) rfl ?_ ?_
   ·simp only [reL, reX, rn, List.getElem?_cons_zero, Nat.reduceSub, Nat.lt_irrefl, Nat.le_refl, reduceCtorEq, or_true, inb, inb.inbs, ln, sts, st, Bool.and_self, Nat.reduceLT, Nat.reduceAdd, decide_true, and_self, Int.natCast_zero, implies_true]
   ·simp only [reL, reX, reH, reB, reN, newB, inb, inb.inbs, and_self, implies_true, List.take_zero, endsL, List.map_nil]
  ·intro i hi
   by_cases hlt : i < R.length
   ·have n0 : ((i : Int) < (R.length : Int)) = True := by simp; omega
    have hs := ends_snoc (w := 56) hlt
    have hs2 := ends_snoc (w := 57) hlt
    have hl1 : (endsL 56 (R.take i)).length = i := by simp [endsL]; omega
    have hl2 : (endsL 57 (R.take i)).length = i := by simp [endsL]; omega
    simp only [condK_bt, decide_true, inr64, ↓reduceIte, e_skip, e_reg, and_self, e_seq, e_cond, e_block, o_nil, o_cons, gd_none, putK_e, runK_e, vK_e, bslK_e, storeK3_e, storeK2_e, storeK_e, appK2_oi, appK_e, conK_e, callK_e, evh_v, evh_new, evh_bsl, evh_store, evh_app, evh_call, loopK_n, seqK_n, blockK_n, gam_e, gamK_f, pc_e, pcK_e, fcC_e, fcK_e, evp, bin, gt, gq, st, putf, X.get, gets, getp, ap, clV, clL, clS, clo, ld, lda, ixs, tk, dr, sp, sp.spl, lay, ll, cs1, one, allOne, gb, sb, pb, ln, lk, Value.oneCell', Bool.and_true, Nat.reduceAdd, Nat.reduceBEq, beq_self_eq_true, true_and, and_true, sts, n0, Int.toNat_natCast, rowsS, Ffast, hl2]
    repeat refine And.intro (by first | omega | decide) ?_
    refine Nx.mk (i + 1) (by omega) (by omega) (Lw_re 1 [some 4] (Nat.zero_le _) (by simp [ln]) (by simp [ln]) rfl ?_ ?_)
    ·simp only [reL, reX, rn, List.getElem?_cons_zero, Nat.reduceSub, Nat.lt_irrefl, Nat.le_refl, and_false, or_true, inb, inb.inbs, ln, Bool.and_self, Nat.reduceLT, Nat.reduceAdd, decide_true, and_self, Int.natCast_add, Int.natCast_one, implies_true]
    ·simp only [reL, reX, reH, reB, reM, reN, gb, Nat.reduceLeDiff, inb, inb.inbs, ln, Nat.reduceLT, Nat.reduceAdd, true_and, and_true, and_self, implies_true, hs2]
     rfl
   ·have n0 : ((i : Int) < (R.length : Int)) = False := by simp; omega
    have ei : i = R.length := by omega
    subst ei
    have hl1 := ends_len (w := 56) (L := R)
    have hl2 := ends_len (w := 57) (L := R)
    simp only [condK_bf, decide_false, e_reg, e_tre, t_leaf, t_stop, t_op, and_self, e_seq, e_cond, e_exit, e_ret, o_nil, o_cons, gd_none, putK_e, runK_e, vK_e, conK_e, callK_e, evh_v, evh_call, loopK_x, seqK_n, seqK_x, exitK_t, blockK_x, ends_r, endK1_e, gam_e, gamK_f, pc_e, pcK_e, fcC_e, fcK_e, evp, bin, gt, gq, st, putf, X.get, gets, ap, rdR, tupled, clV, clL, clS, clo, ld, lda, tk, dr, gb, sb, lk, Nat.reduceAdd, Nat.reduceBEq, beq_self_eq_true, true_and, and_true, sts, n0, Ffast, F87, List.take_length]
    repeat' (first | omega | (exact ⟨_, hK, by simp [leR, rateV, sel]⟩) | apply And.intro)
structure Eo (T : List Int) (R : List (Int × Int)) (a b : Int) (w : Nat) : Prop where
 ww : w = 56 ∨ w = 57
 len : T.length = R.length
 tb : Tb T
 rb : Rb (endsL w R)
 ag : (-1000 ≤ a ∧ a ≤ 1000) ∧ -1000 ≤ b ∧ b ≤ 1000
def rte (T : List Int) (R : List (Int × Int)) (a b : Int) (w : Nat) (x d : Int) : Int := itp T (endsL w R) x + sel w (a, b) * d
theorem Eo.selB {T : List Int} {R : List (Int × Int)} {a b : Int} {w : Nat} (h : Eo T R a b w) : -1000 ≤ sel w (a, b) ∧ sel w (a, b) ≤ 1000 := by
 have := h.ag
 unfold sel; split <;> simp only <;> omega
theorem Eo.rteB {T : List Int} {R : List (Int × Int)} {a b : Int} {w : Nat} (h : Eo T R a b w) {x d : Int} (hx : At T x) (hd : 0 ≤ d ∧ d ≤ 60) : -160000 ≤ rte T R a b w x d ∧ rte T R a b w x d ≤ 160000 := by
 have b1 := itpB h.tb h.rb hx
 have b2 := ageB h.selB.1 h.selB.2 hd.1 hd.2
 unfold rte; omega
def F74 : FC := fun args => match args with
 | [.agg [.ints .i64 T, .rd 2 n f, .int .i64 a, .int .i64 b, .int .i64 e, .int .i64 g, .fn w []], .rp [.int .i64 d] 0, .rp [.int .i64 x] 0] =>
  some ((∃ R, n = R.length ∧ f = rowsS R) ∧ Eo T (Tof n f) a b w ∧ At T x ∧ 0 ≤ d ∧ d ≤ 60, .int .i64 (rte T (Tof n f) a b w x d))
 | _ => none
theorem p74 : PureOk Try.prog 33 (fcC F74) := by
 refine pure_of (T := [(34, .fc F75), (117, .fc F162)]) ⟨⟨p75, q75⟩, ⟨p162, q162⟩, trivial⟩ Try.func33 k74 ?_
 intro args K hC
 unfold fcC F74 at hC
 split at hC <;> first | (exact hC.elim) | skip
 rename_i h
 split at h <;> first | (cases h; done) | skip
 cases h
 rename_i T n f a b e g w d x
 obtain ⟨⟨⟨R, rfl, rfl⟩, hE, hx, hd⟩, hK⟩ := hC
 rw [Tof_rows] at hK hE
 have hl := hE.tb.len
 have hle := hE.len
 have hel := ends_len (w := w) (L := R)
 have hsB := hE.selB
 simp only [↓reduceIte, e_reg, e_drw, e_seq, e_ret, o_nil, o_cons, gd_none, putK_e, runK_e, vK_e, boxK_e, conK_e, evh_v, evh_box, evh_inv, invK_e, invK2_e, lkm, dX_e, dG_t, d_nil, d_cons, tlK_n, seqK_n, ends_r, endK1_e, endK2_e, gam_e, gamK_f, gamq_e, gamqK_f, pc_e, pcK_e, fcC_e, fcK_e, evp, gt, gq, st, putf, X.get, gets, getp, ap, mkfr, rep, rdR, tupled, clV, clL, clS, clo, clo.clos, ld, lda, tk, dr, sp, sp.spl, lay, ll, cs1, one, gb, pb, ln, lk, evq, gdl, undef, Bool.and_true, Nat.reduceSub, Nat.reduceAdd, Nat.reduceBEq, beq_self_eq_true, true_and, s74, r74, F75, Tof_rows, rateV, F162, row2_0, row2_1]
 refine ⟨⟨hE.ww, ⟨hle, by omega⟩, R, rfl, rfl⟩, ⟨⟨hE.tb, hE.rb, by omega, hx⟩, hsB, hd⟩, res hK (by simp [leR, rte])⟩
end Go.Proofs.Ytlegfejimphfbaa
end
