/- SextantGraded: the fault is the greatest width, and the class is the fault's, for all arguments, given works(). -/
import Derived.Test.YtjagiieconpgbaaVgEC
namespace Go.Proofs.Ytjagiieconpgbaa
open Go Go.Vg
set_option linter.unusedSimpArgs false
set_option linter.unusedVariables false
set_option maxRecDepth 10000
/- 12: octant/octantlaw05.SextantGraded -/
def s12 : SC :=
  (.seq (.reg [⟨(some 2), none, .box 26 (.t 0)⟩,
    ⟨(some 3), none, .box 28 (.t 1)⟩,
    ⟨(some 4), none, .v (.mov (.c (.lit (.bool false))))⟩])
  (.seq (.reg [⟨(some 15), none, .v (.load (.t 2) (some 6))⟩,
    ⟨(some 16), none, .call (.c (.fn 19 [])) [(.t 15)]⟩,
    ⟨(some 14), none, .v (.mov (.t 16))⟩,
    ⟨(some 17), none, .v (.ext (.t 14) 0)⟩,
    ⟨(some 18), none, .v (.ext (.t 14) 1)⟩,
    ⟨(some 19), none, .v (.ext (.t 14) 2)⟩,
    ⟨(some 5), none, .v (.mov (.t 17))⟩,
    ⟨(some 6), none, .v (.mov (.t 18))⟩,
    ⟨(some 7), none, .v (.mov (.t 19))⟩])
  (.seq (.reg [⟨(some 21), none, .v (.load (.t 2) (some 6))⟩,
    ⟨(some 22), none, .v (.load (.t 3) (some 2))⟩,
    ⟨(some 23), none, .call (.c (.fn 15 [])) [(.t 21), (.t 22)]⟩,
    ⟨(some 20), none, .v (.mov (.t 23))⟩,
    ⟨(some 24), none, .v (.ext (.t 20) 0)⟩,
    ⟨(some 25), none, .v (.ext (.t 20) 1)⟩,
    ⟨(some 8), none, .new 24 [(.int .i64 (0)), (.int .i64 (0))]⟩,
    ⟨none, none, .store 2 (.t 8) (.t 24)⟩,
    ⟨(some 9), none, .v (.mov (.t 25))⟩])
  (.seq (.seq (.reg [⟨(some 26), none, .v (.mov (.t 7))⟩,
    ⟨(some 27), none, .v (.bin .neq (.t 26) (.c (.int .i64 (0))))⟩,
    ⟨(some 28), none, .v (.mov (.t 27))⟩,
    ⟨(some 29), (some (28, false)), .v (.load (.t 2) (some 6))⟩,
    ⟨(some 30), (some (28, false)), .call (.c (.fn 32 [])) [(.t 29)]⟩,
    ⟨(some 31), (some (28, false)), .v (.not (.t 30))⟩,
    ⟨(some 32), none, .v (.pick (.t 28) (.c (.lit (.bool true))) (.t 31))⟩])
  (.cond (.t 32)
    (.seq (.reg [⟨(some 33), none, .v (.mov (.t 7))⟩,
      ⟨(some 34), none, .v (.bin .neq (.t 33) (.c (.int .i64 (0))))⟩,
      ⟨(some 35), none, .v (.mov (.t 34))⟩,
      ⟨(some 36), (some (35, true)), .v (.mov (.t 5))⟩,
      ⟨(some 37), (some (35, true)), .v (.bin .eql (.t 36) (.c (.int .i64 (0))))⟩,
      ⟨(some 38), none, .v (.pick (.t 35) (.t 37) (.c (.lit (.bool false))))⟩,
      ⟨(some 39), none, .v (.mov (.t 38))⟩,
      ⟨(some 40), (some (39, true)), .v (.mov (.t 6))⟩,
      ⟨(some 41), (some (39, true)), .v (.bin .eql (.t 40) (.c (.int .i64 (0))))⟩,
      ⟨(some 42), none, .v (.pick (.t 39) (.t 41) (.c (.lit (.bool false))))⟩,
      ⟨(some 43), none, .v (.mov (.t 42))⟩,
      ⟨(some 44), (some (43, true)), .v (.mov (.t 9))⟩,
      ⟨(some 45), (some (43, true)), .v (.mov (.t 7))⟩,
      ⟨(some 46), (some (43, true)), .v (.bin .eql (.t 44) (.t 45))⟩,
      ⟨(some 47), none, .v (.pick (.t 43) (.t 46) (.c (.lit (.bool false))))⟩,
      ⟨(some 48), none, .v (.mov (.t 47))⟩,
      ⟨(some 49), (some (48, true)), .call (.c (.fn 21 [])) []⟩,
      ⟨(some 50), none, .v (.pick (.t 48) (.t 49) (.c (.lit (.bool false))))⟩,
      ⟨(some 4), none, .v (.mov (.t 50))⟩])
    .ret)
    .skip))
  (.seq (.seq (.reg [⟨(some 51), none, .v (.mov (.t 9))⟩,
    ⟨(some 52), none, .v (.bin .eql (.t 51) (.c (.int .i64 (0))))⟩,
    ⟨(some 53), none, .v (.mov (.t 52))⟩,
    ⟨(some 54), (some (53, true)), .v (.off (.t 8) 1)⟩,
    ⟨(some 55), (some (53, true)), .v (.load (.t 54) none)⟩,
    ⟨(some 56), (some (53, true)), .v (.off (.t 8) 0)⟩,
    ⟨(some 57), (some (53, true)), .v (.load (.t 56) none)⟩,
    ⟨(some 58), (some (53, true)), .v (.bin .sub (.t 55) (.t 57))⟩,
    ⟨(some 59), (some (53, true)), .v (.mov (.t 6))⟩,
    ⟨(some 60), (some (53, true)), .v (.bin .gtr (.t 58) (.t 59))⟩,
    ⟨(some 61), none, .v (.pick (.t 53) (.t 60) (.c (.lit (.bool false))))⟩])
  (.cond (.t 61)
    (.seq (.reg [⟨(some 4), none, .v (.mov (.c (.lit (.bool false))))⟩])
    .ret)
    .skip))
  (.seq (.reg [⟨(some 10), none, .v (.mov (.c (.lit (.bool false))))⟩])
  (.seq (.seq (.reg [⟨(some 11), none, .v (.mov (.c (.int .i64 (0))))⟩])
  (.block 0 (.loop
    (.seq (.seq (.reg [⟨(some 62), none, .v (.mov (.t 11))⟩,
      ⟨(some 63), none, .v (.off (.t 2) 1)⟩,
      ⟨(some 64), none, .v (.load (.t 63) none)⟩,
      ⟨(some 65), none, .v (.len (.t 64))⟩,
      ⟨(some 66), none, .v (.bin .lss (.t 62) (.t 65))⟩])
    (.cond (.t 66)
      .skip
      (.exit 0)))
    (.seq (.block 1 (.seq (.tre (.op ⟨(some 70), none, .v (.load (.t 2) (some 6))⟩ (.op ⟨(some 71), none, .v (.mov (.t 11))⟩ (.op ⟨(some 72), none, .v (.off (.t 2) 0)⟩ (.op ⟨(some 73), none, .v (.load (.t 72) none)⟩ (.op ⟨(some 74), none, .v (.bin .mul (.t 71) (.t 73))⟩ (.op ⟨(some 75), none, .v (.off (.t 2) 5)⟩ (.op ⟨(some 76), none, .v (.load (.t 75) none)⟩ (.op ⟨(some 77), none, .v (.len (.t 76))⟩ (.op ⟨(some 78), none, .v (.bin .shl (.c (.int .i64 (1))) (.t 77))⟩ (.op ⟨(some 79), none, .v (.bin .sub (.t 78) (.c (.int .i64 (1))))⟩ (.op ⟨(some 80), none, .bld [(.int .i64 (0)), (.int .i64 (0))] [(0, 1, (.t 74)), (1, 1, (.t 79))]⟩ (.op ⟨(some 81), none, .call (.c (.fn 15 [])) [(.t 70), (.t 80)]⟩ (.op ⟨(some 69), none, .v (.mov (.t 81))⟩ (.op ⟨(some 82), none, .v (.ext (.t 69) 0)⟩ (.op ⟨(some 83), none, .v (.ext (.t 69) 1)⟩ (.op ⟨(some 12), none, .new 24 [(.int .i64 (0)), (.int .i64 (0))]⟩ (.op ⟨none, none, .store 2 (.t 12) (.t 82)⟩ (.op ⟨(some 13), none, .v (.mov (.t 83))⟩ .leaf
    .stop)
    .stop)
    .stop)
    .stop)
    .stop)
    .stop)
    (.op ⟨(some 12), none, .new 24 [(.int .i64 (0)), (.int .i64 (0))]⟩ (.op ⟨(some 81), none, .call (.c (.fn 15 [])) [(.t 70), (.t 80)]⟩ (.op ⟨(some 69), none, .v (.mov (.t 81))⟩ (.op ⟨(some 82), none, .v (.ext (.t 69) 0)⟩ (.op ⟨(some 83), none, .v (.ext (.t 69) 1)⟩ (.op ⟨none, none, .store 2 (.t 12) (.t 82)⟩ (.op ⟨(some 13), none, .v (.mov (.t 83))⟩ .leaf
    .stop)
    .stop)
    .stop)
    .stop)
    .stop)
    .stop)
    .stop))
    .stop)
    .stop)
    .stop)
    .stop)
    .stop)
    .stop)
    .stop)
    .stop)
    .stop)
    .stop)
    .stop))
    (.seq (.seq (.reg [⟨(some 84), none, .v (.mov (.t 13))⟩,
      ⟨(some 85), none, .v (.bin .neq (.t 84) (.c (.int .i64 (0))))⟩,
      ⟨(some 86), none, .v (.mov (.t 85))⟩,
      ⟨(some 87), (some (86, false)), .v (.off (.t 12) 1)⟩,
      ⟨(some 88), (some (86, false)), .v (.load (.t 87) none)⟩,
      ⟨(some 89), (some (86, false)), .v (.off (.t 12) 0)⟩,
      ⟨(some 90), (some (86, false)), .v (.load (.t 89) none)⟩,
      ⟨(some 91), (some (86, false)), .v (.bin .sub (.t 88) (.t 90))⟩,
      ⟨(some 92), (some (86, false)), .v (.mov (.t 6))⟩,
      ⟨(some 93), (some (86, false)), .v (.bin .gtr (.t 91) (.t 92))⟩,
      ⟨(some 94), none, .v (.pick (.t 86) (.c (.lit (.bool true))) (.t 93))⟩])
    (.cond (.t 94)
      (.seq (.reg [⟨(some 4), none, .v (.mov (.c (.lit (.bool false))))⟩])
      .ret)
      .skip))
    (.reg [⟨(some 95), none, .v (.mov (.t 10))⟩,
      ⟨(some 96), none, .v (.mov (.t 95))⟩,
      ⟨(some 97), (some (96, false)), .v (.off (.t 12) 1)⟩,
      ⟨(some 98), (some (96, false)), .v (.load (.t 97) none)⟩,
      ⟨(some 99), (some (96, false)), .v (.off (.t 12) 0)⟩,
      ⟨(some 100), (some (96, false)), .v (.load (.t 99) none)⟩,
      ⟨(some 101), (some (96, false)), .v (.bin .sub (.t 98) (.t 100))⟩,
      ⟨(some 102), (some (96, false)), .v (.mov (.t 6))⟩,
      ⟨(some 103), (some (96, false)), .v (.bin .eql (.t 101) (.t 102))⟩,
      ⟨(some 104), none, .v (.pick (.t 96) (.c (.lit (.bool true))) (.t 103))⟩,
      ⟨(some 10), none, .v (.mov (.t 104))⟩]))))
    (.reg [⟨(some 67), none, .v (.mov (.t 11))⟩,
      ⟨(some 68), none, .v (.bin .add (.t 67) (.c (.int .i64 (1))))⟩,
      ⟨(some 11), none, .v (.mov (.t 68))⟩]))))))
  (.seq (.reg [⟨(some 105), none, .v (.mov (.t 10))⟩,
    ⟨(some 106), none, .v (.mov (.t 105))⟩,
    ⟨(some 107), (some (106, true)), .v (.mov (.t 5))⟩,
    ⟨(some 108), (some (106, true)), .v (.bin .eql (.t 107) (.c (.int .i64 (1))))⟩,
    ⟨(some 109), (some (106, true)), .v (.mov (.t 6))⟩,
    ⟨(some 110), (some (106, true)), .v (.bin .leq (.t 109) (.c (.int .i64 (40))))⟩,
    ⟨(some 111), (some (106, true)), .v (.binb .eql (.t 108) (.t 110))⟩,
    ⟨(some 112), none, .v (.pick (.t 106) (.t 111) (.c (.lit (.bool false))))⟩,
    ⟨(some 113), none, .v (.mov (.t 112))⟩,
    ⟨(some 114), (some (113, true)), .v (.mov (.t 5))⟩,
    ⟨(some 115), (some (113, true)), .v (.bin .eql (.t 114) (.c (.int .i64 (3))))⟩,
    ⟨(some 116), (some (113, true)), .v (.mov (.t 6))⟩,
    ⟨(some 117), (some (113, true)), .v (.bin .gtr (.t 116) (.c (.int .i64 (200))))⟩,
    ⟨(some 118), (some (113, true)), .v (.binb .eql (.t 115) (.t 117))⟩,
    ⟨(some 119), none, .v (.pick (.t 113) (.t 118) (.c (.lit (.bool false))))⟩,
    ⟨(some 120), none, .v (.mov (.t 119))⟩,
    ⟨(some 121), (some (120, true)), .v (.mov (.t 5))⟩,
    ⟨(some 122), (some (120, true)), .call (.c (.fn 33 [])) [(.t 121), (.c (.int .i64 (1))), (.c (.int .i64 (3)))]⟩,
    ⟨(some 123), none, .v (.pick (.t 120) (.t 122) (.c (.lit (.bool false))))⟩,
    ⟨(some 124), none, .v (.mov (.t 123))⟩,
    ⟨(some 125), (some (124, true)), .call (.c (.fn 21 [])) []⟩,
    ⟨(some 126), none, .v (.pick (.t 124) (.t 125) (.c (.lit (.bool false))))⟩,
    ⟨(some 4), none, .v (.mov (.t 126))⟩])
  .ret))))))))
def r12 : List RV := [.t 4]
def n12 : Nat := 127
theorem k12 : (Try.f12.body.bind (cC Try.prog), cR Try.prog Try.f12.results.toList, Try.f12.ntmps) = (some s12, some r12, 127) := by kernel_rfl
theorem q12 : Known Try.prog 12 := ⟨_, Try.func12, by decide, by simp [Try.f12]⟩


theorem bit_all : ∀ m, m < 7 → ∀ i, i < m → (((2 ^ m : Nat) : Int) - 1) / ((2 ^ i : Nat) : Int) % 2 = 1 := by decide
/-- How wide the span of a reading is. -/
def wid (p : Int × Int) : Int := p.2 - p.1
theorem shdW {v : Sx} (hok : v.ok) (set : Int) : ∀ i, i ≤ v.S.length → wid (shd v set i) ≤ wid (shd v v.all i)
  | 0, _ => Int.le_refl _
  | i + 1, h => by
    have h1 := shdW hok set i (by omega)
    have h2 := spS (by omega) hok.2.2.2.2 i
    have h6 := hok.2.2.2.1
    have hb : v.all / ((2 ^ i : Nat) : Int) % 2 = 1 := bit_all v.S.length (by omega) i (by omega)
    simp only [shd, if_pos hb]
    unfold wid at h1 ⊢
    split <;> first | (simp only; omega) | omega
theorem corW {s x y X Y d M : Int} (hs : 0 < s) (h0 : 0 ≤ d) (h1 : d < s) (hx : X - x ≤ M) (hy : d ≠ 0 → Y - y ≤ M) : cor s X Y d - cor s x y d ≤ M := by
  unfold cor
  by_cases hd : d = 0
  · rw [if_pos hd, if_pos hd]; exact hx
  · rw [if_neg hd, if_neg hd]
    have a1 := Int.mul_le_mul_of_nonneg_right hx (show 0 ≤ s - d by omega)
    have a2 := Int.mul_le_mul_of_nonneg_right (hy hd) h0
    rw [Int.sub_mul] at a1 a2
    have e : M * (s - d) + M * d = M * s := by rw [← Int.mul_add]; congr 1; omega
    have h2 : (X * (s - d) + Y * d) / s ≤ ((x * (s - d) + y * d) + M * s) / s := Int.ediv_le_ediv hs (by omega)
    rw [Int.add_mul_ediv_right _ _ (by omega)] at h2
    omega
theorem wd_wid {v : Sx} (hok : v.ok) {k : Nat} : wid (wd v k) = (v.b - v.a) + (hi v.T k - lo v.T k) + wid (shd v v.all v.S.length) := by
  have hs := hok.1.1
  have e1 : ((k : Int) * v.step) / v.step = k := Int.mul_ediv_cancel _ (by omega)
  have e2 : ((k : Int) * v.step) % v.step = 0 := Int.mul_emod_left _ _
  unfold wid wd rdS corE kk
  simp only [e1, e2, cor, if_pos, Int.toNat_natCast]
  omega
theorem mxW_ge {v : Sx} : ∀ {n k : Nat}, k < n → wid (wd v k) ≤ mxW v n
  | 0, k, h => by omega
  | n + 1, k, h => by
    rw [mxW_s]
    by_cases hk : k = n
    · subst hk
      unfold wid
      split <;> omega
    · have := mxW_ge (v := v) (n := n) (k := k) (by omega)
      unfold wid at this ⊢
      split <;> omega
theorem wid_nn {v : Sx} (hok : v.ok) {k : Nat} : 0 ≤ wid (wd v k) := by
  rw [wd_wid hok]
  have h1 := spS (by omega) hok.1.2.2.1 k
  have h2 := hok.2.1
  have h3 : ∀ i, 0 ≤ wid (shd v v.all i) := fun i => by
    induction i with
    | zero => have := hok.2.2.1; unfold wid; simp only [shd]; omega
    | succ i ih =>
      have := spS (by omega) hok.2.2.2.2 i
      unfold wid at ih ⊢
      simp only [shd]
      split <;> first | (simp only; omega) | omega
  have := h3 v.S.length
  omega
theorem mxW_at {v : Sx} (hok : v.ok) : ∀ {n : Nat}, 0 < n → ∃ k, k < n ∧ wid (wd v k) = mxW v n
  | 0, h => by omega
  | n + 1, _ => by
    rw [mxW_s]
    by_cases h : mxW v n < (wd v n).2 - (wd v n).1
    · rw [if_pos h]; exact ⟨n, by omega, rfl⟩
    · rw [if_neg h]
      by_cases hn : n = 0
      · subst hn
        refine ⟨0, by omega, ?_⟩
        have := wid_nn hok (k := 0)
        rw [mxW_0] at h ⊢
        unfold wid at this ⊢; omega
      · obtain ⟨k, h1, h2⟩ := mxW_at hok (n := n) (by omega)
        exact ⟨k, by omega, h2⟩
theorem rdS_wid {v : Sx} (hok : v.ok) {x set : Int} (hr : v.rdg x set) : wid (rdS v x set) ≤ mxW v v.T.length := by
  obtain ⟨_, ⟨hd0, hd1⟩, _, _, hk, hk1⟩ := rdgK hok hr
  have hs := hok.1.1
  have h1 := shdW hok set v.S.length (Nat.le_refl _)
  have m1 := mxW_ge (v := v) hk
  rw [wd_wid hok] at m1
  have hc : (corE v x).2 - (corE v x).1 ≤ mxW v v.T.length - (v.b - v.a) - wid (shd v v.all v.S.length) := by
    unfold corE
    refine corW (by omega) hd0 hd1 (by omega) fun h => ?_
    have m2 := mxW_ge (v := v) (hk1 h)
    rw [wd_wid hok] at m2
    omega
  have e : wid (rdS v x set) = (v.b - v.a) + ((corE v x).2 - (corE v x).1) + wid (shd v set v.S.length) := by unfold wid rdS; simp only; omega
  omega
/-- Whether a fault was met so far. -/
def mt (v : Sx) : Nat → Bool
  | 0 => false
  | i + 1 => mt v i || decide ((wd v i).2 - (wd v i).1 = mxW v v.T.length)
theorem mt_true {v : Sx} : ∀ {n k : Nat}, k < n → wid (wd v k) = mxW v v.T.length → mt v n = true
  | 0, k, h, _ => by omega
  | n + 1, k, h, e => by
    unfold mt
    by_cases hk : k = n
    · subst hk; unfold wid at e; rw [decide_eq_true e]; simp
    · rw [mt_true (n := n) (k := k) (by omega) e]; simp
def C12 : PC := fun args K => ∃ (v : Sx) (x set : Int), args = [v.sv, .agg [.int .i64 x, .int .i64 set]] ∧ K (.lit (.bool true))
theorem okS {v : Sx} (hok : v.ok) : v.S.length ≤ 6 ∧ 2 ≤ v.T.length ∧ v.T.length ≤ 12 ∧ 1 ≤ v.step ∧ v.step ≤ 72000 := ok_all hok
theorem rd_no {v : Sx} (h : ¬ v.ok) (x set : Int) : rdV v x set = (0, 0) ∧ rdE v x set = 50 := by
  unfold rdV rdE
  rw [if_neg fun hh => h hh.1, if_neg h]; exact ⟨rfl, rfl⟩
theorem rd_ok {v : Sx} (h : v.ok) {x set : Int} (hr : v.rdg x set) : rdV v x set = rdS v x set ∧ rdE v x set = 0 := by
  unfold rdV rdE
  rw [if_pos ⟨h, hr⟩, if_pos h, if_pos hr]; exact ⟨rfl, rfl⟩
theorem rd_ok' {v : Sx} (h : v.ok) {x set : Int} (hr : ¬ v.rdg x set) : rdV v x set = (0, 0) ∧ rdE v x set = 51 := by
  unfold rdV rdE
  rw [if_neg fun hh => hr hh.2, if_pos h, if_neg hr]; exact ⟨rfl, rfl⟩
theorem mt_0 {v : Sx} : mt v 0 = false := rfl
theorem mt_s {v : Sx} {i : Nat} : mt v (i + 1) = (mt v i || decide ((wd v i).2 - (wd v i).1 = mxW v v.T.length)) := rfl
theorem wid_eq {p : Int × Int} : wid p = p.2 - p.1 := rfl
attribute [local irreducible] wd bst mxW lsW clC clF Sx.chk Sx.ok Sx.sv Sx.all rdV rdE wid mt
set_option maxHeartbeats 1000000 in
theorem p12 (p21 : PureOk Try.prog 21 (fcC F21)) (q21 : Known Try.prog 21) : PureOk Try.prog 12 C12 := by
  refine pure_of (T := [(19, .pc C19), (15, .pc C15), (32, .pc C32), (33, .fc Fin), (21, .fc F21)])
    ⟨⟨p19, q19⟩, ⟨p15, q15⟩, ⟨p32, q32⟩, ⟨p33, q33⟩, ⟨p21, q21⟩, trivial⟩ Try.func12 k12 ?_
  rintro args K ⟨v, x, set, rfl, hK⟩
  have fin : ∃ r', K r' ∧ leR 4 (.lit (.bool true)) r' := res hK (by simp [leR])
  have hbt : IntKind.i64.bits = 64 := rfl
  rw [Sx.sv_eq]
  simp only [e_reg, e_seq, o_nil, o_cons, gd_none, putK_e, runK_e, vK_e, boxK_e, conK_e, callK_e, evh_v, evh_box, evh_call, seqK_n, gam_e, gamK_p, pc_e, pcK_e, evp, gt, st, putf, X.get, gets, ap, mkfr, rep, clV, clL, clS, clo, ld, lda, tk, dr, cs1, gb, pb, ln, lk, undef, Nat.reduceSub, Nat.reduceAdd, beq_self_eq_true, true_and, s12, r12]
  refine ⟨v, by rw [Sx.sv_eq], ?_⟩
  by_cases hok : v.ok
  · rw [clC_ok hok, clF_ok hok, chk_ok' hok]
    obtain ⟨hm0, hm1⟩ := mxW_le hok v.T.length (Nat.le_refl _)
    have hle : rdE v x set = 0 → wid (rdV v x set) ≤ mxW v v.T.length := fun h => by
      obtain ⟨_, hr⟩ := rdE_eq.1 h
      rw [(rd_ok hok hr).1]; exact rdS_wid hok hr
    have hbd := rdV_bnd v x set
    have hwid : wid (rdV v x set) = (rdV v x set).2 - (rdV v x set).1 := by unfold wid; rfl
    have hfb : rdE v x set = 0 ∨ rdE v x set = 51 := by
      by_cases hr : v.rdg x set
      · exact .inl (rd_ok hok hr).2
      · exact .inr (rd_ok' hok hr).2
    obtain ⟨o1, o2, o3, o4, o5⟩ := okS hok
    have hpw := pow6 o1
    simp only [e_reg, e_seq, o_nil, o_cons, gd_none, putK_e, runK_e, vK_e, conK_e, callK_e, evh_v, evh_call, seqK_n, gam_e, gamK_p, pc_e, pcK_e, evp, gt, gq, st, putf, X.get, gets, ap, clV, clL, clS, clo, ld, lda, tk, dr, gb, lk, Nat.reduceBEq, beq_self_eq_true, true_and]
    refine ⟨v, x, set, by rw [Sx.sv_eq], ?_⟩
    rw [hwid] at hle
    generalize (rdV v x set).1 = A at hle hbd ⊢
    generalize (rdV v x set).2 = B at hle hbd ⊢
    generalize rdE v x set = f at hle hfb ⊢
    have z : (0 : Int) = 0 := rfl
    have key : ∀ (fr : List SV), True := fun _ => trivial
    simp only [gdK_bff, decide_true, e_reg, and_self, e_seq, o_nil, o_cons, gd_none, gd_some, gdK_ff, putK_e, runK_e, vK_e, storeK3_e, storeK2_e, storeK_e, conK_e, callK_e, evh_v, evh_new, evh_store, evh_call, seqK_n, gam_e, gamK_p, pc_e, pcK_e, evp, bin, gt, gq, st, putf, X.get, gets, ap, clV, clL, clS, clo, ld, lda, tk, dr, sp, sp.spl, ll, cs1, one, allOne, gb, sb, pb, ln, lk, Bool.and_true, Bool.not_true, Nat.reduceAdd, Nat.reduceBEq, beq_self_eq_true, true_and]
    refine ⟨v, by rw [Sx.sv_eq], ?_⟩
    rw [decide_eq_true hok]
    rcases hfb with hf | hf
    · subst hf
      have hle' : (mxW v v.T.length < B - A) = False := by simp only [eq_iff_iff, iff_false]; have := hle rfl; omega
      simp only [gdK_btt, condK_bf, decide_true, decide_false, inr64, e_skip, e_reg, e_seq, e_cond, e_block, e_loop, o_nil, o_cons, gd_none, gd_some, gdK_tt, putK_e, runK_e, vK_e, evh_v, seqK_n, evp, bin, gt, gq, st, putf, X.get, ld, lda, gb, Bool.not_true, Nat.reduceAdd, true_and, hle']
      refine ⟨by omega, ?_⟩
      refine loop_at2 (G := Nat) (fun i => [(11, .int .i64 i), (10, .bool (mt v i))])
          (fun i => [.box 26 [.int .i64 v.step, .rd 2 v.T.length (rowsS v.T), .int .i64 v.a, .int .i64 v.b, .int .i64 v.w, .rd 2 v.S.length (rowsS v.S)], .box 28 [.int .i64 x, .int .i64 set], .box 24 [.int .i64 A, .int .i64 B]]) (fun i => i ≤ v.T.length) (fun i => v.T.length - i) 0 (Nat.zero_le _) ?_
      (intro fr1 hf1; simp only [forget, dstC, dstT, dstO, dst1, st] at hf1; subst hf1)
      refine ⟨?_, ?_⟩
      · refine Lw_re 3 [] (Nat.zero_le _) (by simp [ln]) (by simp [ln]) rfl ?_ ?_
        · simp only [reL, reX, inb, inb.inbs, ln, sts, st, Bool.and_self, Nat.reduceLT, Nat.reduceAdd, decide_true, and_self, Int.natCast_zero, mt_0]
        · simp only [reL, reX, reH, reB, reN, inb, and_self, implies_true]
      · intro i hi1
        by_cases ha : i < v.T.length
        · have hr := (rdg_at hok ha).1
          have e1 := rdV_at hok ha
          have e2 := rdE_at hok ha
          have hwb := wd_bnd hok ha
          have hal := @all_eq v
          have hb := stepB (s := v.step) (n := v.T.length) ⟨o4, o5⟩ ⟨by omega, by omega⟩
          have hge : (mxW v v.T.length < (wd v i).2 - (wd v i).1) = False := by
            simp only [eq_iff_iff, iff_false]; have := mxW_ge (v := v) ha; rw [wid_eq] at this; omega
          have hia : ((i : Int) < v.T.length) = True := by simp [ha]
          simp only [condK_bt, decide_true, inr64, ↓reduceIte, e_skip, e_reg, e_tre, t_stop, t_op, e_seq, e_cond, e_block, o_nil, o_cons, gd_none, putK_e, runK_e, vK_e, bldK_e, conK_e, callK_e, evh_v, evh_new, evh_bld, evh_call, seqK_n, gam_e, gamK_p, pc_e, pcK_e, evp, bin, gt, gq, st, putf, X.get, gets, getp, ap, clV, clL, clS, clo, ld, lda, lens, tk, dr, sp, sp.spl, lay, ll, cs1, one, gb, pb, ln, lk, Nat.reduceAdd, Nat.reduceBEq, beq_self_eq_true, true_and, and_true, sts, Int.toNat_natCast, Int.one_mul, hbt, hia, hal]
          refine ⟨by omega, by omega, by omega, ⟨v, i * v.step, v.all, by rw [Sx.sv_eq], ?_⟩, ⟨v, i * v.step, v.all, by rw [Sx.sv_eq], ?_⟩⟩
          all_goals
            rw [e1, e2]
            simp only [gdK_bff, condK_bf, decide_true, decide_false, inr64, e_skip, e_reg, t_leaf, t_stop, t_op, and_self, e_seq, e_cond, o_nil, o_cons, gd_none, gd_some, gdK_ff, putK_e, runK_e, vK_e, storeK3_e, storeK2_e, storeK_e, evh_v, evh_new, evh_store, seqK_n, evp, bin, gt, gq, st, putf, X.get, ld, lda, sp, sp.spl, ll, cs1, one, allOne, gb, sb, pb, ln, Bool.and_true, Bool.not_true, Nat.reduceAdd, true_and, and_true, hge]
            simp only [inr64, e_reg, o_nil, o_cons, gd_none, gd_some, gdK_tf, gdK_ff, gdK_bf, putK_e, runK_e, skipK_e, vK_e, evh_v, loopK_n, seqK_n, blockK_n, evp, bin, gt, gq, st, putf, X.get, ld, lda, gb, undef, Nat.reduceAdd, true_and]
            refine ⟨by omega, fun hm => ⟨by omega, by omega, ?_⟩, fun hm => ⟨by omega, ?_⟩⟩
            · refine Nx.mk (i + 1) (by show i + 1 ≤ v.T.length; omega) (by show v.T.length - (i + 1) < v.T.length - i; omega) (Lw_re 3 [] (Nat.zero_le _) (by simp [ln]) (by simp [ln]) rfl ?_ ?_)
              · simp only [reL, reX, inb, inb.inbs, Bool.and_self, Nat.reduceLT, decide_true, and_self, Int.natCast_add, Int.natCast_one, mt_s, hm, Bool.false_or]
              · simp only [reL, reX, reH, reB, reN, inb, and_self, implies_true]
            · refine Nx.mk (i + 1) (by show i + 1 ≤ v.T.length; omega) (by show v.T.length - (i + 1) < v.T.length - i; omega) (Lw_re 3 [] (Nat.zero_le _) (by simp [ln]) (by simp [ln]) rfl ?_ ?_)
              · simp only [reL, reX, inb, inb.inbs, Bool.and_self, Nat.reduceLT, decide_true, and_self, Int.natCast_add, Int.natCast_one, mt_s, hm, Bool.true_or]
              · simp only [reL, reX, reH, reB, reN, inb, and_self, implies_true]
        · have : i = v.T.length := by omega
          subst this
          obtain ⟨k, hk1, hk2⟩ := mxW_at hok (n := v.T.length) (by omega)
          have hmt := mt_true hk1 hk2
          have hia : ((v.T.length : Int) < v.T.length) = False := by simp
          rw [hmt]
          have hcl : (clsI (mxW v v.T.length) = 1 ∧ mxW v v.T.length ≤ 40) ∨ (clsI (mxW v v.T.length) = 2 ∧ 40 < mxW v v.T.length ∧ mxW v v.T.length ≤ 200) ∨ (clsI (mxW v v.T.length) = 3 ∧ 200 < mxW v v.T.length) := by
            unfold clsI
            split
            · exact .inl ⟨rfl, by omega⟩
            · split
              · exact .inr (.inl ⟨rfl, by omega, by omega⟩)
              · exact .inr (.inr ⟨rfl, by omega⟩)
          rcases hcl with ⟨h1, h2⟩ | ⟨h1, h2, h3⟩ | ⟨h1, h2⟩
          · have t1 : (mxW v v.T.length ≤ 40) = True := by simp [h2]
            have t2 : (200 < mxW v v.T.length) = False := by simp; omega
            rw [h1]
            simp only [gdK_btt, condK_bf, decide_true, decide_false, e_reg, and_self, e_seq, e_cond, e_exit, e_ret, o_nil, o_cons, gd_none, gd_some, gdK_tt, putK_e, runK_e, vK_e, conK_e, callK_e, evh_v, evh_call, loopK_x, seqK_n, seqK_x, exitK_t, blockK_x, ends_r, endK1_e, endK2_e, gam_e, gamK_f, pc_e, pcK_e, fcC_e, fcK_e, evp, bin, binB, gt, gq, st, putf, X.get, gets, ap, rdR, tupled, clV, clL, clS, clo, asB, ld, lda, lens, gb, lk, Nat.reduceAdd, Nat.reduceBEq, beq_self_eq_true, true_and, sts, hia, t1, t2, Int.reduceEq, Int.reduceLE, Fin, F21]
            exact fin
          · have t1 : (mxW v v.T.length ≤ 40) = False := by simp; omega
            have t2 : (200 < mxW v v.T.length) = False := by simp; omega
            rw [h1]
            simp only [gdK_btt, condK_bf, decide_true, decide_false, e_reg, and_self, e_seq, e_cond, e_exit, e_ret, o_nil, o_cons, gd_none, gd_some, gdK_tt, putK_e, runK_e, vK_e, conK_e, callK_e, evh_v, evh_call, loopK_x, seqK_n, seqK_x, exitK_t, blockK_x, ends_r, endK1_e, endK2_e, gam_e, gamK_f, pc_e, pcK_e, fcC_e, fcK_e, evp, bin, binB, gt, gq, st, putf, X.get, gets, ap, rdR, tupled, clV, clL, clS, clo, asB, ld, lda, lens, gb, lk, Nat.reduceAdd, Nat.reduceBEq, beq_self_eq_true, true_and, sts, hia, t1, t2, Int.reduceEq, Int.reduceLE, Fin, F21]
            exact fin
          · have t1 : (mxW v v.T.length ≤ 40) = False := by simp; omega
            have t2 : (200 < mxW v v.T.length) = True := by simp; omega
            rw [h1]
            simp only [gdK_btt, condK_bf, decide_true, decide_false, e_reg, and_self, e_seq, e_cond, e_exit, e_ret, o_nil, o_cons, gd_none, gd_some, gdK_tt, putK_e, runK_e, vK_e, conK_e, callK_e, evh_v, evh_call, loopK_x, seqK_n, seqK_x, exitK_t, blockK_x, ends_r, endK1_e, endK2_e, gam_e, gamK_f, pc_e, pcK_e, fcC_e, fcK_e, evp, bin, binB, gt, gq, st, putf, X.get, gets, ap, rdR, tupled, clV, clL, clS, clo, asB, ld, lda, lens, gb, lk, Nat.reduceAdd, Nat.reduceBEq, beq_self_eq_true, true_and, sts, hia, t1, t2, Int.reduceEq, Int.reduceLE, Fin, F21]
            exact fin
    · subst hf
      have z51 : ((51 : Int) = 0) = False := by simp
      simp only [gdK_btf, condK_bf, decide_false, e_skip, e_reg, e_seq, e_cond, e_block, e_loop, o_nil, o_cons, gd_none, gd_some, gdK_ft, putK_e, runK_e, skipK_e, vK_e, evh_v, seqK_n, condK_f, evp, bin, gt, st, putf, X.get, undef, Bool.not_true, true_and, z51]
      refine loop_at2 (G := Nat) (fun i => [(11, .int .i64 i), (10, .bool (mt v i))])
          (fun i => [.box 26 [.int .i64 v.step, .rd 2 v.T.length (rowsS v.T), .int .i64 v.a, .int .i64 v.b, .int .i64 v.w, .rd 2 v.S.length (rowsS v.S)], .box 28 [.int .i64 x, .int .i64 set], .box 24 [.int .i64 A, .int .i64 B]]) (fun i => i ≤ v.T.length) (fun i => v.T.length - i) 0 (Nat.zero_le _) ?_
      (intro fr1 hf1; simp only [forget, dstC, dstT, dstO, dst1, st] at hf1; subst hf1)
      refine ⟨?_, ?_⟩
      · refine Lw_re 3 [] (Nat.zero_le _) (by simp [ln]) (by simp [ln]) rfl ?_ ?_
        · simp only [reL, reX, inb, inb.inbs, ln, sts, st, Bool.and_self, Nat.reduceLT, Nat.reduceAdd, decide_true, and_self, Int.natCast_zero, mt_0]
        · simp only [reL, reX, reH, reB, reN, inb, and_self, implies_true]
      · intro i hi1
        by_cases ha : i < v.T.length
        · have hr := (rdg_at hok ha).1
          have e1 := rdV_at hok ha
          have e2 := rdE_at hok ha
          have hwb := wd_bnd hok ha
          have hal := @all_eq v
          have hb := stepB (s := v.step) (n := v.T.length) ⟨o4, o5⟩ ⟨by omega, by omega⟩
          have hge : (mxW v v.T.length < (wd v i).2 - (wd v i).1) = False := by
            simp only [eq_iff_iff, iff_false]; have := mxW_ge (v := v) ha; rw [wid_eq] at this; omega
          have hia : ((i : Int) < v.T.length) = True := by simp [ha]
          simp only [condK_bt, decide_true, inr64, ↓reduceIte, e_skip, e_reg, e_tre, t_stop, t_op, e_seq, e_cond, e_block, o_nil, o_cons, gd_none, putK_e, runK_e, vK_e, bldK_e, conK_e, callK_e, evh_v, evh_new, evh_bld, evh_call, seqK_n, gam_e, gamK_p, pc_e, pcK_e, evp, bin, gt, gq, st, putf, X.get, gets, getp, ap, clV, clL, clS, clo, ld, lda, lens, tk, dr, sp, sp.spl, lay, ll, cs1, one, gb, pb, ln, lk, Nat.reduceAdd, Nat.reduceBEq, beq_self_eq_true, true_and, and_true, sts, Int.toNat_natCast, Int.one_mul, hbt, hia, hal]
          refine ⟨by omega, by omega, by omega, ⟨v, i * v.step, v.all, by rw [Sx.sv_eq], ?_⟩, ⟨v, i * v.step, v.all, by rw [Sx.sv_eq], ?_⟩⟩
          all_goals
            rw [e1, e2]
            simp only [gdK_bff, condK_bf, decide_true, decide_false, inr64, e_skip, e_reg, t_leaf, t_stop, t_op, and_self, e_seq, e_cond, o_nil, o_cons, gd_none, gd_some, gdK_ff, putK_e, runK_e, vK_e, storeK3_e, storeK2_e, storeK_e, evh_v, evh_new, evh_store, seqK_n, evp, bin, gt, gq, st, putf, X.get, ld, lda, sp, sp.spl, ll, cs1, one, allOne, gb, sb, pb, ln, Bool.and_true, Bool.not_true, Nat.reduceAdd, true_and, and_true, hge]
            simp only [inr64, e_reg, o_nil, o_cons, gd_none, gd_some, gdK_tf, gdK_ff, gdK_bf, putK_e, runK_e, skipK_e, vK_e, evh_v, loopK_n, seqK_n, blockK_n, evp, bin, gt, gq, st, putf, X.get, ld, lda, gb, undef, Nat.reduceAdd, true_and]
            refine ⟨by omega, fun hm => ⟨by omega, by omega, ?_⟩, fun hm => ⟨by omega, ?_⟩⟩
            · refine Nx.mk (i + 1) (by show i + 1 ≤ v.T.length; omega) (by show v.T.length - (i + 1) < v.T.length - i; omega) (Lw_re 3 [] (Nat.zero_le _) (by simp [ln]) (by simp [ln]) rfl ?_ ?_)
              · simp only [reL, reX, inb, inb.inbs, Bool.and_self, Nat.reduceLT, decide_true, and_self, Int.natCast_add, Int.natCast_one, mt_s, hm, Bool.false_or]
              · simp only [reL, reX, reH, reB, reN, inb, and_self, implies_true]
            · refine Nx.mk (i + 1) (by show i + 1 ≤ v.T.length; omega) (by show v.T.length - (i + 1) < v.T.length - i; omega) (Lw_re 3 [] (Nat.zero_le _) (by simp [ln]) (by simp [ln]) rfl ?_ ?_)
              · simp only [reL, reX, inb, inb.inbs, Bool.and_self, Nat.reduceLT, decide_true, and_self, Int.natCast_add, Int.natCast_one, mt_s, hm, Bool.true_or]
              · simp only [reL, reX, reH, reB, reN, inb, and_self, implies_true]
        · have : i = v.T.length := by omega
          subst this
          obtain ⟨k, hk1, hk2⟩ := mxW_at hok (n := v.T.length) (by omega)
          have hmt := mt_true hk1 hk2
          have hia : ((v.T.length : Int) < v.T.length) = False := by simp
          rw [hmt]
          have hcl : (clsI (mxW v v.T.length) = 1 ∧ mxW v v.T.length ≤ 40) ∨ (clsI (mxW v v.T.length) = 2 ∧ 40 < mxW v v.T.length ∧ mxW v v.T.length ≤ 200) ∨ (clsI (mxW v v.T.length) = 3 ∧ 200 < mxW v v.T.length) := by
            unfold clsI
            split
            · exact .inl ⟨rfl, by omega⟩
            · split
              · exact .inr (.inl ⟨rfl, by omega, by omega⟩)
              · exact .inr (.inr ⟨rfl, by omega⟩)
          rcases hcl with ⟨h1, h2⟩ | ⟨h1, h2, h3⟩ | ⟨h1, h2⟩
          · have t1 : (mxW v v.T.length ≤ 40) = True := by simp [h2]
            have t2 : (200 < mxW v v.T.length) = False := by simp; omega
            rw [h1]
            simp only [gdK_btt, condK_bf, decide_true, decide_false, e_reg, and_self, e_seq, e_cond, e_exit, e_ret, o_nil, o_cons, gd_none, gd_some, gdK_tt, putK_e, runK_e, vK_e, conK_e, callK_e, evh_v, evh_call, loopK_x, seqK_n, seqK_x, exitK_t, blockK_x, ends_r, endK1_e, endK2_e, gam_e, gamK_f, pc_e, pcK_e, fcC_e, fcK_e, evp, bin, binB, gt, gq, st, putf, X.get, gets, ap, rdR, tupled, clV, clL, clS, clo, asB, ld, lda, lens, gb, lk, Nat.reduceAdd, Nat.reduceBEq, beq_self_eq_true, true_and, sts, hia, t1, t2, Int.reduceEq, Int.reduceLE, Fin, F21]
            exact fin
          · have t1 : (mxW v v.T.length ≤ 40) = False := by simp; omega
            have t2 : (200 < mxW v v.T.length) = False := by simp; omega
            rw [h1]
            simp only [gdK_btt, condK_bf, decide_true, decide_false, e_reg, and_self, e_seq, e_cond, e_exit, e_ret, o_nil, o_cons, gd_none, gd_some, gdK_tt, putK_e, runK_e, vK_e, conK_e, callK_e, evh_v, evh_call, loopK_x, seqK_n, seqK_x, exitK_t, blockK_x, ends_r, endK1_e, endK2_e, gam_e, gamK_f, pc_e, pcK_e, fcC_e, fcK_e, evp, bin, binB, gt, gq, st, putf, X.get, gets, ap, rdR, tupled, clV, clL, clS, clo, asB, ld, lda, lens, gb, lk, Nat.reduceAdd, Nat.reduceBEq, beq_self_eq_true, true_and, sts, hia, t1, t2, Int.reduceEq, Int.reduceLE, Fin, F21]
            exact fin
          · have t1 : (mxW v v.T.length ≤ 40) = False := by simp; omega
            have t2 : (200 < mxW v v.T.length) = True := by simp; omega
            rw [h1]
            simp only [gdK_btt, condK_bf, decide_true, decide_false, e_reg, and_self, e_seq, e_cond, e_exit, e_ret, o_nil, o_cons, gd_none, gd_some, gdK_tt, putK_e, runK_e, vK_e, conK_e, callK_e, evh_v, evh_call, loopK_x, seqK_n, seqK_x, exitK_t, blockK_x, ends_r, endK1_e, endK2_e, gam_e, gamK_f, pc_e, pcK_e, fcC_e, fcK_e, evp, bin, binB, gt, gq, st, putf, X.get, gets, ap, rdR, tupled, clV, clL, clS, clo, asB, ld, lda, lens, gb, lk, Nat.reduceAdd, Nat.reduceBEq, beq_self_eq_true, true_and, sts, hia, t1, t2, Int.reduceEq, Int.reduceLE, Fin, F21]
            exact fin
  · obtain ⟨h1, h2⟩ := rd_no hok x set
    rw [clC_no hok, clF_no hok, chk_no hok]
    simp only [e_reg, e_seq, o_nil, o_cons, gd_none, putK_e, runK_e, vK_e, conK_e, callK_e, evh_v, evh_call, seqK_n, gam_e, gamK_p, pc_e, pcK_e, evp, gt, gq, st, putf, X.get, gets, ap, clV, clL, clS, clo, ld, lda, tk, dr, gb, lk, Nat.reduceBEq, beq_self_eq_true, true_and]
    refine ⟨v, x, set, by rw [Sx.sv_eq], ?_⟩
    rw [h1, h2]
    have z : ((50 : Int) = 0) = False := by simp
    simp only [gdK_btt, gdK_bft, decide_true, decide_false, e_reg, and_self, e_seq, e_cond, e_ret, o_nil, o_cons, gd_none, gd_some, gdK_tt, gdK_tf, putK_e, runK_e, skipK_e, vK_e, storeK3_e, storeK2_e, storeK_e, conK_e, callK_e, evh_v, evh_new, evh_store, evh_call, seqK_n, seqK_r, condK_t, ends_r, endK1_e, endK2_e, gam_e, gamK_f, pc_e, pcK_e, fcC_e, fcK_e, evp, bin, gt, gq, st, putf, X.get, gets, ap, rdR, tupled, clV, clL, clS, clo, sp, sp.spl, ll, cs1, one, allOne, gb, sb, pb, ln, lk, undef, Bool.and_true, Bool.not_false, Nat.reduceAdd, Nat.reduceBEq, beq_self_eq_true, true_and, F21, z]
    exact fin
end Go.Proofs.Ytjagiieconpgbaa
