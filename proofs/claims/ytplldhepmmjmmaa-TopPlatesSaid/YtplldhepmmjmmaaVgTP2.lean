import Derived.Test.YtplldhepmmjmmaaVgTP1
namespace Go.Proofs.Ytplldhepmmjmmaa
open Go Go.Vg
set_option linter.unusedSimpArgs false
set_option linter.unusedVariables false
set_option maxRecDepth 10000
def s45 : SC :=
 (.seq (.reg [⟨(some 1), none, .box 70 (.t 0)⟩,
  ⟨(some 2), none, .new 74 (List.replicate 72 (.int .i64 (0)))⟩])
 (.seq (.reg [⟨(some 3), none, .new 74 (List.replicate 72 (.int .i64 (0)))⟩])
 (.seq (.seq (.reg [⟨(some 7), none, .v (.off (.t 1) 0)⟩,
  ⟨(some 8), none, .v (.off (.t 7) 0)⟩,
  ⟨(some 9), none, .v (.load (.t 8) none)⟩,
  ⟨(some 10), none, .v (.len (.t 9))⟩,
  ⟨(some 11), none, .v (.mov (.c (.int .i64 (0))))⟩])
 (.block 0 (.loop
  (.seq (.reg [⟨(some 12), none, .v (.bin .lss (.t 11) (.t 10))⟩])
  (.seq (.cond (.t 12)
   .skip
   (.exit 0))
  (.seq (.block 1 (.seq (.reg [⟨(some 13), none, .v (.mov (.t 11))⟩,
   ⟨(some 14), none, .v (.ixa (.t 9) (.t 11) 1)⟩,
   ⟨(some 15), none, .v (.load (.t 14) none)⟩,
   ⟨(some 4), none, .v (.mov (.t 13))⟩,
   ⟨(some 5), none, .v (.mov (.t 15))⟩])
  (.seq (.reg [⟨(some 16), none, .v (.mov (.t 5))⟩,
   ⟨(some 17), none, .v (.mov (.c (.int .i64 (0))))⟩])
  (.block 2 (.loop
   (.seq (.reg [⟨(some 18), none, .v (.bin .lss (.t 17) (.t 16))⟩])
   (.seq (.cond (.t 18)
    .skip
    (.exit 2))
   (.seq (.block 3 (.seq (.reg [⟨(some 19), none, .v (.mov (.t 17))⟩,
    ⟨(some 6), none, .v (.mov (.t 19))⟩])
   (.drw [(0, ⟨(some 20), none, .v (.mov (.t 4))⟩, false),
    (1, ⟨(some 21), none, .v (.mov (.t 6))⟩, false),
    (2, ⟨(some 22), none, .v (.bin .add (.t 21) (.c (.int .i64 (1))))⟩, false),
    (3, ⟨(some 23), none, .call (.c (.fn 47 [])) [(.t 20), (.t 22)]⟩, false),
    (4, ⟨(some 24), none, .v (.off (.t 1) 0)⟩, false),
    (5, ⟨(some 25), none, .v (.off (.t 24) 1)⟩, false),
    (6, ⟨(some 26), none, .v (.load (.t 25) none)⟩, false),
    (7, ⟨(some 27), none, .v (.neg (.t 26))⟩, false),
    (8, ⟨(some 28), none, .v (.off (.t 1) 0)⟩, false),
    (9, ⟨(some 29), none, .v (.off (.t 28) 1)⟩, false),
    (10, ⟨(some 30), none, .v (.load (.t 29) none)⟩, false),
    (11, ⟨(some 31), none, .bld [(.int .i64 (0)), (.int .i64 (0))] [(0, 1, (.t 27)), (1, 1, (.t 30))]⟩, false)]
    none
    [⟨(some 32), none, .v (.ixarr (.t 3) (.t 23) 36 2)⟩,
    ⟨none, none, .store 2 (.t 32) (.t 31)⟩])))
   (.reg [⟨(some 33), none, .v (.bin .add (.t 17) (.c (.int .i64 (1))))⟩,
    ⟨(some 17), none, .v (.mov (.t 33))⟩])))))))))
  (.reg [⟨(some 34), none, .v (.bin .add (.t 11) (.c (.int .i64 (1))))⟩,
   ⟨(some 11), none, .v (.mov (.t 34))⟩])))))))
 (.seq (.reg [⟨(some 35), none, .v (.load (.t 3) (some 72))⟩,
  ⟨none, none, .store 72 (.t 2) (.t 35)⟩])
 .ret))))
def r45 : List RV := [.c 2 (some 72)]
theorem k45 : (Try.f45.body.bind (cC Try.prog), cR Try.prog Try.f45.results.toList, Try.f45.ntmps) = (some s45, some r45, 36) := by kernel_rfl
theorem q45 : Known Try.prog 45 := ⟨_, Try.func45, by decide, by simp [Try.f45]⟩
def s25 : SC :=
 (.seq (.reg [⟨(some 2), none, .box 70 (.t 0)⟩,
  ⟨(some 4), none, .new 74 (List.replicate 72 (.int .i64 (0)))⟩,
  ⟨(some 5), none, .v (.mov (.c (.lit (.bool false))))⟩])
 (.scp (.seq (.reg [⟨(some 9), none, .v (.load (.t 2) (some 2))⟩,
  ⟨(some 10), none, .call (.c (.fn 45 [])) [(.t 9)]⟩,
  ⟨none, none, .store 72 (.t 4) (.t 10)⟩])
 (.seq .skip
 (.seq (.seq (.reg [⟨(some 11), none, .v (.mov (.c (.int .i64 (0))))⟩])
 (.block 0 (.loop
  (.seq (.reg [⟨(some 12), none, .v (.bin .lss (.t 11) (.c (.int .i64 (36))))⟩])
  (.seq (.cond (.t 12)
   .skip
   (.exit 0))
  (.seq (.block 1 (.seq (.reg [⟨(some 13), none, .v (.load (.t 4) (some 72))⟩,
   ⟨(some 6), none, .new 74 (List.replicate 72 (.int .i64 (0)))⟩,
   ⟨none, none, .store 72 (.t 6) (.t 13)⟩])
  (.seq (.seq (.reg [⟨(some 14), none, .v (.mov (.t 1))⟩,
   ⟨(some 15), none, .v (.len (.t 14))⟩,
   ⟨(some 16), none, .v (.mov (.c (.int .i64 (0))))⟩])
  (.block 2 (.loop
   (.seq (.reg [⟨(some 17), none, .v (.bin .lss (.t 16) (.t 15))⟩])
   (.seq (.cond (.t 17)
    .skip
    (.exit 2))
   (.seq (.block 3 (.seq (.reg [⟨(some 18), none, .v (.ixa (.t 14) (.t 16) 6)⟩,
    ⟨(some 19), none, .v (.load (.t 18) (some 6))⟩,
    ⟨(some 8), none, .new 98 [(.int .i64 (0)), (.int .i64 (0)), (.int .i64 (0)), (.int .i64 (0)), (.int .i64 (0)), (.int .i64 (0))]⟩,
    ⟨none, none, .store 6 (.t 8) (.t 19)⟩])
   (.seq (.reg [⟨(some 20), none, .v (.load (.t 8) (some 6))⟩,
    ⟨(some 21), none, .call (.c (.fn 46 [])) [(.t 4), (.t 20)]⟩,
    ⟨(some 22), none, .v (.not (.t 21))⟩])
   (.cond (.t 22)
    (.exit 0)
    .skip))))
   (.reg [⟨(some 23), none, .v (.bin .add (.t 16) (.c (.int .i64 (1))))⟩,
    ⟨(some 16), none, .v (.mov (.t 23))⟩])))))))
  (.seq (.reg [⟨(some 24), none, .v (.load (.t 4) (some 72))⟩,
   ⟨(some 25), none, .v (.load (.t 6) (some 72))⟩,
   ⟨(some 26), none, .v (.eqs (List.replicate 72 (some .i64)) false (.t 24) (.t 25))⟩])
  (.cond (.t 26)
   (.seq (.reg [⟨(some 27), none, .v (.load (.t 4) (some 72))⟩,
    ⟨none, none, .store 72 (.t 4) (.t 27)⟩,
    ⟨(some 5), none, .v (.mov (.c (.lit (.bool true))))⟩])
   .ret)
   .skip)))))
  (.reg [⟨(some 28), none, .v (.bin .add (.t 11) (.c (.int .i64 (1))))⟩,
   ⟨(some 11), none, .v (.mov (.t 28))⟩])))))))
 (.seq (.reg [⟨(some 29), none, .bld (List.replicate 72 (.int .i64 (0))) []⟩,
  ⟨none, none, .store 72 (.t 4) (.t 29)⟩,
  ⟨(some 5), none, .v (.mov (.c (.lit (.bool false))))⟩])
 .ret))))))
def r25 : List RV := [.c 4 (some 72), .t 5]
theorem k25 : (Try.f25.body.bind (cC Try.prog), cR Try.prog Try.f25.results.toList, Try.f25.ntmps) = (some s25, some r25, 30) := by kernel_rfl
theorem q25 : Known Try.prog 25 := ⟨_, Try.func25, by decide, by simp [Try.f25]⟩
def mx (x y : Int) : Int := if x < y then y else x
def mn (x y : Int) : Int := if y < x then y else x
abbrev Dst := Nat → Int × Int
def nar1 (d : Dst) (a b : Nat) (lo hi : Int) : Dst := upH (upL d a (mx (d a).1 ((d b).1 + lo))) a (mn (d a).2 ((d b).2 + hi))
def nar2 (d : Dst) (a b : Nat) (lo hi : Int) : Dst := upH (upL d b (mx (d b).1 ((d a).1 - hi))) b (mn (d b).2 ((d a).2 - lo))
def nar (d : Dst) (a b : Nat) (lo hi : Int) : Dst := nar2 (nar1 d a b lo hi) a b lo hi
def Rdg.na (r : Rdg) : Nat := (r.A * 9 + r.I).toNat
def Rdg.nb (r : Rdg) : Nat := (r.B * 9 + r.J).toNat
def narR (d : Dst) (r : Rdg) : Dst := nar d r.na r.nb (r.V - r.W) (r.V + r.W)
def okN (d : Dst) (r : Rdg) : Bool := decide ((narR d r r.na).1 ≤ (narR d r r.na).2)
def inR (r : Rdg) : Prop := ((0 ≤ r.A ∧ r.A ≤ 3) ∧ (0 ≤ r.I ∧ r.I ≤ 8)) ∧ ((0 ≤ r.B ∧ r.B ≤ 3) ∧ (0 ≤ r.J ∧ r.J ≤ 8)) ∧ (-200000 ≤ r.V ∧ r.V ≤ 200000) ∧ (0 ≤ r.W ∧ r.W ≤ 100000)
def Bd (d : Dst) : Prop := ∀ i, (-100000 ≤ (d i).1 ∧ (d i).1 ≤ (d i).2) ∧ (d i).2 ≤ 100000
theorem mx_f {x y : Int} : (if x < y then y else x) = mx x y := rfl
theorem mn_f {x y : Int} : (if y < x then y else x) = mn x y := rfl
theorem mx_or (x y : Int) : (mx x y = x ∧ y ≤ x) ∨ (mx x y = y ∧ x ≤ y) := by unfold mx; split <;> omega
theorem mn_or (x y : Int) : (mn x y = x ∧ x ≤ y) ∨ (mn x y = y ∧ y ≤ x) := by unfold mn; split <;> omega
theorem up_at (d : Dst) (a : Nat) (x y : Int) (i : Nat) : upH (upL d a x) a y i = if i = a then (x, y) else d i := by
 unfold upH upL; split <;> rfl
theorem nar1_at {d : Dst} {a b : Nat} {lo hi : Int} (i : Nat) : nar1 d a b lo hi i = if i = a then (mx (d a).1 ((d b).1 + lo), mn (d a).2 ((d b).2 + hi)) else d i := up_at ..
theorem nar2_at {d : Dst} {a b : Nat} {lo hi : Int} (i : Nat) : nar2 d a b lo hi i = if i = b then (mx (d b).1 ((d a).1 - hi), mn (d b).2 ((d a).2 - lo)) else d i := up_at ..
theorem nar1_bd {d : Dst} {a b : Nat} {lo hi : Int} (hd : Bd d) (hl : -300000 ≤ lo ∧ lo ≤ 300000) (hh : -300000 ≤ hi ∧ hi ≤ 300000) (i : Nat) : (-500000 ≤ (nar1 d a b lo hi i).1 ∧ (nar1 d a b lo hi i).1 ≤ 500000) ∧ (-500000 ≤ (nar1 d a b lo hi i).2 ∧ (nar1 d a b lo hi i).2 ≤ 500000) := by
 have h1 := hd a
 have h2 := hd b
 have h3 := hd i
 rw [nar1_at]
 have m1 := mx_or (d a).1 ((d b).1 + lo)
 have m2 := mn_or (d a).2 ((d b).2 + hi)
 split
 ·simp only; omega
 ·omega
def C46 : LentC := fun args t cs K => ∃ (r : Rdg) (d : Dst), args = [.agg r.row] ∧ t = 74 ∧ cs = arS 36 d ∧ inR r ∧ Bd d ∧ K (.bool (okN d r)) 74 (arS 36 (narR d r))
theorem p46 : LentOk Try.prog 46 C46 := by
 refine lent_of (T := [(47, .fc F47)]) ⟨⟨p47, q47⟩, trivial⟩ Try.func46 k46 ?_
 rintro args t cs K ⟨r, d, rfl, rfl, rfl, ⟨⟨h1, h2⟩, ⟨h3, h4⟩, h5, h6⟩, hd, hK⟩
 have ha : (r.A * 9 + r.I).toNat < 36 := by omega
 have hb : (r.B * 9 + r.J).toNat < 36 := by omega
 have ga := fun d : Dst => @arS_gL d _ 36 ha
 have gb' := fun d : Dst => @arS_gL d _ 36 hb
 have ga2 := fun d : Dst => @arS_gH d _ 36 ha
 have gb2 := fun d : Dst => @arS_gH d _ 36 hb
 have sa := fun (d : Dst) (x : Int) => @arS_sL d _ 36 x ha
 have sb' := fun (d : Dst) (x : Int) => @arS_sL d _ 36 x hb
 have sa2 := fun (d : Dst) (x : Int) => @arS_sH d _ 36 x ha
 have sb2 := fun (d : Dst) (x : Int) => @arS_sH d _ 36 x hb
 have d1 := hd (r.A * 9 + r.I).toNat
 have d2 := hd (r.B * 9 + r.J).toNat
 have n1 := nar1_bd (a := (r.A * 9 + r.I).toNat) (b := (r.B * 9 + r.J).toNat) (lo := r.V - r.W) (hi := r.V + r.W) hd (by omega) (by omega) (r.A * 9 + r.I).toNat
 have n2 := nar1_bd (a := (r.A * 9 + r.I).toNat) (b := (r.B * 9 + r.J).toNat) (lo := r.V - r.W) (hi := r.V + r.W) hd (by omega) (by omega) (r.B * 9 + r.J).toNat
 simp only [nar1] at n1 n2
 simp only [inr64, ↓reduceIte, e_reg, e_tre, t_leaf, t_stop, t_op, and_self, e_drw, e_seq, e_ret, o_nil, o_cons, gd_none, putK_e, runK_e, vK_e, boxK_e, storeK3_e, storeK2_e, storeK_e, evh_v, evh_box, evh_store, nckV, dX_e, dG_t, d_nil, d_cons, tlK_n, seqK_n, gamq_e, gamqK_f, evp, bin, gt, gq, st, putf, X.get, gets, ap, mkfr, rep, rdR, tupled, clV, clS, clo, clo.clos, ld, lda, ll, cs1, one, allOne, gb, sb, pb, ln, lk, evq, gdl, undef, Bool.and_true, Nat.reduceSub, Nat.reduceAdd, beq_self_eq_true, true_and, and_true, s46, r46, Rdg.row, F47, nckV, ld, ga, gb', ga2, gb2, sa, sb', sa2, sb2, endsL_r, endL1_e, endL2_e, arS_clo, mx_f, mn_f]
 refine ⟨⟨⟨by omega, by omega⟩, by omega, by omega⟩, ⟨by omega, by omega⟩, ⟨⟨by omega, by omega⟩, by omega, by omega⟩, ⟨by omega, by omega⟩, ⟨by omega, by omega⟩, ⟨by omega, by omega⟩, ⟨by omega, by omega⟩, ⟨by omega, by omega⟩, ⟨by omega, by omega⟩, ⟨by omega, by omega⟩, ?_⟩
 exact ⟨_, hK, by simp only [leR]; rfl⟩
theorem nar_bd {d : Dst} {a b : Nat} {lo hi : Int} (hd : Bd d) (hlh : lo ≤ hi) (hok : (nar d a b lo hi a).1 ≤ (nar d a b lo hi a).2) : Bd (nar d a b lo hi) := by
 have ha := hd a
 have hb := hd b
 have m1 := mx_or (d a).1 ((d b).1 + lo)
 have m2 := mn_or (d a).2 ((d b).2 + hi)
 have key : nar d a b lo hi = nar2 (nar1 d a b lo hi) a b lo hi := rfl
 rw [key] at hok ⊢
 have e1 : nar1 d a b lo hi a = (mx (d a).1 ((d b).1 + lo), mn (d a).2 ((d b).2 + hi)) := by rw [nar1_at, if_pos rfl]
 by_cases hab : a = b
 ·subst hab
  have e2 : nar2 (nar1 d a a lo hi) a a lo hi a = (mx (nar1 d a a lo hi a).1 ((nar1 d a a lo hi a).1 - hi), mn (nar1 d a a lo hi a).2 ((nar1 d a a lo hi a).2 - lo)) := by rw [nar2_at, if_pos rfl]
  have m3 := mx_or (nar1 d a a lo hi a).1 ((nar1 d a a lo hi a).1 - hi)
  have m4 := mn_or (nar1 d a a lo hi a).2 ((nar1 d a a lo hi a).2 - lo)
  intro i
  by_cases hi' : i = a
  ·subst hi'
   have e2a := congrArg Prod.fst e2
   have e2b := congrArg Prod.snd e2
   have e1a := congrArg Prod.fst e1
   have e1b := congrArg Prod.snd e1
   simp only at e1a e1b e2a e2b
   omega
  ·have : nar2 (nar1 d a a lo hi) a a lo hi i = d i := by rw [nar2_at, if_neg hi', nar1_at, if_neg hi']
   rw [this]; exact hd i
 ·have e3 : nar1 d a b lo hi b = d b := by rw [nar1_at, if_neg (Ne.symm hab)]
  have e4 : nar2 (nar1 d a b lo hi) a b lo hi a = nar1 d a b lo hi a := by rw [nar2_at, if_neg hab]
  have e5 : nar2 (nar1 d a b lo hi) a b lo hi b = (mx (d b).1 ((nar1 d a b lo hi a).1 - hi), mn (d b).2 ((nar1 d a b lo hi a).2 - lo)) := by rw [nar2_at, if_pos rfl, e3]
  have m3 := mx_or (d b).1 ((nar1 d a b lo hi a).1 - hi)
  have m4 := mn_or (d b).2 ((nar1 d a b lo hi a).2 - lo)
  have e1a := congrArg Prod.fst e1
  have e1b := congrArg Prod.snd e1
  have e5a := congrArg Prod.fst e5
  have e5b := congrArg Prod.snd e5
  simp only at e1a e1b e5a e5b
  rw [e4] at hok
  intro i
  by_cases hi' : i = a
  ·subst hi'
   rw [e4]
   omega
  ·by_cases hib : i = b
   ·subst hib
    omega
   ·have : nar2 (nar1 d a b lo hi) a b lo hi i = d i := by rw [nar2_at, if_neg hib, nar1_at, if_neg hi']
    rw [this]; exact hd i
def wd (T : List Int) (m : Int) (i j : Nat) : Dst := fun n => if (n / 9 < i ∨ (n / 9 = i ∧ n % 9 ≤ j)) ∧ (1 ≤ n % 9 ∧ ((n % 9 : Nat) : Int) ≤ T.getD (n / 9) 0) then (-m, m) else (0, 0)
theorem wd_0 {T : List Int} {m : Int} : wd T m 0 0 = fun _ => (0, 0) := by
 funext n
 unfold wd
 rw [if_neg (by omega)]
theorem wd_up {T : List Int} {m : Int} {i j : Nat} (hj : (j : Int) + 1 ≤ T.getD i 0) (h8 : j + 1 ≤ 8) : upB (wd T m i j) (i * 9 + (j + 1)) (-m) m = wd T m i (j + 1) := by
 funext n
 unfold upB wd
 by_cases hn : n = i * 9 + (j + 1)
 ·have h1 : n / 9 = i := by omega
  have h2 : n % 9 = j + 1 := by omega
  rw [if_pos hn, if_pos]
  rw [h1, h2]
  exact ⟨.inr ⟨rfl, Nat.le_refl _⟩, by omega, by omega⟩
 ·rw [if_neg hn]
  have : ((n / 9 < i ∨ (n / 9 = i ∧ n % 9 ≤ j)) ∧ (1 ≤ n % 9 ∧ ((n % 9 : Nat) : Int) ≤ T.getD (n / 9) 0)) ↔ ((n / 9 < i ∨ (n / 9 = i ∧ n % 9 ≤ j + 1)) ∧ (1 ≤ n % 9 ∧ ((n % 9 : Nat) : Int) ≤ T.getD (n / 9) 0)) := by
   constructor
   ·rintro ⟨h1, h2⟩; exact ⟨by omega, h2⟩
   ·rintro ⟨h1, h2⟩; exact ⟨by omega, h2⟩
  simp only [this]
theorem wd_next {T : List Int} {m : Int} {i : Nat} : wd T m i (T.getD i 0).toNat = wd T m (i + 1) 0 := by
 funext n
 unfold wd
 have : ((n / 9 < i ∨ (n / 9 = i ∧ n % 9 ≤ (T.getD i 0).toNat)) ∧ (1 ≤ n % 9 ∧ ((n % 9 : Nat) : Int) ≤ T.getD (n / 9) 0)) ↔ ((n / 9 < i + 1 ∨ (n / 9 = i + 1 ∧ n % 9 ≤ 0)) ∧ (1 ≤ n % 9 ∧ ((n % 9 : Nat) : Int) ≤ T.getD (n / 9) 0)) := by
  constructor
  ·rintro ⟨h1, h2⟩; exact ⟨by omega, h2⟩
  ·rintro ⟨h1, h2⟩
   refine ⟨?_, h2⟩
   by_cases h : n / 9 < i
   ·exact .inl h
   ·have e : n / 9 = i := by omega
    rw [e] at h2
    exact .inr ⟨e, by omega⟩
 simp only [this]
def wdS (T : List Int) (m : Int) : Dst := wd T m T.length 0
def C45 : PC := fun args K => ∃ (T : List Int) (m : Int), args = [.agg [.ints .i64 T, .int .i64 m]] ∧ okS T m = true ∧ K (.agg (arS 36 (wdS T m)))
theorem p45 : PureOk Try.prog 45 C45 := by
 refine pure_of (T := [(47, .fc F47)]) ⟨⟨p47, q47⟩, trivial⟩ Try.func45 k45 ?_
 rintro args K ⟨T, m, rfl, hs, hK⟩
 have hs' := hs
 simp only [okS, Bool.and_eq_true, decide_eq_true_eq] at hs'
 obtain ⟨hl, hm, hall⟩ := hs'
 have hT : ∀ i, i < T.length → 1 ≤ T.getD i 0 ∧ T.getD i 0 ≤ 8 := fun i hi => of_decide_eq_true (allI_get hi hall)
 have z72 : (List.replicate 72 (SV.int .i64 0)) = arS 36 (fun _ => (0, 0)) := (arS_zero 36).symm
 simp only [e_reg, e_seq, e_block, e_loop, o_nil, o_cons, gd_none, putK_e, runK_e, vK_e, boxK_e, evh_v, evh_new, evh_box, seqK_n, evp, gt, gq, st, putf, X.get, mkfr, rep, ld, lda, lens, cs1, gb, pb, ln, undef, Nat.reduceSub, Nat.reduceAdd, true_and, s45, r45, z72]
 refine loop_at2 (G := Nat) (fun i => [(11, .int .i64 i)]) (fun i => [.box 70 [.ints .i64 T, .int .i64 m], .box 74 (arS 36 (fun _ => (0, 0))), .box 74 (arS 36 (wd T m i 0))]) (fun i => i ≤ T.length) (fun i => T.length - i) 0 (Nat.zero_le _) ?_
 (intro fr1 hf1; simp only [forget, dstC, dstO, dstD, dst1, st] at hf1; subst hf1)
 refine ⟨?_, ?_⟩
 ·refine Lw_re 3 [] (Nat.zero_le _) (by simp [ln]) (by simp [ln]) rfl ?_ ?_
  ·simp only [reL, reX, inb, inb.inbs, ln, sts, st, Bool.and_self, Nat.reduceLT, Nat.reduceAdd, decide_true, and_self, Int.natCast_zero]
  ·simp only [reL, reX, reH, reB, reN, inb, ln, Nat.reduceAdd, and_self, wd_0, arS_re]
 ·intro i hi1
  by_cases hi2 : i < T.length
  ·have n0 : ((i : Int) < (T.length : Int)) = True := by simp; omega
   have ht := hT i hi2
   simp only [condK_bt, decide_true, e_skip, e_reg, e_seq, e_cond, e_block, e_loop, o_nil, o_cons, gd_none, putK_e, runK_e, vK_e, evh_v, seqK_n, evp, bin, gt, gq, st, putf, X.get, ld, lda, ixs, true_and, and_true, sts, n0, Int.toNat_natCast]
   repeat' (first | omega | refine And.intro ?_ ?_)
   refine loop_at2 (G := Nat) (fun j => [(17, .int .i64 j)]) (fun j => [.box 70 [.ints .i64 T, .int .i64 m], .box 74 (arS 36 (fun _ => (0, 0))), .box 74 (arS 36 (wd T m i j))]) (fun j => (j : Int) ≤ T.getD i 0) (fun j => (T.getD i 0).toNat - j) 0 (by show (0 : Int) ≤ _; omega) ?_
   (intro fr1 hf1; simp only [forget, dstC, dstO, dstD, dst1, st] at hf1; subst hf1)
   refine ⟨?_, ?_⟩
   ·refine Lw_re 3 [] (Nat.zero_le _) (by simp [ln]) (by simp [ln]) rfl ?_ ?_
    ·simp only [reL, reX, inb, inb.inbs, ln, sts, st, Bool.and_self, Nat.reduceLT, Nat.reduceAdd, decide_true, and_self, Int.natCast_zero]
    ·simp only [reL, reX, reH, reB, reN, inb, ln, Nat.reduceAdd, and_self, arS_re]
   ·intro j hj1
    by_cases hj2 : (j : Int) < T.getD i 0
    ·have m0 := eq_true hj2
     have ek : ((i : Int) * 9 + ((j : Int) + 1)).toNat = i * 9 + (j + 1) := by omega
     have hk : i * 9 + (j + 1) < 36 := by omega
     have sB := fun (d : Dst) (x y : Int) => @arS_sB d _ 36 x y hk
     have eup := @wd_up T m i j (by omega) (by omega)
     simp only [condK_bt, decide_true, inr64, ↓reduceIte, e_skip, e_reg, and_self, e_drw, e_seq, e_cond, e_block, o_nil, o_cons, gd_none, putK_e, runK_e, vK_e, storeK3_e, storeK2_e, storeK_e, evh_v, evh_store, dX_e, dG_t, d_nil, d_cons, tlK_n, loopK_n, seqK_n, blockK_n, gamq_e, gamqK_f, evp, bin, gt, gq, st, putf, X.get, gets, getp, ap, clo, clo.clos, ld, lda, sp, sp.spl, lay, ll, cs1, one, allOne, gb, sb, lk, evq, gdl, Bool.and_true, Nat.reduceAdd, beq_self_eq_true, true_and, sts, m0, F47, ek, sB, eup]
     repeat' (first | omega | refine And.intro ?_ ?_)
     refine Nx.mk (j + 1) (by show ((j + 1 : Nat) : Int) ≤ T.getD i 0; omega) (by show (T.getD i 0).toNat - (j + 1) < (T.getD i 0).toNat - j; omega) (Lw_re 3 [] (Nat.zero_le _) (by simp [ln]) (by simp [ln]) rfl ?_ ?_)
     ·simp only [reL, reX, inb, inb.inbs, Bool.and_self, Nat.reduceLT, decide_true, and_self, Int.natCast_add, Int.natCast_one]
     ·simp only [reL, reX, reH, reB, reN, inb, ln, Nat.reduceAdd, and_self, arS_re]
    ·have m0 := eq_false hj2
     have ej : j = (T.getD i 0).toNat := by omega
     have en : wd T m i j = wd T m (i + 1) 0 := by rw [ej]; exact wd_next
     simp only [condK_bf, decide_false, inr64, e_reg, e_seq, e_cond, e_exit, o_nil, o_cons, gd_none, putK_e, runK_e, vK_e, evh_v, loopK_n, loopK_x, seqK_n, seqK_x, exitK_t, blockK_x, blockK_n, evp, bin, gt, st, putf, X.get, beq_self_eq_true, true_and, sts, m0, en]
     repeat' (first | omega | refine And.intro ?_ ?_)
     refine Nx.mk (i + 1) (by show i + 1 ≤ T.length; omega) (by show T.length - (i + 1) < T.length - i; omega) (Lw_re 3 [] (Nat.zero_le _) (by simp [ln]) (by simp [ln]) rfl ?_ ?_)
     ·simp only [reL, reX, inb, inb.inbs, Bool.and_self, Nat.reduceLT, decide_true, and_self, Int.natCast_add, Int.natCast_one]
     ·simp only [reL, reX, reH, reB, reN, inb, ln, Nat.reduceAdd, and_self, arS_re]
  ·have n0 : ((i : Int) < (T.length : Int)) = False := by simp; omega
   obtain rfl : i = T.length := by omega
   have etk := fun d : Dst => @arS_tk d 36 72 rfl
   have espl := fun d d' : Dst => @arS_spl d d' 36
   have ell := fun d : Dst => @arS_ll d 36
   have eon := fun d : Dst => @arS_one d 36
   have ecl := fun d : Dst => @arS_clo d 36
   have ecl8 := fun (d : Dst) (hp : List Blk) => @arS_clV d 36 hp 7
   simp only [condK_bf, decide_false, e_reg, and_self, e_seq, e_cond, e_exit, e_ret, o_nil, o_cons, gd_none, putK_e, runK_e, vK_e, storeK3_e, storeK2_e, storeK_e, evh_v, evh_store, loopK_x, seqK_n, seqK_x, exitK_t, blockK_x, ends_r, endK1_e, evp, bin, gt, st, putf, X.get, rdR, tupled, ld, lda, dr, sp, cs1, gb, sb, Nat.reduceMul, beq_self_eq_true, true_and, sts, n0, ld, etk, espl, ell, eon]
   rw [ecl8, endK2_e]
   exact ⟨_, hK, arS_le⟩
def pss : List Rdg → Dst → Option Dst
 | [], d => some d
 | r :: t, d => if okN d r = true then pss t (narR d r) else none
def rnds (L : List Rdg) : Nat → Dst → Option Dst
 | 0, _ => none
 | k + 1, d => match pss L d with
  | none => none
  | some d' => if ksF d' 0 36 = ksF d 0 36 then some d' else rnds L k d'
def trR (T : List Int) (m : Int) (L : List Rdg) : Option Dst := rnds L 36 (wdS T m)
def trS : Option Dst → SV
 | some d => .tup [.agg (arS 36 d), .bool true]
 | none => .tup [.agg (arS 36 fun _ => (0, 0)), .bool false]
theorem wd_bd {T : List Int} {m : Int} (hm : 0 ≤ m ∧ m ≤ 100000) {i j : Nat} : Bd (wd T m i j) := fun n => by
 unfold wd; split
 ·simp only; omega
 ·simp
theorem hE_in {T : List Int} {m a i : Int} (hs : okS T m = true) (h : hE T a i = true) : (0 ≤ a ∧ a ≤ 3) ∧ (0 ≤ i ∧ i ≤ 8) := by
 have hl := okS_len hs
 simp only [hE, Bool.and_eq_true, decide_eq_true_eq] at h
 simp only [okS, Bool.and_eq_true] at hs
 have := of_decide_eq_true (allI_get (i := a.toNat) (by omega) hs.2.2)
 omega
theorem okR_in {T : List Int} {m : Int} {r : Rdg} (hs : okS T m = true) (h : okR T r = true) : inR r := by
 simp only [okR, Bool.and_eq_true, decide_eq_true_eq] at h
 exact ⟨hE_in hs h.1.1, hE_in hs h.1.2, h.2⟩
theorem narR_bd {d : Dst} {r : Rdg} (hd : Bd d) (hr : inR r) (hok : okN d r = true) : Bd (narR d r) :=
 nar_bd hd (by have := hr.2.2.2; omega) (of_decide_eq_true hok)
theorem drop_rg {L : List Rdg} {i : Nat} (h : i < L.length) : L.drop i = rgG L i :: L.drop (i + 1) := by
 rw [List.drop_eq_getElem_cons h]; simp [rgG, List.getD, h]
def C25 : PC := fun args K => ∃ (T : List Int) (m : Int) (L : List Rdg), args = [.agg [.ints .i64 T, .int .i64 m], .rd 6 L.length (rgR L)] ∧ okS T m = true ∧ okL T L = true ∧ K (trS (trR T m L))
theorem p25 : PureOk Try.prog 25 C25 := by
 refine pure_of (T := [(45, .pc C45), (46, .con (lent C46))]) ⟨⟨p45, q45⟩, ⟨lent_ok p46, q46⟩, trivial⟩ Try.func25 k25 ?_
 rintro args K ⟨T, m, L, rfl, hs, hL, hK⟩
 have hs' := hs
 simp only [okS, Bool.and_eq_true, decide_eq_true_eq] at hs'
 have hL' := hL
 simp only [okL, Bool.and_eq_true, decide_eq_true_eq] at hL'
 have hin : ∀ i, i < L.length → inR (rgG L i) := fun i hi => okR_in hs (allR_get hi hL'.2)
 have z72 : (List.replicate 72 (SV.int .i64 0)) = arS 36 (fun _ => (0, 0)) := (arS_zero 36).symm
 have etk := fun d : Dst => @arS_tk d 36 72 rfl
 have espl := fun d d' : Dst => @arS_spl d d' 36
 have ell := fun d : Dst => @arS_ll d 36
 have eon := fun d : Dst => @arS_one d 36
 have ecl := fun d : Dst => @arS_clo d 36
 simp only [e_reg, e_seq, e_scp, o_nil, o_cons, gd_none, putK_e, runK_e, vK_e, boxK_e, conK_e, callK_e, evh_v, evh_new, evh_box, evh_store, evh_call, seqK_n, gam_e, gamK_p, pc_e, pcK_e, evp, gt, st, putf, X.get, gets, ap, mkfr, rep, clV, clL, clS, clo, ld, lda, tk, dr, cs1, one, gb, pb, ln, lk, Value.oneCell', undef, Nat.reduceSub, Nat.reduceAdd, beq_self_eq_true, true_and, s25, r25, z72]
 refine ⟨T, m, rfl, hs, ?_⟩
 simp only [e_skip, e_reg, and_self, e_seq, e_block, e_loop, o_nil, o_cons, gd_none, putK_e, runK_e, vK_e, storeK3_e, storeK2_e, storeK_e, evh_v, seqK_n, evp, st, putf, X.get, sp, gb, sb, Nat.reduceMul, true_and, espl, ell, eon]
 have hR0 : trR T m L = rnds L 36 (wdS T m) := rfl
 have hfit : ∀ d : Dst, Bd d → fitP d 0 36 := fun d hd => fitP_ok 36 0 fun j _ _ => by
  have := hd j
  exact ⟨⟨by omega, by omega⟩, ⟨by omega, by omega⟩⟩
 refine loop_at2 (G := Nat × Dst) (fun g => [(11, .int .i64 g.1)]) (fun g => [.box 70 [.ints .i64 T, .int .i64 m], .box 74 (arS 36 g.2)]) (fun g => g.1 ≤ 36 ∧ Bd g.2 ∧ trR T m L = rnds L (36 - g.1) g.2) (fun g => 36 - g.1) (0, wdS T m) ⟨Nat.zero_le _, wd_bd hs'.2.1, rfl⟩ ?_
 (intro fr1 hf1; simp only [forget, dstC, dstO, st] at hf1; subst hf1)
 refine ⟨?_, ?_⟩
 ·refine Lw_re 2 [] (Nat.zero_le _) (by simp [ln]) (by simp [ln]) rfl ?_ ?_
  ·simp only [reL, reX, inb, inb.inbs, ln, sts, st, Bool.and_self, Nat.reduceLT, Nat.reduceAdd, decide_true, and_self, Int.natCast_zero, implies_true, arS_in]
  ·simp only [reL, reX, reH, reB, reN, inb, ln, Nat.reduceAdd, and_self, arS_re]
 ·rintro ⟨k, d⟩ ⟨hk1, hbd, htr⟩
  simp only at hk1 hbd htr
  by_cases hk2 : k < 36
  ·have n0 : ((k : Int) < 36) = True := by simp; omega
   simp only [condK_bt, decide_true, e_skip, e_reg, and_self, e_seq, e_cond, e_block, e_loop, o_nil, o_cons, gd_none, putK_e, runK_e, vK_e, storeK3_e, storeK2_e, storeK_e, evh_v, evh_new, evh_store, seqK_n, evp, bin, gt, st, putf, X.get, ld, lda, lens, dr, sp, cs1, gb, sb, pb, ln, Nat.reduceAdd, Nat.reduceMul, true_and, sts, n0, ld, etk, espl, ell, eon]
   refine loop_at2 (G := Nat × Dst) (fun g => [(16, .int .i64 g.1)]) (fun g => [.box 70 [.ints .i64 T, .int .i64 m], .box 74 (arS 36 g.2), .box 74 (arS 36 d)]) (fun g => g.1 ≤ L.length ∧ Bd g.2 ∧ pss L d = pss (L.drop g.1) g.2) (fun g => L.length - g.1) (0, d) ⟨Nat.zero_le _, hbd, rfl⟩ ?_
   (intro fr1 hf1; simp only [forget, dstC, dstO, st] at hf1; subst hf1)
   refine ⟨?_, ?_⟩
   ·refine Lw_re 3 [] (Nat.zero_le _) (by simp [ln]) (by simp [ln]) rfl ?_ ?_
    ·simp only [reL, reX, inb, inb.inbs, ln, sts, st, Bool.and_self, Nat.reduceLT, Nat.reduceAdd, decide_true, and_self, Int.natCast_zero, implies_true, arS_in]
    ·simp only [reL, reX, reH, reB, reN, inb, ln, Nat.reduceAdd, and_self, arS_re]
   ·rintro ⟨i, d'⟩ ⟨hi1, hbd', hps⟩
    simp only at hi1 hbd' hps
    by_cases hi2 : i < L.length
    ·have m0 : ((i : Int) < (L.length : Int)) = True := by simp; omega
     rw [drop_rg hi2, pss] at hps
     simp only [condK_bt, decide_true, e_skip, e_reg, and_self, e_seq, e_cond, e_block, o_nil, o_cons, gd_none, putK_e, runK_e, vK_e, storeK3_e, storeK2_e, storeK_e, conK_e, callK_e, evh_v, evh_new, evh_store, evh_call, seqK_n, gam_e, gamK_c, evp, bin, gt, st, putf, X.get, gets, ap, clo, clo.clos, ld, lda, ixs, tk, dr, sp, sp.spl, ll, cs1, one, allOne, gb, sb, pb, ln, lk, Bool.and_true, Nat.reduceAdd, Nat.reduceBEq, beq_self_eq_true, true_and, and_true, sts, m0, Int.toNat_natCast, rgR, Rdg.row, ld, ecl, lent_e, lentK_e]
     refine ⟨by omega, rgG L i, d', rfl, rfl, rfl, hin i hi2, hbd', ?_⟩
     cases hok : okN d' (rgG L i) with
     | false =>
      rw [hok, if_neg (by simp)] at hps
      have hno : trR T m L = none := by
       rw [htr, show 36 - k = (36 - k - 1) + 1 by omega, rnds, hps]
      rw [hno] at hK
      simp only [condK_bt, e_reg, and_self, e_seq, e_cond, e_exit, e_ret, scpK_r, o_nil, o_cons, gd_none, putK_e, runK_e, vK_e, bldK_e, storeK3_e, storeK2_e, storeK_e, evh_v, evh_bld, evh_store, loopK_x, seqK_n, seqK_x, exitK_t, exitK_f, blockK_x, ends_r, endK1_e, evp, gt, st, putf, X.get, getp, rdR, tupled, ld, dr, sp, lay, cs1, gb, sb, Bool.not_false, Nat.reduceMul, Nat.reduceBEq, beq_self_eq_true, true_and, ld, etk, espl, ell, eon]
      rw [arS_clTl, endK2_e]
      exact ⟨_, hK, ⟨arS_le, rfl, trivial⟩⟩
     | true =>
      rw [hok, if_pos rfl] at hps
      simp only [condK_bf, inr64, e_skip, e_reg, e_cond, o_nil, o_cons, gd_none, putK_e, runK_e, vK_e, evh_v, loopK_n, seqK_n, blockK_n, evp, bin, gt, st, putf, X.get, Bool.not_true, true_and]
      refine ⟨by omega, ?_⟩
      refine Nx.mk (i + 1, narR d' (rgG L i)) ⟨by show i + 1 ≤ L.length; omega, narR_bd hbd' (hin i hi2) hok, hps⟩ (by show L.length - (i + 1) < L.length - i; omega) (Lw_re 3 [] (Nat.zero_le _) (by simp [ln]) (by simp [ln]) rfl ?_ ?_)
      ·simp only [reL, reX, inb, inb.inbs, Bool.and_self, Nat.reduceLT, decide_true, and_self, Int.natCast_add, Int.natCast_one, implies_true, arS_in]
      ·simp only [reL, reX, reH, reB, reN, inb, ln, Nat.reduceAdd, and_self, arS_re]
    ·have m0 : ((i : Int) < (L.length : Int)) = False := by simp; omega
     obtain rfl : i = L.length := by omega
     rw [List.drop_length, pss] at hps
     have efit := fun d : Dst => @arS_fit d 36 72 rfl
     by_cases heq : ksF d' 0 36 = ksF d 0 36
     ·have v := eq_true heq
      have hyes : trR T m L = some d' := by
       rw [htr, show 36 - k = (36 - k - 1) + 1 by omega, rnds, hps]
       simp only [heq, if_true]
      rw [hyes] at hK
      simp only [condK_bt, condK_bf, decide_true, decide_false, e_reg, and_self, e_seq, e_cond, e_exit, e_ret, scpK_r, o_nil, o_cons, gd_none, putK_e, runK_e, vK_e, storeK3_e, storeK2_e, storeK_e, evh_v, evh_store, loopK_x, loopK_r, seqK_n, seqK_x, seqK_r, exitK_t, blockK_x, blockK_r, ends_r, endK1_e, evp, bin, gt, st, putf, X.get, rdR, tupled, ld, lda, dr, sp, cs1, gb, sb, Bool.not_true, cond_false, Nat.reduceMul, beq_self_eq_true, true_and, sts, m0, efit, v, ld, etk, espl, ell, eon]
      refine ⟨⟨hfit d' hbd', hfit d hbd⟩, ?_⟩
      rw [arS_clTl, endK2_e]
      exact ⟨_, hK, ⟨arS_le, rfl, trivial⟩⟩
     ·have v := eq_false heq
      have hnx : trR T m L = rnds L (36 - (k + 1)) d' := by
       rw [htr, show 36 - k = (36 - (k + 1)) + 1 by omega, rnds, hps]
       simp only [heq, if_false]
      simp only [condK_bf, decide_false, inr64, e_skip, e_reg, e_seq, e_cond, e_exit, o_nil, o_cons, gd_none, putK_e, runK_e, vK_e, evh_v, loopK_n, loopK_x, seqK_n, seqK_x, exitK_t, blockK_x, blockK_n, evp, bin, gt, st, putf, X.get, ld, lda, dr, gb, Bool.not_false, cond_false, beq_self_eq_true, true_and, sts, m0, efit, v, ld, etk]
      refine ⟨⟨hfit d' hbd', hfit d hbd⟩, by omega, ?_⟩
      refine Nx.mk (k + 1, d') ⟨by show k + 1 ≤ 36; omega, hbd', hnx⟩ (by show 36 - (k + 1) < 36 - k; omega) (Lw_re 2 [] (Nat.zero_le _) (by simp [ln]) (by simp [ln]) rfl ?_ ?_)
      ·simp only [reL, reX, inb, inb.inbs, Bool.and_self, Nat.reduceLT, decide_true, and_self, Int.natCast_add, Int.natCast_one, implies_true, arS_in]
      ·simp only [reL, reX, reH, reB, reN, inb, ln, Nat.reduceAdd, and_self, arS_re]
  ·have n0 : ((k : Int) < 36) = False := by simp; omega
   obtain rfl : k = 36 := by omega
   rw [htr] at hK
   simp only [condK_bf, decide_false, e_reg, and_self, e_seq, e_cond, e_exit, e_ret, scpK_r, o_nil, o_cons, gd_none, putK_e, runK_e, vK_e, bldK_e, storeK3_e, storeK2_e, storeK_e, evh_v, evh_bld, evh_store, loopK_x, seqK_n, seqK_x, exitK_t, blockK_x, ends_r, endK1_e, evp, bin, gt, st, putf, X.get, getp, rdR, tupled, ld, dr, sp, lay, cs1, gb, sb, Nat.reduceSub, Nat.reduceMul, beq_self_eq_true, true_and, sts, n0, ld, etk, espl, ell, eon]
   rw [arS_clTl, endK2_e]
   exact ⟨_, hK, ⟨arS_le, rfl, trivial⟩⟩
end Go.Proofs.Ytplldhepmmjmmaa
