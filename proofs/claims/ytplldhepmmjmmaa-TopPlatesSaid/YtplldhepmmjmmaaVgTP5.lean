import Derived.Test.YtplldhepmmjmmaaVgTP4
namespace Go.Proofs.Ytplldhepmmjmmaa
open Go Go.Vg
set_option linter.unusedSimpArgs false
set_option linter.unusedVariables false
set_option maxRecDepth 10000
theorem loop_atc {N : Nat} {Γ : Gm} {Γq : Nat → Option FC} {K : Exit → St → Prop} {G : Type} {c : SC} {fr : List SV} {hp : List Blk} (ch : G → List (Nat × SV)) (p : G → Prop) (m : G → Nat) (g0 : G) (h0 : p g0)
  (hb : ∀ fr', forget fr (dstC c []) = fr' → Lw N ⟨fr, hp⟩ ⟨sts fr' (ch g0), hp⟩ ∧
   ∀ g, p g → exec N Γ Γq c (loopK K (Nx N (fun g => ⟨sts fr' (ch g), hp⟩) p m (m g))) ⟨sts fr' (ch g), hp⟩) : LoopP N (exec N Γ Γq c) K ⟨fr, hp⟩ := loop_at2 ch (fun _ => hp) p m g0 h0 hb
def s14 : SC :=
 (.seq (.reg [⟨(some 6), none, .v (.mov (.c (.lit (.bool false))))⟩])
 (.seq (.reg [⟨(some 7), none, .v (.mov (.t 0))⟩,
  ⟨(some 8), none, .v (.mov (.t 1))⟩,
  ⟨(some 9), none, .v (.bin .geq (.t 7) (.t 8))⟩,
  ⟨(some 10), none, .v (.mov (.t 9))⟩,
  ⟨(some 11), (some (10, true)), .v (.mov (.t 0))⟩,
  ⟨(some 12), (some (10, true)), .v (.mov (.t 2))⟩,
  ⟨(some 13), (some (10, true)), .v (.bin .leq (.t 11) (.t 12))⟩,
  ⟨(some 14), none, .v (.pick (.t 10) (.t 13) (.c (.lit (.bool false))))⟩,
  ⟨(some 6), none, .v (.mov (.t 14))⟩])
 .ret))
def r14 : List RV := [.t 6]
theorem k14 : (Try.f14.body.bind (cC Try.prog), cR Try.prog Try.f14.results.toList, Try.f14.ntmps) = (some s14, some r14, 15) := by kernel_rfl
theorem q14 : Known Try.prog 14 := ⟨_, Try.func14, by decide, by simp [Try.f14]⟩
def s8 : SC :=
 (.seq (.reg [⟨(some 2), none, .box 31 (.t 0)⟩,
  ⟨(some 4), none, .v (.mov (.c (.lit (.bool false))))⟩])
 (.seq (.reg [⟨(some 5), none, .v (.mov (.t 1))⟩,
  ⟨(some 6), none, .v (.off (.t 2) 0)⟩,
  ⟨(some 7), none, .v (.load (.t 6) none)⟩,
  ⟨(some 8), none, .v (.off (.t 2) 1)⟩,
  ⟨(some 9), none, .v (.load (.t 8) none)⟩,
  ⟨(some 10), none, .call (.c (.fn 14 [])) [(.t 5), (.t 7), (.t 9)]⟩,
  ⟨(some 4), none, .v (.mov (.t 10))⟩])
 .ret))
def r8 : List RV := [.t 4]
theorem k8 : (Try.f8.body.bind (cC Try.prog), cR Try.prog Try.f8.results.toList, Try.f8.ntmps) = (some s8, some r8, 11) := by kernel_rfl
theorem q8 : Known Try.prog 8 := ⟨_, Try.func8, by decide, by simp [Try.f8]⟩
def s24 : SC :=
 (.seq (.reg [⟨(some 4), none, .v (.mov (.c (.lit (.bool false))))⟩])
 (.seq (.seq (.reg [⟨(some 7), none, .v (.mov (.t 0))⟩,
  ⟨(some 8), none, .v (.len (.t 7))⟩,
  ⟨(some 9), none, .v (.mov (.c (.int .i64 (0))))⟩])
 (.block 0 (.loop
  (.seq (.reg [⟨(some 10), none, .v (.bin .lss (.t 9) (.t 8))⟩])
  (.seq (.cond (.t 10)
   .skip
   (.exit 0))
  (.seq (.block 1 (.seq (.reg [⟨(some 11), none, .v (.ixa (.t 7) (.t 9) 6)⟩,
   ⟨(some 12), none, .v (.load (.t 11) (some 6))⟩,
   ⟨(some 6), none, .new 98 [(.int .i64 (0)), (.int .i64 (0)), (.int .i64 (0)), (.int .i64 (0)), (.int .i64 (0)), (.int .i64 (0))]⟩,
   ⟨none, none, .store 6 (.t 6) (.t 12)⟩])
  (.seq (.drw [(0, ⟨(some 13), none, .v (.mov (.t 1))⟩, false),
   (1, ⟨(some 14), none, .v (.off (.t 6) 0)⟩, false),
   (2, ⟨(some 15), none, .v (.load (.t 14) none)⟩, false),
   (3, ⟨(some 16), none, .v (.ixa (.t 13) (.t 15) 1)⟩, false),
   (4, ⟨(some 17), none, .v (.load (.t 16) none)⟩, false),
   (5, ⟨(some 18), none, .v (.off (.t 6) 1)⟩, false),
   (6, ⟨(some 19), none, .v (.load (.t 18) none)⟩, false),
   (7, ⟨(some 20), none, .v (.ixa (.t 17) (.t 19) 1)⟩, false),
   (8, ⟨(some 21), none, .v (.load (.t 20) none)⟩, false),
   (9, ⟨(some 22), none, .v (.mov (.t 1))⟩, false),
   (10, ⟨(some 23), none, .v (.off (.t 6) 2)⟩, false),
   (11, ⟨(some 24), none, .v (.load (.t 23) none)⟩, false),
   (12, ⟨(some 25), none, .v (.ixa (.t 22) (.t 24) 1)⟩, false),
   (13, ⟨(some 26), none, .v (.load (.t 25) none)⟩, false),
   (14, ⟨(some 27), none, .v (.off (.t 6) 3)⟩, false),
   (15, ⟨(some 28), none, .v (.load (.t 27) none)⟩, false),
   (16, ⟨(some 29), none, .v (.ixa (.t 26) (.t 28) 1)⟩, false),
   (17, ⟨(some 30), none, .v (.load (.t 29) none)⟩, false),
   (18, ⟨(some 31), none, .v (.bin .sub (.t 21) (.t 30))⟩, false),
   (19, ⟨(some 32), none, .v (.off (.t 6) 4)⟩, false),
   (20, ⟨(some 33), none, .v (.load (.t 32) none)⟩, false),
   (21, ⟨(some 34), none, .v (.bin .sub (.t 31) (.t 33))⟩, false),
   (22, ⟨(some 35), none, .v (.off (.t 6) 5)⟩, false),
   (23, ⟨(some 36), none, .v (.load (.t 35) none)⟩, false),
   (24, ⟨(some 37), none, .v (.neg (.t 36))⟩, false),
   (25, ⟨(some 38), none, .v (.off (.t 6) 5)⟩, false),
   (26, ⟨(some 39), none, .v (.load (.t 38) none)⟩, false)]
   none
   [⟨(some 40), none, .call (.c (.fn 44 [])) [(.t 34), (.t 37), (.t 39)]⟩,
   ⟨(some 41), none, .v (.not (.t 40))⟩])
  (.cond (.t 41)
   (.seq (.reg [⟨(some 4), none, .v (.mov (.c (.lit (.bool false))))⟩])
   .ret)
   .skip))))
  (.reg [⟨(some 42), none, .v (.bin .add (.t 9) (.c (.int .i64 (1))))⟩,
   ⟨(some 9), none, .v (.mov (.t 42))⟩])))))))
 (.seq (.reg [⟨(some 4), none, .v (.mov (.c (.lit (.bool true))))⟩])
 .ret)))
def r24 : List RV := [.t 4]
theorem k24 : (Try.f24.body.bind (cC Try.prog), cR Try.prog Try.f24.results.toList, Try.f24.ntmps) = (some s24, some r24, 43) := by kernel_rfl
theorem q24 : Known Try.prog 24 := ⟨_, Try.func24, by decide, by simp [Try.f24]⟩
def s23 : SC :=
 (.seq (.reg [⟨(some 2), none, .box 70 (.t 0)⟩,
  ⟨(some 4), none, .v (.mov (.c (.lit (.bool false))))⟩])
 (.seq (.seq (.reg [⟨(some 9), none, .v (.mov (.t 1))⟩,
  ⟨(some 10), none, .v (.len (.t 9))⟩,
  ⟨(some 11), none, .v (.off (.t 2) 0)⟩,
  ⟨(some 12), none, .v (.off (.t 11) 0)⟩,
  ⟨(some 13), none, .v (.load (.t 12) none)⟩,
  ⟨(some 14), none, .v (.len (.t 13))⟩,
  ⟨(some 15), none, .v (.bin .neq (.t 10) (.t 14))⟩])
 (.cond (.t 15)
  (.seq (.reg [⟨(some 4), none, .v (.mov (.c (.lit (.bool false))))⟩])
  .ret)
  .skip))
 (.seq (.seq (.reg [⟨(some 16), none, .v (.mov (.t 1))⟩,
  ⟨(some 17), none, .v (.len (.t 16))⟩,
  ⟨(some 18), none, .v (.mov (.c (.int .i64 (0))))⟩])
 (.block 0 (.loop
  (.seq (.reg [⟨(some 19), none, .v (.bin .lss (.t 18) (.t 17))⟩])
  (.seq (.cond (.t 19)
   .skip
   (.exit 0))
  (.seq (.block 1 (.seq (.reg [⟨(some 20), none, .v (.mov (.t 18))⟩,
   ⟨(some 21), none, .v (.ixa (.t 16) (.t 18) 1)⟩,
   ⟨(some 22), none, .v (.load (.t 21) none)⟩,
   ⟨(some 5), none, .v (.mov (.t 20))⟩,
   ⟨(some 6), none, .v (.mov (.t 22))⟩])
  (.seq (.seq (.reg [⟨(some 23), none, .v (.mov (.t 6))⟩,
   ⟨(some 24), none, .v (.len (.t 23))⟩,
   ⟨(some 25), none, .v (.off (.t 2) 0)⟩,
   ⟨(some 26), none, .v (.off (.t 25) 0)⟩,
   ⟨(some 27), none, .v (.load (.t 26) none)⟩,
   ⟨(some 28), none, .v (.mov (.t 5))⟩,
   ⟨(some 29), none, .v (.ixa (.t 27) (.t 28) 1)⟩,
   ⟨(some 30), none, .v (.load (.t 29) none)⟩,
   ⟨(some 31), none, .v (.bin .add (.t 30) (.c (.int .i64 (1))))⟩,
   ⟨(some 32), none, .v (.bin .neq (.t 24) (.t 31))⟩,
   ⟨(some 33), none, .v (.mov (.t 32))⟩,
   ⟨(some 34), (some (33, false)), .v (.mov (.t 6))⟩,
   ⟨(some 35), (some (33, false)), .v (.ixa (.t 34) (.c (.int .i64 (0))) 1)⟩,
   ⟨(some 36), (some (33, false)), .v (.load (.t 35) none)⟩,
   ⟨(some 37), (some (33, false)), .v (.bin .neq (.t 36) (.c (.int .i64 (0))))⟩,
   ⟨(some 38), none, .v (.pick (.t 33) (.c (.lit (.bool true))) (.t 37))⟩])
  (.cond (.t 38)
   (.seq (.reg [⟨(some 4), none, .v (.mov (.c (.lit (.bool false))))⟩])
   .ret)
   .skip))
  (.seq (.reg [⟨(some 39), none, .v (.mov (.t 6))⟩,
   ⟨(some 40), none, .v (.len (.t 39))⟩,
   ⟨(some 41), none, .v (.mov (.c (.int .i64 (0))))⟩])
  (.block 2 (.loop
   (.seq (.reg [⟨(some 42), none, .v (.bin .lss (.t 41) (.t 40))⟩])
   (.seq (.cond (.t 42)
    .skip
    (.exit 2))
   (.seq (.block 3 (.seq (.reg [⟨(some 43), none, .v (.ixa (.t 39) (.t 41) 1)⟩,
    ⟨(some 44), none, .v (.load (.t 43) none)⟩,
    ⟨(some 8), none, .v (.mov (.t 44))⟩])
   (.seq (.reg [⟨(some 45), none, .v (.mov (.t 8))⟩,
    ⟨(some 46), none, .v (.off (.t 2) 0)⟩,
    ⟨(some 47), none, .v (.off (.t 46) 1)⟩,
    ⟨(some 48), none, .v (.load (.t 47) none)⟩,
    ⟨(some 49), none, .v (.neg (.t 48))⟩,
    ⟨(some 50), none, .v (.off (.t 2) 0)⟩,
    ⟨(some 51), none, .v (.off (.t 50) 1)⟩,
    ⟨(some 52), none, .v (.load (.t 51) none)⟩,
    ⟨(some 53), none, .call (.c (.fn 44 [])) [(.t 45), (.t 49), (.t 52)]⟩,
    ⟨(some 54), none, .v (.not (.t 53))⟩])
   (.cond (.t 54)
    (.seq (.reg [⟨(some 4), none, .v (.mov (.c (.lit (.bool false))))⟩])
    .ret)
    .skip))))
   (.reg [⟨(some 55), none, .v (.bin .add (.t 41) (.c (.int .i64 (1))))⟩,
    ⟨(some 41), none, .v (.mov (.t 55))⟩]))))))))))
  (.reg [⟨(some 56), none, .v (.bin .add (.t 18) (.c (.int .i64 (1))))⟩,
   ⟨(some 18), none, .v (.mov (.t 56))⟩])))))))
 (.seq (.reg [⟨(some 4), none, .v (.mov (.c (.lit (.bool true))))⟩])
 .ret))))
def r23 : List RV := [.t 4]
theorem k23 : (Try.f23.body.bind (cC Try.prog), cR Try.prog Try.f23.results.toList, Try.f23.ntmps) = (some s23, some r23, 57) := by kernel_rfl
theorem q23 : Known Try.prog 23 := ⟨_, Try.func23, by decide, by simp [Try.f23]⟩
def s12 : SC :=
 (.seq (.reg [⟨(some 3), none, .box 24 (.t 0)⟩,
  ⟨(some 6), none, .v (.mov (.c (.lit (.bool false))))⟩,
  ⟨(some 7), none, .v (.mov (.c (.int .i64 (0))))⟩])
 (.seq (.seq (.reg [⟨(some 9), none, .v (.load (.t 3) (some 2))⟩,
  ⟨(some 10), none, .v (.mov (.t 1))⟩,
  ⟨(some 11), none, .call (.c (.fn 22 [])) [(.t 9), (.t 10)]⟩,
  ⟨(some 8), none, .v (.mov (.t 11))⟩])
 (.seq (.reg [⟨(some 12), none, .v (.mov (.t 8))⟩,
  ⟨(some 13), none, .v (.bin .neq (.t 12) (.c (.int .i64 (0))))⟩])
 (.cond (.t 13)
  (.seq (.reg [⟨(some 14), none, .v (.mov (.t 8))⟩,
   ⟨(some 6), none, .v (.mov (.c (.lit (.bool false))))⟩,
   ⟨(some 7), none, .v (.mov (.t 14))⟩])
  .ret)
  .skip)))
 (.seq (.reg [⟨(some 15), none, .v (.load (.t 3) (some 2))⟩,
  ⟨(some 16), none, .bld [(.lit (.slice none 0 0)), (.int .i64 (0))] [(0, 2, (.t 15))]⟩,
  ⟨(some 17), none, .v (.mov (.t 2))⟩,
  ⟨(some 18), none, .call (.c (.fn 23 [])) [(.t 16), (.t 17)]⟩,
  ⟨(some 19), none, .v (.mov (.t 18))⟩,
  ⟨(some 20), (some (19, true)), .v (.mov (.t 1))⟩,
  ⟨(some 21), (some (19, true)), .v (.mov (.t 2))⟩,
  ⟨(some 22), (some (19, true)), .call (.c (.fn 24 [])) [(.t 20), (.t 21)]⟩,
  ⟨(some 23), none, .v (.pick (.t 19) (.t 22) (.c (.lit (.bool false))))⟩,
  ⟨(some 6), none, .v (.mov (.t 23))⟩,
  ⟨(some 7), none, .v (.mov (.c (.int .i64 (0))))⟩])
 .ret)))
def r12 : List RV := [.t 6, .t 7]
theorem k12 : (Try.f12.body.bind (cC Try.prog), cR Try.prog Try.f12.results.toList, Try.f12.ntmps) = (some s12, some r12, 24) := by kernel_rfl
theorem q12 : Known Try.prog 12 := ⟨_, Try.func12, by decide, by simp [Try.f12]⟩
theorem p14 : PureOk Try.prog 14 (fcC Fw) := by
 refine pure_of (T := []) trivial Try.func14 k14 ?_
 intro args K hC
 unfold fcC Fw at hC
 split at hC <;> first | (exact hC.elim) | skip
 rename_i h
 split at h <;> first | (cases h; done) | skip
 cases h
 rename_i x a b
 obtain ⟨_, hK⟩ := hC
 by_cases h1 : a ≤ x
 ·have t1 := eq_true h1
  simp only [gdK_btt, decide_true, e_reg, e_seq, e_ret, o_nil, o_cons, gd_none, gd_some, gdK_tt, putK_e, runK_e, vK_e, evh_v, seqK_n, ends_r, endK1_e, endK2_e, evp, bin, gt, st, putf, X.get, mkfr, rep, rdR, tupled, clV, clS, clo, undef, Nat.reduceSub, true_and, s14, r14, t1]
  exact res hK (by simp [leR, h1])
 ·have t1 := eq_false h1
  simp only [gdK_btf, decide_false, e_reg, e_seq, e_ret, o_nil, o_cons, gd_none, gd_some, gdK_ft, putK_e, runK_e, skipK_e, vK_e, evh_v, seqK_n, ends_r, endK1_e, endK2_e, evp, bin, gt, st, putf, X.get, mkfr, rep, rdR, tupled, clV, clS, clo, undef, Nat.reduceSub, true_and, s14, r14, t1]
  exact res hK (by simp [leR, h1])
def F8 : FC := fun args => match args with
 | [.agg [.int .i64 a, .int .i64 b], .int .i64 x] => some (True, .bool (decide (a ≤ x ∧ x ≤ b)))
 | _ => none
theorem p8 : PureOk Try.prog 8 (fcC F8) := by
 refine pure_of (T := [(14, .fc Fw)]) ⟨⟨p14, q14⟩, trivial⟩ Try.func8 k8 ?_
 intro args K hC
 unfold fcC F8 at hC
 split at hC <;> first | (exact hC.elim) | skip
 rename_i h
 split at h <;> first | (cases h; done) | skip
 cases h
 rename_i x a b
 obtain ⟨_, hK⟩ := hC
 simp only [e_reg, e_seq, e_ret, o_nil, o_cons, gd_none, putK_e, runK_e, vK_e, boxK_e, conK_e, callK_e, evh_v, evh_box, evh_call, seqK_n, ends_r, endK1_e, endK2_e, gam_e, gamK_f, pc_e, pcK_e, fcC_e, fcK_e, evp, gt, gq, st, putf, X.get, gets, ap, mkfr, rep, rdR, tupled, clV, clL, clS, clo, ld, lda, cs1, gb, pb, ln, lk, undef, Nat.reduceSub, Nat.reduceAdd, beq_self_eq_true, true_and, s8, r8, Fw]
 exact res hK (by simp [leR])
theorem lt_ext {p : Nat → Prop} {j : Nat} (h : ∀ k, k < j → p k) (hj : p j) : ∀ k, k < j + 1 → p k := fun k hk => by
 rcases Nat.lt_or_ge k j with h1 | h1
 ·exact h k h1
 ·obtain rfl : k = j := by omega
  exact hj
def rowE (t m : Int) (l : List Int) : Bool := decide ((l.length : Int) = t + 1) && (decide (l.getD 0 0 = 0) && l.all (fun x => decide (-m ≤ x ∧ x ≤ m)))
def haveE (T : List Int) (m : Int) (N : Nat) (Y : Nat → List Int) : Bool := decide ((N : Int) = T.length) && (List.range N).all (fun i => rowE (T.getD i 0) m (Y i))
def hdE (Y : Nat → List Int) (r : Rdg) : Int := (Y r.A.toNat).getD r.I.toNat 0 - (Y r.B.toNat).getD r.J.toNat 0
def holdE (Y : Nat → List Int) (r : Rdg) : Bool := decide (-r.W ≤ hdE Y r - r.V ∧ hdE Y r - r.V ≤ r.W)
theorem haveE_row {T : List Int} {m : Int} {N : Nat} {Y : Nat → List Int} (h : haveE T m N Y = true) : (N : Int) = T.length ∧ ∀ i, i < N → ((Y i).length : Int) = T.getD i 0 + 1 ∧ (Y i).getD 0 0 = 0 ∧ ∀ j, j < (Y i).length → -m ≤ (Y i).getD j 0 ∧ (Y i).getD j 0 ≤ m := by
 simp only [haveE, Bool.and_eq_true, decide_eq_true_eq, List.all_eq_true, List.mem_range, rowE] at h
 refine ⟨h.1, fun i hi => ⟨(h.2 i hi).1, (h.2 i hi).2.1, fun j hj => ?_⟩⟩
 have := (h.2 i hi).2.2 ((Y i).getD j 0) (by rw [List.getD_eq_getElem?_getD, List.getElem?_eq_getElem hj]; exact List.getElem_mem hj)
 exact this
theorem haveE_mk {T : List Int} {m : Int} {N : Nat} {Y : Nat → List Int} (h0 : (N : Int) = T.length) (h : ∀ i, i < N → rowE (T.getD i 0) m (Y i) = true) : haveE T m N Y = true := by
 simp only [haveE, Bool.and_eq_true, decide_eq_true_eq, List.all_eq_true, List.mem_range]
 exact ⟨h0, h⟩
theorem haveE_no {T : List Int} {m : Int} {N i : Nat} {Y : Nat → List Int} (hi : i < N) (h : rowE (T.getD i 0) m (Y i) = false) : haveE T m N Y = false := by
 cases e : haveE T m N Y with
 | false => rfl
 | true =>
  simp only [haveE, Bool.and_eq_true, decide_eq_true_eq, List.all_eq_true, List.mem_range] at e
  rw [e.2 i hi] at h; cases h
def C23 : PC := fun args K => ∃ (T : List Int) (m : Int) (N : Nat) (Y : Nat → List Int) (g : Nat → List SV), args = [.agg [.ints .i64 T, .int .i64 m], .rd 1 N g] ∧ okS T m = true ∧ (∀ i, i < N → g i = [.ints .i64 (Y i)]) ∧ K (.bool (haveE T m N Y))
theorem p23 : PureOk Try.prog 23 C23 := by
 refine pure_of (T := [(44, .fc Fw)]) ⟨⟨p44, q44⟩, trivial⟩ Try.func23 k23 ?_
 rintro args K ⟨T, m, N, Y, g, rfl, hs, hg, hK⟩
 have hs' := hs
 simp only [okS, Bool.and_eq_true, decide_eq_true_eq] at hs'
 obtain ⟨hl, hm, hall⟩ := hs'
 have hT : ∀ i, i < T.length → 1 ≤ T.getD i 0 ∧ T.getD i 0 ≤ 8 := fun i hi => of_decide_eq_true (allI_get hi hall)
 by_cases h1 : (N : Int) = (T.length : Int)
 ·have t1 := eq_true h1
  simp only [condK_bf, decide_true, e_skip, e_reg, e_seq, e_cond, e_block, e_loop, o_nil, o_cons, gd_none, putK_e, runK_e, vK_e, boxK_e, evh_v, evh_box, seqK_n, evp, bin, gt, gq, st, putf, X.get, mkfr, rep, ld, lda, lens, cs1, gb, pb, ln, undef, Bool.not_true, Nat.reduceSub, Nat.reduceAdd, true_and, s23, r23, t1]
  refine loop_at2 (G := Nat) (fun i => [(18, .int .i64 i)]) (fun _ => [.box 70 [.ints .i64 T, .int .i64 m]]) (fun i => i ≤ N ∧ ∀ k, k < i → rowE (T.getD k 0) m (Y k) = true) (fun i => N - i) 0 ⟨Nat.zero_le _, fun k hk => by omega⟩ ?_
  (intro fr1 hf1; simp only [forget, dstC, dstO, st] at hf1; subst hf1)
  refine ⟨?_, ?_⟩
  ·refine Lw_re 1 [] (Nat.zero_le _) (by simp [ln]) (by simp [ln]) rfl ?_ ?_
   ·simp only [reL, reX, inb, inb.inbs, ln, sts, st, Bool.and_self, Nat.reduceLT, Nat.reduceAdd, decide_true, and_self, Int.natCast_zero, implies_true]
   ·simp only [reL, reX, reH, reB, reN, inb, and_self]
  ·rintro i ⟨hi1, hpr⟩
   by_cases hi2 : i < N
   ·have n0 : ((i : Int) < (N : Int)) = True := eq_true (by omega)
    have ht := hT i (by omega)
    have gi := hg i hi2
    by_cases h2 : ((Y i).length : Int) = T.getD i 0 + 1
    ·have t2 := eq_true h2
     by_cases h3 : (Y i).getD 0 0 = 0
     ·have t3 := eq_true h3
      simp only [gdK_bff, condK_bt, condK_bf, decide_true, inr64, e_skip, e_reg, e_seq, e_cond, e_block, e_loop, o_nil, o_cons, gd_none, gd_some, gdK_ff, putK_e, runK_e, vK_e, evh_v, seqK_n, evp, bin, gt, gq, st, putf, X.get, ld, lda, lens, ixs, gb, Bool.not_true, Nat.reduceAdd, true_and, and_true, sts, n0, Int.toNat_natCast, Int.toNat_zero, gi, t2, t3]
      repeat' (first | omega | (with_reducible refine And.intro ?_ ?_))
      refine loop_at2 (G := Nat) (fun j => [(41, .int .i64 j)]) (fun _ => [.box 70 [.ints .i64 T, .int .i64 m]]) (fun j => j ≤ (Y i).length ∧ ∀ k, k < j → -m ≤ (Y i).getD k 0 ∧ (Y i).getD k 0 ≤ m) (fun j => (Y i).length - j) 0 ⟨Nat.zero_le _, fun k hk => by omega⟩ ?_
      (intro fr1 hf1; simp only [forget, dstC, dstO, st] at hf1; subst hf1)
      refine ⟨?_, ?_⟩
      ·refine Lw_re 1 [] (Nat.zero_le _) (by simp [ln]) (by simp [ln]) rfl ?_ ?_
       ·simp only [reL, reX, inb, inb.inbs, ln, sts, st, Bool.and_self, Nat.reduceLT, Nat.reduceAdd, decide_true, and_self, Int.natCast_zero, implies_true]
       ·simp only [reL, reX, reH, reB, reN, inb, and_self]
      ·rintro j ⟨hj1, hpj⟩
       by_cases hj2 : j < (Y i).length
       ·have m0 : ((j : Int) < ((Y i).length : Int)) = True := eq_true (by omega)
        by_cases h4 : -m ≤ (Y i).getD j 0 ∧ (Y i).getD j 0 ≤ m
        ·have t4 := eq_true h4
         simp only [condK_bt, condK_bf, decide_true, inr64, e_skip, e_reg, e_seq, e_cond, e_block, o_nil, o_cons, gd_none, putK_e, runK_e, vK_e, conK_e, callK_e, evh_v, evh_call, loopK_n, seqK_n, blockK_n, gam_e, gamK_f, pc_e, pcK_e, fcC_e, fcK_e, evp, bin, gt, gq, st, putf, X.get, gets, ap, clV, clL, clS, clo, ld, lda, ixs, gb, lk, Bool.not_true, Nat.reduceAdd, beq_self_eq_true, true_and, and_true, sts, m0, Int.toNat_natCast, Fw, t4]
         repeat' (first | omega | (with_reducible refine And.intro ?_ ?_))
         refine Nx.mk (j + 1) ⟨by show j + 1 ≤ (Y i).length; omega, lt_ext (p := fun k => -m ≤ (Y i).getD k 0 ∧ (Y i).getD k 0 ≤ m) hpj h4⟩ (by show (Y i).length - (j + 1) < (Y i).length - j; omega) (Lw_re 1 [] (Nat.zero_le _) (by simp [ln]) (by simp [ln]) rfl ?_ ?_)
         ·simp only [reL, reX, inb, inb.inbs, Bool.and_self, Nat.reduceLT, decide_true, and_self, Int.natCast_add, Int.natCast_one, implies_true]
         ·simp only [reL, reX, reH, reB, reN, inb, and_self]
        ·have t4 := eq_false h4
         have hno : haveE T m N Y = false := haveE_no hi2 (by
          cases e : rowE (T.getD i 0) m (Y i) with
          | false => rfl
          | true =>
           simp only [rowE, Bool.and_eq_true, List.all_eq_true, decide_eq_true_eq] at e
           exact absurd (e.2.2 ((Y i).getD j 0) (by rw [List.getD_eq_getElem?_getD, List.getElem?_eq_getElem hj2]; exact List.getElem_mem hj2)) h4)
         rw [hno] at hK
         simp only [condK_bt, decide_true, decide_false, inr64, e_skip, e_reg, e_seq, e_cond, e_block, e_ret, o_nil, o_cons, gd_none, putK_e, runK_e, vK_e, conK_e, callK_e, evh_v, evh_call, loopK_r, seqK_n, seqK_r, blockK_r, ends_r, endK1_e, endK2_e, gam_e, gamK_f, pc_e, pcK_e, fcC_e, fcK_e, evp, bin, gt, gq, st, putf, X.get, gets, ap, rdR, tupled, clV, clL, clS, clo, ld, lda, ixs, gb, lk, Bool.not_false, Nat.reduceAdd, beq_self_eq_true, true_and, and_true, sts, m0, Int.toNat_natCast, Fw, t4]
         repeat' (first | omega | (with_reducible refine And.intro ?_ ?_))
         exact res hK (by simp [leR])
       ·have m0 : ((j : Int) < ((Y i).length : Int)) = False := eq_false (by omega)
        have hrow : rowE (T.getD i 0) m (Y i) = true := by
         simp only [rowE, Bool.and_eq_true, List.all_eq_true, decide_eq_true_eq]
         refine ⟨h2, h3, fun x hx => ?_⟩
         obtain ⟨k, hk⟩ := List.mem_iff_getElem?.1 hx
         have hk2 : k < (Y i).length := (List.getElem?_eq_some_iff.1 hk).1
         have := hpj k (by omega)
         rw [List.getD_eq_getElem?_getD, hk] at this
         exact this
        simp only [condK_bf, decide_false, inr64, e_reg, e_seq, e_cond, e_exit, o_nil, o_cons, gd_none, putK_e, runK_e, vK_e, evh_v, loopK_n, loopK_x, seqK_n, seqK_x, exitK_t, blockK_x, blockK_n, evp, bin, gt, st, putf, X.get, beq_self_eq_true, true_and, sts, m0]
        repeat' (first | omega | (with_reducible refine And.intro ?_ ?_))
        refine Nx.mk (i + 1) ⟨by show i + 1 ≤ N; omega, lt_ext (p := fun k => rowE (T.getD k 0) m (Y k) = true) hpr hrow⟩ (by show N - (i + 1) < N - i; omega) (Lw_re 1 [] (Nat.zero_le _) (by simp [ln]) (by simp [ln]) rfl ?_ ?_)
        ·simp only [reL, reX, inb, inb.inbs, Bool.and_self, Nat.reduceLT, decide_true, and_self, Int.natCast_add, Int.natCast_one, implies_true]
        ·simp only [reL, reX, reH, reB, reN, inb, and_self]
     ·have t3 := eq_false h3
      rw [haveE_no hi2 (by unfold rowE; rw [decide_eq_false h3, Bool.false_and, Bool.and_false])] at hK
      simp only [gdK_bff, condK_bt, decide_true, decide_false, inr64, e_skip, e_reg, e_seq, e_cond, e_block, e_ret, o_nil, o_cons, gd_none, gd_some, gdK_ff, putK_e, runK_e, vK_e, evh_v, loopK_r, seqK_n, seqK_r, blockK_r, ends_r, endK1_e, endK2_e, evp, bin, gt, gq, st, putf, X.get, rdR, tupled, clV, clS, clo, ld, lda, lens, ixs, gb, Bool.not_true, Bool.not_false, Nat.reduceAdd, true_and, and_true, sts, n0, Int.toNat_natCast, Int.toNat_zero, gi, t2, t3]
      repeat' (first | omega | (with_reducible refine And.intro ?_ ?_))
      exact res hK (by simp [leR])
    ·have t2 := eq_false h2
     rw [haveE_no hi2 (by unfold rowE; rw [decide_eq_false h2, Bool.false_and])] at hK
     simp only [gdK_bft, condK_bt, decide_true, decide_false, inr64, e_skip, e_reg, e_seq, e_cond, e_block, e_ret, o_nil, o_cons, gd_none, gd_some, gdK_tf, putK_e, runK_e, skipK_e, vK_e, evh_v, loopK_r, seqK_n, seqK_r, condK_t, blockK_r, ends_r, endK1_e, endK2_e, evp, bin, gt, gq, st, putf, X.get, rdR, tupled, clV, clS, clo, ld, lda, lens, ixs, gb, undef, Bool.not_false, Nat.reduceAdd, true_and, and_true, sts, n0, Int.toNat_natCast, gi, t2]
     repeat' (first | omega | (with_reducible refine And.intro ?_ ?_))
     exact res hK (by simp [leR])
   ·have n0 : ((i : Int) < (N : Int)) = False := eq_false (by omega)
    obtain rfl : i = N := by omega
    rw [haveE_mk h1 hpr] at hK
    simp only [condK_bf, decide_false, e_reg, e_seq, e_cond, e_exit, e_ret, o_nil, o_cons, gd_none, putK_e, runK_e, vK_e, evh_v, loopK_x, seqK_n, seqK_x, exitK_t, blockK_x, ends_r, endK1_e, endK2_e, evp, bin, gt, st, putf, X.get, rdR, tupled, clV, clS, clo, beq_self_eq_true, true_and, sts, n0]
    exact res hK (by simp [leR])
 ·have t1 := eq_false h1
  have hno : haveE T m N Y = false := by simp [haveE, h1]
  rw [hno] at hK
  simp only [condK_bt, decide_false, e_reg, e_seq, e_cond, e_ret, o_nil, o_cons, gd_none, putK_e, runK_e, vK_e, boxK_e, evh_v, evh_box, seqK_n, seqK_r, ends_r, endK1_e, endK2_e, evp, bin, gt, gq, st, putf, X.get, mkfr, rep, rdR, tupled, clV, clS, clo, ld, lda, lens, cs1, gb, pb, ln, undef, Bool.not_false, Nat.reduceSub, Nat.reduceAdd, true_and, s23, r23, t1]
  exact res hK (by simp [leR])
def C24 : PC := fun args K => ∃ (T : List Int) (m : Int) (L : List Rdg) (N : Nat) (Y : Nat → List Int) (g : Nat → List SV), args = [.rd 6 L.length (rgR L), .rd 1 N g] ∧ okS T m = true ∧ okL T L = true ∧ haveE T m N Y = true ∧ (∀ i, i < N → g i = [.ints .i64 (Y i)]) ∧ K (.bool (L.all (holdE Y)))
theorem p24 : PureOk Try.prog 24 C24 := by
 refine pure_of (T := [(44, .fc Fw)]) ⟨⟨p44, q44⟩, trivial⟩ Try.func24 k24 ?_
 rintro args K ⟨T, m, L, N, Y, g, rfl, hs, hL, hhE, hg, hK⟩
 obtain ⟨hN, hrow⟩ := haveE_row hhE
 have hs' := hs
 simp only [okS, Bool.and_eq_true, decide_eq_true_eq] at hs'
 obtain ⟨hl, hm, hall⟩ := hs'
 have hlen : L.length ≤ 24 := by
  simp only [okL, Bool.and_eq_true, decide_eq_true_eq] at hL; exact hL.1
 simp only [e_reg, e_seq, e_block, e_loop, o_nil, o_cons, gd_none, putK_e, runK_e, vK_e, evh_v, seqK_n, evp, gt, st, putf, X.get, mkfr, rep, lens, undef, Nat.reduceSub, true_and, s24, r24]
 refine loop_at2 (G := Nat) (fun i => [(9, .int .i64 i)]) (fun _ => []) (fun i => i ≤ L.length ∧ (L.take i).all (holdE Y) = true) (fun i => L.length - i) 0 ⟨Nat.zero_le _, rfl⟩ ?_
 (intro fr1 hf1; simp only [forget, dstC, dstO, dstD, dst1, st] at hf1; subst hf1)
 refine ⟨?_, ?_⟩
 ·refine Lw_re 0 [] (Nat.zero_le _) (by simp [ln]) (by simp [ln]) rfl ?_ ?_
  ·simp only [reL, reX, inb, ln, sts, st, and_self, Int.natCast_zero, implies_true]
  ·simp only [reH, reN]
 ·rintro i ⟨hi1, hpr⟩
  by_cases hi2 : i < L.length
  ·have n0 : ((i : Int) < (L.length : Int)) = True := eq_true (by omega)
   have hr : okR T (rgG L i) = true := by
    simp only [okL, Bool.and_eq_true] at hL
    exact allR_get hi2 hL.2
   have hr' := hr
   simp only [okR, hE, Bool.and_eq_true, decide_eq_true_eq] at hr'
   obtain ⟨⟨⟨a1, a2⟩, b1, b2⟩, v1, w1⟩ := hr'
   have hA : (rgG L i).A.toNat < N := by omega
   have hB : (rgG L i).B.toNat < N := by omega
   have gA := hg _ hA
   have gB := hg _ hB
   obtain ⟨rA1, rA2, rA3⟩ := hrow _ hA
   obtain ⟨rB1, rB2, rB3⟩ := hrow _ hB
   have yA := rA3 (rgG L i).I.toNat (by omega)
   have yB := rB3 (rgG L i).J.toNat (by omega)
   by_cases h1 : -(rgG L i).W ≤ (Y (rgG L i).A.toNat).getD (rgG L i).I.toNat 0 - (Y (rgG L i).B.toNat).getD (rgG L i).J.toNat 0 - (rgG L i).V ∧ (Y (rgG L i).A.toNat).getD (rgG L i).I.toNat 0 - (Y (rgG L i).B.toNat).getD (rgG L i).J.toNat 0 - (rgG L i).V ≤ (rgG L i).W
   ·have t1 := eq_true h1
    have hall1 : (L.take (i + 1)).all (holdE Y) = true := by rw [allR_snoc hi2, hpr]; simpa [holdE, hdE] using h1
    simp only [condK_bt, condK_bf, decide_true, inr64, e_skip, e_reg, and_self, e_drw, e_seq, e_cond, e_block, o_nil, o_cons, gd_none, putK_e, runK_e, vK_e, storeK3_e, storeK2_e, storeK_e, conK_e, callK_e, evh_v, evh_new, evh_store, evh_call, dX_e, dG_t, d_nil, d_cons, tlK_n, loopK_n, seqK_n, blockK_n, gam_e, gamK_f, pc_e, pcK_e, fcC_e, fcK_e, evp, bin, gt, gq, st, putf, X.get, gets, ap, clV, clL, clS, clo, ld, lda, ixs, tk, dr, sp, sp.spl, ll, cs1, one, allOne, gb, sb, pb, ln, lk, evq, gdl, Bool.and_true, Bool.not_true, Nat.reduceAdd, beq_self_eq_true, true_and, and_true, sts, n0, rgR, Rdg.row, Int.toNat_natCast, gA, gB, Fw, t1]
    repeat' (first | omega | (with_reducible refine And.intro ?_ ?_))
    refine Nx.mk (i + 1) ⟨by show i + 1 ≤ L.length; omega, hall1⟩ (by show L.length - (i + 1) < L.length - i; omega) (Lw_re 0 [] (Nat.zero_le _) (by simp [ln]) (by simp [ln]) rfl ?_ ?_)
    ·simp only [reL, reX, inb, and_self, Int.natCast_add, Int.natCast_one, implies_true]
    ·simp only [reH, reN]
   ·have t1 := eq_false h1
    have hno : L.all (holdE Y) = false := by
     cases e : L.all (holdE Y) with
     | false => rfl
     | true =>
      have := allR_get hi2 e
      simp only [holdE, hdE] at this
      exact absurd (of_decide_eq_true this) h1
    rw [hno] at hK
    simp only [condK_bt, decide_true, decide_false, inr64, e_skip, e_reg, and_self, e_drw, e_seq, e_cond, e_block, e_ret, o_nil, o_cons, gd_none, putK_e, runK_e, vK_e, storeK3_e, storeK2_e, storeK_e, conK_e, callK_e, evh_v, evh_new, evh_store, evh_call, dX_e, dG_t, d_nil, d_cons, tlK_n, loopK_r, seqK_n, seqK_r, blockK_r, ends_r, endK1_e, endK2_e, gam_e, gamK_f, pc_e, pcK_e, fcC_e, fcK_e, evp, bin, gt, gq, st, putf, X.get, gets, ap, rdR, tupled, clV, clL, clS, clo, ld, lda, ixs, tk, dr, sp, sp.spl, ll, cs1, one, allOne, gb, sb, pb, ln, lk, evq, gdl, Bool.and_true, Bool.not_false, Nat.reduceAdd, beq_self_eq_true, true_and, and_true, sts, n0, rgR, Rdg.row, Int.toNat_natCast, gA, gB, Fw, t1]
    repeat' (first | omega | (with_reducible refine And.intro ?_ ?_))
    exact res hK (by simp [leR])
  ·have n0 : ((i : Int) < (L.length : Int)) = False := eq_false (by omega)
   obtain rfl : i = L.length := by omega
   rw [List.take_length] at hpr
   rw [hpr] at hK
   simp only [condK_bf, decide_false, e_reg, e_seq, e_cond, e_exit, e_ret, o_nil, o_cons, gd_none, putK_e, runK_e, vK_e, evh_v, loopK_x, seqK_n, seqK_x, exitK_t, blockK_x, ends_r, endK1_e, endK2_e, evp, bin, gt, st, putf, X.get, rdR, tupled, clV, clS, clo, beq_self_eq_true, true_and, sts, n0]
   exact res hK (by simp [leR])
def gI : List SV → List Int
 | [.ints .i64 l] => l
 | [.clip .i64 l] => l
 | _ => []
def rdOf : List SV → Rdg
 | [.int .i64 a, .int .i64 b, .int .i64 c, .int .i64 d, .int .i64 e, .int .i64 f] => ⟨a, b, c, d, e, f⟩
 | _ => ⟨0, 0, 0, 0, 0, 0⟩
def rdsOf (n : Nat) (f : Nat → List SV) : List Rdg := (List.range n).map fun i => rdOf (f i)
theorem rdsOf_len {n : Nat} {f : Nat → List SV} : (rdsOf n f).length = n := by simp [rdsOf]
theorem rdsOf_get {n : Nat} {f : Nat → List SV} {i : Nat} (h : i < n) : rgG (rdsOf n f) i = rdOf (f i) := by simp [rgG, rdsOf, List.getD, h]
theorem rdsOf_rgR {L : List Rdg} : rdsOf L.length (rgR L) = L := by
 refine List.ext_getElem (by simp [rdsOf]) fun i h1 h2 => ?_
 have : rdOf (rgR L i) = rgG L i := rfl
 simp only [rdsOf, List.getElem_map, List.getElem_range, this]
 simp [rgG, List.getD, h2]
def truE (T : List Int) (m : Int) (L : List Rdg) (N : Nat) (Y : Nat → List Int) : Bool := decide (chk T m L = 0) && (haveE T m N Y && L.all (holdE Y))
def C12 : PC := fun args K => ∃ (T : List Int) (m : Int) (L : List Rdg) (N : Nat) (Y : Nat → List Int) (g : Nat → List SV), args = [.agg [.ints .i64 T, .int .i64 m], .rd 6 L.length (rgR L), .rd 1 N g] ∧ (∀ i, i < N → g i = [.ints .i64 (Y i)]) ∧ K (.tup [.bool (truE T m L N Y), .int .i64 (chk T m L)])
theorem p12i : PureOk Try.prog 12 C12 := by
 refine pure_of (T := [(22, .pc C22), (23, .pc C23), (24, .pc C24)]) ⟨⟨p22, q22⟩, ⟨p23, q23⟩, ⟨p24, q24⟩, trivial⟩ Try.func12 k12 ?_
 rintro args K ⟨T, m, L, N, Y, g, rfl, hg, hK⟩
 simp only [e_reg, e_seq, o_nil, o_cons, gd_none, putK_e, runK_e, vK_e, boxK_e, conK_e, callK_e, evh_v, evh_box, evh_call, seqK_n, gam_e, gamK_p, pc_e, pcK_e, evp, bin, gt, st, putf, X.get, gets, ap, mkfr, rep, clV, clL, clS, clo, ld, lda, tk, dr, cs1, gb, pb, ln, lk, undef, Nat.reduceSub, beq_self_eq_true, true_and, s12, r12]
 refine ⟨T, m, L, rfl, ?_⟩
 by_cases h0 : chk T m L = 0
 ·have t0 := eq_true h0
  obtain ⟨hs, hL⟩ := chk_0.1 h0
  simp only [condK_bf, decide_true, e_skip, e_reg, e_seq, e_cond, o_nil, o_cons, gd_none, gd_some, putK_e, runK_e, vK_e, bldK_e, conK_e, callK_e, evh_v, evh_bld, evh_call, seqK_n, gam_e, gamK_p, pc_e, pcK_e, evp, gt, st, putf, X.get, gets, getp, ap, clV, clL, clS, clo, ld, lda, tk, dr, sp, sp.spl, lay, ll, cs1, gb, lk, Bool.not_true, Nat.reduceAdd, Nat.reduceBEq, beq_self_eq_true, true_and, t0]
  refine ⟨T, m, N, Y, g, rfl, hs, hg, ?_⟩
  cases hh : haveE T m N Y with
  | true =>
   simp only [gdK_btt, e_ret, o_nil, o_cons, gd_none, gd_some, gdK_tt, putK_e, runK_e, vK_e, conK_e, callK_e, evh_v, evh_call, seqK_n, ends_r, endK1_e, gam_e, gamK_p, pc_e, pcK_e, evp, gt, st, putf, X.get, gets, ap, rdR, tupled, clV, clL, clS, clo, lk, Nat.reduceBEq, beq_self_eq_true, true_and]
   refine ⟨T, m, L, N, Y, g, rfl, hs, hL, hh, hg, ?_⟩
   have e : truE T m L N Y = L.all (holdE Y) := by simp [truE, h0, hh]
   rw [e] at hK
   simp only [endK2_e, clo]
   exact res hK (by simp [leR, leR.leRs, h0])
  | false =>
   have e : truE T m L N Y = false := by simp [truE, hh]
   rw [e] at hK
   simp only [gdK_btf, e_ret, o_nil, o_cons, gd_none, gd_some, gdK_ft, putK_e, runK_e, skipK_e, vK_e, evh_v, seqK_n, ends_r, endK1_e, endK2_e, evp, gt, st, putf, X.get, rdR, tupled, clV, clL, clS, clo, undef, true_and]
   exact res hK (by simp [leR, leR.leRs, h0])
 ·have t0 := eq_false h0
  have e : truE T m L N Y = false := by simp [truE, h0]
  rw [e] at hK
  simp only [condK_bt, decide_false, e_reg, e_seq, e_cond, e_ret, o_nil, o_cons, gd_none, putK_e, runK_e, vK_e, evh_v, seqK_n, seqK_r, ends_r, endK1_e, endK2_e, evp, gt, st, putf, X.get, rdR, tupled, clV, clL, clS, clo, Bool.not_false, true_and, t0]
  exact res hK (by simp [leR, leR.leRs])
theorem Cv_rows {w : World} {im : Nat → Prop} {N : Nat} {g : Nat → List SV} {Y : Nat → List Int} {v : Value} (hg : ∀ i, i < N → g i = [.clip .i64 (Y i)]) (h : Cv w im (.rd 1 N g) v) : Cv w im (.rd 1 N fun i => [.ints .i64 (Y i)]) v := by
 cases h with
 | rdNil => exact .rdNil ..
 | rdE => exact .rdE ..
 | rd _ _ _ b off cap vs hb hc hl hcell hcap =>
  refine .rd _ _ _ b off cap vs hb (fun i hi => ?_) hl hcell hcap
  have h1 := hc i hi
  rw [hg i hi] at h1
  generalize vs i = u at h1 ⊢
  cases h1 with
  | cons _ v0 _ vs0 h2 h3 => exact .cons _ _ _ _ h2.unclip h3
def F12 : FC := fun args => match args with
 | [.agg [.ints .i64 T, .int .i64 m], .rd 6 n f, .rd 1 N g] => some ((∀ i, i < n → f i = (rdOf (f i)).row) ∧ ((∀ i, i < N → g i = [.ints .i64 (gI (g i))]) ∨ (∀ i, i < N → g i = [.clip .i64 (gI (g i))])),
  .tup [.bool (truE T m (rdsOf n f) N fun i => gI (g i)), .int .i64 (chk T m (rdsOf n f))])
 | _ => none
theorem p12 : PureOk Try.prog 12 (fcC F12) := by
 intro w im args vs K him ha hC
 unfold fcC F12 at hC
 split at hC <;> first | (exact hC.elim) | skip
 rename_i h
 split at h <;> first | (cases h; done) | skip
 cases h
 rename_i T m n f N g
 obtain ⟨⟨hf, hg⟩, hK⟩ := hC
 cases ha with
 | cons _ v0 _ vs0 h0 hs =>
  cases hs with
  | cons _ v1 _ vs1 h1 hs1 =>
   cases hs1 with
   | cons _ v2 _ vs2 h2 hs2 =>
    cases hs2
    have h1' : Cv w im (.rd 6 (rdsOf n f).length (rgR (rdsOf n f))) v1 := leR_ok (x := .rd 6 n f) 4 ⟨rfl, rdsOf_len.symm, fun i hi => by
     have hi' : i < n := by rwa [rdsOf_len] at hi
     rw [rgR, rdsOf_get hi']; exact hf i hi'⟩ h1
    rcases hg with hg | hg
    ·exact p12i w im _ _ K him (.cons _ _ _ _ h0 (.cons _ _ _ _ h1' (.cons _ _ _ _ h2 .nil))) ⟨T, m, rdsOf n f, N, fun i => gI (g i), g, rfl, hg, hK⟩
    ·exact p12i w im _ _ K him (.cons _ _ _ _ h0 (.cons _ _ _ _ h1' (.cons _ _ _ _ (Cv_rows hg h2) .nil))) ⟨T, m, rdsOf n f, N, fun i => gI (g i), _, rfl, fun i _ => rfl, hK⟩
end Go.Proofs.Ytplldhepmmjmmaa
