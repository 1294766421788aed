import Derived.Test.YtgdihdiadlmjiaaVgV9
import Derived.Test.YtgdihdiadlmjiaaProg
import Derived.KernelRfl
set_option linter.all false
namespace Go.Proofs.Ytgdihdiadlmjiaa
open Go Go.Vg
set_option maxRecDepth 10000
def s42 : SC :=
 (.seq (.reg [.w5 6 false]) (.seq (.reg [.u0 7 0,.u0 8 1,.u6 9 .geq 7 8,.u0 10 9,(.w0 11 10 true (.mov (.t 0))),(.w0 12 10 true (.mov (.t 2))),(.w0 13 10 true (.bin .leq (.t 11) (.t 12))),.u8 14 10 13,.u0 6 14]) .ret))
def r42 : List RV := [.t 6]
theorem k42 : (Try.f42.body.bind (cC Try.prog), cR Try.prog Try.f42.results.toList, Try.f42.ntmps) = (some s42, some r42, 15) := by kernel_rfl
theorem q42 : Known Try.prog 42 := ⟨_, Try.func42, by decide, by simp [Try.f42]⟩
def s65 : SC :=
 (.seq (.reg [.w5 6 false]) (.seq (.reg [.u0 7 1,.u0 8 0,.u6 9 .leq 7 8,.u0 10 9,(.w0 11 10 true (.mov (.t 0))),(.w0 12 10 true (.mov (.t 2))),(.w0 13 10 true (.bin .leq (.t 11) (.t 12))),.u8 14 10 13,.u0 6 14]) .ret))
def r65 : List RV := [.t 6]
theorem k65 : (Try.f65.body.bind (cC Try.prog), cR Try.prog Try.f65.results.toList, Try.f65.ntmps) = (some s65, some r65, 15) := by kernel_rfl
theorem q65 : Known Try.prog 65 := ⟨_, Try.func65, by decide, by simp [Try.f65]⟩
def s55 : SC :=
 (.seq (.reg [⟨(some 3),none,.box 23 (.t 0)⟩,.w5 6 false]) (.seq (.reg [.u0 7 1,.u2 8 3 0,.u3 9 8,.u6 10 .leq 7 9,.u0 11 10,(.w0 12 11 true (.off (.t 3) 0)),(.w0 13 11 true (.load (.t 12) none)),(.w0 14 11 true (.off (.t 3) 1)),(.w0 15 11 true (.load (.t 14) none)),(.w0 16 11 true (.bin .leq (.t 13) (.t 15))),.u8 17 11 16,.u0 18 17,(.w0 19 18 true (.off (.t 3) 1)),(.w0 20 18 true (.load (.t 19) none)),(.w0 21 18 true (.mov (.t 2))),(.w0 22 18 true (.bin .leq (.t 20) (.t 21))),.u8 23 18 22,.u0 6 23]) .ret))
def r55 : List RV := [.t 6]
theorem k55 : (Try.f55.body.bind (cC Try.prog), cR Try.prog Try.f55.results.toList, Try.f55.ntmps) = (some s55, some r55, 24) := by kernel_rfl
theorem q55 : Known Try.prog 55 := ⟨_, Try.func55, by decide, by simp [Try.f55]⟩
def s64 : SC :=
 (.seq (.reg [⟨(some 3),none,.box 23 (.t 0)⟩,.w5 6 false]) (.seq (.reg [.u0 7 1,.u2 8 3 0,.u3 9 8,.u6 10 .leq 7 9,.u0 11 10,(.w0 12 11 true (.off (.t 3) 0)),(.w0 13 11 true (.load (.t 12) none)),(.w0 14 11 true (.off (.t 3) 1)),(.w0 15 11 true (.load (.t 14) none)),(.w0 16 11 true (.bin .leq (.t 13) (.t 15))),.u8 17 11 16,.u0 18 17,(.w0 19 18 true (.off (.t 3) 1)),(.w0 20 18 true (.load (.t 19) none)),(.w0 21 18 true (.mov (.t 2))),(.w0 22 18 true (.bin .leq (.t 20) (.t 21))),.u8 23 18 22,.u0 6 23]) .ret))
def r64 : List RV := [.t 6]
theorem k64 : (Try.f64.body.bind (cC Try.prog), cR Try.prog Try.f64.results.toList, Try.f64.ntmps) = (some s64, some r64, 24) := by kernel_rfl
theorem q64 : Known Try.prog 64 := ⟨_, Try.func64, by decide, by simp [Try.f64]⟩
def s34 : SC :=
 (.seq (.reg [.u1 4 (0)]) (.seq (.reg [.u0 6 0,.u0 7 1,.u6 8 .rem 6 7,.u0 5 8]) (.seq (.seq (.reg [.u0 9 5,.u7 10 .lss 9 (0)]) (.cond (.t 10) (.reg [.u0 11 5,.u0 12 1,.u6 13 .add 11 12,.u0 5 13]) .skip)) (.seq (.reg [.u0 14 5,.u0 4 14]) .ret))))
def r34 : List RV := [.t 4]
theorem k34 : (Try.f34.body.bind (cC Try.prog), cR Try.prog Try.f34.results.toList, Try.f34.ntmps) = (some s34, some r34, 15) := by kernel_rfl
theorem q34 : Known Try.prog 34 := ⟨_, Try.func34, by decide, by simp [Try.f34]⟩
def s40 : SC :=
 (.seq (.reg [.u1 6 (0)]) (.seq (.seq (.reg [.u0 8 0,.u0 9 1,.u6 10 .geq 8 9]) (.cond (.t 10) (.seq (.reg [.u0 11 0,.u0 6 11]) .ret) .skip)) (.seq (.reg [.u0 12 1,.u0 13 0,.u6 14 .sub 12 13,.u7 15 .add 14 (1),.u0 7 15]) (.seq (.seq (.reg [.u0 16 7,.u7 17 .lss 16 (1)]) (.cond (.t 17) (.seq (.reg [.u0 18 2,.u0 19 0,(.w6 20 (.max2 (.t 18) (.t 19))),.u0 21 1,(.w6 22 (.min2 (.t 20) (.t 21))),.u0 6 22]) .ret) .skip)) (.seq (.reg [.u0 23 0,.u0 24 2,.u0 25 7,(.w1 26 34 [(.t 24),(.t 25)]),.u6 27 .add 23 26,.u0 6 27]) .ret)))))
def r40 : List RV := [.t 6]
theorem k40 : (Try.f40.body.bind (cC Try.prog), cR Try.prog Try.f40.results.toList, Try.f40.ntmps) = (some s40, some r40, 28) := by kernel_rfl
theorem q40 : Known Try.prog 40 := ⟨_, Try.func40, by decide, by simp [Try.f40]⟩
theorem res {K : SV → Prop} {x y : SV} (h : K y) (e : leR 4 x y) : ∃ r', K r' ∧ leR 4 x r' := ⟨y, h, e⟩
def F42 : FC := fun args => match args with
 | [.int .i64 x, .int .i64 lo, .int .i64 hi] => some (True, .bool (decide (lo ≤ x ∧ x ≤ hi)))
 | _ => none
theorem p42 : PureOk Try.prog 42 (fcC F42) := by
 refine pure_of (T := []) trivial Try.func42 k42 ?_
 intro args K hC
 unfold fcC F42 at hC
 split at hC <;> first | (exact hC.elim) | skip
 rename_i h
 split at h <;> first | (cases h; done) | skip
 cases h
 simp only [e_reg, e_seq, e_ret, o_nil, o_cons, gd_none, gd_some, gdK_tt, gdK_ft, xRe, putK_e, runK_e, skipK_e, vK_e, evh_v, seqK_n, ends_r, endK1_e, endK2_e, evp, bin, gt, st, putf, X.get, mkfr, rep, rdR, tupled, clV, clS, clo, undef, Nat.reduceSub, true_and, decide_eq_true_eq, decide_eq_false_iff_not, s42, r42]
 exact ⟨fun h => res hC.2 (by simp [leR, h]), fun h => res hC.2 (by simp [leR, h])⟩
theorem p65 : PureOk Try.prog 65 (fcC F42) := by
 refine pure_of (T := []) trivial Try.func65 k65 ?_
 intro args K hC
 unfold fcC F42 at hC
 split at hC <;> first | (exact hC.elim) | skip
 rename_i h
 split at h <;> first | (cases h; done) | skip
 cases h
 simp only [e_reg, e_seq, e_ret, o_nil, o_cons, gd_none, gd_some, gdK_tt, gdK_ft, xRe, putK_e, runK_e, skipK_e, vK_e, evh_v, seqK_n, ends_r, endK1_e, endK2_e, evp, bin, gt, st, putf, X.get, mkfr, rep, rdR, tupled, clV, clS, clo, undef, Nat.reduceSub, true_and, decide_eq_true_eq, decide_eq_false_iff_not, s65, r65]
 exact ⟨fun h => res hC.2 (by simp [leR, h]), fun h => res hC.2 (by simp [leR, h])⟩
def F55 : FC := fun args => match args with
 | [.agg [.int .i64 a, .int .i64 b], .int .i64 lo, .int .i64 hi] => some (True, .bool (decide ((lo ≤ a ∧ a ≤ b) ∧ b ≤ hi)))
 | _ => none
theorem p55 : PureOk Try.prog 55 (fcC F55) := by
 refine pure_of (T := []) trivial Try.func55 k55 ?_
 intro args K hC
 unfold fcC F55 at hC
 split at hC <;> first | (exact hC.elim) | skip
 rename_i h
 split at h <;> first | (cases h; done) | skip
 cases h
 obtain ⟨-, hK⟩ := hC
 simp only [e_reg, e_seq, e_ret, o_nil, o_cons, gd_none, gd_some, gdK_tt, gdK_ft, xRe, putK_e, runK_e, skipK_e, vK_e, boxK_e, evh_v, evh_box, seqK_n, ends_r, endK1_e, endK2_e, evp, bin, gt, gq, st, putf, X.get, mkfr, rep, rdR, tupled, clV, clS, clo, ld, lda, cs1, gb, pb, ln, undef, Nat.reduceSub, Nat.reduceAdd, true_and, decide_eq_true_eq, decide_eq_false_iff_not, s55, r55]
 exact ⟨fun h1 => ⟨fun h2 => res hK (by simp [leR, h1, h2]), fun h2 => res hK (by simp [leR, h1, h2])⟩, fun h1 => res hK (by simp [leR, h1])⟩
theorem p64 : PureOk Try.prog 64 (fcC F55) := by
 refine pure_of (T := []) trivial Try.func64 k64 ?_
 intro args K hC
 unfold fcC F55 at hC
 split at hC <;> first | (exact hC.elim) | skip
 rename_i h
 split at h <;> first | (cases h; done) | skip
 cases h
 obtain ⟨-, hK⟩ := hC
 simp only [e_reg, e_seq, e_ret, o_nil, o_cons, gd_none, gd_some, gdK_tt, gdK_ft, xRe, putK_e, runK_e, skipK_e, vK_e, boxK_e, evh_v, evh_box, seqK_n, ends_r, endK1_e, endK2_e, evp, bin, gt, gq, st, putf, X.get, mkfr, rep, rdR, tupled, clV, clS, clo, ld, lda, cs1, gb, pb, ln, undef, Nat.reduceSub, Nat.reduceAdd, true_and, decide_eq_true_eq, decide_eq_false_iff_not, s64, r64]
 exact ⟨fun h1 => ⟨fun h2 => res hK (by simp [leR, h1, h2]), fun h2 => res hK (by simp [leR, h1, h2])⟩, fun h1 => res hK (by simp [leR, h1])⟩
def F34 : FC := fun args => match args with
 | [.int .i64 a, .int .i64 b] => some (0 < b ∧ b ≤ 9223372036854775807, .int .i64 (a % b))
 | _ => none
theorem p34 : PureOk Try.prog 34 (fcC F34) := by
 refine pure_of (T := []) trivial Try.func34 k34 ?_
 intro args K hC
 unfold fcC F34 at hC
 split at hC <;> first | (exact hC.elim) | skip
 rename_i h
 split at h <;> first | (cases h; done) | skip
 cases h
 rename_i a b
 obtain ⟨⟨hb, hb2⟩, hK⟩ := hC
 have e := Int.tmod_eq_emod (a := a) (b := b)
 have h1 := Int.emod_nonneg a (show b ≠ 0 by omega)
 have h2 := Int.emod_lt_of_pos a hb
 have h3 : (b.natAbs : Int) = b := by omega
 simp only [inr64, ne_eq, e_skip, e_reg, e_seq, e_cond, e_ret, o_nil, o_cons, gd_none, putK_e, runK_e, vK_e, evh_v, seqK_n, xNz, ends_r, endK1_e, endK2_e, evp, bin, gt, st, putf, X.get, mkfr, rep, rdR, tupled, clV, clS, clo, undef, Nat.reduceSub, true_and, decide_eq_true_eq, decide_eq_false_iff_not, s34, r34]
 have e2 : a.tmod b = a % b ∨ a.tmod b = a % b - b := by
  by_cases c : 0 ≤ a ∨ b ∣ a
  ·rw [if_pos c] at e; exact .inl (by simpa using e)
  ·rw [if_neg c, h3] at e; exact .inr e
 exact ⟨by omega, fun h => ⟨by omega, res hK (by simp [leR]; omega)⟩, fun h => res hK (by simp [leR]; omega)⟩
def Qb (a b : Int) : Prop := 0 < b ∧ b ≤ 4611686018427387904 ∧ -4611686018427387904 ≤ a ∧ a ≤ 4611686018427387904
theorem Qb.neg {a b : Int} (h : Qb a b) : Qb (-a) b := by
 obtain ⟨hb, hb2, ha, ha2⟩ := h
 exact ⟨hb, hb2, by omega, by omega⟩
def cho (lo hi n : Int) : Int := if hi ≤ lo then lo else lo + n % (hi - lo + 1)
theorem cho_in {lo hi : Int} (h : lo ≤ hi) (n : Int) : lo ≤ cho lo hi n ∧ cho lo hi n ≤ hi := by
 unfold cho
 split
 ·omega
 ·have h1 := Int.emod_nonneg n (show hi - lo + 1 ≠ 0 by omega)
  have h2 := Int.emod_lt_of_pos n (show 0 < hi - lo + 1 by omega)
  omega
def F40 : FC := fun args => match args with
 | [.int .i64 lo, .int .i64 hi, .int .i64 n] => some ((-1000000 ≤ lo ∧ lo ≤ 1000000) ∧ -1000000 ≤ hi ∧ hi ≤ 1000000, .int .i64 (cho lo hi n))
 | _ => none
theorem p40 : PureOk Try.prog 40 (fcC F40) := by
 refine pure_of (T := [(34, .fc F34)]) ⟨⟨p34, q34⟩, trivial⟩ Try.func40 k40 ?_
 intro args K hC
 unfold fcC F40 at hC
 split at hC <;> first | (exact hC.elim) | skip
 rename_i h
 split at h <;> first | (cases h; done) | skip
 cases h
 rename_i lo hi n
 obtain ⟨⟨⟨a1, a2⟩, b1, b2⟩, hK⟩ := hC
 simp only [inr64, e_skip, e_reg, e_seq, e_cond, e_ret, o_nil, o_cons, gd_none, putK_e, runK_e, vK_e, conK_e, callK_e, evh_v, evh_call, seqK_n, seqK_r, xNz, ends_r, endK1_e, endK2_e, gam_e, gamK_f, pc_e, pcK_e, fcC_e, fcK_e, evp, bin, gt, st, putf, X.get, gets, ap, mkfr, rep, rdR, tupled, clV, clL, clS, clo, lk, undef, Nat.reduceSub, beq_self_eq_true, true_and, decide_eq_true_eq, decide_eq_false_iff_not, s40, r40, F34]
 refine ⟨fun h => res hK (by simp [leR, cho, h]), fun h => ?_⟩
 have h1 := Int.emod_nonneg n (show hi - lo + 1 ≠ 0 by omega)
 have h2 := Int.emod_lt_of_pos n (show 0 < hi - lo + 1 by omega)
 exact ⟨by omega, by omega, fun h3 => by omega, fun _ => ⟨by omega, by omega, res hK (by simp [leR, cho, h])⟩⟩
def ClOkA (lo hi w B : Int) : Prop := ((-1000000 ≤ lo ∧ lo ≤ hi) ∧ hi ≤ 1000000) ∧ (1 ≤ w ∧ w ≤ 100) ∧ 0 ≤ B ∧ B ≤ 1000000
instance (lo hi w B : Int) : Decidable (ClOkA lo hi w B) := by unfold ClOkA; exact inferInstance
def F22 : FC := fun args => match args with
 | [] => some (True, .lit (.bool true))
 | _ => none
end Go.Proofs.Ytgdihdiadlmjiaa
