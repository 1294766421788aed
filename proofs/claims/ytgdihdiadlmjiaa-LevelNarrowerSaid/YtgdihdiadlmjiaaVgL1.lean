import Derived.Test.YtgdihdiadlmjiaaVgV9
import Derived.Test.YtgdihdiadlmjiaaProg
import Derived.KernelRfl
set_option linter.all false
namespace Go.Proofs.Ytgdihdiadlmjiaa
open Go Go.Vg
set_option maxRecDepth 10000
def s65 : SC :=
 (.seq (.reg [.w5 6 false]) (.seq (.reg [.u0 7 1,.u0 8 0,.u6 9 .leq 7 8,.u0 10 9,(.w0 11 10 true (.mov (.t 0))),(.w0 12 10 true (.mov (.t 2))),(.w0 13 10 true (.bin .leq (.t 11) (.t 12))),.u8 14 10 13,.u0 6 14]) .ret))
def r65 : List RV := [.t 6]
theorem k65 : (Try.f65.body.bind (cC Try.prog), cR Try.prog Try.f65.results.toList, Try.f65.ntmps) = (some s65, some r65, 15) := by kernel_rfl
theorem q65 : Known Try.prog 65 := ⟨_, Try.func65, by decide, by simp [Try.f65]⟩
def s64 : SC :=
 (.seq (.reg [⟨(some 3),none,.box 23 (.t 0)⟩,.w5 6 false]) (.seq (.reg [.u0 7 1,.u2 8 3 0,.u3 9 8,.u6 10 .leq 7 9,.u0 11 10,(.w0 12 11 true (.off (.t 3) 0)),(.w0 13 11 true (.load (.t 12) none)),(.w0 14 11 true (.off (.t 3) 1)),(.w0 15 11 true (.load (.t 14) none)),(.w0 16 11 true (.bin .leq (.t 13) (.t 15))),.u8 17 11 16,.u0 18 17,(.w0 19 18 true (.off (.t 3) 1)),(.w0 20 18 true (.load (.t 19) none)),(.w0 21 18 true (.mov (.t 2))),(.w0 22 18 true (.bin .leq (.t 20) (.t 21))),.u8 23 18 22,.u0 6 23]) .ret))
def r64 : List RV := [.t 6]
theorem k64 : (Try.f64.body.bind (cC Try.prog), cR Try.prog Try.f64.results.toList, Try.f64.ntmps) = (some s64, some r64, 24) := by kernel_rfl
theorem q64 : Known Try.prog 64 := ⟨_, Try.func64, by decide, by simp [Try.f64]⟩
theorem res {K : SV -> Prop} {x y : SV} (h : K y) (e : leR 4 x y) : ∃ r', K r' /\ leR 4 x r' := ⟨y, h, e⟩
def F42 : FC := fun args => match args with
 | [.int .i64 x, .int .i64 lo, .int .i64 hi] => some (True, .bool (decide (lo <= x /\ x <= hi)))
 | _ => none
theorem p65 : PureOk Try.prog 65 (fcC F42) := by
 refine pure_of (T := []) trivial Try.func65 k65 ?_
 intro args K hC
 unfold fcC F42 at hC
 split at hC <;> first | (exact hC.elim) | skip
 rename_i h
 split at h <;> first | (cases h; done) | skip
 cases h
 simp only [e_reg, e_seq, e_ret, o_nil, o_cons, gd_none, gd_some, gdK_tt, gdK_ft, xRe, putK_e, runK_e, skipK_e, vK_e, evh_v, seqK_n, ends_r, endK1_e, endK2_e, evp, bin, gt, st, putf, X.get, mkfr, rep, rdR, tupled, clV, clS, clo, undef, Nat.reduceSub, true_and, decide_eq_true_eq, decide_eq_false_iff_not, s65, r65]
 exact ⟨fun h => res hC.2 (by simp [leR, h]), fun h => res hC.2 (by simp [leR, h])⟩
def F55 : FC := fun args => match args with
 | [.agg [.int .i64 a, .int .i64 b], .int .i64 lo, .int .i64 hi] => some (True, .bool (decide ((lo <= a /\ a <= b) /\ b <= hi)))
 | _ => none
theorem p64 : PureOk Try.prog 64 (fcC F55) := by
 refine pure_of (T := []) trivial Try.func64 k64 ?_
 intro args K hC
 unfold fcC F55 at hC
 split at hC <;> first | (exact hC.elim) | skip
 rename_i h
 split at h <;> first | (cases h; done) | skip
 cases h
 obtain ⟨-, hK⟩ := hC
 simp only [e_reg, e_seq, e_ret, o_nil, o_cons, gd_none, gd_some, gdK_tt, gdK_ft, xRe, putK_e, runK_e, skipK_e, vK_e, boxK_e, evh_v, evh_box, seqK_n, ends_r, endK1_e, endK2_e, evp, bin, gt, gq, st, putf, X.get, mkfr, rep, rdR, tupled, clV, clS, clo, ld, lda, cs1, gb, pb, ln, undef, Nat.reduceSub, Nat.reduceAdd, true_and, decide_eq_true_eq, decide_eq_false_iff_not, s64, r64]
 exact ⟨fun h1 => ⟨fun h2 => res hK (by simp [leR, h1, h2]), fun h2 => res hK (by simp [leR, h1, h2])⟩, fun h1 => res hK (by simp [leR, h1])⟩
def ClOkA (lo hi w B : Int) : Prop := ((-1000000 <= lo /\ lo <= hi) /\ hi <= 1000000) /\ (1 <= w /\ w <= 100) /\ 0 <= B /\ B <= 1000000
instance (lo hi w B : Int) : Decidable (ClOkA lo hi w B) := by unfold ClOkA; exact inferInstance
def F22 : FC := fun args => match args with
 | [] => some (True, .lit (.bool true))
 | _ => none
end Go.Proofs.Ytgdihdiadlmjiaa
