import Derived.Test.YtgdihdiadlmjiaaVgL1
import Derived.Test.YtgdihdiadlmjiaaVgV9
set_option linter.all false
section
namespace Go.Proofs.Ytgdihdiadlmjiaa
open Go Go.Vg
set_option maxRecDepth 10000
def s19 : SC :=
 (.seq (.reg [⟨(some 1),none,.box 25 (.t 0)⟩,.u1 2 (0)]) (.seq (.seq (.reg [.u2 3 1 0,.u3 4 3,(.w1 5 42 [(.t 4),(.c (.int .i64 (10))),(.c (.int .i64 (200)))]),.u0 6 5,(.w0 7 6 true (.off (.t 1) 1)),(.w0 8 6 true (.load (.t 7) (some 2))),(.w0 9 6 true (.off (.t 1) 0)),(.w0 10 6 true (.load (.t 9) none)),⟨(some 11),(some (6,true)),.call (.c (.fn 55 [])) [(.t 8),(.c (.int .i64 (1))),(.t 10)]⟩,.u8 12 6 11,.u0 13 12,(.w0 14 13 true (.off (.t 1) 3)),(.w0 15 13 true (.load (.t 14) (some 2))),⟨(some 16),(some (13,true)),.call (.c (.fn 55 [])) [(.t 15),(.c (.int .i64 (1))),(.c (.int .i64 (500)))]⟩,.u8 17 13 16,.u0 18 17,(.w0 19 18 true (.off (.t 1) 5)),(.w0 20 18 true (.load (.t 19) (some 2))),(.w0 21 18 true (.off (.t 1) 0)),(.w0 22 18 true (.load (.t 21) none)),(.w0 23 18 true (.bin .mul (.c (.int .i64 (2))) (.t 22))),⟨(some 24),(some (18,true)),.call (.c (.fn 55 [])) [(.t 20),(.c (.int .i64 (0))),(.t 23)]⟩,.u8 25 18 24,.u0 26 25,(.w0 27 26 true (.off (.t 1) 7)),(.w0 28 26 true (.load (.t 27) none)),⟨(some 29),(some (26,true)),.call (.c (.fn 42 [])) [(.t 28),(.c (.int .i64 (0))),(.c (.int .i64 (8)))]⟩,.u8 30 26 29]) (.cond (.t 30) (.seq (.reg [.u1 2 (0)]) .ret) .skip)) (.seq (.reg [.u1 2 (30)]) .ret)))
def r19 : List RV := [.t 2]
theorem k19 : (Try.f19.body.bind (cC Try.prog), cR Try.prog Try.f19.results.toList, Try.f19.ntmps) = (some s19, some r19, 31) := by kernel_rfl
theorem q19 : Known Try.prog 19 := ⟨_, Try.func19, by decide, by simp [Try.f19]⟩
def s54 : SC :=
 (.seq (.reg [⟨(some 1),none,.box 78 (.t 0)⟩,.w5 2 false]) (.seq (.reg [.u2 3 1 0,.u2 4 3 0,.u3 5 4,(.w1 6 65 [(.t 5),(.c (.int .i64 (10))),(.c (.int .i64 (200)))]),.u0 7 6,(.w0 8 7 true (.off (.t 1) 0)),(.w0 9 7 true (.off (.t 8) 1)),(.w0 10 7 true (.load (.t 9) (some 2))),(.w0 11 7 true (.off (.t 1) 0)),(.w0 12 7 true (.off (.t 11) 0)),(.w0 13 7 true (.load (.t 12) none)),⟨(some 14),(some (7,true)),.call (.c (.fn 64 [])) [(.t 10),(.c (.int .i64 (1))),(.t 13)]⟩,.u8 15 7 14,.u0 16 15,(.w0 17 16 true (.off (.t 1) 0)),(.w0 18 16 true (.off (.t 17) 3)),(.w0 19 16 true (.load (.t 18) (some 2))),⟨(some 20),(some (16,true)),.call (.c (.fn 64 [])) [(.t 19),(.c (.int .i64 (1))),(.c (.int .i64 (500)))]⟩,.u8 21 16 20,.u0 22 21,(.w0 23 22 true (.off (.t 1) 0)),(.w0 24 22 true (.off (.t 23) 5)),(.w0 25 22 true (.load (.t 24) (some 2))),(.w0 26 22 true (.off (.t 1) 0)),(.w0 27 22 true (.off (.t 26) 0)),(.w0 28 22 true (.load (.t 27) none)),(.w0 29 22 true (.bin .mul (.c (.int .i64 (2))) (.t 28))),⟨(some 30),(some (22,true)),.call (.c (.fn 64 [])) [(.t 25),(.c (.int .i64 (0))),(.t 29)]⟩,.u8 31 22 30,.u0 32 31,(.w0 33 32 true (.off (.t 1) 0)),(.w0 34 32 true (.off (.t 33) 7)),(.w0 35 32 true (.load (.t 34) none)),⟨(some 36),(some (32,true)),.call (.c (.fn 65 [])) [(.t 35),(.c (.int .i64 (0))),(.c (.int .i64 (8)))]⟩,.u8 37 32 36,.u0 2 37]) .ret))
def r54 : List RV := [.t 2]
theorem k54 : (Try.f54.body.bind (cC Try.prog), cR Try.prog Try.f54.results.toList, Try.f54.ntmps) = (some s54, some r54, 38) := by kernel_rfl
theorem q54 : Known Try.prog 54 := ⟨_, Try.func54, by decide, by simp [Try.f54]⟩
def s85 : SC :=
 (.seq (.reg [⟨(some 3),none,.box 23 (.t 0)⟩,.w4 6]) (.seq (.seq (.reg [.u0 7 2]) (.cond (.t 7) (.seq (.reg [.u0 8 1,.u0 9 1,⟨(some 10),none,.bld [(.int .i64 (0)),(.int .i64 (0))] [(0,1,(.t 8)),(1,1,(.t 9))]⟩,.w3 2 6 10]) .ret) .skip)) (.seq (.reg [.u2 11 3 0,.u3 12 11,.u0 13 1,(.w6 14 (.min2 (.t 12) (.t 13))),.u2 15 3 1,.u3 16 15,.u0 17 1,(.w6 18 (.max2 (.t 16) (.t 17))),⟨(some 19),none,.bld [(.int .i64 (0)),(.int .i64 (0))] [(0,1,(.t 14)),(1,1,(.t 18))]⟩,.w3 2 6 19]) .ret)))
def r85 : List RV := [.c 6 (some 2)]
theorem k85 : (Try.f85.body.bind (cC Try.prog), cR Try.prog Try.f85.results.toList, Try.f85.ntmps) = (some s85, some r85, 20) := by kernel_rfl
theorem q85 : Known Try.prog 85 := ⟨_, Try.func85, by decide, by simp [Try.f85]⟩
def s57 : SC :=
 (.seq (.reg [⟨(some 0),none,.new 88 [(.int .i64 (0)),(.int .i64 (0)),(.int .i64 (0)),(.int .i64 (0))]⟩]) (.seq (.reg [(.w1 1 82 []),(.w1 2 82 []),⟨(some 3),none,.bld [(.int .i64 (0)),(.int .i64 (0)),(.int .i64 (0)),(.int .i64 (0))] [(0,2,(.t 1)),(2,2,(.t 2))]⟩,.w3 4 0 3]) .ret))
def r57 : List RV := [.c 0 (some 4)]
theorem k57 : (Try.f57.body.bind (cC Try.prog), cR Try.prog Try.f57.results.toList, Try.f57.ntmps) = (some s57, some r57, 4) := by kernel_rfl
theorem q57 : Known Try.prog 57 := ⟨_, Try.func57, by decide, by simp [Try.f57]⟩
def s82 : SC :=
 (.seq (.reg [.w4 0]) (.seq (.reg [⟨(some 1),none,.bld [(.int .i64 (0)),(.int .i64 (0))] [(0,1,(.c (.int .i64 (1)))),(1,1,(.c (.int .i64 (0))))]⟩,.w3 2 0 1]) .ret))
def r82 : List RV := [.c 0 (some 2)]
theorem k82 : (Try.f82.body.bind (cC Try.prog), cR Try.prog Try.f82.results.toList, Try.f82.ntmps) = (some s82, some r82, 2) := by kernel_rfl
theorem q82 : Known Try.prog 82 := ⟨_, Try.func82, by decide, by simp [Try.f82]⟩
def s81 : SC :=
 (.seq (.reg [⟨(some 2),none,.box 23 (.t 0)⟩,⟨(some 3),none,.box 23 (.t 1)⟩,.w4 4]) (.seq (.reg [.u2 6 2 0,.u3 7 6,.u2 8 3 0,.u3 9 8,(.w6 10 (.max2 (.t 7) (.t 9))),.u2 11 2 1,.u3 12 11,.u2 13 3 1,.u3 14 13,(.w6 15 (.min2 (.t 12) (.t 14))),⟨(some 16),none,.bld [(.int .i64 (0)),(.int .i64 (0))] [(0,1,(.t 10)),(1,1,(.t 15))]⟩,.w4 5,.w3 2 5 16]) (.seq (.seq (.reg [.u2 17 5 0,.u3 18 17,.u2 19 5 1,.u3 20 19,.u6 21 .gtr 18 20]) (.cond (.t 21) (.seq (.reg [(.w1 22 82 []),.w3 2 4 22]) .ret) .skip)) (.seq (.reg [.u4 23 5 2,.w3 2 4 23]) .ret))))
def r81 : List RV := [.c 4 (some 2)]
theorem k81 : (Try.f81.body.bind (cC Try.prog), cR Try.prog Try.f81.results.toList, Try.f81.ntmps) = (some s81, some r81, 24) := by kernel_rfl
theorem q81 : Known Try.prog 81 := ⟨_, Try.func81, by decide, by simp [Try.f81]⟩
def s83 : SC :=
 (.seq (.reg [⟨(some 2),none,.box 23 (.t 0)⟩,⟨(some 3),none,.box 23 (.t 1)⟩,.w4 4]) (.seq (.seq (.drw [(0,.u4 5 2 2,false),(1,(.w1 6 82 []),false)] none [(.w6 7 (.eqs [(some .i64),(some .i64)] false (.t 5) (.t 6)))]) (.cond (.t 7) (.seq (.reg [.u4 8 3 2,.w3 2 4 8]) .ret) .skip)) (.seq (.reg [.u2 9 2 0,.u3 10 9,.u2 11 3 0,.u3 12 11,(.w6 13 (.min2 (.t 10) (.t 12))),.u2 14 2 1,.u3 15 14,.u2 16 3 1,.u3 17 16,(.w6 18 (.max2 (.t 15) (.t 17))),⟨(some 19),none,.bld [(.int .i64 (0)),(.int .i64 (0))] [(0,1,(.t 13)),(1,1,(.t 18))]⟩,.w3 2 4 19]) .ret)))
def r83 : List RV := [.c 4 (some 2)]
theorem k83 : (Try.f83.body.bind (cC Try.prog), cR Try.prog Try.f83.results.toList, Try.f83.ntmps) = (some s83, some r83, 20) := by kernel_rfl
theorem q83 : Known Try.prog 83 := ⟨_, Try.func83, by decide, by simp [Try.f83]⟩
def s98 : SC :=
 (.seq (.reg [⟨(some 1),none,.box 23 (.t 0)⟩,.u1 2 (0)]) (.seq (.reg [.u2 3 1 1,.u3 4 3,.u2 5 1 0,.u3 6 5,.u6 7 .sub 4 6,.u0 2 7]) .ret))
def r98 : List RV := [.t 2]
theorem k98 : (Try.f98.body.bind (cC Try.prog), cR Try.prog Try.f98.results.toList, Try.f98.ntmps) = (some s98, some r98, 8) := by kernel_rfl
theorem q98 : Known Try.prog 98 := ⟨_, Try.func98, by decide, by simp [Try.f98]⟩
def s94 : SC :=
 (.seq (.reg [⟨(some 2),none,.box 78 (.t 0)⟩,.w4 4]) (.seq (.reg [.u0 5 1,.u2 6 2 0,.u2 7 6 7,.u3 8 7,.u6 9 .sub 5 8,.u0 10 1,.u2 11 2 0,.u2 12 11 7,.u3 13 12,.u6 14 .add 10 13,⟨(some 15),none,.bld [(.int .i64 (0)),(.int .i64 (0))] [(0,1,(.t 9)),(1,1,(.t 14))]⟩,.w3 2 4 15]) .ret))
def r94 : List RV := [.c 4 (some 2)]
theorem k94 : (Try.f94.body.bind (cC Try.prog), cR Try.prog Try.f94.results.toList, Try.f94.ntmps) = (some s94, some r94, 16) := by kernel_rfl
theorem q94 : Known Try.prog 94 := ⟨_, Try.func94, by decide, by simp [Try.f94]⟩
def s84 : SC :=
 (.seq (.reg [⟨(some 2),none,.box 78 (.t 0)⟩,⟨(some 3),none,.box 23 (.t 1)⟩,.w4 4]) (.seq (.reg [.u2 5 2 0,.u2 6 5 3,.u2 7 6 0,.u3 8 7,.u2 9 3 0,.u3 10 9,.u6 11 .mul 8 10,.u2 12 2 0,.u2 13 12 3,.u2 14 13 1,.u3 15 14,.u2 16 3 0,.u3 17 16,.u6 18 .mul 15 17,(.w6 19 (.min2 (.t 11) (.t 18))),.u2 20 2 0,.u2 21 20 3,.u2 22 21 0,.u3 23 22,.u2 24 3 1,.u3 25 24,.u6 26 .mul 23 25,.u2 27 2 0,.u2 28 27 3,.u2 29 28 1,.u3 30 29,.u2 31 3 1,.u3 32 31,.u6 33 .mul 30 32,(.w6 34 (.max2 (.t 26) (.t 33))),⟨(some 35),none,.bld [(.int .i64 (0)),(.int .i64 (0))] [(0,1,(.t 19)),(1,1,(.t 34))]⟩,.w3 2 4 35]) .ret))
def r84 : List RV := [.c 4 (some 2)]
theorem k84 : (Try.f84.body.bind (cC Try.prog), cR Try.prog Try.f84.results.toList, Try.f84.ntmps) = (some s84, some r84, 36) := by kernel_rfl
theorem q84 : Known Try.prog 84 := ⟨_, Try.func84, by decide, by simp [Try.f84]⟩
def s99 : SC :=
 (.seq (.reg [⟨(some 2),none,.box 78 (.t 0)⟩,.w5 4 false]) (.seq (.drw [(0,.u2 7 2 0,false),(1,.u2 8 7 5,false),(2,.u2 9 8 0,false),(3,.u3 10 9,false),(4,.u2 11 2 0,false),(5,.u2 12 11 1,false),(6,.u2 13 12 1,false),(7,.u3 14 13,false),(8,.u6 15 .sub 10 14,false),(9,.u2 16 2 0,false),(10,.u2 17 16 0,false),(11,.u3 18 17,false),(12,(.w6 19 (.bin .mul (.c (.int .i64 (2))) (.t 18))),false),(13,.u2 20 2 0,false),(14,.u2 21 20 1,false),(15,.u2 22 21 1,false),(16,.u3 23 22,false),(17,.u6 24 .sub 19 23,false),(18,.u2 25 2 0,false),(19,.u2 26 25 5,false),(20,.u2 27 26 1,false),(21,.u3 28 27,false),(22,.u6 29 .sub 24 28,false),(23,.u0 5 15,false)] none [.u0 6 29]) (.seq (.reg [.u0 30 1,.u2 31 2 0,.u2 32 31 3,.u2 33 32 0,.u3 34 33,.u0 35 5,.u0 36 6,(.w6 37 (.min2 (.t 35) (.t 36))),.u6 38 .mul 34 37,.u6 39 .leq 30 38,.u0 4 39]) .ret)))
def r99 : List RV := [.t 4]
theorem k99 : (Try.f99.body.bind (cC Try.prog), cR Try.prog Try.f99.results.toList, Try.f99.ntmps) = (some s99, some r99, 40) := by kernel_rfl
theorem q99 : Known Try.prog 99 := ⟨_, Try.func99, by decide, by simp [Try.f99]⟩
def s70 : SC :=
 (.seq (.reg [⟨(some 1),none,.box 49 (.t 0)⟩,.w5 2 false]) (.seq (.reg [.u2 3 1 0,.u3 4 3,(.w1 5 65 [(.t 4),(.c (.int .i64 (0))),(.c (.int .i64 (100000)))]),.u0 6 5,(.w0 7 6 true (.off (.t 1) 1)),(.w0 8 6 true (.load (.t 7) none)),⟨(some 9),(some (6,true)),.call (.c (.fn 65 [])) [(.t 8),(.c (.int .i64 (0))),(.c (.int .i64 (100000)))]⟩,.u8 10 6 9,.u0 2 10]) .ret))
def r70 : List RV := [.t 2]
theorem k70 : (Try.f70.body.bind (cC Try.prog), cR Try.prog Try.f70.results.toList, Try.f70.ntmps) = (some s70, some r70, 11) := by kernel_rfl
theorem q70 : Known Try.prog 70 := ⟨_, Try.func70, by decide, by simp [Try.f70]⟩
def s73 : SC :=
 (.seq (.reg [⟨(some 2),none,.box 107 (.t 0)⟩,⟨(some 3),none,.box 107 (.t 1)⟩,.w5 4 false]) (.seq (.reg [.u2 5 2 1,.u3 6 5,.u2 7 3 1,.u3 8 7,.u6 9 .lss 6 8,.u0 4 9]) .ret))
def r73 : List RV := [.t 4]
theorem k73 : (Try.f73.body.bind (cC Try.prog), cR Try.prog Try.f73.results.toList, Try.f73.ntmps) = (some s73, some r73, 10) := by kernel_rfl
theorem q73 : Known Try.prog 73 := ⟨_, Try.func73, by decide, by simp [Try.f73]⟩
structure Vl where
 (m l1 l2 v1 v2 z1 z2 w : Int)
def Vl.sv (v : Vl) : SV := .agg [.int .i64 v.m, .int .i64 v.l1, .int .i64 v.l2, .int .i64 v.v1, .int .i64 v.v2, .int .i64 v.z1, .int .i64 v.z2, .int .i64 v.w]
def Vl.ok (v : Vl) : Prop := (10 ≤ v.m ∧ v.m ≤ 200) ∧ ((1 ≤ v.l1 ∧ v.l1 ≤ v.l2) ∧ v.l2 ≤ v.m) ∧ ((1 ≤ v.v1 ∧ v.v1 ≤ v.v2) ∧ v.v2 ≤ 500) ∧ ((0 ≤ v.z1 ∧ v.z1 ≤ v.z2) ∧ v.z2 ≤ 2 * v.m) ∧ (0 ≤ v.w ∧ v.w ≤ 8)
instance (v : Vl) : Decidable v.ok := by unfold Vl.ok; infer_instance
def Vl.chk (v : Vl) : Int := if v.ok then 0 else 30
def C19 : PC := fun args K => ∃ v : Vl, args = [v.sv] ∧ K (.int .i64 v.chk)
theorem p19 : PureOk Try.prog 19 C19 := by
 refine pure_of (T := [(42, .fc F42), (55, .fc F55)]) ⟨⟨p42, q42⟩, ⟨p55, q55⟩, trivial⟩ Try.func19 k19 ?_
 rintro args K ⟨v, rfl, hK⟩
 obtain ⟨m, l1, l2, v1, v2, z1, z2, w⟩ := v
 simp only [Vl.sv] at hK ⊢
 simp only [inr64, e_skip, e_reg, e_seq, e_cond, e_ret, o_nil, o_cons, gd_none, gd_some, gdK_tt, gdK_ft, xRe, putK_e, runK_e, skipK_e, vK_e, boxK_e, conK_e, callK_e, evh_v, evh_box, evh_call, seqK_n, seqK_r, condK_f, xNz, ends_r, endK1_e, endK2_e, gam_e, gamK_f, pc_e, pcK_e, fcC_e, fcK_e, evp, bin, gt, gq, st, putf, X.get, gets, ap, mkfr, rep, rdR, tupled, clV, clL, clS, clo, ld, lda, tk, dr, cs1, gb, pb, ln, lk, undef, Nat.reduceSub, Nat.reduceAdd, Nat.reduceBEq, beq_self_eq_true, true_and, decide_eq_true_eq, decide_eq_false_iff_not, s19, r19, F42, F55]
 have hy : Vl.ok ⟨m, l1, l2, v1, v2, z1, z2, w⟩ → ∃ r', K r' ∧ leR 4 (SV.int IntKind.i64 0) r' := fun h => by rw [Vl.chk, if_pos h] at hK; exact res hK (by simp [leR])
 have hn : ¬ Vl.ok ⟨m, l1, l2, v1, v2, z1, z2, w⟩ → ∃ r', K r' ∧ leR 4 (SV.int IntKind.i64 30) r' := fun h => by rw [Vl.chk, if_neg h] at hK; exact res hK (by simp [leR])
 exact ⟨fun a => ⟨fun b => ⟨fun c => ⟨by omega, fun d => ⟨fun e => hy ⟨a, b, c, d, e⟩, fun e => hn fun h => e h.2.2.2.2⟩, fun d => hn fun h => d h.2.2.2.1⟩, fun c => hn fun h => c h.2.2.1⟩, fun b => hn fun h => b h.2.1⟩, fun a => hn fun h => a h.1⟩
def C54 : PC := fun args K => ∃ v : Vl, args = [.agg [.int .i64 v.m, .int .i64 v.l1, .int .i64 v.l2, .int .i64 v.v1, .int .i64 v.v2, .int .i64 v.z1, .int .i64 v.z2, .int .i64 v.w]] ∧ K (.bool (decide v.ok))
theorem p54 : PureOk Try.prog 54 C54 := by
 refine pure_of (T := [(65, .fc F42), (64, .fc F55)]) ⟨⟨p65, q65⟩, ⟨p64, q64⟩, trivial⟩ Try.func54 k54 ?_
 rintro args K ⟨v, rfl, hK⟩
 obtain ⟨m, l1, l2, v1, v2, z1, z2, w⟩ := v
 simp only [inr64, e_reg, e_seq, e_ret, o_nil, o_cons, gd_none, gd_some, gdK_tt, gdK_ft, xRe, putK_e, runK_e, skipK_e, vK_e, boxK_e, conK_e, callK_e, evh_v, evh_box, evh_call, seqK_n, ends_r, endK1_e, endK2_e, gam_e, gamK_f, pc_e, pcK_e, fcC_e, fcK_e, evp, bin, gt, gq, st, putf, X.get, gets, ap, mkfr, rep, rdR, tupled, clV, clL, clS, clo, ld, lda, tk, dr, cs1, gb, pb, ln, lk, undef, Nat.reduceSub, Nat.reduceAdd, Nat.reduceBEq, beq_self_eq_true, true_and, decide_eq_true_eq, decide_eq_false_iff_not, s54, r54, F42, F55]
 have hn : ¬ Vl.ok ⟨m, l1, l2, v1, v2, z1, z2, w⟩ → ∃ r', K r' ∧ leR 4 (SV.lit (.bool false)) r' := fun h => by rw [decide_eq_false h] at hK; exact res hK (by simp [leR])
 refine ⟨fun a => ⟨fun b => ⟨fun c => ⟨by omega, fun d => ?_, fun d => hn fun h => d h.2.2.2.1⟩, fun c => hn fun h => c h.2.2.1⟩, fun b => hn fun h => b h.2.1⟩, fun a => hn fun h => a h.1⟩
 refine res hK ?_
 simp only [leR, Vl.ok, a, b, c, d, and_self, true_and]
def F82 : FC := fun args => match args with
 | [] => some (True, .agg [.int .i64 1, .int .i64 0])
 | _ => none
theorem p82 : PureOk Try.prog 82 (fcC F82) := by
 refine pure_of (T := []) trivial Try.func82 k82 ?_
 intro args K hC
 unfold fcC F82 at hC
 split at hC <;> first | (exact hC.elim) | skip
 rename_i h
 split at h <;> first | (cases h; done) | skip
 cases h
 obtain ⟨-, hK⟩ := hC
 simp only [↓reduceIte, e_reg, and_self, e_seq, e_ret, o_nil, o_cons, gd_none, putK_e, runK_e, bldK_e, storeK3_e, storeK2_e, storeK_e, evh_new, evh_bld, evh_store, seqK_n, ends_r, endK1_e, endK2_e, gt, st, putf, X.get, getp, mkfr, rep, rdR, tupled, clV, clL, clS, clo, ld, tk, dr, sp, sp.spl, lay, ll, cs1, one, allOne, gb, sb, pb, ln, undef, Bool.and_true, Nat.reduceAdd, beq_self_eq_true, true_and, s82, r82]
 exact res hK (by simp [leR, leR.leRs])
def cmL (a b c d : Int) : Int := if max a c ≤ min b d then max a c else 1
def cmH (a b c d : Int) : Int := if max a c ≤ min b d then min b d else 0
def F81 : FC := fun args => match args with
 | [.agg [.int .i64 a, .int .i64 b], .agg [.int .i64 c, .int .i64 d]] => some (True, .agg [.int .i64 (cmL a b c d), .int .i64 (cmH a b c d)])
 | _ => none
theorem p81 : PureOk Try.prog 81 (fcC F81) := by
 refine pure_of (T := [(82, .fc F82)]) ⟨⟨p82, q82⟩, trivial⟩ Try.func81 k81 ?_
 intro args K hC
 unfold fcC F81 at hC
 split at hC <;> first | (exact hC.elim) | skip
 rename_i h
 split at h <;> first | (cases h; done) | skip
 cases h
 obtain ⟨-, hK⟩ := hC
 simp only [↓reduceIte, e_skip, e_reg, and_self, e_seq, e_cond, e_ret, o_nil, o_cons, gd_none, putK_e, runK_e, vK_e, boxK_e, bldK_e, storeK3_e, storeK2_e, storeK_e, conK_e, callK_e, evh_v, evh_new, evh_box, evh_bld, evh_store, evh_call, seqK_n, seqK_r, xNz, ends_r, endK1_e, endK2_e, gam_e, gamK_f, pc_e, pcK_e, fcC_e, fcK_e, evp, bin, gt, gq, st, putf, X.get, gets, getp, ap, mkfr, rep, rdR, tupled, clV, clL, clS, clo, ld, lda, tk, dr, sp, sp.spl, lay, ll, cs1, one, allOne, gb, sb, pb, ln, lk, Value.oneCell', undef, Bool.and_true, Nat.reduceSub, Nat.reduceAdd, beq_self_eq_true, true_and, decide_eq_true_eq, decide_eq_false_iff_not, s81, r81, F82]
 refine ⟨fun h => res hK ?_, fun h => res hK ?_⟩ <;> (simp only [leR, leR.leRs, cmL, cmH]; refine ⟨?_, ?_, trivial⟩ <;> simp <;> omega)
def arL (a b c d : Int) : Int := if a = 1 ∧ b = 0 then c else min a c
def arH (a b c d : Int) : Int := if a = 1 ∧ b = 0 then d else max b d
def F83 : FC := fun args => match args with
 | [.agg [.int .i64 a, .int .i64 b], .agg [.int .i64 c, .int .i64 d]] => some ((-9223372036854775808 ≤ a ∧ a ≤ 9223372036854775807) ∧ -9223372036854775808 ≤ b ∧ b ≤ 9223372036854775807, .agg [.int .i64 (arL a b c d), .int .i64 (arH a b c d)])
 | _ => none
theorem p83 : PureOk Try.prog 83 (fcC F83) := by
 refine pure_of (T := [(82, .fc F82)]) ⟨⟨p82, q82⟩, trivial⟩ Try.func83 k83 ?_
 intro args K hC
 unfold fcC F83 at hC
 split at hC <;> first | (exact hC.elim) | skip
 rename_i h
 split at h <;> first | (cases h; done) | skip
 cases h
 obtain ⟨hb, hK⟩ := hC
 simp only [↓reduceIte, List.cons.injEq, e_skip, e_reg, and_self, e_drw, e_seq, e_cond, e_ret, o_nil, o_cons, gd_none, putK_e, runK_e, vK_e, boxK_e, bldK_e, storeK3_e, storeK2_e, storeK_e, evh_v, evh_new, evh_box, evh_bld, evh_store, dX_e, dG_t, d_nil, d_cons, tlK_n, seqK_n, seqK_r, xNz, ends_r, endK1_e, endK2_e, gamq_e, gamqK_f, evp, fit, InQ, gt, gq, st, putf, X.get, gets, getp, ap, mkfr, rep, rdR, tupled, clV, clL, clS, clo, clo.clos, ld, lda, tk, dr, sp, sp.spl, lay, ll, cs1, one, allOne, gb, sb, pb, ln, lk, evq, gdl, undef, Bool.and_true, cond_false, Nat.reduceSub, Nat.reduceAdd, beq_self_eq_true, true_and, and_true, decide_eq_true_eq, decide_eq_false_iff_not, s83, r83, F82]
 refine ⟨⟨hb, by omega⟩, fun h => res hK ?_, fun h => res hK ?_⟩ <;> (simp only [leR, leR.leRs, arL, arH, h]; refine ⟨?_, ?_, trivial⟩ <;> simp <;> omega)
def F98 : FC := fun args => match args with
 | [.agg [.int .i64 a, .int .i64 b]] => some (-4611686018427387903 ≤ a ∧ a ≤ 4611686018427387903 ∧ -4611686018427387903 ≤ b ∧ b ≤ 4611686018427387903, .int .i64 (b - a))
 | _ => none
theorem p98 : PureOk Try.prog 98 (fcC F98) := by
 refine pure_of (T := []) trivial Try.func98 k98 ?_
 intro args K hC
 unfold fcC F98 at hC
 split at hC <;> first | (exact hC.elim) | skip
 rename_i h
 split at h <;> first | (cases h; done) | skip
 cases h
 obtain ⟨hb, hK⟩ := hC
 simp only [inr64, e_reg, e_seq, e_ret, o_nil, o_cons, gd_none, putK_e, runK_e, vK_e, boxK_e, evh_v, evh_box, seqK_n, ends_r, endK1_e, endK2_e, evp, bin, gt, gq, st, putf, X.get, mkfr, rep, rdR, tupled, clV, clS, clo, ld, lda, cs1, gb, pb, ln, undef, Nat.reduceSub, Nat.reduceAdd, true_and, s98, r98]
 exact ⟨by omega, res hK (by simp [leR])⟩
def Vl.cells (v : Vl) : List SV := [.int .i64 v.m, .int .i64 v.l1, .int .i64 v.l2, .int .i64 v.v1, .int .i64 v.v2, .int .i64 v.z1, .int .i64 v.z2, .int .i64 v.w]
def C94 : PC := fun args K => ∃ (v : Vl) (x : Int), args = [v.sv, .int .i64 x] ∧ (v.ok ∧ -1000000 ≤ x ∧ x ≤ 1000000) ∧ K (.agg [.int .i64 (x - v.w), .int .i64 (x + v.w)])
theorem p94 : PureOk Try.prog 94 C94 := by
 refine pure_of (T := []) trivial Try.func94 k94 ?_
 rintro args K ⟨v, x, rfl, ⟨hv, hx⟩, hK⟩
 obtain ⟨m, l1, l2, v1, v2, z1, z2, w⟩ := v
 simp only [Vl.sv, Vl.ok] at hK hv ⊢
 simp only [inr64, ↓reduceIte, e_reg, and_self, e_seq, e_ret, o_nil, o_cons, gd_none, putK_e, runK_e, vK_e, boxK_e, bldK_e, storeK3_e, storeK2_e, storeK_e, evh_v, evh_new, evh_box, evh_bld, evh_store, seqK_n, ends_r, endK1_e, endK2_e, evp, bin, gt, gq, st, putf, X.get, getp, mkfr, rep, rdR, tupled, clV, clL, clS, clo, ld, lda, tk, dr, sp, sp.spl, lay, ll, cs1, one, allOne, gb, sb, pb, ln, undef, Bool.and_true, Nat.reduceSub, Nat.reduceAdd, beq_self_eq_true, true_and, s94, r94]
 exact ⟨by omega, by omega, res hK (by simp [leR, leR.leRs])⟩
def Vl.tl (v : Vl) (a : Int) : Int := min (v.v1 * a) (v.v2 * a)
def Vl.th (v : Vl) (b : Int) : Int := max (v.v1 * b) (v.v2 * b)
def C84 : PC := fun args K => ∃ (v : Vl) (a b : Int), args = [v.sv, .agg [.int .i64 a, .int .i64 b]] ∧ (v.ok ∧ (-1000000 ≤ a ∧ a ≤ 1000000) ∧ -1000000 ≤ b ∧ b ≤ 1000000) ∧ K (.agg [.int .i64 (v.tl a), .int .i64 (v.th b)])
theorem p84 : PureOk Try.prog 84 C84 := by
 refine pure_of (T := []) trivial Try.func84 k84 ?_
 rintro args K ⟨v, a, b, rfl, ⟨hv, ha, hb⟩, hK⟩
 obtain ⟨m, l1, l2, v1, v2, z1, z2, w⟩ := v
 simp only [Vl.sv, Vl.ok, Vl.tl, Vl.th] at hK hv ⊢
 simp only [inr64, ↓reduceIte, e_reg, and_self, e_seq, e_ret, o_nil, o_cons, gd_none, putK_e, runK_e, vK_e, boxK_e, bldK_e, storeK3_e, storeK2_e, storeK_e, evh_v, evh_new, evh_box, evh_bld, evh_store, seqK_n, ends_r, endK1_e, endK2_e, evp, bin, gt, gq, st, putf, X.get, getp, mkfr, rep, rdR, tupled, clV, clL, clS, clo, ld, lda, tk, dr, sp, sp.spl, lay, ll, cs1, one, allOne, gb, sb, pb, ln, undef, Bool.and_true, Nat.reduceSub, Nat.reduceAdd, beq_self_eq_true, true_and, s84, r84]
 have bd : ∀ v x : Int, 1 ≤ v → v ≤ 500 → -1000000 ≤ x → x ≤ 1000000 → -9223372036854775808 ≤ v * x ∧ v * x ≤ 9223372036854775807 := fun v x h1 h2 h3 h4 => by
  have e1 := Int.mul_le_mul_of_nonneg_left h4 (show 0 ≤ v by omega)
  have e2 := Int.mul_le_mul_of_nonneg_left h3 (show 0 ≤ v by omega)
  omega
 refine ⟨bd _ _ (by omega) (by omega) ha.1 ha.2, bd _ _ (by omega) (by omega) ha.1 ha.2, bd _ _ (by omega) (by omega) hb.1 hb.2, bd _ _ (by omega) (by omega) hb.1 hb.2, res hK ?_⟩
 simp only [leR, leR.leRs]
 refine ⟨?_, ?_, trivial⟩ <;> simp <;> omega
def Vl.rch (v : Vl) (t : Int) : Prop := t ≤ v.v1 * min (v.z1 - v.l2) (2 * v.m - v.l2 - v.z2)
instance (v : Vl) (t : Int) : Decidable (v.rch t) := by unfold Vl.rch; infer_instance
def C99 : PC := fun args K => ∃ (v : Vl) (t : Int), args = [v.sv, .int .i64 t] ∧ v.ok ∧ K (.bool (decide (v.rch t)))
theorem p99 : PureOk Try.prog 99 C99 := by
 refine pure_of (T := []) trivial Try.func99 k99 ?_
 rintro args K ⟨v, t, rfl, hv, hK⟩
 obtain ⟨m, l1, l2, v1, v2, z1, z2, w⟩ := v
 simp only [Vl.sv, Vl.ok, Vl.rch] at hK hv ⊢
 simp only [inr64, e_reg, e_drw, e_seq, e_ret, o_nil, o_cons, gd_none, putK_e, runK_e, vK_e, boxK_e, evh_v, evh_box, dX_e, dG_t, d_nil, d_cons, tlK_n, seqK_n, ends_r, endK1_e, endK2_e, evp, bin, gt, gq, st, putf, X.get, mkfr, rep, rdR, tupled, clV, clS, clo, ld, lda, cs1, gb, pb, ln, evq, gdl, undef, Nat.reduceSub, Nat.reduceAdd, true_and, s99, r99]
 have em : (if 2 * m - l2 - z2 < z1 - l2 then 2 * m - l2 - z2 else z1 - l2) = min (z1 - l2) (2 * m - l2 - z2) := by split <;> omega
 rw [em]
 have q1 : min (z1 - l2) (2 * m - l2 - z2) ≤ 1000000 := by omega
 have q2 : -1000000 ≤ min (z1 - l2) (2 * m - l2 - z2) := by omega
 have e1 := Int.mul_le_mul_of_nonneg_left q1 (show 0 ≤ v1 by omega)
 have e2 := Int.mul_le_mul_of_nonneg_left q2 (show 0 ≤ v1 by omega)
 exact ⟨by omega, by omega, by omega, by omega, ⟨by omega, by omega⟩, res hK (by simp [leR])⟩
def F70 : FC := fun args => match args with
 | [.agg [.int .i64 a, .int .i64 b]] => some (True, .bool (decide ((0 ≤ a ∧ a ≤ 100000) ∧ (0 ≤ b ∧ b ≤ 100000))))
 | _ => none
theorem p70 : PureOk Try.prog 70 (fcC F70) := by
 refine pure_of (T := [(65, .fc F42)]) ⟨⟨p65, q65⟩, trivial⟩ Try.func70 k70 ?_
 intro args K hC
 unfold fcC F70 at hC
 split at hC <;> first | (exact hC.elim) | skip
 rename_i h
 split at h <;> first | (cases h; done) | skip
 cases h
 obtain ⟨-, hK⟩ := hC
 simp only [e_reg, e_seq, e_ret, o_nil, o_cons, gd_none, gd_some, gdK_tt, gdK_ft, xRe, putK_e, runK_e, skipK_e, vK_e, boxK_e, conK_e, callK_e, evh_v, evh_box, evh_call, seqK_n, ends_r, endK1_e, endK2_e, gam_e, gamK_f, pc_e, pcK_e, fcC_e, fcK_e, evp, gt, gq, st, putf, X.get, gets, ap, mkfr, rep, rdR, tupled, clV, clL, clS, clo, ld, lda, cs1, gb, pb, ln, lk, undef, Nat.reduceSub, Nat.reduceAdd, beq_self_eq_true, true_and, decide_eq_true_eq, decide_eq_false_iff_not, s70, r70, F42]
 exact ⟨fun h => res hK (by simp [leR, h]), fun h => res hK (by simp [leR, h])⟩
def F73 : FC := fun args => match args with
 | [.agg [.int .i64 a, .int .i64 b], .agg [.int .i64 c, .int .i64 d]] => some (True, .bool (decide (b < d)))
 | _ => none
theorem p73 : PureOk Try.prog 73 (fcC F73) := by
 refine pure_of (T := []) trivial Try.func73 k73 ?_
 intro args K hC
 unfold fcC F73 at hC
 split at hC <;> first | (exact hC.elim) | skip
 rename_i h
 split at h <;> first | (cases h; done) | skip
 cases h
 obtain ⟨-, hK⟩ := hC
 simp only [e_reg, e_seq, e_ret, o_nil, o_cons, gd_none, putK_e, runK_e, vK_e, boxK_e, evh_v, evh_box, seqK_n, ends_r, endK1_e, endK2_e, evp, bin, gt, gq, st, putf, X.get, mkfr, rep, rdR, tupled, clV, clS, clo, ld, lda, cs1, gb, pb, ln, undef, Nat.reduceSub, Nat.reduceAdd, true_and, s73, r73]
 exact res hK (by simp [leR])
end Go.Proofs.Ytgdihdiadlmjiaa
end
section
namespace Go.Proofs.Ytgdihdiadlmjiaa
open Go Go.Vg
set_option maxRecDepth 10000
def s52 : SC :=
 (.seq (.reg [⟨(some 3),none,.box 25 (.t 0)⟩,.u1 6 (0),.u1 7 (0)]) (.seq (.reg [.u1 8 (-10000),.u1 9 (10000)]) (.seq (.seq (.reg [.u1 10 (0)]) (.block 0 (.loop (.seq (.seq (.reg [.u0 12 10,.u0 13 1,.w2 14 13,.u6 15 .lss 12 14]) (.cond (.t 15) .skip (.exit 0))) (.seq (.block 1 (.seq (.reg [.u0 18 1,.u0 19 10,(.w6 20 (.ixa (.t 18) (.t 19) 2)),.u2 21 20 0,.u3 22 21,.u0 23 2,.u6 24 .sub 22 23,.u0 11 24]) (.seq (.seq (.reg [.u0 25 1,.u0 26 10,(.w6 27 (.ixa (.t 25) (.t 26) 2)),.u2 28 27 1,.u3 29 28]) (.cond (.t 29) (.reg [.u0 30 11,(.w6 31 (.neg (.t 30))),.u0 11 31]) .skip)) (.drw [(0,.u0 32 8,false),(1,.u0 33 11,false),(2,.u2 34 3 7,false),(3,.u3 35 34,false),(4,.u6 36 .sub 33 35,false),(5,(.w6 37 (.max2 (.t 32) (.t 36))),false),(6,.u0 38 9,false),(7,.u0 39 11,false),(8,.u2 40 3 7,false),(9,.u3 41 40,false),(10,.u6 42 .add 39 41,false),(11,(.w6 43 (.min2 (.t 38) (.t 42))),false),(12,.u0 8 37,false)] none [.u0 9 43])))) (.reg [.u0 16 10,.u7 17 .add 16 (1),.u0 10 17])))))) (.seq (.reg [.u0 44 8,.u0 45 9,.u0 6 44,.u0 7 45]) .ret))))
def r52 : List RV := [.t 6, .t 7]
theorem k52 : (Try.f52.body.bind (cC Try.prog), cR Try.prog Try.f52.results.toList, Try.f52.ntmps) = (some s52, some r52, 46) := by kernel_rfl
theorem q52 : Known Try.prog 52 := ⟨_, Try.func52, by decide, by simp [Try.f52]⟩
def s58 : SC :=
 (.seq (.reg [⟨(some 2),none,.box 25 (.t 0)⟩,.w4 4,.w4 5,.w5 6 false]) (.seq (.reg [.w4 7,.w4 8]) (.seq (.reg [.w5 9 false]) (.seq (.seq (.reg [.u2 15 2 5,.u2 16 15 0,.u3 17 16,.u0 10 17]) (.block 0 (.loop (.seq (.seq (.reg [.u0 18 10,.u2 19 2 5,.u2 20 19 1,.u3 21 20,.u6 22 .leq 18 21]) (.cond (.t 22) .skip (.exit 0))) (.seq (.block 1 (.seq (.reg [.u4 26 2 8,.u0 27 1,.u0 28 10,(.w1 29 52 [(.t 26),(.t 27),(.t 28)]),.u0 25 29,.u5 30 25 0,.u5 31 25 1,.u0 11 30,.u0 12 31]) (.seq (.seq (.reg [.u0 32 11,.u0 33 12,.u6 34 .gtr 32 33]) (.cond (.t 34) (.exit 1) .skip)) (.seq (.drw [(0,.u0 35 11,false),(1,.u2 36 2 3,false),(2,.u2 37 36 0,false),(3,.u3 38 37,false),(4,.u6 39 .mul 35 38,false),(5,.u0 40 11,false),(6,.u2 41 2 3,false),(7,.u2 42 41 1,false),(8,.u3 43 42,false),(9,.u6 44 .mul 40 43,false),(10,(.w6 45 (.min2 (.t 39) (.t 44))),false),(11,.u0 46 12,false),(12,.u2 47 2 3,false),(13,.u2 48 47 0,false),(14,.u3 49 48,false),(15,.u6 50 .mul 46 49,false),(16,.u0 51 12,false),(17,.u2 52 2 3,false),(18,.u2 53 52 1,false),(19,.u3 54 53,false),(20,.u6 55 .mul 51 54,false),(21,(.w6 56 (.max2 (.t 50) (.t 55))),false),(22,.u0 13 45,false)] none [.u0 14 56]) (.seq (.reg [.u4 57 7 2,.u0 58 13,.u0 59 9,(.w6 60 (.not (.t 59))),(.w1 61 85 [(.t 57),(.t 58),(.t 60)]),.u0 62 14,(.w1 63 85 [(.t 61),(.t 62),(.c (.lit (.bool false)))]),.w3 2 7 63]) (.seq (.reg [.u4 64 8 2,.u0 65 10,.u0 66 9,(.w6 67 (.not (.t 66))),(.w1 68 85 [(.t 64),(.t 65),(.t 67)]),.w3 2 8 68]) (.reg [.w5 9 true]))))))) (.reg [.u0 23 10,.u7 24 .add 23 (1),.u0 10 24])))))) (.seq (.tre (.op (.u4 69 7 2) (.op (.u4 70 8 2) (.op (.u0 71 9) (.op (.w3 2 4 69) (.op (.w3 2 5 70) (.op (.u0 6 71) .leaf .stop) .stop) .stop) (.op (.w3 2 4 69) (.op (.u0 71 9) (.op (.w3 2 5 70) (.op (.u0 6 71) .leaf .stop) .stop) (.op (.w3 2 5 70) (.op (.u0 71 9) (.op (.u0 6 71) .leaf .stop) .stop) .stop)) .stop)) (.op (.u0 71 9) (.op (.u4 70 8 2) (.op (.w3 2 4 69) (.op (.w3 2 5 70) (.op (.u0 6 71) .leaf .stop) .stop) .stop) (.op (.w3 2 4 69) (.op (.u4 70 8 2) (.op (.w3 2 5 70) (.op (.u0 6 71) .leaf .stop) .stop) .stop) .stop)) (.op (.w3 2 4 69) (.op (.u4 70 8 2) (.op (.u0 71 9) (.op (.w3 2 5 70) (.op (.u0 6 71) .leaf .stop) .stop) (.op (.w3 2 5 70) (.op (.u0 71 9) (.op (.u0 6 71) .leaf .stop) .stop) .stop)) (.op (.u0 71 9) (.op (.u4 70 8 2) (.op (.w3 2 5 70) (.op (.u0 6 71) .leaf .stop) .stop) .stop) .stop)) .stop))) (.op (.u4 70 8 2) (.op (.u4 69 7 2) (.op (.u0 71 9) (.op (.w3 2 4 69) (.op (.w3 2 5 70) (.op (.u0 6 71) .leaf .stop) .stop) .stop) (.op (.w3 2 4 69) (.op (.u0 71 9) (.op (.w3 2 5 70) (.op (.u0 6 71) .leaf .stop) .stop) (.op (.w3 2 5 70) (.op (.u0 71 9) (.op (.u0 6 71) .leaf .stop) .stop) .stop)) .stop)) (.op (.u0 71 9) (.op (.u4 69 7 2) (.op (.w3 2 4 69) (.op (.w3 2 5 70) (.op (.u0 6 71) .leaf .stop) .stop) .stop) .stop) .stop)) (.op (.u0 71 9) (.op (.u4 69 7 2) (.op (.u4 70 8 2) (.op (.w3 2 4 69) (.op (.w3 2 5 70) (.op (.u0 6 71) .leaf .stop) .stop) .stop) (.op (.w3 2 4 69) (.op (.u4 70 8 2) (.op (.w3 2 5 70) (.op (.u0 6 71) .leaf .stop) .stop) .stop) .stop)) (.op (.u4 70 8 2) (.op (.u4 69 7 2) (.op (.w3 2 4 69) (.op (.w3 2 5 70) (.op (.u0 6 71) .leaf .stop) .stop) .stop) .stop) .stop)) .stop)))) .ret)))))
def r58 : List RV := [.c 4 (some 2), .c 5 (some 2), .t 6]
theorem k58 : (Try.f58.body.bind (cC Try.prog), cR Try.prog Try.f58.results.toList, Try.f58.ntmps) = (some s58, some r58, 72) := by kernel_rfl
theorem q58 : Known Try.prog 58 := ⟨_, Try.func58, by decide, by simp [Try.f58]⟩
def s92 : SC :=
 (.seq (.reg [⟨(some 1),none,.box 25 (.t 0)⟩,.u1 2 (0)]) (.seq (.reg [.u1 3 (0)]) (.seq (.seq (.reg [.u2 8 1 1,.u2 9 8 1,.u3 10 9,.u0 4 10]) (.block 0 (.loop (.seq (.seq (.reg [.u0 11 4,.u2 12 1 0,.u3 13 12,(.w6 14 (.bin .mul (.c (.int .i64 (2))) (.t 13))),.u2 15 1 1,.u2 16 15 1,.u3 17 16,.u6 18 .sub 14 17,.u6 19 .leq 11 18]) (.cond (.t 19) .skip (.exit 0))) (.seq (.block 1 (.seq (.reg [.u4 23 1 8,.u0 24 4,⟨(some 25),none,.bld [(.int .i64 (0)),(.lit (.bool false))] [(0,1,(.t 24))]⟩,⟨(some 26),none,.bsl 121 1 [(.int .i64 (0)),(.lit (.bool false))] [(0,2,(.t 25))]⟩,(.w1 27 58 [(.t 23),(.t 26)]),.u0 22 27,.u5 28 22 0,.u5 29 22 1,.u5 30 22 2,.w4 5,.w4 6,.w3 2 5 28,.w3 2 6 29,.u0 7 30]) (.seq (.reg [.u0 31 7]) (.cond (.t 31) (.reg [.u0 32 3,.u2 33 5 1,.u3 34 33,.u2 35 5 0,.u3 36 35,.u6 37 .sub 34 36,(.w6 38 (.max2 (.t 32) (.t 37))),.u0 3 38]) .skip)))) (.reg [.u0 20 4,.u7 21 .add 20 (1),.u0 4 21])))))) (.seq (.reg [.u0 39 3,.u0 2 39]) .ret))))
def r92 : List RV := [.t 2]
theorem k92 : (Try.f92.body.bind (cC Try.prog), cR Try.prog Try.f92.results.toList, Try.f92.ntmps) = (some s92, some r92, 40) := by kernel_rfl
theorem q92 : Known Try.prog 92 := ⟨_, Try.func92, by decide, by simp [Try.f92]⟩
def s74 : SC :=
 (.seq (.reg [⟨(some 2),none,.box 25 (.t 0)⟩,⟨(some 3),none,.box 49 (.t 1)⟩,.w5 4 false]) (.seq (.drw [(0,.u2 7 2 0,false),(1,.u3 8 7,false),(2,(.w6 9 (.bin .mul (.c (.int .i64 (2))) (.t 8))),false),(3,.u2 10 2 1,false),(4,.u2 11 10 1,false),(5,.u3 12 11,false),(6,.u6 13 .sub 9 12,false),(7,.u2 14 2 5,false),(8,.u2 15 14 1,false),(9,.u3 16 15,false),(10,.u6 17 .sub 13 16,false),(11,.u2 18 2 5,false),(12,.u2 19 18 0,false),(13,.u3 20 19,false),(14,.u2 21 2 1,false),(15,.u2 22 21 1,false),(16,.u3 23 22,false),(17,.u6 24 .sub 20 23,false),(18,.u0 5 17,false)] none [.u0 6 24]) (.seq (.drw [(0,.u0 25 5,false),(1,.u7 26 .geq 25 (0),false),(2,.u0 27 26,true),(3,(.w0 28 27 true (.mov (.t 6))),false),(4,(.w0 29 27 true (.bin .geq (.t 28) (.c (.int .i64 (0))))),false),(5,.u8 30 27 29,false),(6,.u0 31 30,true),(7,(.w0 32 31 true (.off (.t 3) 0)),false),(8,(.w0 33 31 true (.load (.t 32) none)),false),(9,(.w0 34 31 true (.off (.t 2) 3)),false),(10,(.w0 35 31 true (.off (.t 34) 0)),false),(11,(.w0 36 31 true (.load (.t 35) none)),false),(12,(.w0 37 31 true (.mov (.t 5))),false),(13,(.w0 38 31 true (.mov (.t 6))),false),(14,(.w0 39 31 true (.min2 (.t 37) (.t 38))),false),(15,(.w0 40 31 true (.bin .mul (.t 36) (.t 39))),false),(16,(.w0 41 31 true (.bin .leq (.t 33) (.t 40))),false),(17,.u8 42 31 41,false),(18,.u0 43 42,true),(19,(.w0 44 43 true (.load (.t 2) (some 8))),false),(20,⟨(some 45),(some (43,true)),.call (.c (.fn 92 [])) [(.t 44)]⟩,false),(21,(.w0 46 43 true (.off (.t 3) 1)),false),(22,(.w0 47 43 true (.load (.t 46) none)),false)] none [(.w0 48 43 true (.bin .leq (.t 45) (.t 47))),.u8 49 43 48,.u0 4 49]) .ret)))
def r74 : List RV := [.t 4]
theorem k74 : (Try.f74.body.bind (cC Try.prog), cR Try.prog Try.f74.results.toList, Try.f74.ntmps) = (some s74, some r74, 50) := by kernel_rfl
theorem q74 : Known Try.prog 74 := ⟨_, Try.func74, by decide, by simp [Try.f74]⟩
abbrev Md := Int × Bool
def rowM (L : List Md) : Nat → List SV := fun j => [.int .i64 (L.getD j (0, false)).1, .bool (L.getD j (0, false)).2]
def nz (z : Int) (e : Md) : Int := if e.2 = true then -(e.1 - z) else e.1 - z
def loW (w z : Int) (L : List Md) : Int := L.foldl (fun a e => max a (nz z e - w)) (-10000)
def hiW (w z : Int) (L : List Md) : Int := L.foldl (fun a e => min a (nz z e + w)) 10000
def okM (L : List Md) : Prop := L.length ≤ 10 ∧ ∀ e ∈ L, -1000 ≤ e.1 ∧ e.1 ≤ 1000
theorem takeM {L : List Md} {i : Nat} (h : i < L.length) : L.take (i + 1) = L.take i ++ [L.getD i (0, false)] := by
 rw [List.take_add_one, List.getElem?_eq_getElem h]; simp [List.getD, h]
theorem memM {L : List Md} {i : Nat} (h : i < L.length) : L.getD i (0, false) ∈ L := by
 simp [List.getD, h]
theorem loW_b {w z : Int} {L : List Md} (hw : 0 ≤ w ∧ w ≤ 8) (hz : -1000 ≤ z ∧ z ≤ 1000) (h : ∀ e ∈ L, -1000 ≤ e.1 ∧ e.1 ≤ 1000) : -10000 ≤ loW w z L ∧ loW w z L ≤ 10000 := by
 unfold loW
 suffices ∀ a : Int, -10000 ≤ a ∧ a ≤ 10000 → -10000 ≤ L.foldl (fun a e => max a (nz z e - w)) a ∧ L.foldl (fun a e => max a (nz z e - w)) a ≤ 10000 from this _ (by omega)
 induction L with
 | nil => exact fun a h => h
 | cons e t ih =>
  intro a ha
  have he := h e (by simp)
  refine ih (fun e h1 => h e (by simp [h1])) _ ?_
  show -10000 ≤ _ ∧ _ ≤ 10000
  have : nz z e = -(e.1 - z) ∨ nz z e = e.1 - z := by unfold nz; split <;> simp
  dsimp only; omega
theorem hiW_b {w z : Int} {L : List Md} (hw : 0 ≤ w ∧ w ≤ 8) (hz : -1000 ≤ z ∧ z ≤ 1000) (h : ∀ e ∈ L, -1000 ≤ e.1 ∧ e.1 ≤ 1000) : -10000 ≤ hiW w z L ∧ hiW w z L ≤ 10000 := by
 unfold hiW
 suffices ∀ a : Int, -10000 ≤ a ∧ a ≤ 10000 → -10000 ≤ L.foldl (fun a e => min a (nz z e + w)) a ∧ L.foldl (fun a e => min a (nz z e + w)) a ≤ 10000 from this _ (by omega)
 induction L with
 | nil => exact fun a h => h
 | cons e t ih =>
  intro a ha
  have he := h e (by simp)
  refine ih (fun e h1 => h e (by simp [h1])) _ ?_
  show -10000 ≤ _ ∧ _ ≤ 10000
  have : nz z e = -(e.1 - z) ∨ nz z e = e.1 - z := by unfold nz; split <;> simp
  dsimp only; omega
theorem loW_s {w z : Int} {L : List Md} {i : Nat} (h : i < L.length) : loW w z (L.take (i + 1)) = max (loW w z (L.take i)) (nz z (L.getD i (0, false)) - w) := by
 rw [takeM h]; simp [loW, List.foldl_append]
theorem hiW_s {w z : Int} {L : List Md} {i : Nat} (h : i < L.length) : hiW w z (L.take (i + 1)) = min (hiW w z (L.take i)) (nz z (L.getD i (0, false)) + w) := by
 rw [takeM h]; simp [hiW, List.foldl_append]
def C52 : PC := fun args K => ∃ (v : Vl) (L : List Md) (z : Int), args = [v.sv, .rd 2 L.length (rowM L), .int .i64 z] ∧ (v.ok ∧ okM L ∧ -1000 ≤ z ∧ z ≤ 1000) ∧ K (.tup [.int .i64 (loW v.w z L), .int .i64 (hiW v.w z L)])
theorem p52 : PureOk Try.prog 52 C52 := by
 refine pure_of (T := []) trivial Try.func52 k52 ?_
 rintro args K ⟨v, L, z, rfl, ⟨hv, hL, hz⟩, hK⟩
 obtain ⟨m, l1, l2, v1, v2, z1, z2, w⟩ := v
 have hw : 0 ≤ w ∧ w ≤ 8 := hv.2.2.2.2
 simp only [Vl.sv] at hK ⊢
 simp only [e_reg, e_seq, e_block, e_loop, o_nil, o_cons, gd_none, putK_e, runK_e, vK_e, boxK_e, evh_v, evh_box, seqK_n, evp, gt, st, putf, X.get, mkfr, rep, cs1, pb, ln, undef, Nat.reduceSub, true_and, s52, r52]
 refine loop_at2 (G := Nat) (fun i => [(10, .int .i64 i), (8, .int .i64 (loW w z (L.take i))), (9, .int .i64 (hiW w z (L.take i)))]) (fun i => [Blk.box 25 (Vl.cells ⟨m, l1, l2, v1, v2, z1, z2, w⟩)]) (fun i => i ≤ L.length) (fun i => L.length - i) 0 (Nat.zero_le _) ?_
 (intro fr1 hf1; simp only [forget, dstC, dstO, dstD, dst1, st] at hf1; subst hf1)
 refine ⟨?_, ?_⟩
 ·refine Lw_re 1 [] (Nat.zero_le _) (by simp [ln]) (by simp [ln]) rfl ?_ ?_
  ·simp only [reL, reX, inb, inb.inbs, ln, sts, st, Bool.and_self, Nat.reduceLT, Nat.reduceAdd, decide_true, and_self, Int.natCast_zero, List.take_zero, loW, hiW, List.foldl_nil, implies_true]
  ·simp only [reL, reX, reH, reB, reN, inb, ln, Nat.reduceAdd, and_self, Vl.cells]
 ·intro i hi
  simp only [inr64, e_skip, e_reg, e_drw, e_seq, e_cond, e_block, e_exit, e_ret, o_nil, o_cons, gd_none, putK_e, runK_e, vK_e, evh_v, dX_e, dG_t, d_nil, d_cons, tlK_n, loopK_n, loopK_x, seqK_n, seqK_x, xNz, exitK_t, blockK_x, blockK_n, ends_r, endK1_e, endK2_e, evp, bin, gt, gq, st, putf, X.get, rdR, tupled, clV, clL, clS, clo, ld, lda, lens, ixs, gb, evq, gdl, Nat.reduceAdd, beq_self_eq_true, true_and, decide_eq_true_eq, decide_eq_false_iff_not, sts, Int.toNat_natCast, rowM, Vl.cells]
  refine ⟨fun h => ?_, fun h => ?_⟩
  ·have hi' : i < L.length := by omega
   have hm := hL.2 _ (memM hi')
   have hl := hL.1
   have b1 := loW_s (w := w) (z := z) hi'
   have b2 := hiW_s (w := w) (z := z) hi'
   refine ⟨by omega, by omega, by omega, fun hc => ⟨by omega, by omega, by omega, by omega, ?_⟩, fun hc => ⟨by omega, by omega, by omega, ?_⟩⟩
   ·have en : nz z (L.getD i (0, false)) = -((L.getD i (0, false)).1 - z) := by unfold nz; rw [if_pos hc]
    rw [en] at b1 b2
    refine Nx.mk (i + 1) (by show i + 1 ≤ L.length; omega) (by show L.length - (i + 1) < L.length - i; omega) (Lw_re 1 [] (Nat.zero_le _) (by simp [ln]) (by simp [ln]) rfl ?_ ?_)
    ·simp only [reL, reX, inb, inb.inbs, Bool.and_self, Nat.reduceLT, decide_true, true_and, and_true, and_self, Int.natCast_add, Int.natCast_one, b1, b2, implies_true]
     constructor <;> (congr 1; omega)
    ·simp only [reL, reX, reH, reB, reN, inb, and_self]
   ·have en : nz z (L.getD i (0, false)) = (L.getD i (0, false)).1 - z := by unfold nz; rw [if_neg (by simp only [hc]; decide)]
    rw [en] at b1 b2
    refine Nx.mk (i + 1) (by show i + 1 ≤ L.length; omega) (by show L.length - (i + 1) < L.length - i; omega) (Lw_re 1 [] (Nat.zero_le _) (by simp [ln]) (by simp [ln]) rfl ?_ ?_)
    ·simp only [reL, reX, inb, inb.inbs, Bool.and_self, Nat.reduceLT, decide_true, true_and, and_true, and_self, Int.natCast_add, Int.natCast_one, b1, b2, implies_true]
     constructor <;> (congr 1; omega)
    ·simp only [reL, reX, reH, reB, reN, inb, and_self]
  ·have e : i = L.length := by omega
   subst e
   simp only [List.take_length]
   exact res hK (by simp [leR, leR.leRs])
end Go.Proofs.Ytgdihdiadlmjiaa
end
section
namespace Go.Proofs.Ytgdihdiadlmjiaa
open Go Go.Vg
set_option maxRecDepth 10000
structure Tz where
 (t1 t2 u1 u2 : Int)
 f : Bool
def wdL (a x : Int) (f : Bool) : Int := if f then x else min a x
def wdH (b x : Int) (f : Bool) : Int := if f then x else max b x
def Vl.lst (v : Vl) (a : Int) : Int := if a * v.v2 < a * v.v1 then a * v.v2 else a * v.v1
def Vl.mst (v : Vl) (b : Int) : Int := if b * v.v1 < b * v.v2 then b * v.v2 else b * v.v1
def tstep (v : Vl) (L : List Md) (z : Int) (s : Tz) : Tz :=
 if hiW v.w z L < loW v.w z L then s
 else ⟨wdL (wdL s.t1 (v.lst (loW v.w z L)) !s.f) (v.mst (hiW v.w z L)) false, wdH (wdH s.t2 (v.lst (loW v.w z L)) !s.f) (v.mst (hiW v.w z L)) false, wdL s.u1 z !s.f, wdH s.u2 z !s.f, true⟩
def tzN (v : Vl) (L : List Md) : Nat → Tz
 | 0 => ⟨0, 0, 0, 0, false⟩
 | k + 1 => tstep v L (v.z1 + k) (tzN v L k)
def tzA (v : Vl) (L : List Md) : Tz := tzN v L (v.z2 + 1 - v.z1).toNat
def F85' : FC := fun args => match args with
 | [.agg [.int .i64 a, .int .i64 b], .int .i64 x, .bool f] => some (True, .agg [.int .i64 (wdL a x f), .int .i64 (wdH b x f)])
 | [.agg [.int .i64 a, .int .i64 b], .int .i64 x, .lit (.bool f)] => some (True, .agg [.int .i64 (wdL a x f), .int .i64 (wdH b x f)])
 | _ => none
theorem p85' : PureOk Try.prog 85 (fcC F85') := by
 refine pure_of (T := []) trivial Try.func85 k85 ?_
 intro args K hC
 unfold fcC F85' at hC
 split at hC <;> first | (exact hC.elim) | skip
 rename_i h
 split at h <;> first | (cases h; done) | skip
 ·cases h
  obtain ⟨-, hK⟩ := hC
  simp only [↓reduceIte, e_skip, e_reg, and_self, e_seq, e_cond, e_ret, o_nil, o_cons, gd_none, putK_e, runK_e, vK_e, boxK_e, bldK_e, storeK3_e, storeK2_e, storeK_e, evh_v, evh_new, evh_box, evh_bld, evh_store, seqK_n, seqK_r, xNz, ends_r, endK1_e, endK2_e, evp, gt, gq, st, putf, X.get, getp, mkfr, rep, rdR, tupled, clV, clL, clS, clo, ld, lda, tk, dr, sp, sp.spl, lay, ll, cs1, one, allOne, gb, sb, pb, ln, undef, Bool.and_true, Nat.reduceSub, Nat.reduceAdd, beq_self_eq_true, true_and, s85, r85]
  exact ⟨fun h => res hK (by simp [leR, leR.leRs, wdL, wdH, h]), fun h => res hK (by simp only [leR, leR.leRs, wdL, wdH, h]; refine ⟨?_, ?_, trivial⟩ <;> simp <;> omega)⟩
 ·rename_i f
  cases h
  obtain ⟨-, hK⟩ := hC
  cases f
  ·simp only [↓reduceIte, e_skip, e_reg, and_self, e_seq, e_cond, e_ret, o_nil, o_cons, gd_none, putK_e, runK_e, vK_e, boxK_e, bldK_e, storeK3_e, storeK2_e, storeK_e, evh_v, evh_new, evh_box, evh_bld, evh_store, seqK_n, condK_f, ends_r, endK1_e, endK2_e, evp, gt, gq, st, putf, X.get, getp, mkfr, rep, rdR, tupled, clV, clL, clS, clo, ld, lda, tk, dr, sp, sp.spl, lay, ll, cs1, one, allOne, gb, sb, pb, ln, undef, Bool.and_true, Nat.reduceSub, Nat.reduceAdd, beq_self_eq_true, true_and, s85, r85]
   exact res hK (by simp only [leR, leR.leRs, wdL, wdH]; refine ⟨?_, ?_, trivial⟩ <;> simp <;> omega)
  ·simp only [↓reduceIte, e_reg, and_self, e_seq, e_cond, e_ret, o_nil, o_cons, gd_none, putK_e, runK_e, vK_e, boxK_e, bldK_e, storeK3_e, storeK2_e, storeK_e, evh_v, evh_new, evh_box, evh_bld, evh_store, seqK_n, seqK_r, condK_t, ends_r, endK1_e, endK2_e, evp, gt, st, putf, X.get, getp, mkfr, rep, rdR, tupled, clV, clL, clS, clo, ld, tk, dr, sp, sp.spl, lay, ll, cs1, one, allOne, gb, sb, pb, ln, undef, Bool.and_true, Nat.reduceSub, Nat.reduceAdd, beq_self_eq_true, true_and, s85, r85]
   exact res hK (by simp [leR, leR.leRs, wdL, wdH])
theorem bdp {x v : Int} (hx : -10000 ≤ x ∧ x ≤ 10000) (hv : 0 ≤ v ∧ v ≤ 500) : -9223372036854775808 ≤ x * v ∧ x * v ≤ 9223372036854775807 := by
 have e1 := Int.mul_le_mul_of_nonneg_right hx.1 hv.1
 have e2 := Int.mul_le_mul_of_nonneg_right hx.2 hv.1
 omega
end Go.Proofs.Ytgdihdiadlmjiaa
end
section
namespace Go.Proofs.Ytgdihdiadlmjiaa
open Go Go.Vg
set_option maxRecDepth 10000
abbrev Rg := Int × Int × Bool
def r0 : Rg := (0, 0, false)
def rowR (R : List Rg) : Nat → List SV := fun j => [.int .i64 (R.getD j r0).1, .int .i64 (R.getD j r0).2.1, .bool (R.getD j r0).2.2]
def okR (v : Vl) (e : Rg) : Prop := (0 ≤ e.1 ∧ e.1 ≤ v.m) ∧ (e.1 + 1 ≤ e.2.1 ∧ e.2.1 ≤ v.m) ∧ (v.l1 - v.w ≤ e.2.1 - e.1 ∧ e.2.1 - e.1 ≤ v.l2 + v.w)
instance (v : Vl) (e : Rg) : Decidable (okR v e) := by unfold okR; infer_instance
def okRs (v : Vl) (R : List Rg) : Prop := (1 ≤ R.length ∧ R.length ≤ 8) ∧ ∀ e ∈ R, okR v e
instance (v : Vl) (R : List Rg) : Decidable (okRs v R) := by unfold okRs; infer_instance
end Go.Proofs.Ytgdihdiadlmjiaa
end
section
namespace Go.Vg
open Go
theorem leRs4_ok {w : World} {im : Nat → Prop} {n : Nat} : ∀ {xs ys : List SV} {vs : List Value}, leR.leRs n xs ys → Cvs w im xs vs → Cvs w im ys vs
 | [], ys, vs, h, hx => by cases ys <;> simp only [leR.leRs] at h; exact hx
 | x :: xs, ys, vs, h, hx => by
  cases ys <;> simp only [leR.leRs] at h
  cases hx with
  | cons _ v _ vs hx hr => exact .cons _ _ _ _ (leR_ok n h.1 hx) (leRs4_ok h.2 hr)
def leA (x y : SV) : Prop := leR 4 x y ∨ ∃ sz len f g, x = .rd sz len f ∧ y = .rd sz len g ∧ ∀ i, i < len → leR.leRs 4 (f i) (g i)
theorem leA_ok {w : World} {im : Nat → Prop} {x y : SV} {v : Value} (h : leA x y) (hx : Cv w im x v) : Cv w im y v := by
 rcases h with h | ⟨sz, len, f, g, rfl, rfl, h⟩
 ·exact leR_ok 4 h hx
 ·cases hx with
  | rdNil => exact .rdNil _ _
  | rdE => exact .rdE _ _ _ _
  | rd _ _ _ b off cap vs hb h1 h2 h3 h4 => exact .rd _ _ _ b off cap vs hb (fun i hi => leRs4_ok (h i hi) (h1 i hi)) h2 h3 h4
def leAs : List SV → List SV → Prop
 | [], [] => True
 | x :: a, y :: b => leA x y ∧ leAs a b
 | _, _ => False
theorem leAs_ok {w : World} {im : Nat → Prop} : ∀ {xs ys : List SV} {vs : List Value}, leAs xs ys → Cvs w im xs vs → Cvs w im ys vs
 | [], ys, vs, h, hx => by cases ys <;> simp only [leAs] at h; exact hx
 | x :: xs, ys, vs, h, hx => by
  cases ys <;> simp only [leAs] at h
  cases hx with
  | cons _ v _ vs hx hr => exact .cons _ _ _ _ (leA_ok h.1 hx) (leAs_ok h.2 hr)
def PC.le (C : PC) : PC := fun args K => ∃ args', leAs args args' ∧ C args' K
theorem PureOk.le {P : Program} {f : FuncId} {C : PC} (h : PureOk P f C) : PureOk P f C.le :=
 fun w im _ vs K hb hv ⟨args', hl, hc⟩ => h w im args' vs K hb (leAs_ok hl hv) hc
end Go.Vg
end
section
namespace Go.Proofs.Ytgdihdiadlmjiaa
open Go Go.Vg
set_option maxRecDepth 10000
def C58 : PC := fun args K => ∃ (v : Vl) (L : List Md), args = [v.sv, .rd 2 L.length (rowM L)] ∧ (v.ok ∧ okM L) ∧
 K (.tup [.agg [.int .i64 (tzA v L).t1, .int .i64 (tzA v L).t2], .agg [.int .i64 (tzA v L).u1, .int .i64 (tzA v L).u2], .bool (tzA v L).f])
theorem prb {x v B : Int} (hx : -B ≤ x ∧ x ≤ B) (hv : 0 ≤ v ∧ v ≤ 500) : -(500 * B) ≤ x * v ∧ x * v ≤ 500 * B := by
 have h0 : 0 ≤ B := by omega
 have e1 := Int.mul_le_mul_of_nonneg_right hx.1 hv.1
 have e2 := Int.mul_le_mul_of_nonneg_right hx.2 hv.1
 have e3 := Int.mul_le_mul_of_nonneg_left hv.2 h0
 have e4 : -B * v = -(B * v) := Int.neg_mul ..
 omega
theorem tz_b {v : Vl} {L : List Md} (hv : v.ok) (hL : okM L) : ∀ k : Nat, v.z1 + k ≤ v.z2 + 1 →
  (-5000000 ≤ (tzN v L k).t1 ∧ (tzN v L k).t1 ≤ 5000000) ∧ (-5000000 ≤ (tzN v L k).t2 ∧ (tzN v L k).t2 ≤ 5000000)
 | 0, _ => by simp [tzN]
 | k + 1, hk => by
  obtain ⟨i1, i2⟩ := tz_b hv hL k (by omega)
  simp only [Vl.ok] at hv
  have bl := loW_b (z := v.z1 + k) hv.2.2.2.2 (by omega) hL.2
  have bh := hiW_b (z := v.z1 + k) hv.2.2.2.2 (by omega) hL.2
  have p1 := prb bl (show 0 ≤ v.v1 ∧ v.v1 ≤ 500 by omega)
  have p2 := prb bl (show 0 ≤ v.v2 ∧ v.v2 ≤ 500 by omega)
  have p3 := prb bh (show 0 ≤ v.v1 ∧ v.v1 ≤ 500 by omega)
  have p4 := prb bh (show 0 ≤ v.v2 ∧ v.v2 ≤ 500 by omega)
  have q1 : -5000000 ≤ v.lst (loW v.w (v.z1 + k) L) ∧ v.lst (loW v.w (v.z1 + k) L) ≤ 5000000 := by unfold Vl.lst; split <;> omega
  have q2 : -5000000 ≤ v.mst (hiW v.w (v.z1 + k) L) ∧ v.mst (hiW v.w (v.z1 + k) L) ≤ 5000000 := by unfold Vl.mst; split <;> omega
  rw [tzN, tstep]
  split
  ·exact ⟨i1, i2⟩
  ·simp only [wdL, wdH]
   generalize (tzN v L k).f = f
   cases f <;> simp <;> omega
def fltN (v : Vl) : Nat → Int
 | 0 => 0
 | k + 1 => if (tzA v [(v.l2 + k, false)]).f = true then (if fltN v k < (tzA v [(v.l2 + k, false)]).t2 - (tzA v [(v.l2 + k, false)]).t1 then (tzA v [(v.l2 + k, false)]).t2 - (tzA v [(v.l2 + k, false)]).t1 else fltN v k) else fltN v k
def flt (v : Vl) : Int := fltN v (2 * v.m + 1 - 2 * v.l2).toNat
def F92 : FC := fun args => match args with
 | [.agg [.int .i64 m, .int .i64 l1, .int .i64 l2, .int .i64 v1, .int .i64 v2, .int .i64 z1, .int .i64 z2, .int .i64 w]] => some (Vl.ok ⟨m, l1, l2, v1, v2, z1, z2, w⟩, .int .i64 (flt ⟨m, l1, l2, v1, v2, z1, z2, w⟩))
 | _ => none
theorem p92 (p58 : PureOk Try.prog 58 C58) : PureOk Try.prog 92 (fcC F92) := by
 refine pure_of (T := [(58, .pc C58.le)]) ⟨⟨p58.le, q58⟩, trivial⟩ Try.func92 k92 ?_
 intro args K hC
 unfold fcC F92 at hC
 split at hC <;> first | (exact hC.elim) | skip
 rename_i h
 split at h <;> first | (cases h; done) | skip
 rename_i m l1 l2 v1 v2 z1 z2 w
 cases h
 obtain ⟨hv, hK⟩ := hC
 generalize hV : (⟨m, l1, l2, v1, v2, z1, z2, w⟩ : Vl) = v at hK hv
 obtain ⟨rfl, rfl, rfl, rfl, rfl, rfl, rfl, rfl⟩ : m = v.m ∧ l1 = v.l1 ∧ l2 = v.l2 ∧ v1 = v.v1 ∧ v2 = v.v2 ∧ z1 = v.z1 ∧ z2 = v.z2 ∧ w = v.w := by subst hV; simp
 clear hV
 have hv' := hv
 simp only [Vl.ok] at hv'
 simp only [e_reg, e_seq, e_block, e_loop, o_nil, o_cons, gd_none, putK_e, runK_e, vK_e, boxK_e, evh_v, evh_box, seqK_n, evp, gt, gq, st, putf, X.get, mkfr, rep, ld, lda, cs1, gb, pb, ln, undef, Nat.reduceSub, Nat.reduceAdd, true_and, s92, r92]
 refine loop_at2 (G := Nat) (fun i => [(4, .int .i64 (v.l2 + i)), (3, .int .i64 (fltN v i))]) (fun i => [Blk.box 25 v.cells])
  (fun i => v.l2 + i ≤ 2 * v.m - v.l2 + 1) (fun i => (2 * v.m + 1 - 2 * v.l2).toNat - i) 0 (by omega) ?_
 (intro fr1 hf1; simp only [forget, dstC, dstO, st] at hf1; subst hf1)
 refine ⟨?_, ?_⟩
 ·refine Lw_re 1 [] (Nat.zero_le _) (by simp [ln]) (by simp [ln]) rfl ?_ ?_
  ·simp only [reL, reX, inb, inb.inbs, ln, sts, st, Bool.and_self, Nat.reduceLT, Nat.reduceAdd, decide_true, and_self, Int.natCast_zero, Int.add_zero, fltN]
  ·simp only [reL, reX, reH, reB, reN, inb, ln, Nat.reduceAdd, and_self, Vl.cells]
 ·intro i hi
  simp only [inr64, ↓reduceIte, e_skip, e_reg, e_seq, e_cond, e_block, e_exit, e_ret, o_nil, o_cons, gd_none, putK_e, runK_e, vK_e, bslK_e, bldK_e, conK_e, callK_e, evh_v, evh_bsl, evh_bld, evh_call, loopK_x, seqK_n, seqK_x, xNz, exitK_t, blockK_x, ends_r, endK1_e, endK2_e, gam_e, gamK_p, pc_e, pcK_e, evp, bin, gt, gq, st, putf, X.get, gets, getp, ap, rdR, tupled, clV, clL, clS, clo, ld, lda, tk, dr, sp, sp.spl, lay, ll, cs1, one, gb, sb, pb, ln, lk, Nat.reduceAdd, Nat.reduceMul, Nat.reduceDiv, beq_self_eq_true, true_and, decide_eq_true_eq, decide_eq_false_iff_not, sts, Vl.cells, toInts, clS, ll, Nat.reduceDiv, sb]
  refine ⟨by omega, by omega, fun h => ?_, fun h => ?_⟩
  ·have hM : okM [(v.l2 + (i : Int), false)] := ⟨by simp, fun e he => by simp only [List.mem_singleton] at he; subst he; constructor <;> simp only <;> omega⟩
   refine ⟨[v.sv, .rd 2 1 (rowM [(v.l2 + (i : Int), false)])], ⟨.inl (by simp [Vl.sv, leR, leR.leRs]), .inr ⟨2, 1, _, _, rfl, rfl, fun j hj => ?_⟩, trivial⟩, v, _, rfl, ⟨hv, hM⟩, ?_⟩
   ·have : j = 0 := by omega
    subst this
    simp [rowOf, rowM, tk, dr, leR, leR.leRs]
   ·have hb := tz_b hv hM (v.z2 + 1 - v.z1).toNat (by omega)
    rw [show tzN v [(v.l2 + (i : Int), false)] (v.z2 + 1 - v.z1).toNat = tzA v [(v.l2 + (i : Int), false)] from rfl] at hb
    simp only [inr64, e_skip, e_reg, and_self, e_seq, e_cond, o_nil, o_cons, gd_none, putK_e, runK_e, vK_e, storeK3_e, storeK2_e, storeK_e, evh_v, evh_new, evh_store, loopK_n, seqK_n, xNz, blockK_n, evp, bin, gt, gq, st, putf, X.get, ld, lda, sp, sp.spl, ll, cs1, one, allOne, gb, sb, pb, ln, Bool.and_true, Nat.reduceAdd, true_and]
    refine ⟨fun hc => ⟨by omega, by omega, ?_⟩, fun hc => ⟨by omega, ?_⟩⟩
    ·refine Nx.mk (i + 1) (by show v.l2 + ((i + 1 : Nat) : Int) ≤ 2 * v.m - v.l2 + 1; omega) (by show (2 * v.m + 1 - 2 * v.l2).toNat - (i + 1) < (2 * v.m + 1 - 2 * v.l2).toNat - i; omega) (Lw_re 1 [] (Nat.zero_le _) (by simp [ln]) (by simp [ln]) rfl ?_ ?_)
     ·simp only [reL, reX, inb, inb.inbs, Bool.and_self, Nat.reduceLT, decide_true, and_self, Int.natCast_add, Int.natCast_one, Int.add_assoc, fltN, if_pos, hc]
     ·simp only [reL, reX, reH, reB, reN, inb, and_self]
    ·refine Nx.mk (i + 1) (by show v.l2 + ((i + 1 : Nat) : Int) ≤ 2 * v.m - v.l2 + 1; omega) (by show (2 * v.m + 1 - 2 * v.l2).toNat - (i + 1) < (2 * v.m + 1 - 2 * v.l2).toNat - i; omega) (Lw_re 1 [] (Nat.zero_le _) (by simp [ln]) (by simp [ln]) rfl ?_ ?_)
     ·simp only [reL, reX, inb, inb.inbs, Bool.and_self, Nat.reduceLT, decide_true, and_self, Int.natCast_add, Int.natCast_one, Int.add_assoc, fltN, hc, Bool.false_eq_true, if_false]
     ·simp only [reL, reX, reH, reB, reN, inb, and_self]
  ·have e : (2 * v.m + 1 - 2 * v.l2).toNat = i := by omega
   unfold flt at hK
   rw [e] at hK
   exact res hK (by simp [leR])
end Go.Proofs.Ytgdihdiadlmjiaa
end
section
namespace Go.Proofs.Ytgdihdiadlmjiaa
open Go Go.Vg
set_option maxRecDepth 10000
def s31 : SC :=
 (.seq (.reg [⟨(some 5),none,.box 49 (.t 2)⟩,.u1 6 (0),.u1 7 (0)]) (.seq (.reg [.u0 12 0,.w2 13 12,(.w1 14 42 [(.t 13),(.c (.int .i64 (1))),(.c (.int .i64 (10)))]),.u0 15 14,(.w0 16 15 true (.mov (.t 1))),(.w0 17 15 true (.len (.t 16))),(.w0 18 15 true (.mov (.t 0))),(.w0 19 15 true (.len (.t 18))),(.w0 20 15 true (.bin .eql (.t 17) (.t 19))),.u8 21 15 20,.u0 22 21,(.w0 23 22 true (.off (.t 5) 0)),(.w0 24 22 true (.load (.t 23) none)),⟨(some 25),(some (22,true)),.call (.c (.fn 42 [])) [(.t 24),(.c (.int .i64 (0))),(.c (.int .i64 (100000)))]⟩,.u8 26 22 25,.u0 27 26,(.w0 28 27 true (.off (.t 5) 1)),(.w0 29 27 true (.load (.t 28) none)),⟨(some 30),(some (27,true)),.call (.c (.fn 42 [])) [(.t 29),(.c (.int .i64 (0))),(.c (.int .i64 (100000)))]⟩,.u8 31 27 30,.u0 8 31]) (.seq (.seq (.reg [.u1 9 (0)]) (.block 0 (.loop (.seq (.seq (.reg [.u0 32 8,.u0 33 32,(.w0 34 33 true (.mov (.t 9))),(.w0 35 33 true (.mov (.t 0))),(.w0 36 33 true (.len (.t 35))),(.w0 37 33 true (.bin .lss (.t 34) (.t 36))),.u8 38 33 37]) (.cond (.t 38) .skip (.exit 0))) (.seq (.block 1 (.reg [.u0 41 0,.u0 42 9,(.w6 43 (.ixa (.t 41) (.t 42) 8)),.u4 44 43 8,(.w1 45 19 [(.t 44)]),.u7 46 .eql 45 (0),.u0 47 46,(.w0 48 47 true (.mov (.t 1))),(.w0 49 47 true (.mov (.t 9))),(.w0 50 47 true (.ixa (.t 48) (.t 49) 1)),(.w0 51 47 true (.load (.t 50) none)),⟨(some 52),(some (47,true)),.call (.c (.fn 42 [])) [(.t 51),(.c (.int .i64 (0))),(.c (.int .i64 (1000)))]⟩,.u8 53 47 52,.u0 8 53])) (.reg [.u0 39 9,.u7 40 .add 39 (1),.u0 9 40])))))) (.seq (.seq (.reg [.u0 54 8,(.w6 55 (.not (.t 54)))]) (.cond (.t 55) (.seq (.reg [.u1 6 (0),.u1 7 (34)]) .ret) .skip)) (.seq (.reg [.u1 10 (-1)]) (.seq (.seq (.reg [.u1 11 (0)]) (.block 2 (.loop (.seq (.seq (.reg [.u0 56 11,.u0 57 0,.w2 58 57,.u6 59 .lss 56 58]) (.cond (.t 59) .skip (.exit 2))) (.seq (.block 3 (.seq (.drw [(0,.u0 62 0,false),(1,.u0 63 11,false),(2,(.w6 64 (.ixa (.t 62) (.t 63) 8)),false),(3,.u4 65 64 8,false),(4,.u4 66 5 2,false),(5,(.w1 67 74 [(.t 65),(.t 66)]),false),(6,.u0 68 67,true),(7,(.w0 69 68 true (.mov (.t 10))),false),(8,(.w0 70 68 true (.bin .lss (.t 69) (.c (.int .i64 (0))))),false),(9,(.w0 71 68 true (.mov (.t 70))),true),(10,(.w0 72 71 false (.mov (.t 1))),false),(11,(.w0 73 71 false (.mov (.t 11))),false),(12,(.w0 74 71 false (.ixa (.t 72) (.t 73) 1)),false),(13,(.w0 75 71 false (.load (.t 74) none)),false),(14,(.w0 76 71 false (.mov (.t 1))),false),(15,(.w0 77 71 false (.mov (.t 10))),false),(16,(.w0 78 71 false (.ixa (.t 76) (.t 77) 1)),false),(17,(.w0 79 71 false (.load (.t 78) none)),false)] none [(.w0 80 71 false (.bin .lss (.t 75) (.t 79))),(.w0 81 68 true (.pick (.t 71) (.c (.lit (.bool true))) (.t 80))),.u8 82 68 81]) (.cond (.t 82) (.reg [.u0 83 11,.u0 10 83]) .skip))) (.reg [.u0 60 11,.u7 61 .add 60 (1),.u0 11 61])))))) (.seq (.seq (.reg [.u0 84 10,.u7 85 .lss 84 (0)]) (.cond (.t 85) (.seq (.reg [.u1 6 (0),.u1 7 (4)]) .ret) .skip)) (.seq (.reg [.u0 86 10,.u0 6 86,.u1 7 (0)]) .ret))))))))
def r31 : List RV := [.t 6, .t 7]
theorem k31 : (Try.f31.body.bind (cC Try.prog), cR Try.prog Try.f31.results.toList, Try.f31.ntmps) = (some s31, some r31, 87) := by kernel_rfl
theorem q31 : Known Try.prog 31 := ⟨_, Try.func31, by decide, by simp [Try.f31]⟩
def doesP (v : Vl) (r f : Int) : Prop := (0 ≤ 2 * v.m - v.l2 - v.z2 ∧ 0 ≤ v.z1 - v.l2) ∧ r ≤ v.v1 * min (2 * v.m - v.l2 - v.z2) (v.z1 - v.l2) ∧ flt v ≤ f
instance (v : Vl) (r f : Int) : Decidable (doesP v r f) := by unfold doesP; infer_instance
def F74 : FC := fun args => match args with
 | [.agg [.int .i64 m, .int .i64 l1, .int .i64 l2, .int .i64 v1, .int .i64 v2, .int .i64 z1, .int .i64 z2, .int .i64 w], .agg [.int .i64 r, .int .i64 f]] => some (Vl.ok ⟨m, l1, l2, v1, v2, z1, z2, w⟩, .bool (decide (doesP ⟨m, l1, l2, v1, v2, z1, z2, w⟩ r f)))
 | _ => none
theorem p74 (p58 : PureOk Try.prog 58 C58) : PureOk Try.prog 74 (fcC F74) := by
 refine pure_of (T := [(92, .fc F92)]) ⟨⟨p92 p58, q92⟩, trivial⟩ Try.func74 k74 ?_
 intro args K hC
 unfold fcC F74 at hC
 split at hC <;> first | (exact hC.elim) | skip
 rename_i h
 split at h <;> first | (cases h; done) | skip
 rename_i m l1 l2 v1 v2 z1 z2 w r f
 cases h
 obtain ⟨hv, hK⟩ := hC
 have hv' := hv
 simp only [Vl.ok] at hv'
 simp only [inr64, e_reg, e_drw, e_seq, e_ret, o_nil, o_cons, gd_none, gd_some, gdK_tt, gdK_ft, putK_e, runK_e, skipK_e, vK_e, boxK_e, evh_v, evh_box, dX_e, dX_b, dX_l, dG_t, dG_f, d_nil, d_cons, tlK_n, seqK_n, ends_r, endK1_e, endK2_e, gamq_e, gamqK_f, evp, bin, gt, gq, st, putf, X.get, gets, ap, mkfr, rep, rdR, tupled, clV, clS, clo, clo.clos, ld, lda, tk, dr, cs1, gb, pb, ln, lk, evq, gdl, undef, Bool.and_true, Bool.not_true, Nat.reduceSub, Nat.reduceAdd, beq_self_eq_true, true_and, decide_eq_true_eq, decide_eq_false_iff_not, s74, r74, F92]
 have em : (if z1 - l2 < 2 * m - l2 - z2 then z1 - l2 else 2 * m - l2 - z2) = min (2 * m - l2 - z2) (z1 - l2) := by split <;> omega
 rw [em]
 have q1 : min (2 * m - l2 - z2) (z1 - l2) ≤ 1000000 := by omega
 have q2 : -1000000 ≤ min (2 * m - l2 - z2) (z1 - l2) := by omega
 have e1 := Int.mul_le_mul_of_nonneg_left q1 (show 0 ≤ v1 by omega)
 have e2 := Int.mul_le_mul_of_nonneg_left q2 (show 0 ≤ v1 by omega)
 have hn : ¬ doesP ⟨m, l1, l2, v1, v2, z1, z2, w⟩ r f → ∃ r', K r' ∧ leR 4 (SV.lit (.bool false)) r' := fun h => by rw [decide_eq_false h] at hK; exact res hK (by simp [leR])
 refine ⟨by omega, by omega, by omega, by omega, fun a => ⟨fun b => ⟨⟨by omega, by omega⟩, fun c => ⟨hv, res hK ?_⟩, fun c => hn fun h => c h.2.1⟩, fun b => hn fun h => b h.1.2⟩, fun a => hn fun h => a h.1.1⟩
 simp only [leR, doesP, a, b, c, and_self, true_and]
def F19 : FC := fun args => match args with
 | [.agg [.int .i64 m, .int .i64 l1, .int .i64 l2, .int .i64 v1, .int .i64 v2, .int .i64 z1, .int .i64 z2, .int .i64 w]] => some (True, .int .i64 (Vl.chk ⟨m, l1, l2, v1, v2, z1, z2, w⟩))
 | _ => none
theorem p19f : PureOk Try.prog 19 (fcC F19) := by
 intro w im args vs K hb hv hC
 refine p19 w im args vs K hb hv ?_
 unfold fcC F19 at hC
 split at hC <;> first | (exact hC.elim) | skip
 rename_i h
 split at h <;> first | (cases h; done) | skip
 cases h
 exact ⟨⟨_, _, _, _, _, _, _, _⟩, rfl, hC.2⟩
theorem chk0 {v : Vl} : v.chk = 0 ↔ v.ok := by
 unfold Vl.chk
 split
 ·rename_i h; simp [h]
 ·rename_i h; simp [h]
abbrev v0 : Vl := ⟨0, 0, 0, 0, 0, 0, 0, 0⟩
def rowV (V : List Vl) : Nat → List SV := fun j => (V.getD j v0).cells
def stkP (V : List Vl) (p : List Int) (r f : Int) : Prop := ((1 ≤ V.length ∧ V.length ≤ 10) ∧ p.length = V.length ∧ (0 ≤ r ∧ r ≤ 100000) ∧ (0 ≤ f ∧ f ≤ 100000)) ∧ ∀ i, i < V.length → (V.getD i v0).ok ∧ 0 ≤ p.getD i 0 ∧ p.getD i 0 ≤ 1000
def chsN (V : List Vl) (p : List Int) (r f : Int) : Nat → Int
 | 0 => -1
 | i + 1 => if doesP (V.getD i v0) r f ∧ (chsN V p r f i < 0 ∨ p.getD i 0 < p.getD (chsN V p r f i).toNat 0) then i else chsN V p r f i
theorem chs_b (V : List Vl) (p : List Int) (r f : Int) : ∀ i : Nat, -1 ≤ chsN V p r f i ∧ chsN V p r f i < i
 | 0 => by simp [chsN]
 | i + 1 => by
  have := chs_b V p r f i
  rw [chsN]
  split <;> omega
def C31 : PC := fun args K => ∃ (V : List Vl) (p : List Int) (r f : Int), args = [.rd 8 V.length (rowV V), .ints .i64 p, .agg [.int .i64 r, .int .i64 f]] ∧
 (stkP V p r f → 0 ≤ chsN V p r f V.length → K (.tup [.int .i64 (chsN V p r f V.length), .int .i64 0])) ∧
 (stkP V p r f → chsN V p r f V.length < 0 → K (.tup [.int .i64 0, .int .i64 4])) ∧
 (¬ stkP V p r f → K (.tup [.int .i64 0, .int .i64 34]))
theorem p31 (p58 : PureOk Try.prog 58 C58) : PureOk Try.prog 31 C31 := by
 refine pure_of (T := [(42, .fc F42), (19, .fc F19), (74, .fc F74)]) ⟨⟨p42, q42⟩, ⟨p19f, q19⟩, ⟨p74 p58, q74⟩, trivial⟩ Try.func31 k31 ?_
 rintro args K ⟨V, p, r, f, rfl, hK1, hK2, hK3⟩
 have key : ∀ (i : Nat) (ok : Bool), i ≤ V.length → (ok = true ↔ ((1 ≤ V.length ∧ V.length ≤ 10) ∧ p.length = V.length ∧ (0 ≤ r ∧ r ≤ 100000) ∧ (0 ≤ f ∧ f ≤ 100000)) ∧ ∀ j, j < i → (V.getD j v0).ok ∧ 0 ≤ p.getD j 0 ∧ p.getD j 0 ≤ 1000) → (ok = false ∨ i = V.length) → (ok = true ↔ stkP V p r f) := by
  intro i ok hi h1 h2
  rcases h2 with rfl | rfl
  ·constructor
   ·intro h; cases h
   ·exact fun h3 => h1.2 ⟨h3.1, fun j hj => h3.2 j (by omega)⟩
  ·exact h1
 simp only [e_reg, e_seq, e_block, e_loop, o_nil, o_cons, gd_none, gd_some, gdK_tt, gdK_ft, xRe, putK_e, runK_e, skipK_e, vK_e, boxK_e, conK_e, callK_e, evh_v, evh_box, evh_call, seqK_n, gam_e, gamK_f, pc_e, pcK_e, fcC_e, fcK_e, evp, bin, gt, gq, st, putf, X.get, gets, ap, mkfr, rep, clV, clL, clS, clo, ld, lda, lens, cs1, gb, pb, ln, lk, undef, Nat.reduceSub, Nat.reduceAdd, beq_self_eq_true, true_and, decide_eq_true_eq, decide_eq_false_iff_not, s31, r31, F42]
 refine ⟨fun g1 => ⟨fun g2 => ⟨fun g3 => ?_, fun g3 => ?_⟩, fun g2 => ?_⟩, fun g1 => ?_⟩
 all_goals
  refine loop_at2 (G := Nat × Bool) (fun g => [(9, .int .i64 g.1), (8, .bool g.2)]) (fun _ => [Blk.box 49 [.int .i64 r, .int .i64 f]])
   (fun g => g.1 ≤ V.length ∧ (g.2 = true ↔ ((1 ≤ V.length ∧ V.length ≤ 10) ∧ p.length = V.length ∧ (0 ≤ r ∧ r ≤ 100000) ∧ (0 ≤ f ∧ f ≤ 100000)) ∧ ∀ j, j < g.1 → (V.getD j v0).ok ∧ 0 ≤ p.getD j 0 ∧ p.getD j 0 ≤ 1000)) (fun g => V.length - g.1)
   (0, decide ((1 ≤ V.length ∧ V.length ≤ 10) ∧ p.length = V.length ∧ (0 ≤ r ∧ r ≤ 100000) ∧ (0 ≤ f ∧ f ≤ 100000))) ⟨Nat.zero_le _, by simp⟩ ?_
  (intro fr1 hf1; simp only [forget, dstC, dstO, st] at hf1; subst hf1)
  refine ⟨?_, ?_⟩
  ·refine Lw_re 1 [] (Nat.zero_le _) (by simp [ln]) (by simp [ln]) rfl ?_ ?_
   ·simp only [reL, reX, inb, inb.inbs, ln, sts, st, Bool.and_self, Nat.reduceLT, Nat.reduceAdd, decide_true, true_and, and_true, and_self, Int.natCast_zero, implies_true]
    first
     | (rw [decide_eq_decide]; omega)
     | (symm; rw [decide_eq_false_iff_not]; omega)
   ·simp only [reL, reX, reH, reB, reN, inb, and_self]
  ·rintro ⟨i, ok⟩ ⟨hi, hp⟩
   dsimp only at hi hp
   simp only [inr64, e_skip, e_reg, e_seq, e_cond, e_block, e_loop, e_exit, e_ret, o_nil, o_cons, gd_none, gd_some, gdK_tt, gdK_ft, xRe, putK_e, runK_e, skipK_e, vK_e, conK_e, callK_e, evh_v, evh_call, loopK_n, loopK_x, seqK_n, seqK_x, seqK_r, condK_f, xNz, exitK_t, blockK_x, blockK_n, ends_r, endK1_e, endK2_e, gam_e, gamK_f, pc_e, pcK_e, fcC_e, fcK_e, evp, bin, gt, gq, st, putf, X.get, gets, ap, rdR, tupled, clV, clL, clS, clo, ld, lda, lens, ixs, tk, dr, lk, undef, Bool.not_true, Bool.not_false, Nat.reduceBEq, beq_self_eq_true, true_and, decide_eq_true_eq, decide_eq_false_iff_not, Bool.not_eq_eq_eq_not, sts, F42, F19, Int.toNat_natCast, rowV, Vl.cells, chk0]
   have nw : ∀ b : Bool, i < V.length → ok = true → (b = true ↔ (V.getD i v0).ok ∧ 0 ≤ p.getD i 0 ∧ p.getD i 0 ≤ 1000) → (b = true ↔ ((1 ≤ V.length ∧ V.length ≤ 10) ∧ p.length = V.length ∧ (0 ≤ r ∧ r ≤ 100000) ∧ (0 ≤ f ∧ f ≤ 100000)) ∧ ∀ j, j < i + 1 → (V.getD j v0).ok ∧ 0 ≤ p.getD j 0 ∧ p.getD j 0 ≤ 1000) := by
    intro b hi' hok hb
    obtain ⟨q1, q2⟩ := hp.1 hok
    rw [hb]
    exact ⟨fun h => ⟨q1, fun j hj => by
     by_cases e : j = i
     ·subst e; exact h
     ·exact q2 j (by omega)⟩, fun h => h.2 i (by omega)⟩
   refine ⟨fun hok => ⟨fun h => ?_, fun h => ?_⟩, fun hok => ?_⟩
   ·have hi' : i < V.length := by omega
    obtain ⟨q1, q2⟩ := hp.1 hok
    refine ⟨by omega, fun a => ⟨by omega, by omega, ?_⟩, fun a => ⟨by omega, ?_⟩⟩
    ·refine Nx.mk (i + 1, decide (0 ≤ p.getD i 0 ∧ p.getD i 0 ≤ 1000)) ⟨by show i + 1 ≤ V.length; omega, nw _ hi' hok (by rw [decide_eq_true_eq]; exact ⟨fun h => ⟨a, h⟩, fun h => h.2⟩)⟩ (by show V.length - (i + 1) < V.length - i; omega) (Lw_re 1 [] (Nat.zero_le _) (by simp [ln]) (by simp [ln]) rfl ?_ ?_)
     ·simp only [reL, reX, inb, inb.inbs, Bool.and_self, Nat.reduceLT, decide_true, and_self, Int.natCast_add, Int.natCast_one, implies_true]
     ·simp only [reL, reX, reH, reB, reN, inb, and_self]
    ·refine Nx.mk (i + 1, false) ⟨by show i + 1 ≤ V.length; omega, nw _ hi' hok ⟨fun h => (by cases h), fun h => absurd h.1 a⟩⟩ (by show V.length - (i + 1) < V.length - i; omega) (Lw_re 1 [] (Nat.zero_le _) (by simp [ln]) (by simp [ln]) rfl ?_ ?_)
     ·simp only [reL, reX, inb, inb.inbs, Bool.and_self, Nat.reduceLT, decide_true, and_self, Int.natCast_add, Int.natCast_one, implies_true]
     ·simp only [reL, reX, reH, reB, reN, inb, and_self]
   ·have kk := key i ok hi hp (.inr (by omega))
    refine ⟨fun h => absurd (hok.symm.trans h) (by simp), fun _ => ?_⟩
    have hs := kk.1 hok
    have hK1 := hK1 hs
    have hK2 := hK2 hs
    obtain ⟨q1, q2⟩ := hs
    refine loop_at2 (G := Nat) (fun j => [(11, .int .i64 j), (10, .int .i64 (chsN V p r f j))]) (fun _ => [Blk.box 49 [.int .i64 r, .int .i64 f]])
     (fun j => j ≤ V.length) (fun j => V.length - j) 0 (Nat.zero_le _) ?_
    (intro fr1 hf1; simp only [forget, dstC, dstO, dstD, dst1, st] at hf1; subst hf1)
    refine ⟨?_, ?_⟩
    ·refine Lw_re 1 [] (Nat.zero_le _) (by simp [ln]) (by simp [ln]) rfl ?_ ?_
     ·simp only [reL, reX, inb, inb.inbs, ln, sts, st, Bool.and_self, Nat.reduceLT, Nat.reduceAdd, decide_true, and_self, Int.natCast_zero, chsN, implies_true]
     ·simp only [reL, reX, reH, reB, reN, inb, and_self]
    ·intro j hj
     simp only [inr64, e_skip, e_reg, e_drw, e_seq, e_cond, e_block, e_exit, e_ret, o_nil, o_cons, gd_none, gd_some, gdK_tt, gdK_tf, gdK_ft, gdK_ff, gdK_u, putK_e, runK_e, skipK_e, vK_e, evh_v, dX_e, dX_b, dG_t, dG_f, d_nil, d_cons, tlK_n, loopK_n, loopK_x, seqK_n, seqK_x, seqK_r, condK_t, condK_f, xNz, exitK_t, blockK_x, blockK_n, ends_r, endK1_e, endK2_e, gamq_e, gamqK_f, evp, bin, gt, gq, st, putf, X.get, gets, ap, rdR, tupled, clV, clL, clS, clo, clo.clos, ld, lda, lens, ixs, tk, dr, gb, lk, evq, gdl, undef, Bool.and_true, Bool.not_true, Bool.not_false, Nat.reduceBEq, beq_self_eq_true, true_and, decide_eq_true_eq, decide_eq_false_iff_not, sts, F74, Int.toNat_natCast, rowV, Vl.cells]
     have hb := chs_b V p r f j
     have hl := q1.2.1
     refine ⟨fun h => ?_, fun h => ?_⟩
     ·have hj' : j < V.length := by omega
      refine ⟨by omega, (q2 j hj').1, fun a => ⟨fun b => ⟨by omega, ?_⟩, fun b => ⟨by omega, by omega, fun c => ⟨by omega, ?_⟩, fun c => ⟨by omega, ?_⟩⟩⟩, fun a => ⟨by omega, ?_⟩⟩
      ·have e : chsN V p r f (j + 1) = j := by rw [chsN, if_pos ⟨a, .inl b⟩]
       refine Nx.mk (j + 1) (by show j + 1 ≤ V.length; omega) (by show V.length - (j + 1) < V.length - j; omega) (Lw_re 1 [] (Nat.zero_le _) (by simp [ln]) (by simp [ln]) rfl ?_ ?_)
       ·simp only [reL, reX, inb, inb.inbs, Bool.and_self, Nat.reduceLT, decide_true, and_self, e, Int.natCast_add, Int.natCast_one, implies_true]
       ·simp only [reL, reX, reH, reB, reN, inb, and_self]
      ·have e : chsN V p r f (j + 1) = j := by rw [chsN, if_pos ⟨a, .inr c⟩]
       refine Nx.mk (j + 1) (by show j + 1 ≤ V.length; omega) (by show V.length - (j + 1) < V.length - j; omega) (Lw_re 1 [] (Nat.zero_le _) (by simp [ln]) (by simp [ln]) rfl ?_ ?_)
       ·simp only [reL, reX, inb, inb.inbs, Bool.and_self, Nat.reduceLT, decide_true, and_self, e, Int.natCast_add, Int.natCast_one, implies_true]
       ·simp only [reL, reX, reH, reB, reN, inb, and_self]
      ·have e : chsN V p r f (j + 1) = chsN V p r f j := by rw [chsN, if_neg fun h => h.2.elim b c]
       refine Nx.mk (j + 1) (by show j + 1 ≤ V.length; omega) (by show V.length - (j + 1) < V.length - j; omega) (Lw_re 1 [] (Nat.zero_le _) (by simp [ln]) (by simp [ln]) rfl ?_ ?_)
       ·simp only [reL, reX, inb, inb.inbs, Bool.and_self, Nat.reduceLT, decide_true, and_self, e, Int.natCast_add, Int.natCast_one, implies_true]
       ·simp only [reL, reX, reH, reB, reN, inb, and_self]
      ·have e : chsN V p r f (j + 1) = chsN V p r f j := by rw [chsN, if_neg fun h => a h.1]
       refine Nx.mk (j + 1) (by show j + 1 ≤ V.length; omega) (by show V.length - (j + 1) < V.length - j; omega) (Lw_re 1 [] (Nat.zero_le _) (by simp [ln]) (by simp [ln]) rfl ?_ ?_)
       ·simp only [reL, reX, inb, inb.inbs, Bool.and_self, Nat.reduceLT, decide_true, and_self, e, Int.natCast_add, Int.natCast_one, implies_true]
       ·simp only [reL, reX, reH, reB, reN, inb, and_self]
     ·have e : j = V.length := by omega
      subst e
      exact ⟨fun h => res (hK2 h) (by simp [leR, leR.leRs]), fun h => res (hK1 (by omega)) (by simp [leR, leR.leRs])⟩
   ·have kk := key i ok hi hp (.inl hok)
    have hs : ¬ stkP V p r f := fun h => absurd (hok.symm.trans (kk.2 h)) (by simp)
    exact ⟨fun _ => res (hK3 hs) (by simp [leR, leR.leRs]), fun h => absurd (hok.symm.trans h) (by simp)⟩
end Go.Proofs.Ytgdihdiadlmjiaa
end
section
namespace Go.Proofs.Ytgdihdiadlmjiaa
open Go Go.Vg
set_option maxRecDepth 10000
def s69 : SC :=
 (.seq (.reg [.w5 4 false]) (.seq (.seq (.reg [.u0 7 0,.w2 8 7,(.w1 9 65 [(.t 8),(.c (.int .i64 (1))),(.c (.int .i64 (10)))]),(.w6 10 (.not (.t 9))),.u0 11 10,(.w0 12 11 false (.mov (.t 1))),(.w0 13 11 false (.len (.t 12))),(.w0 14 11 false (.mov (.t 0))),(.w0 15 11 false (.len (.t 14))),(.w0 16 11 false (.bin .neq (.t 13) (.t 15))),.u9 17 11 16]) (.cond (.t 17) (.seq (.reg [.w5 4 false]) .ret) .skip)) (.seq (.seq (.reg [.u0 18 0,.w2 19 18,.u1 20 (0)]) (.block 0 (.loop (.seq (.reg [.u6 21 .lss 20 19]) (.seq (.cond (.t 21) .skip (.exit 0)) (.seq (.block 1 (.seq (.reg [.u0 22 20,(.w6 23 (.ixa (.t 18) (.t 20) 8)),.u4 24 23 8,⟨(some 6),none,.new 25 [(.int .i64 (0)),(.int .i64 (0)),(.int .i64 (0)),(.int .i64 (0)),(.int .i64 (0)),(.int .i64 (0)),(.int .i64 (0)),(.int .i64 (0))]⟩,.u0 5 22,.w3 8 6 24]) (.seq (.reg [.u4 25 6 8,⟨(some 26),none,.bld [(.int .i64 (0)),(.int .i64 (0)),(.int .i64 (0)),(.int .i64 (0)),(.int .i64 (0)),(.int .i64 (0)),(.int .i64 (0)),(.int .i64 (0))] [(0,8,(.t 25))]⟩,(.w1 27 54 [(.t 26)]),(.w6 28 (.not (.t 27))),.u0 29 28,(.w0 30 29 false (.mov (.t 1))),(.w0 31 29 false (.mov (.t 5))),(.w0 32 29 false (.ixa (.t 30) (.t 31) 1)),(.w0 33 29 false (.load (.t 32) none)),⟨(some 34),(some (29,false)),.call (.c (.fn 65 [])) [(.t 33),(.c (.int .i64 (0))),(.c (.int .i64 (1000)))]⟩,(.w0 35 29 false (.not (.t 34))),.u9 36 29 35]) (.cond (.t 36) (.seq (.reg [.w5 4 false]) .ret) .skip)))) (.reg [.u7 37 .add 20 (1),.u0 20 37]))))))) (.seq (.reg [.w5 4 true]) .ret))))
def r69 : List RV := [.t 4]
theorem k69 : (Try.f69.body.bind (cC Try.prog), cR Try.prog Try.f69.results.toList, Try.f69.ntmps) = (some s69, some r69, 38) := by kernel_rfl
theorem q69 : Known Try.prog 69 := ⟨_, Try.func69, by decide, by simp [Try.f69]⟩
def s91 : SC :=
 (.seq (.reg [⟨(some 2),none,.box 78 (.t 0)⟩,⟨(some 3),none,.box 49 (.t 1)⟩,.w5 4 false]) (.seq (.drw [(0,.u4 5 2 8,false),(1,.u2 6 3 0,false),(2,.u3 7 6,false),(3,(.w1 8 99 [(.t 5),(.t 7)]),false),(4,.u0 9 8,true),(5,(.w0 10 9 true (.load (.t 2) (some 8))),false),(6,⟨(some 11),(some (9,true)),.call (.c (.fn 100 [])) [(.t 10)]⟩,false),(7,(.w0 12 9 true (.off (.t 3) 1)),false),(8,(.w0 13 9 true (.load (.t 12) none)),false)] none [(.w0 14 9 true (.bin .leq (.t 11) (.t 13))),.u8 15 9 14,.u0 4 15]) .ret))
def r91 : List RV := [.t 4]
theorem k91 : (Try.f91.body.bind (cC Try.prog), cR Try.prog Try.f91.results.toList, Try.f91.ntmps) = (some s91, some r91, 16) := by kernel_rfl
theorem q91 : Known Try.prog 91 := ⟨_, Try.func91, by decide, by simp [Try.f91]⟩
def s71 : SC :=
 (.seq (.reg [⟨(some 5),none,.box 49 (.t 2)⟩,(.w6 6 (.mov (.c (.lit (.slice none 0 0)))))]) (.seq (.reg [(.w6 7 (.mov (.c (.lit (.slice none 0 0)))))]) (.seq (.seq (.reg [.u0 10 0,.w2 11 10,.u1 12 (0)]) (.block 0 (.loop (.seq (.reg [.u6 13 .lss 12 11]) (.seq (.cond (.t 13) .skip (.exit 0)) (.seq (.block 1 (.seq (.reg [.u0 14 12,(.w6 15 (.ixa (.t 10) (.t 12) 8)),.u4 16 15 8,⟨(some 9),none,.new 25 [(.int .i64 (0)),(.int .i64 (0)),(.int .i64 (0)),(.int .i64 (0)),(.int .i64 (0)),(.int .i64 (0)),(.int .i64 (0)),(.int .i64 (0))]⟩,.u0 8 14,.w3 8 9 16]) (.seq (.reg [.u4 17 9 8,⟨(some 18),none,.bld [(.int .i64 (0)),(.int .i64 (0)),(.int .i64 (0)),(.int .i64 (0)),(.int .i64 (0)),(.int .i64 (0)),(.int .i64 (0)),(.int .i64 (0))] [(0,8,(.t 17))]⟩,.u4 19 5 2,(.w1 20 91 [(.t 18),(.t 19)])]) (.cond (.t 20) (.reg [.u0 21 7,.u0 22 8,.u0 23 1,.u0 24 8,(.w6 25 (.ixa (.t 23) (.t 24) 1)),.u3 26 25,⟨(some 27),none,.bld [(.int .i64 (0)),(.int .i64 (0))] [(0,1,(.t 22)),(1,1,(.t 26))]⟩,⟨(some 28),none,.bsl 107 1 [(.int .i64 (0)),(.int .i64 (0))] [(0,2,(.t 27))]⟩,⟨(some 29),none,.app 107 2 16 (.t 21) (.t 28)⟩,.u0 7 29]) .skip)))) (.reg [.u7 30 .add 12 (1),.u0 12 30]))))))) (.seq (.reg [.u0 31 7,.u0 6 31]) .ret))))
def r71 : List RV := [.t 6]
theorem k71 : (Try.f71.body.bind (cC Try.prog), cR Try.prog Try.f71.results.toList, Try.f71.ntmps) = (some s71, some r71, 32) := by kernel_rfl
theorem q71 : Known Try.prog 71 := ⟨_, Try.func71, by decide, by simp [Try.f71]⟩
def s72 : SC :=
 (.seq (.reg [⟨(some 4),none,.box 107 (.t 1)⟩,⟨(some 6),none,.new 107 [(.int .i64 (0)),(.int .i64 (0))]⟩]) (.seq (.seq (.reg [.u0 9 2,.w2 10 9,.u1 11 (0)]) (.block 0 (.loop (.seq (.reg [.u6 12 .lss 11 10]) (.seq (.cond (.t 12) .skip (.exit 0)) (.seq (.block 1 (.seq (.reg [(.w6 13 (.ixa (.t 9) (.t 11) 2)),.u4 14 13 2,⟨(some 8),none,.new 107 [(.int .i64 (0)),(.int .i64 (0))]⟩,.w3 2 8 14]) (.seq (.reg [.u0 15 0,.u4 16 8 2,.u4 17 4 2,⟨(some 18),none,.call (.t 15) [(.t 16),(.t 17)]⟩]) (.cond (.t 18) (.reg [.u4 19 8 2,.w3 2 4 19]) .skip)))) (.reg [.u7 20 .add 11 (1),.u0 11 20]))))))) (.seq (.reg [.u4 21 4 2,.w3 2 6 21]) .ret)))
def r72 : List RV := [.c 6 (some 2)]
theorem k72 : (Try.f72.body.bind (cC Try.prog), cR Try.prog Try.f72.results.toList, Try.f72.ntmps) = (some s72, some r72, 22) := by kernel_rfl
theorem q72 : Known Try.prog 72 := ⟨_, Try.func72, by decide, by simp [Try.f72]⟩
def s30 : SC :=
 (.seq (.reg [⟨(some 5),none,.box 49 (.t 2)⟩,.u1 6 (0),.u1 7 (0)]) (.seq (.seq (.reg [.u0 9 0,.u0 10 1,(.w1 11 69 [(.t 9),(.t 10)]),(.w6 12 (.not (.t 11))),.u0 13 12,(.w0 14 13 false (.load (.t 5) (some 2))),⟨(some 15),(some (13,false)),.call (.c (.fn 70 [])) [(.t 14)]⟩,(.w0 16 13 false (.not (.t 15))),.u9 17 13 16]) (.cond (.t 17) (.seq (.reg [.u1 6 (0),.u1 7 (34)]) .ret) .skip)) (.seq (.reg [.u0 18 0,.u0 19 1,.u4 20 5 2,(.w1 21 71 [(.t 18),(.t 19),(.t 20)]),.u0 8 21]) (.seq (.seq (.reg [.u0 22 8,.w2 23 22,.u7 24 .eql 23 (0)]) (.cond (.t 24) (.seq (.reg [.u1 6 (0),.u1 7 (4)]) .ret) .skip)) (.seq (.shut [8,25,26,28,27,29,30,31] (.drw [(0,.u0 25 8,false),(1,(.w6 26 (.ixa (.t 25) (.c (.int .i64 (0))) 2)),false),(2,.u4 27 26 2,false),(3,.u0 28 8,false),(4,⟨(some 29),none,.slc (.t 28) (some (.c (.int .i64 (1)))) none none 2⟩,false)] none [(.w1 30 72 [(.c (.fn 73 [])),(.t 27),(.t 29)]),(.w6 31 (.fld (.t 30) 0 none)),.u0 6 31,.u1 7 (0)])) .ret)))))
def r30 : List RV := [.t 6, .t 7]
theorem k30 : (Try.f30.body.bind (cC Try.prog), cR Try.prog Try.f30.results.toList, Try.f30.ntmps) = (some s30, some r30, 32) := by kernel_rfl
theorem q30 : Known Try.prog 30 := ⟨_, Try.func30, by decide, by simp [Try.f30]⟩
def F54 : FC := fun args => match args with
 | [.agg [.int .i64 m, .int .i64 l1, .int .i64 l2, .int .i64 v1, .int .i64 v2, .int .i64 z1, .int .i64 z2, .int .i64 w]] => some (True, .bool (decide (Vl.ok ⟨m, l1, l2, v1, v2, z1, z2, w⟩)))
 | _ => none
theorem p54f : PureOk Try.prog 54 (fcC F54) := by
 intro w im args vs K hb hv hC
 refine p54 w im args vs K hb hv ?_
 unfold fcC F54 at hC
 split at hC <;> first | (exact hC.elim) | skip
 rename_i h
 split at h <;> first | (cases h; done) | skip
 cases h
 exact ⟨⟨_, _, _, _, _, _, _, _⟩, rfl, hC.2⟩
def F99 : FC := fun args => match args with
 | [.agg [.int .i64 m, .int .i64 l1, .int .i64 l2, .int .i64 v1, .int .i64 v2, .int .i64 z1, .int .i64 z2, .int .i64 w], .int .i64 t] => some (Vl.ok ⟨m, l1, l2, v1, v2, z1, z2, w⟩, .bool (decide (Vl.rch ⟨m, l1, l2, v1, v2, z1, z2, w⟩ t)))
 | _ => none
theorem p99f : PureOk Try.prog 99 (fcC F99) := by
 intro w im args vs K hb hv hC
 refine p99 w im args vs K hb hv ?_
 unfold fcC F99 at hC
 split at hC <;> first | (exact hC.elim) | skip
 rename_i h
 split at h <;> first | (cases h; done) | skip
 cases h
 exact ⟨⟨_, _, _, _, _, _, _, _⟩, _, rfl, hC.1, hC.2⟩
def F91 : FC := fun args => match args with
 | [.agg [.int .i64 m, .int .i64 l1, .int .i64 l2, .int .i64 v1, .int .i64 v2, .int .i64 z1, .int .i64 z2, .int .i64 w], .agg [.int .i64 r, .int .i64 f]] => some (Vl.ok ⟨m, l1, l2, v1, v2, z1, z2, w⟩ ∧ 0 ≤ r, .bool (decide (doesP ⟨m, l1, l2, v1, v2, z1, z2, w⟩ r f)))
 | _ => none
theorem rch_iff {v : Vl} {r f : Int} (hv : v.ok) (hr : 0 ≤ r) : (v.rch r ∧ flt v ≤ f) ↔ doesP v r f := by
 simp only [Vl.ok] at hv
 unfold Vl.rch doesP
 rw [show min (v.z1 - v.l2) (2 * v.m - v.l2 - v.z2) = min (2 * v.m - v.l2 - v.z2) (v.z1 - v.l2) by omega]
 refine ⟨fun ⟨h1, h2⟩ => ⟨?_, h1, h2⟩, fun h => h.2⟩
 have : 0 ≤ min (2 * v.m - v.l2 - v.z2) (v.z1 - v.l2) := by
  apply Classical.byContradiction
  intro hn
  have := Int.mul_neg_of_pos_of_neg (show 0 < v.v1 by omega) (show min (2 * v.m - v.l2 - v.z2) (v.z1 - v.l2) < 0 by omega)
  omega
 omega
theorem q100 : Known Try.prog 100 := ⟨_, Try.func100, by decide, by simp [Try.f100]⟩
theorem p91 (p100 : PureOk Try.prog 100 (fcC F92)) : PureOk Try.prog 91 (fcC F91) := by
 refine pure_of (T := [(99, .fc F99), (100, .fc F92)]) ⟨⟨p99f, q99⟩, ⟨p100, q100⟩, trivial⟩ Try.func91 k91 ?_
 intro args K hC
 unfold fcC F91 at hC
 split at hC <;> first | (exact hC.elim) | skip
 rename_i h
 split at h <;> first | (cases h; done) | skip
 rename_i m l1 l2 v1 v2 z1 z2 w r f
 cases h
 obtain ⟨⟨hv, hr⟩, hK⟩ := hC
 have hx := rch_iff (f := f) hv hr
 simp only [e_reg, e_drw, e_seq, e_ret, o_nil, o_cons, gd_none, gd_some, gdK_tt, gdK_ft, putK_e, runK_e, skipK_e, vK_e, boxK_e, evh_v, evh_box, dX_e, dX_b, dG_t, dG_f, d_nil, d_cons, tlK_n, seqK_n, ends_r, endK1_e, endK2_e, gamq_e, gamqK_f, evp, bin, gt, gq, st, putf, X.get, gets, ap, mkfr, rep, rdR, tupled, clV, clS, clo, clo.clos, ld, lda, tk, dr, cs1, gb, pb, ln, lk, evq, gdl, undef, Bool.and_true, Bool.not_true, Nat.reduceSub, Nat.reduceAdd, Nat.reduceBEq, beq_self_eq_true, true_and, decide_eq_true_eq, decide_eq_false_iff_not, s91, r91, F92, F99]
 have hn : ¬ doesP ⟨m, l1, l2, v1, v2, z1, z2, w⟩ r f → ∃ r', K r' ∧ leR 4 (SV.lit (.bool false)) r' := fun h => by rw [decide_eq_false h] at hK; exact res hK (by simp [leR])
 refine ⟨hv, fun a => ⟨hv, res hK ?_⟩, fun a => hn fun h => a (hx.2 h).1⟩
 simp only [leR]
 rw [decide_eq_decide, ← hx]
 exact ⟨fun h => ⟨a, h⟩, fun h => h.2⟩
def stkC (V : List Vl) (p : List Int) : Prop := ((1 ≤ V.length ∧ V.length ≤ 10) ∧ p.length = V.length) ∧ ∀ i, i < V.length → (V.getD i v0).ok ∧ 0 ≤ p.getD i 0 ∧ p.getD i 0 ≤ 1000
def C69 : PC := fun args K => ∃ (V : List Vl) (p : List Int), args = [.rd 8 V.length (rowV V), .ints .i64 p] ∧ (stkC V p → K (.bool true)) ∧ (¬ stkC V p → K (.bool false))
theorem p69 : PureOk Try.prog 69 C69 := by
 refine pure_of (T := [(65, .fc F42), (54, .fc F54)]) ⟨⟨p65, q65⟩, ⟨p54f, q54⟩, trivial⟩ Try.func69 k69 ?_
 rintro args K ⟨V, p, rfl, hK1, hK2⟩
 simp only [e_skip, e_reg, e_seq, e_cond, e_block, e_loop, e_ret, o_nil, o_cons, gd_none, gd_some, gdK_tf, gdK_ff, xRf, putK_e, runK_e, skipK_e, vK_e, conK_e, callK_e, evh_v, evh_call, seqK_n, seqK_r, condK_t, xNz, ends_r, endK1_e, endK2_e, gam_e, gamK_f, pc_e, pcK_e, fcC_e, fcK_e, evp, bin, gt, st, putf, X.get, gets, ap, mkfr, rep, rdR, tupled, clV, clL, clS, clo, lens, lk, undef, Bool.not_true, Bool.not_false, Nat.reduceSub, beq_self_eq_true, true_and, decide_eq_true_eq, decide_eq_false_iff_not, Bool.not_eq_eq_eq_not, s69, r69, F42]
 have nf : ¬ stkC V p → ∃ r', K r' ∧ leR 4 (SV.lit (.bool false)) r' := fun h => res (hK2 h) (by simp [leR])
 refine ⟨fun g1 => ⟨fun g2 => nf fun h => g2 (by have := h.1.2; omega), fun g2 => ?_⟩, fun g1 => nf fun h => g1 (by have := h.1.1; omega)⟩
 refine loop_at2 (G := Nat) (fun i => [(20, .int .i64 i)]) (fun _ => []) (fun i => i ≤ V.length ∧ ∀ j, j < i → (V.getD j v0).ok ∧ 0 ≤ p.getD j 0 ∧ p.getD j 0 ≤ 1000) (fun i => V.length - i) 0 ⟨Nat.zero_le _, fun j hj => absurd hj (by omega)⟩ ?_
 (intro fr1 hf1; simp only [forget, dstC, dstO, st] at hf1; subst hf1)
 refine ⟨?_, ?_⟩
 ·refine Lw_re 0 [] (Nat.zero_le _) (by simp [ln]) (by simp [ln]) rfl ?_ ?_
  ·simp only [reL, reX, inb, ln, sts, st, and_self, Int.natCast_zero, implies_true]
  ·simp only [reH, reN]
 ·rintro i ⟨hi, hp⟩
  simp only [inr64, e_skip, e_reg, and_self, e_seq, e_cond, e_block, e_exit, e_ret, o_nil, o_cons, gd_none, gd_some, gdK_tf, gdK_ff, xRf, putK_e, runK_e, skipK_e, vK_e, bldK_e, storeK3_e, storeK2_e, storeK_e, conK_e, callK_e, evh_v, evh_new, evh_bld, evh_store, evh_call, loopK_n, loopK_x, loopK_r, seqK_n, seqK_x, seqK_r, condK_t, xNz, exitK_t, blockK_x, blockK_n, blockK_r, ends_r, endK1_e, endK2_e, gam_e, gamK_f, pc_e, pcK_e, fcC_e, fcK_e, evp, bin, gt, gq, st, putf, X.get, gets, getp, ap, rdR, tupled, clV, clL, clS, clo, ld, lda, ixs, tk, dr, sp, sp.spl, lay, ll, cs1, one, allOne, gb, sb, pb, ln, lk, undef, Bool.and_true, Bool.not_true, Bool.not_false, Nat.reduceAdd, Nat.reduceBEq, beq_self_eq_true, true_and, decide_eq_true_eq, decide_eq_false_iff_not, Bool.not_eq_eq_eq_not, sts, F42, F54, Int.toNat_natCast, rowV, Vl.cells]
  refine ⟨fun h => ?_, fun h => ?_⟩
  ·have hi' : i < V.length := by omega
   refine ⟨by omega, fun a => ⟨by omega, fun b => ?_, fun b => ⟨by omega, ?_⟩⟩, fun a => ?_⟩
   ·exact nf fun h => b (h.2 i hi').2
   ·refine Nx.mk (i + 1) ⟨by show i + 1 ≤ V.length; omega, fun j hj => ?_⟩ (by show V.length - (i + 1) < V.length - i; omega) (Lw_re 0 [] (Nat.zero_le _) (by simp [ln]) (by simp [ln]) rfl ?_ ?_)
    ·by_cases e : j = i
     ·subst e; exact ⟨a, b⟩
     ·exact hp j (by omega)
    ·simp only [reL, reX, inb, and_self, Int.natCast_add, Int.natCast_one, implies_true]
    ·simp only [reH, reN]
   ·exact nf fun h => a (h.2 i hi').1
  ·refine res (hK1 ⟨by omega, fun j hj => hp j (by omega)⟩) (by simp [leR])
def pick2 (a b : Nat → Int) (x y : Int) : Nat → Int × Int
 | 0 => (x, y)
 | j + 1 => if b j < (pick2 a b x y j).2 then (a j, b j) else pick2 a b x y j
def C72 : PC := fun args K => ∃ (n : Nat) (a b : Nat → Int) (x y : Int), args = [.fn 73 [], .agg [.int .i64 x, .int .i64 y], .rd 2 n fun j => [.int .i64 (a j), .int .i64 (b j)]] ∧ n ≤ 100 ∧
 K (.agg [.int .i64 (pick2 a b x y n).1, .int .i64 (pick2 a b x y n).2])
theorem p72 : PureOk Try.prog 72 C72 := by
 refine pure_of (T := [(73, .fc F73)]) ⟨⟨p73, q73⟩, trivial⟩ Try.func72 k72 ?_
 rintro args K ⟨n, a, b, x, y, rfl, hn, hK⟩
 simp only [e_reg, e_seq, e_block, e_loop, o_nil, o_cons, gd_none, putK_e, runK_e, vK_e, boxK_e, evh_v, evh_new, evh_box, seqK_n, evp, gt, st, putf, X.get, mkfr, rep, lens, cs1, pb, ln, undef, Nat.reduceSub, Nat.reduceAdd, true_and, s72, r72]
 refine loop_at2 (G := Nat) (fun i => [(11, .int .i64 i)]) (fun i => [Blk.box 107 [.int .i64 (pick2 a b x y i).1, .int .i64 (pick2 a b x y i).2], Blk.box 107 [.int .i64 0, .int .i64 0]]) (fun i => i ≤ n) (fun i => n - i) 0 (Nat.zero_le _) ?_
 (intro fr1 hf1; simp only [forget, dstC, dstO, st] at hf1; subst hf1)
 refine ⟨?_, ?_⟩
 ·refine Lw_re 2 [] (Nat.zero_le _) (by simp [ln]) (by simp [ln]) rfl ?_ ?_
  ·simp only [reL, reX, inb, inb.inbs, ln, sts, st, Bool.and_self, Nat.reduceLT, Nat.reduceAdd, decide_true, and_self, Int.natCast_zero, implies_true]
  ·simp only [reL, reX, reH, reB, reN, inb, and_self, pick2]
 ·intro i hi
  simp only [inr64, e_skip, e_reg, and_self, e_seq, e_cond, e_block, e_exit, e_ret, o_nil, o_cons, gd_none, putK_e, runK_e, vK_e, storeK3_e, storeK2_e, storeK_e, conK_e, callK_e, evh_v, evh_new, evh_store, evh_call, loopK_n, loopK_x, seqK_n, seqK_x, xNz, exitK_t, blockK_x, blockK_n, ends_r, endK1_e, endK2_e, gam_e, gamK_f, pc_e, pcK_e, fcC_e, fcK_e, evp, bin, gt, st, putf, X.get, gets, ap, rdR, tupled, clV, clL, clS, clo, ld, lda, ixs, tk, dr, sp, sp.spl, ll, cs1, one, allOne, gb, sb, pb, ln, lk, Bool.and_true, Nat.reduceAdd, beq_self_eq_true, true_and, decide_eq_true_eq, decide_eq_false_iff_not, sts, F73, Int.toNat_natCast]
  refine ⟨fun h => ?_, fun h => ?_⟩
  ·refine ⟨by omega, fun c => ⟨by omega, ?_⟩, fun c => ⟨by omega, ?_⟩⟩
   ·have e : pick2 a b x y (i + 1) = (a i, b i) := by rw [pick2, if_pos c]
    refine Nx.mk (i + 1) (by show i + 1 ≤ n; omega) (by show n - (i + 1) < n - i; omega) (Lw_re 2 [] (Nat.zero_le _) (by simp [ln]) (by simp [ln]) rfl ?_ ?_)
    ·simp only [reL, reX, inb, inb.inbs, Bool.and_self, Nat.reduceLT, decide_true, and_self, Int.natCast_add, Int.natCast_one, implies_true]
    ·simp only [reL, reX, reH, reB, reN, inb, and_self, e]
   ·have e : pick2 a b x y (i + 1) = pick2 a b x y i := by rw [pick2, if_neg c]
    refine Nx.mk (i + 1) (by show i + 1 ≤ n; omega) (by show n - (i + 1) < n - i; omega) (Lw_re 2 [] (Nat.zero_le _) (by simp [ln]) (by simp [ln]) rfl ?_ ?_)
    ·simp only [reL, reX, inb, inb.inbs, Bool.and_self, Nat.reduceLT, decide_true, and_self, Int.natCast_add, Int.natCast_one, implies_true]
    ·simp only [reL, reX, reH, reB, reN, inb, and_self, e]
  ·have e : i = n := by omega
   subst e
   exact res hK (by simp [leR, leR.leRs])
end Go.Proofs.Ytgdihdiadlmjiaa
end
section
namespace Go.Proofs.Ytgdihdiadlmjiaa
open Go Go.Vg
set_option maxRecDepth 10000
def rowP (O : List (Int × Int)) : Nat → List SV := fun j => [.int .i64 (O.getD j (0, 0)).1, .int .i64 (O.getD j (0, 0)).2]
def offN (V : List Vl) (p : List Int) (r f : Int) : Nat → List (Int × Int)
 | 0 => []
 | i + 1 => if doesP (V.getD i v0) r f then offN V p r f i ++ [((i : Int), p.getD i 0)] else offN V p r f i
theorem offN_len (V : List Vl) (p : List Int) (r f : Int) : ∀ i, (offN V p r f i).length ≤ i
 | 0 => by simp [offN]
 | i + 1 => by
  have := offN_len V p r f i
  rw [offN]
  split
  ·simp only [List.length_append, List.length_singleton]; omega
  ·omega
def C71 : PC := fun args K => ∃ (V : List Vl) (p : List Int) (r f : Int), args = [.rd 8 V.length (rowV V), .ints .i64 p, .agg [.int .i64 r, .int .i64 f]] ∧ (stkC V p ∧ 0 ≤ r) ∧
 K (.rd 2 (offN V p r f V.length).length (rowP (offN V p r f V.length)))
theorem p71 (p100 : PureOk Try.prog 100 (fcC F92)) : PureOk Try.prog 71 C71 := by
 refine pure_of (T := [(91, .fc F91)]) ⟨⟨p91 p100, q91⟩, trivial⟩ Try.func71 k71 ?_
 rintro args K ⟨V, p, r, f, rfl, ⟨hs, hr⟩, hK⟩
 obtain ⟨⟨g1, g2⟩, g3⟩ := hs
 simp only [e_reg, e_seq, e_block, e_loop, o_nil, o_cons, gd_none, putK_e, runK_e, vK_e, boxK_e, evh_v, evh_box, seqK_n, evp, gt, st, putf, X.get, mkfr, rep, lens, cs1, pb, ln, undef, Nat.reduceSub, true_and, s71, r71]
 refine loop_at2 (G := Nat) (fun i => [(12, .int .i64 i), (7, .own 1)]) (fun i => [Blk.box 49 [.int .i64 r, .int .i64 f], .orw 107 2 (offN V p r f i).length (rowP (offN V p r f i))]) (fun i => i ≤ V.length) (fun i => V.length - i) 0 (Nat.zero_le _) ?_
 (intro fr1 hf1; simp only [forget, dstC, dstO, st] at hf1; subst hf1)
 refine ⟨?_, ?_⟩
 ·refine Lw_re 1 [none] (Nat.zero_le _) (by simp [ln]) (by simp [ln]) rfl ?_ ?_
  ·simp only [reL, reX, rn, List.getElem?_cons_zero, Nat.reduceSub, Nat.lt_irrefl, Nat.le_refl, reduceCtorEq, or_true, inb, inb.inbs, ln, sts, st, Bool.and_self, Nat.reduceLT, Nat.reduceAdd, decide_true, and_self, Int.natCast_zero, implies_true]
  ·simp only [reL, reX, reH, reB, reN, newB, inb, and_self, offN, List.length_nil]
 ·intro i hi
  simp only [inr64, ↓reduceIte, e_skip, e_reg, and_self, e_seq, e_cond, e_block, e_exit, e_ret, o_nil, o_cons, gd_none, putK_e, runK_e, vK_e, bslK_e, bldK_e, storeK3_e, storeK2_e, storeK_e, appK2_or, appK_e, conK_e, callK_e, evh_v, evh_new, evh_bsl, evh_bld, evh_store, evh_app, evh_call, loopK_n, loopK_x, seqK_n, seqK_x, xNz, exitK_t, blockK_x, blockK_n, ends_r, endK1_e, endK2_e, gam_e, gamK_f, pc_e, pcK_e, fcC_e, fcK_e, evp, bin, gt, gq, st, putf, X.get, gets, getp, ap, rdR, tupled, clV, clL, clS, clo, clo.clos, ld, lda, ixs, tk, dr, sp, sp.spl, lay, ll, cs1, one, allOne, gb, sb, pb, ln, lk, Bool.and_true, Nat.reduceAdd, beq_self_eq_true, true_and, decide_eq_true_eq, decide_eq_false_iff_not, sts, F91, Int.toNat_natCast, rowV, Vl.cells]
  have hlen := offN_len V p r f i
  refine ⟨fun h => ?_, fun h => ?_⟩
  ·have hi' : i < V.length := by omega
   refine ⟨by omega, ⟨(g3 i hi').1, hr⟩, fun a => ⟨by omega, by omega, by omega, ?_⟩, fun a => ⟨by omega, ?_⟩⟩
   ·have e : offN V p r f (i + 1) = offN V p r f i ++ [((i : Int), p.getD i 0)] := by rw [offN]; exact if_pos a
    refine Nx.mk (i + 1) (by show i + 1 ≤ V.length; omega) (by show V.length - (i + 1) < V.length - i; omega) (Lw_re 1 [some 4] (Nat.zero_le _) (by simp [ln]) (by simp [ln]) rfl ?_ ?_)
    ·simp only [reL, reX, rn, List.getElem?_cons_zero, Nat.reduceSub, Nat.lt_irrefl, Nat.le_refl, and_false, or_true, inb, inb.inbs, ln, Bool.and_self, Nat.reduceLT, Nat.reduceAdd, decide_true, and_self, Int.natCast_add, Int.natCast_one, implies_true]
    ·simp only [reL, reX, reH, reB, reM, reN, gb, Nat.reduceLeDiff, inb, ln, Nat.reduceLT, Nat.reduceAdd, true_and, and_true, and_self, e, List.length_append, List.length_singleton]
     intro j hj
     unfold rowP
     by_cases hji : j < (offN V p r f i).length
     ·rw [if_pos hji]
      simp [List.getD, hji, List.getElem?_append_left hji]
     ·obtain rfl : j = (offN V p r f i).length := by omega
      rw [if_neg hji]
      simp [List.getD]
   ·have e : offN V p r f (i + 1) = offN V p r f i := by rw [offN]; exact if_neg a
    refine Nx.mk (i + 1) (by show i + 1 ≤ V.length; omega) (by show V.length - (i + 1) < V.length - i; omega) (Lw_re 1 [some 1] (Nat.zero_le _) (by simp [ln]) (by simp [ln]) rfl ?_ ?_)
    ·simp only [reL, reX, rn, List.getElem?_cons_zero, Nat.reduceSub, Nat.lt_irrefl, Nat.le_refl, and_false, or_true, inb, inb.inbs, ln, Bool.and_self, Nat.reduceLT, Nat.reduceAdd, decide_true, and_self, Int.natCast_add, Int.natCast_one, implies_true]
    ·simp only [reL, reX, reH, reB, reM, reN, gb, Nat.le_refl, inb, ln, Nat.reduceLT, Nat.reduceAdd, and_self, e, implies_true]
  ·have e : i = V.length := by omega
   subst e
   exact res hK (by simp [leR])
def pickO : List (Int × Int) → Int × Int
 | [] => (0, 0)
 | h :: t => t.foldl (fun s e => if e.2 < s.2 then e else s) h
theorem pickO_snoc {O : List (Int × Int)} {e : Int × Int} (h : O ≠ []) : pickO (O ++ [e]) = if e.2 < (pickO O).2 then e else pickO O := by
 cases O with
 | nil => exact absurd rfl h
 | cons x t =>
  simp only [pickO, List.cons_append, List.foldl_append, List.foldl_cons, List.foldl_nil]
  split
  ·rename_i hc; exact (if_pos hc).symm
  ·rename_i hc; exact (if_neg hc).symm
theorem pick2_eq (h : Int × Int) (t : List (Int × Int)) (a b : Nat → Int) (ha : ∀ j, j < t.length → a j = (t.getD j (0, 0)).1 ∧ b j = (t.getD j (0, 0)).2) : ∀ n, n ≤ t.length → pick2 a b h.1 h.2 n = (t.take n).foldl (fun s e => if e.2 < s.2 then e else s) h
 | 0, _ => by simp [pick2]
 | n + 1, hn => by
  have ih := pick2_eq h t a b ha n (by omega)
  have e : t.take (n + 1) = t.take n ++ [t.getD n (0, 0)] := by
   rw [List.take_add_one, List.getElem?_eq_getElem (show n < t.length by omega)]; simp [List.getD, show n < t.length by omega]
  rw [e, List.foldl_append, ← ih]
  obtain ⟨h1, h2⟩ := ha n (by omega)
  simp only [pick2, List.foldl_cons, List.foldl_nil, h1, h2]
theorem pick_chs (V : List Vl) (p : List Int) (r f : Int) : ∀ i : Nat, (offN V p r f i = [] ↔ chsN V p r f i < 0) ∧ (offN V p r f i ≠ [] → pickO (offN V p r f i) = (chsN V p r f i, p.getD (chsN V p r f i).toNat 0))
 | 0 => by simp [offN, chsN]
 | i + 1 => by
  obtain ⟨i1, i2⟩ := pick_chs V p r f i
  have hb := chs_b V p r f i
  by_cases hd : doesP (V.getD i v0) r f
  ·rw [offN, if_pos hd, chsN]
   by_cases hn : offN V p r f i = []
   ·rw [hn, if_pos ⟨hd, .inl (i1.1 hn)⟩]
    simp [pickO]
   ·rw [pickO_snoc hn, i2 hn]
    have hc : ¬ chsN V p r f i < 0 := fun h => hn (i1.2 h)
    by_cases hp : p.getD i 0 < p.getD (chsN V p r f i).toNat 0
    ·rw [if_pos ⟨hd, .inr hp⟩, if_pos hp]
     simp
    ·rw [if_neg (fun h => h.2.elim hc hp), if_neg hp]
     simp [hc]
  ·rw [offN, if_neg hd, chsN, if_neg (fun h => hd h.1)]
   exact ⟨i1, i2⟩
theorem p30 (p100 : PureOk Try.prog 100 (fcC F92)) : PureOk Try.prog 30 C31 := by
 refine pure_of (T := [(69, .pc C69), (70, .fc F70), (71, .pc C71), (72, .pc C72)]) ⟨⟨p69, q69⟩, ⟨p70, q70⟩, ⟨p71 p100, q71⟩, ⟨p72, q72⟩, trivial⟩ Try.func30 k30 ?_
 rintro args K ⟨V, p, r, f, rfl, hK1, hK2, hK3⟩
 simp only [e_reg, e_seq, o_nil, o_cons, gd_none, putK_e, runK_e, vK_e, boxK_e, conK_e, callK_e, evh_v, evh_box, evh_call, seqK_n, gam_e, gamK_p, pc_e, pcK_e, evp, gt, st, putf, X.get, gets, ap, mkfr, rep, clV, clL, clS, clo, cs1, pb, ln, lk, undef, Nat.reduceSub, beq_self_eq_true, true_and, s30, r30]
 refine ⟨V, p, rfl, fun hs => ?_, fun hs => ?_⟩
 ·simp only [reduceCtorEq, e_skip, e_reg, e_seq, e_cond, e_ret, o_nil, o_cons, gd_none, gd_some, gdK_tf, gdK_ff, xRf, putK_e, runK_e, skipK_e, vK_e, conK_e, callK_e, evh_v, evh_call, seqK_n, seqK_r, condK_t, xNz, ends_r, endK1_e, endK2_e, gam_e, gamK_f, gamK_p, pc_e, pcK_e, fcC_e, fcK_e, evp, gt, st, putf, X.get, gets, ap, rdR, tupled, clV, clL, clS, clo, ld, lda, lens, tk, dr, gb, lk, undef, Bool.not_true, Bool.not_false, Nat.reduceBEq, beq_self_eq_true, true_and, decide_eq_true_eq, decide_eq_false_iff_not, Bool.not_eq_eq_eq_not, F70]
  refine ⟨fun _ => ⟨fun h => ?_, fun h => ?_⟩, fun h => h.elim⟩
  ·exact res (hK3 fun h3 => h ⟨h3.1.2.2.1, h3.1.2.2.2⟩) (by simp [leR, leR.leRs])
  ·have hS : stkP V p r f := ⟨⟨hs.1.1, hs.1.2, h⟩, hs.2⟩
   have hK1 := hK1 hS
   have hK2 := hK2 hS
   obtain ⟨c1, c2⟩ := pick_chs V p r f V.length
   have hlen := offN_len V p r f V.length
   have hV := hs.1.1
   refine ⟨V, p, r, f, rfl, ⟨hs, h.1.1⟩, ?_⟩
   generalize offN V p r f V.length = O at c1 c2 hlen ⊢
   simp only [e_skip, e_reg, e_drw, e_seq, e_cond, e_ret, e_shut, shutG, shutQ, shut2, shutH, shut1, slQ, o_nil, o_cons, gd_none, putK_e, runK_e, vK_e, conK_e, callK_e, evh_v, evh_call, bnd, slv, xAg, xAi, dX_e, dG_t, d_nil, d_cons, tlK_n, seqK_n, seqK_r, xNz, ends_r, endK1_e, endK2_e, gam_e, gamK_p, pc_e, pcK_e, evp, bin, gt, st, putf, X.get, gets, ap, rdR, tupled, clV, clL, clS, clo, ld, lda, ixs, tk, dr, lk, evq, gdl, Nat.reduceBEq, beq_self_eq_true, true_and, decide_eq_true_eq, decide_eq_false_iff_not, rowP]
   refine ⟨fun hz => res (hK2 (c1.1 (List.eq_nil_of_length_eq_zero (by omega)))) (by simp [leR, leR.leRs]), fun hz => ⟨by omega, by omega, ((O.length : Int) - 1).toNat, fun i => (O.getD (Int.toNat 1 + i) (0, 0)).1, fun i => (O.getD (Int.toNat 1 + i) (0, 0)).2, _, _, rfl, by omega, ?_⟩⟩
   have hne : O ≠ [] := fun h => hz (by simp [h])
   have hc0 : 0 ≤ chsN V p r f V.length := by
    apply Classical.byContradiction
    intro hc
    exact hne (c1.2 (by omega))
   have ep : pick2 (fun i => (O.getD (Int.toNat 1 + i) (0, 0)).1) (fun i => (O.getD (Int.toNat 1 + i) (0, 0)).2) (O.getD (Int.toNat 0) (0, 0)).1 (O.getD (Int.toNat 0) (0, 0)).2 ((O.length : Int) - 1).toNat = pickO O := by
    cases O with
    | nil => exact absurd rfl hne
    | cons x t =>
     have e1 : (((x :: t).length : Int) - 1).toNat = t.length := by simp
     rw [e1]
     have := pick2_eq x t (fun i => ((x :: t).getD (Int.toNat 1 + i) (0, 0)).1) (fun i => ((x :: t).getD (Int.toNat 1 + i) (0, 0)).2) (fun j hj => by
      rw [show Int.toNat 1 + j = j + 1 by simp; omega]
      simp [List.getD]) t.length (Nat.le_refl _)
     rw [List.take_length] at this
     exact this
   rw [ep, c2 hne]
   simp only [e_ret, o_nil, o_cons, gd_none, putK_e, runK_e, vK_e, evh_v, seqK_n, ends_r, endK1_e, endK2_e, evp, gt, gq, st, putf, X.get, rdR, tupled, clV, clL, clS, clo, true_and]
   exact res (hK1 hc0) (by simp [leR, leR.leRs])
 ·have n34 : ∃ r', K r' ∧ leR 4 (SV.tup [SV.int IntKind.i64 0, SV.int IntKind.i64 34]) r' := res (hK3 fun h3 => hs ⟨⟨h3.1.1, h3.1.2.1⟩, h3.2⟩) (by simp [leR, leR.leRs])
  simp only [reduceCtorEq, e_skip, e_reg, e_seq, e_cond, e_ret, o_nil, o_cons, gd_none, gd_some, gdK_tf, gdK_ff, xRf, putK_e, runK_e, skipK_e, vK_e, conK_e, callK_e, evh_v, evh_call, seqK_n, seqK_r, condK_t, xNz, ends_r, endK1_e, endK2_e, gam_e, gamK_f, gamK_p, pc_e, pcK_e, fcC_e, fcK_e, evp, gt, st, putf, X.get, gets, ap, rdR, tupled, clV, clL, clS, clo, ld, lda, lens, tk, dr, gb, lk, undef, Bool.not_true, Bool.not_false, Nat.reduceBEq, beq_self_eq_true, true_and, decide_eq_true_eq, decide_eq_false_iff_not, Bool.not_eq_eq_eq_not, F70]
  exact ⟨fun h => h.elim, fun _ => n34⟩
end Go.Proofs.Ytgdihdiadlmjiaa
end
section
namespace Go.Proofs.Ytgdihdiadlmjiaa
open Go Go.Vg
set_option maxRecDepth 10000
def midR (e : Rg) : Md := (e.1 + e.2.1, e.2.2)
end Go.Proofs.Ytgdihdiadlmjiaa
end
section
namespace Go.Proofs.Ytgdihdiadlmjiaa
open Go Go.Vg
set_option maxRecDepth 10000
theorem p58 : PureOk Try.prog 58 C58 := by
 refine pure_of (T := [(52, .pc C52), (85, .fc F85')]) ⟨⟨p52, q52⟩, ⟨p85', q85⟩, trivial⟩ Try.func58 k58 ?_
 rintro args K ⟨v, L, rfl, ⟨hv, hL⟩, hK⟩
 have hv' := hv
 simp only [Vl.ok] at hv'
 simp only [Vl.sv]
 simp only [e_reg, e_seq, e_block, e_loop, o_nil, o_cons, gd_none, putK_e, runK_e, vK_e, boxK_e, evh_v, evh_new, evh_box, seqK_n, evp, gt, gq, st, putf, X.get, mkfr, rep, ld, lda, cs1, gb, pb, ln, undef, Nat.reduceSub, Nat.reduceAdd, true_and, s58, r58]
 refine loop_at2 (G := Nat) (fun i => [(10, .int .i64 (v.z1 + i)), (9, .bool (tzN v L i).f)])
  (fun i => [Blk.box 25 v.cells, Blk.box 23 [.int .i64 0, .int .i64 0], Blk.box 23 [.int .i64 0, .int .i64 0], Blk.box 23 [.int .i64 (tzN v L i).t1, .int .i64 (tzN v L i).t2], Blk.box 23 [.int .i64 (tzN v L i).u1, .int .i64 (tzN v L i).u2]])
  (fun i => v.z1 + i ≤ v.z2 + 1) (fun i => (v.z2 + 1 - v.z1).toNat - i) 0 (by omega) ?_
 (intro fr1 hf1; simp only [forget, dstC, dstO, dstD, dst1, st] at hf1; subst hf1)
 refine ⟨?_, ?_⟩
 ·refine Lw_re 5 [] (Nat.zero_le _) (by simp [ln]) (by simp [ln]) rfl ?_ ?_
  ·simp only [reL, reX, inb, inb.inbs, ln, sts, st, Bool.and_self, Nat.reduceLT, Nat.reduceAdd, decide_true, and_self, Int.natCast_zero, Int.add_zero, tzN, implies_true]
  ·simp only [reL, reX, reH, reB, reN, inb, ln, Nat.reduceAdd, and_self, Vl.cells, tzN]
 ·intro i hi
  simp only [e_skip, e_reg, e_tre, t_leaf, t_stop, t_op, and_self, e_seq, e_cond, e_block, e_exit, e_ret, o_nil, o_cons, gd_none, putK_e, runK_e, vK_e, storeK3_e, storeK2_e, storeK_e, conK_e, callK_e, evh_v, evh_store, evh_call, loopK_x, seqK_n, seqK_x, xNz, exitK_t, blockK_x, ends_r, endK1_e, endK2_e, gam_e, gamK_p, pc_e, pcK_e, evp, bin, gt, gq, st, putf, X.get, gets, ap, rdR, tupled, clV, clL, clS, clo, ld, lda, tk, dr, sp, sp.spl, ll, cs1, one, allOne, gb, sb, lk, Bool.and_true, Nat.reduceAdd, beq_self_eq_true, true_and, and_true, decide_eq_true_eq, decide_eq_false_iff_not, sts, Vl.cells]
  refine ⟨fun h => ?_, fun h => ?_⟩
  ·refine ⟨v, L, v.z1 + i, rfl, ⟨hv, hL, by omega⟩, ?_⟩
   have bl := loW_b (z := v.z1 + i) hv'.2.2.2.2 (by omega) hL.2
   have bh := hiW_b (z := v.z1 + i) hv'.2.2.2.2 (by omega) hL.2
   simp only [inr64, e_skip, e_reg, and_self, e_drw, e_seq, e_cond, e_exit, o_nil, o_cons, gd_none, putK_e, runK_e, vK_e, storeK3_e, storeK2_e, storeK_e, conK_e, callK_e, evh_v, evh_store, evh_call, dX_e, dG_t, d_nil, d_cons, tlK_n, loopK_n, seqK_n, seqK_x, xNz, exitK_t, blockK_x, blockK_n, gam_e, gamK_f, pc_e, pcK_e, fcC_e, fcK_e, evp, bin, gt, gq, st, putf, X.get, gets, ap, clV, clL, clS, clo, ld, lda, tk, dr, sp, sp.spl, ll, cs1, one, allOne, gb, sb, lk, evq, gdl, Value.oneCell', Bool.and_true, Nat.reduceAdd, Nat.reduceBEq, beq_self_eq_true, true_and, decide_eq_true_eq, decide_eq_false_iff_not, F85']
   refine ⟨fun hc => ⟨by omega, ?_⟩, fun hc => ⟨bdp bl (by omega), bdp bl (by omega), bdp bh (by omega), bdp bh (by omega), by omega, ?_⟩⟩
   ·have es : tzN v L (i + 1) = tzN v L i := by rw [tzN, tstep, if_pos hc]
    refine Nx.mk (i + 1) (by show v.z1 + ((i + 1 : Nat) : Int) ≤ v.z2 + 1; omega) (by show (v.z2 + 1 - v.z1).toNat - (i + 1) < (v.z2 + 1 - v.z1).toNat - i; omega) (Lw_re 5 [] (Nat.zero_le _) (by simp [ln]) (by simp [ln]) rfl ?_ ?_)
    ·simp only [reL, reX, inb, inb.inbs, Bool.and_self, Nat.reduceLT, decide_true, and_self, es, Int.natCast_add, Int.natCast_one, Int.add_assoc, implies_true]
    ·simp only [reL, reX, reH, reB, reN, inb, and_self, es]
   ·have es : tzN v L (i + 1) = tstep v L (v.z1 + i) (tzN v L i) := rfl
    rw [tstep, if_neg hc] at es
    refine Nx.mk (i + 1) (by show v.z1 + ((i + 1 : Nat) : Int) ≤ v.z2 + 1; omega) (by show (v.z2 + 1 - v.z1).toNat - (i + 1) < (v.z2 + 1 - v.z1).toNat - i; omega) (Lw_re 5 [] (Nat.zero_le _) (by simp [ln]) (by simp [ln]) rfl ?_ ?_)
    ·simp only [reL, reX, inb, inb.inbs, Bool.and_self, Nat.reduceLT, decide_true, and_self, es, Int.natCast_add, Int.natCast_one, Int.add_assoc, implies_true]
    ·simp only [reL, reX, reH, reB, reN, inb, and_self, es, Vl.lst, Vl.mst]
  ·have e : (v.z2 + 1 - v.z1).toNat = i := by omega
   unfold tzA at hK
   rw [e] at hK
   exact res hK (by simp [leR, leR.leRs])
end Go.Proofs.Ytgdihdiadlmjiaa
end
section
namespace Go.Proofs.Ytgdihdiadlmjiaa
open Go Go.Vg
set_option maxRecDepth 10000
def canP (v : Vl) (R : List Rg) (a z t : Int) : Prop := loW v.w z (R.map midR) ≤ hiW v.w z (R.map midR) ∧ loW v.w z (R.map midR) * a ≤ t ∧ t ≤ hiW v.w z (R.map midR) * a
instance (v : Vl) (R : List Rg) (a z t : Int) : Decidable (canP v R a z t) := by unfold canP; infer_instance
end Go.Proofs.Ytgdihdiadlmjiaa
end
section
namespace Go.Proofs.Ytgdihdiadlmjiaa
open Go Go.Vg
set_option maxRecDepth 10000
def s118 : SC :=
 (.seq (.reg [⟨(some 2),none,.box 145 (.t 0)⟩,.w4 4]) (.seq (.reg [.u2 5 2 0,.u3 6 5,.u0 7 1,.u6 8 .sub 6 7,.u2 9 2 1,.u3 10 9,.u0 11 1,.u6 12 .sub 10 11,⟨(some 13),none,.bld [(.int .i64 (0)),(.int .i64 (0))] [(0,1,(.t 8)),(1,1,(.t 12))]⟩,.w3 2 4 13]) .ret))
def r118 : List RV := [.c 4 (some 2)]
theorem k118 : (Try.f118.body.bind (cC Try.prog), cR Try.prog Try.f118.results.toList, Try.f118.ntmps) = (some s118, some r118, 14) := by kernel_rfl
theorem q118 : Known Try.prog 118 := ⟨_, Try.func118, by decide, by simp [Try.f118]⟩
def s119 : SC :=
 (.seq (.reg [⟨(some 2),none,.box 146 (.t 0)⟩,.w4 4]) (.seq (.reg [.u0 5 1,.u2 6 2 1,.u3 7 6,.u6 8 .sub 5 7,.u0 9 1,.u2 10 2 0,.u3 11 10,.u6 12 .sub 9 11,⟨(some 13),none,.bld [(.int .i64 (0)),(.int .i64 (0))] [(0,1,(.t 8)),(1,1,(.t 12))]⟩,.w3 2 4 13]) .ret))
def r119 : List RV := [.c 4 (some 2)]
theorem k119 : (Try.f119.body.bind (cC Try.prog), cR Try.prog Try.f119.results.toList, Try.f119.ntmps) = (some s119, some r119, 14) := by kernel_rfl
theorem q119 : Known Try.prog 119 := ⟨_, Try.func119, by decide, by simp [Try.f119]⟩
def s80 : SC :=
 (.seq (.reg [⟨(some 1),none,.box 78 (.t 0)⟩,(.w6 2 (.mov (.c (.lit .nilFunc))))]) (.seq (.reg [(.w6 3 (.mkfn 95 [(.t 1)])),.u0 2 3]) .ret))
def r80 : List RV := [.t 2]
theorem k80 : (Try.f80.body.bind (cC Try.prog), cR Try.prog Try.f80.results.toList, Try.f80.ntmps) = (some s80, some r80, 4) := by kernel_rfl
theorem q80 : Known Try.prog 80 := ⟨_, Try.func80, by decide, by simp [Try.f80]⟩
def sml (x : Int) : Prop := -1000000000000 ≤ x ∧ x ≤ 1000000000000
def F118 : FC := fun args => match args with
 | [.agg [.int .i64 a, .int .i64 b], .int .i64 z] => some (sml a ∧ sml b ∧ sml z, .agg [.int .i64 (a - z), .int .i64 (b - z)])
 | _ => none
theorem p118 : PureOk Try.prog 118 (fcC F118) := by
 refine pure_of (T := []) trivial Try.func118 k118 ?_
 intro args K hC
 unfold fcC F118 at hC
 split at hC <;> first | (exact hC.elim) | skip
 rename_i h
 split at h <;> first | (cases h; done) | skip
 cases h
 obtain ⟨⟨ha, hb, hz⟩, hK⟩ := hC
 unfold sml at ha hb hz
 simp only [inr64, ↓reduceIte, e_reg, and_self, e_seq, e_ret, o_nil, o_cons, gd_none, putK_e, runK_e, vK_e, boxK_e, bldK_e, storeK3_e, storeK2_e, storeK_e, evh_v, evh_new, evh_box, evh_bld, evh_store, seqK_n, ends_r, endK1_e, endK2_e, evp, bin, gt, gq, st, putf, X.get, getp, mkfr, rep, rdR, tupled, clV, clL, clS, clo, ld, lda, tk, dr, sp, sp.spl, lay, ll, cs1, one, allOne, gb, sb, pb, ln, undef, Bool.and_true, Nat.reduceSub, Nat.reduceAdd, beq_self_eq_true, true_and, s118, r118]
 exact ⟨by omega, by omega, res hK (by simp [leR, leR.leRs])⟩
def F119 : FC := fun args => match args with
 | [.agg [.int .i64 a, .int .i64 b], .int .i64 z] => some (sml a ∧ sml b ∧ sml z, .agg [.int .i64 (z - b), .int .i64 (z - a)])
 | _ => none
theorem p119 : PureOk Try.prog 119 (fcC F119) := by
 refine pure_of (T := []) trivial Try.func119 k119 ?_
 intro args K hC
 unfold fcC F119 at hC
 split at hC <;> first | (exact hC.elim) | skip
 rename_i h
 split at h <;> first | (cases h; done) | skip
 cases h
 obtain ⟨⟨ha, hb, hz⟩, hK⟩ := hC
 unfold sml at ha hb hz
 simp only [inr64, ↓reduceIte, e_reg, and_self, e_seq, e_ret, o_nil, o_cons, gd_none, putK_e, runK_e, vK_e, boxK_e, bldK_e, storeK3_e, storeK2_e, storeK_e, evh_v, evh_new, evh_box, evh_bld, evh_store, seqK_n, ends_r, endK1_e, endK2_e, evp, bin, gt, gq, st, putf, X.get, getp, mkfr, rep, rdR, tupled, clV, clL, clS, clo, ld, lda, tk, dr, sp, sp.spl, lay, ll, cs1, one, allOne, gb, sb, pb, ln, undef, Bool.and_true, Nat.reduceSub, Nat.reduceAdd, beq_self_eq_true, true_and, s119, r119]
 exact ⟨by omega, by omega, res hK (by simp [leR, leR.leRs])⟩
def F80 : FC := fun args => match args with
 | [.agg [.int .i64 m, .int .i64 l1, .int .i64 l2, .int .i64 v1, .int .i64 v2, .int .i64 z1, .int .i64 z2, .int .i64 w]] => some (True, .fn 95 [.rp (Vl.cells ⟨m, l1, l2, v1, v2, z1, z2, w⟩) 0])
 | _ => none
theorem p80 : PureOk Try.prog 80 (fcC F80) := by
 refine pure_of (T := []) trivial Try.func80 k80 ?_
 intro args K hC
 unfold fcC F80 at hC
 split at hC <;> first | (exact hC.elim) | skip
 rename_i h
 split at h <;> first | (cases h; done) | skip
 cases h
 obtain ⟨-, hK⟩ := hC
 simp only [e_reg, e_seq, e_ret, o_nil, o_cons, gd_none, putK_e, runK_e, vK_e, boxK_e, evh_v, evh_box, seqK_n, ends_r, endK1_e, endK2_e, evp, gt, st, putf, X.get, gets, mkfr, rep, rdR, tupled, clV, clL, clS, clo, cs1, gb, sb, pb, ln, undef, Nat.reduceSub, true_and, s80, r80]
 exact res hK (by simp [leR, leR.leRs, Vl.cells])
end Go.Proofs.Ytgdihdiadlmjiaa
end
