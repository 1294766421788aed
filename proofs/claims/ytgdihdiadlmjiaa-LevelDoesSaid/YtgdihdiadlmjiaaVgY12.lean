import Derived.Test.YtgdihdiadlmjiaaVgL1
import Derived.Test.YtgdihdiadlmjiaaVgV9
set_option linter.all false
section
namespace Go.Proofs.Ytgdihdiadlmjiaa
open Go Go.Vg
set_option maxRecDepth 10000
def s54 : SC :=
 (.seq (.reg [⟨(some 1),none,.box 78 (.t 0)⟩,.w5 2 false]) (.seq (.reg [.u2 3 1 0,.u2 4 3 0,.u3 5 4,(.w1 6 65 [(.t 5),(.c (.int .i64 (10))),(.c (.int .i64 (200)))]),.u0 7 6,(.w0 8 7 true (.off (.t 1) 0)),(.w0 9 7 true (.off (.t 8) 1)),(.w0 10 7 true (.load (.t 9) (some 2))),(.w0 11 7 true (.off (.t 1) 0)),(.w0 12 7 true (.off (.t 11) 0)),(.w0 13 7 true (.load (.t 12) none)),⟨(some 14),(some (7,true)),.call (.c (.fn 64 [])) [(.t 10),(.c (.int .i64 (1))),(.t 13)]⟩,.u8 15 7 14,.u0 16 15,(.w0 17 16 true (.off (.t 1) 0)),(.w0 18 16 true (.off (.t 17) 3)),(.w0 19 16 true (.load (.t 18) (some 2))),⟨(some 20),(some (16,true)),.call (.c (.fn 64 [])) [(.t 19),(.c (.int .i64 (1))),(.c (.int .i64 (500)))]⟩,.u8 21 16 20,.u0 22 21,(.w0 23 22 true (.off (.t 1) 0)),(.w0 24 22 true (.off (.t 23) 5)),(.w0 25 22 true (.load (.t 24) (some 2))),(.w0 26 22 true (.off (.t 1) 0)),(.w0 27 22 true (.off (.t 26) 0)),(.w0 28 22 true (.load (.t 27) none)),(.w0 29 22 true (.bin .mul (.c (.int .i64 (2))) (.t 28))),⟨(some 30),(some (22,true)),.call (.c (.fn 64 [])) [(.t 25),(.c (.int .i64 (0))),(.t 29)]⟩,.u8 31 22 30,.u0 32 31,(.w0 33 32 true (.off (.t 1) 0)),(.w0 34 32 true (.off (.t 33) 7)),(.w0 35 32 true (.load (.t 34) none)),⟨(some 36),(some (32,true)),.call (.c (.fn 65 [])) [(.t 35),(.c (.int .i64 (0))),(.c (.int .i64 (8)))]⟩,.u8 37 32 36,.u0 2 37]) .ret))
def r54 : List RV := [.t 2]
theorem k54 : (Try.f54.body.bind (cC Try.prog), cR Try.prog Try.f54.results.toList, Try.f54.ntmps) = (some s54, some r54, 38) := by kernel_rfl
theorem q54 : Known Try.prog 54 := ⟨_, Try.func54, by decide, by simp [Try.f54]⟩
def s18 : SC :=
 (.seq (.reg [⟨(some 1),none,.box 25 (.t 0)⟩,.u1 2 (0)]) (.seq (.seq (.reg [.u4 3 1 8,⟨(some 4),none,.bld [(.int .i64 (0)),(.int .i64 (0)),(.int .i64 (0)),(.int .i64 (0)),(.int .i64 (0)),(.int .i64 (0)),(.int .i64 (0)),(.int .i64 (0))] [(0,8,(.t 3))]⟩,(.w1 5 54 [(.t 4)]),(.w6 6 (.not (.t 5)))]) (.cond (.t 6) (.seq (.reg [.u1 2 (30)]) .ret) .skip)) (.seq (.reg [.u1 2 (0)]) .ret)))
def r18 : List RV := [.t 2]
theorem k18 : (Try.f18.body.bind (cC Try.prog), cR Try.prog Try.f18.results.toList, Try.f18.ntmps) = (some s18, some r18, 7) := by kernel_rfl
theorem q18 : Known Try.prog 18 := ⟨_, Try.func18, by decide, by simp [Try.f18]⟩
def s57 : SC :=
 (.seq (.reg [⟨(some 0),none,.new 88 [(.int .i64 (0)),(.int .i64 (0)),(.int .i64 (0)),(.int .i64 (0))]⟩]) (.seq (.reg [(.w1 1 82 []),(.w1 2 82 []),⟨(some 3),none,.bld [(.int .i64 (0)),(.int .i64 (0)),(.int .i64 (0)),(.int .i64 (0))] [(0,2,(.t 1)),(2,2,(.t 2))]⟩,.w3 4 0 3]) .ret))
def r57 : List RV := [.c 0 (some 4)]
theorem k57 : (Try.f57.body.bind (cC Try.prog), cR Try.prog Try.f57.results.toList, Try.f57.ntmps) = (some s57, some r57, 4) := by kernel_rfl
theorem q57 : Known Try.prog 57 := ⟨_, Try.func57, by decide, by simp [Try.f57]⟩
def s82 : SC :=
 (.seq (.reg [.w4 0]) (.seq (.reg [⟨(some 1),none,.bld [(.int .i64 (0)),(.int .i64 (0))] [(0,1,(.c (.int .i64 (1)))),(1,1,(.c (.int .i64 (0))))]⟩,.w3 2 0 1]) .ret))
def r82 : List RV := [.c 0 (some 2)]
theorem k82 : (Try.f82.body.bind (cC Try.prog), cR Try.prog Try.f82.results.toList, Try.f82.ntmps) = (some s82, some r82, 2) := by kernel_rfl
theorem q82 : Known Try.prog 82 := ⟨_, Try.func82, by decide, by simp [Try.f82]⟩
def s81 : SC :=
 (.seq (.reg [⟨(some 2),none,.box 23 (.t 0)⟩,⟨(some 3),none,.box 23 (.t 1)⟩,.w4 4]) (.seq (.reg [.u2 6 2 0,.u3 7 6,.u2 8 3 0,.u3 9 8,(.w6 10 (.max2 (.t 7) (.t 9))),.u2 11 2 1,.u3 12 11,.u2 13 3 1,.u3 14 13,(.w6 15 (.min2 (.t 12) (.t 14))),⟨(some 16),none,.bld [(.int .i64 (0)),(.int .i64 (0))] [(0,1,(.t 10)),(1,1,(.t 15))]⟩,.w4 5,.w3 2 5 16]) (.seq (.seq (.reg [.u2 17 5 0,.u3 18 17,.u2 19 5 1,.u3 20 19,.u6 21 .gtr 18 20]) (.cond (.t 21) (.seq (.reg [(.w1 22 82 []),.w3 2 4 22]) .ret) .skip)) (.seq (.reg [.u4 23 5 2,.w3 2 4 23]) .ret))))
def r81 : List RV := [.c 4 (some 2)]
theorem k81 : (Try.f81.body.bind (cC Try.prog), cR Try.prog Try.f81.results.toList, Try.f81.ntmps) = (some s81, some r81, 24) := by kernel_rfl
theorem q81 : Known Try.prog 81 := ⟨_, Try.func81, by decide, by simp [Try.f81]⟩
def s83 : SC :=
 (.seq (.reg [⟨(some 2),none,.box 23 (.t 0)⟩,⟨(some 3),none,.box 23 (.t 1)⟩,.w4 4]) (.seq (.seq (.drw [(0,.u4 5 2 2,false),(1,(.w1 6 82 []),false)] none [(.w6 7 (.eqs [(some .i64),(some .i64)] false (.t 5) (.t 6)))]) (.cond (.t 7) (.seq (.reg [.u4 8 3 2,.w3 2 4 8]) .ret) .skip)) (.seq (.reg [.u2 9 2 0,.u3 10 9,.u2 11 3 0,.u3 12 11,(.w6 13 (.min2 (.t 10) (.t 12))),.u2 14 2 1,.u3 15 14,.u2 16 3 1,.u3 17 16,(.w6 18 (.max2 (.t 15) (.t 17))),⟨(some 19),none,.bld [(.int .i64 (0)),(.int .i64 (0))] [(0,1,(.t 13)),(1,1,(.t 18))]⟩,.w3 2 4 19]) .ret)))
def r83 : List RV := [.c 4 (some 2)]
theorem k83 : (Try.f83.body.bind (cC Try.prog), cR Try.prog Try.f83.results.toList, Try.f83.ntmps) = (some s83, some r83, 20) := by kernel_rfl
theorem q83 : Known Try.prog 83 := ⟨_, Try.func83, by decide, by simp [Try.f83]⟩
def s98 : SC :=
 (.seq (.reg [⟨(some 1),none,.box 23 (.t 0)⟩,.u1 2 (0)]) (.seq (.reg [.u2 3 1 1,.u3 4 3,.u2 5 1 0,.u3 6 5,.u6 7 .sub 4 6,.u0 2 7]) .ret))
def r98 : List RV := [.t 2]
theorem k98 : (Try.f98.body.bind (cC Try.prog), cR Try.prog Try.f98.results.toList, Try.f98.ntmps) = (some s98, some r98, 8) := by kernel_rfl
theorem q98 : Known Try.prog 98 := ⟨_, Try.func98, by decide, by simp [Try.f98]⟩
def s94 : SC :=
 (.seq (.reg [⟨(some 2),none,.box 78 (.t 0)⟩,.w4 4]) (.seq (.reg [.u0 5 1,.u2 6 2 0,.u2 7 6 7,.u3 8 7,.u6 9 .sub 5 8,.u0 10 1,.u2 11 2 0,.u2 12 11 7,.u3 13 12,.u6 14 .add 10 13,⟨(some 15),none,.bld [(.int .i64 (0)),(.int .i64 (0))] [(0,1,(.t 9)),(1,1,(.t 14))]⟩,.w3 2 4 15]) .ret))
def r94 : List RV := [.c 4 (some 2)]
theorem k94 : (Try.f94.body.bind (cC Try.prog), cR Try.prog Try.f94.results.toList, Try.f94.ntmps) = (some s94, some r94, 16) := by kernel_rfl
theorem q94 : Known Try.prog 94 := ⟨_, Try.func94, by decide, by simp [Try.f94]⟩
def s84 : SC :=
 (.seq (.reg [⟨(some 2),none,.box 78 (.t 0)⟩,⟨(some 3),none,.box 23 (.t 1)⟩,.w4 4]) (.seq (.reg [.u2 5 2 0,.u2 6 5 3,.u2 7 6 0,.u3 8 7,.u2 9 3 0,.u3 10 9,.u6 11 .mul 8 10,.u2 12 2 0,.u2 13 12 3,.u2 14 13 1,.u3 15 14,.u2 16 3 0,.u3 17 16,.u6 18 .mul 15 17,(.w6 19 (.min2 (.t 11) (.t 18))),.u2 20 2 0,.u2 21 20 3,.u2 22 21 0,.u3 23 22,.u2 24 3 1,.u3 25 24,.u6 26 .mul 23 25,.u2 27 2 0,.u2 28 27 3,.u2 29 28 1,.u3 30 29,.u2 31 3 1,.u3 32 31,.u6 33 .mul 30 32,(.w6 34 (.max2 (.t 26) (.t 33))),⟨(some 35),none,.bld [(.int .i64 (0)),(.int .i64 (0))] [(0,1,(.t 19)),(1,1,(.t 34))]⟩,.w3 2 4 35]) .ret))
def r84 : List RV := [.c 4 (some 2)]
theorem k84 : (Try.f84.body.bind (cC Try.prog), cR Try.prog Try.f84.results.toList, Try.f84.ntmps) = (some s84, some r84, 36) := by kernel_rfl
theorem q84 : Known Try.prog 84 := ⟨_, Try.func84, by decide, by simp [Try.f84]⟩
def s99 : SC :=
 (.seq (.reg [⟨(some 2),none,.box 78 (.t 0)⟩,.w5 4 false]) (.seq (.drw [(0,.u2 7 2 0,false),(1,.u2 8 7 5,false),(2,.u2 9 8 0,false),(3,.u3 10 9,false),(4,.u2 11 2 0,false),(5,.u2 12 11 1,false),(6,.u2 13 12 1,false),(7,.u3 14 13,false),(8,.u6 15 .sub 10 14,false),(9,.u2 16 2 0,false),(10,.u2 17 16 0,false),(11,.u3 18 17,false),(12,(.w6 19 (.bin .mul (.c (.int .i64 (2))) (.t 18))),false),(13,.u2 20 2 0,false),(14,.u2 21 20 1,false),(15,.u2 22 21 1,false),(16,.u3 23 22,false),(17,.u6 24 .sub 19 23,false),(18,.u2 25 2 0,false),(19,.u2 26 25 5,false),(20,.u2 27 26 1,false),(21,.u3 28 27,false),(22,.u6 29 .sub 24 28,false),(23,.u0 5 15,false)] none [.u0 6 29]) (.seq (.reg [.u0 30 1,.u2 31 2 0,.u2 32 31 3,.u2 33 32 0,.u3 34 33,.u0 35 5,.u0 36 6,(.w6 37 (.min2 (.t 35) (.t 36))),.u6 38 .mul 34 37,.u6 39 .leq 30 38,.u0 4 39]) .ret)))
def r99 : List RV := [.t 4]
theorem k99 : (Try.f99.body.bind (cC Try.prog), cR Try.prog Try.f99.results.toList, Try.f99.ntmps) = (some s99, some r99, 40) := by kernel_rfl
theorem q99 : Known Try.prog 99 := ⟨_, Try.func99, by decide, by simp [Try.f99]⟩
def s70 : SC :=
 (.seq (.reg [⟨(some 1),none,.box 49 (.t 0)⟩,.w5 2 false]) (.seq (.reg [.u2 3 1 0,.u3 4 3,(.w1 5 65 [(.t 4),(.c (.int .i64 (0))),(.c (.int .i64 (100000)))]),.u0 6 5,(.w0 7 6 true (.off (.t 1) 1)),(.w0 8 6 true (.load (.t 7) none)),⟨(some 9),(some (6,true)),.call (.c (.fn 65 [])) [(.t 8),(.c (.int .i64 (0))),(.c (.int .i64 (100000)))]⟩,.u8 10 6 9,.u0 2 10]) .ret))
def r70 : List RV := [.t 2]
theorem k70 : (Try.f70.body.bind (cC Try.prog), cR Try.prog Try.f70.results.toList, Try.f70.ntmps) = (some s70, some r70, 11) := by kernel_rfl
theorem q70 : Known Try.prog 70 := ⟨_, Try.func70, by decide, by simp [Try.f70]⟩
def s73 : SC :=
 (.seq (.reg [⟨(some 2),none,.box 107 (.t 0)⟩,⟨(some 3),none,.box 107 (.t 1)⟩,.w5 4 false]) (.seq (.reg [.u2 5 2 1,.u3 6 5,.u2 7 3 1,.u3 8 7,.u6 9 .lss 6 8,.u0 4 9]) .ret))
def r73 : List RV := [.t 4]
theorem k73 : (Try.f73.body.bind (cC Try.prog), cR Try.prog Try.f73.results.toList, Try.f73.ntmps) = (some s73, some r73, 10) := by kernel_rfl
theorem q73 : Known Try.prog 73 := ⟨_, Try.func73, by decide, by simp [Try.f73]⟩
structure Vl where
 (m l1 l2 v1 v2 z1 z2 w : Int)
def Vl.sv (v : Vl) : SV := .agg [.int .i64 v.m, .int .i64 v.l1, .int .i64 v.l2, .int .i64 v.v1, .int .i64 v.v2, .int .i64 v.z1, .int .i64 v.z2, .int .i64 v.w]
def Vl.ok (v : Vl) : Prop := (10 ≤ v.m ∧ v.m ≤ 200) ∧ ((1 ≤ v.l1 ∧ v.l1 ≤ v.l2) ∧ v.l2 ≤ v.m) ∧ ((1 ≤ v.v1 ∧ v.v1 ≤ v.v2) ∧ v.v2 ≤ 500) ∧ ((0 ≤ v.z1 ∧ v.z1 ≤ v.z2) ∧ v.z2 ≤ 2 * v.m) ∧ (0 ≤ v.w ∧ v.w ≤ 8)
instance (v : Vl) : Decidable v.ok := by unfold Vl.ok; infer_instance
def Vl.chk (v : Vl) : Int := if v.ok then 0 else 30
def C19 : PC := fun args K => ∃ v : Vl, args = [v.sv] ∧ K (.int .i64 v.chk)
def C54 : PC := fun args K => ∃ v : Vl, args = [.agg [.int .i64 v.m, .int .i64 v.l1, .int .i64 v.l2, .int .i64 v.v1, .int .i64 v.v2, .int .i64 v.z1, .int .i64 v.z2, .int .i64 v.w]] ∧ K (.bool (decide v.ok))
theorem p54 : PureOk Try.prog 54 C54 := by
 refine pure_of (T := [(65, .fc F42), (64, .fc F55)]) ⟨⟨p65, q65⟩, ⟨p64, q64⟩, trivial⟩ Try.func54 k54 ?_
 rintro args K ⟨v, rfl, hK⟩
 obtain ⟨m, l1, l2, v1, v2, z1, z2, w⟩ := v
 simp only [inr64, e_reg, e_seq, e_ret, o_nil, o_cons, gd_none, gd_some, gdK_tt, gdK_ft, xRe, putK_e, runK_e, skipK_e, vK_e, boxK_e, conK_e, callK_e, evh_v, evh_box, evh_call, seqK_n, ends_r, endK1_e, endK2_e, gam_e, gamK_f, pc_e, pcK_e, fcC_e, fcK_e, evp, bin, gt, gq, st, putf, X.get, gets, ap, mkfr, rep, rdR, tupled, clV, clL, clS, clo, ld, lda, tk, dr, cs1, gb, pb, ln, lk, undef, Nat.reduceSub, Nat.reduceAdd, Nat.reduceBEq, beq_self_eq_true, true_and, decide_eq_true_eq, decide_eq_false_iff_not, s54, r54, F42, F55]
 have hn : ¬ Vl.ok ⟨m, l1, l2, v1, v2, z1, z2, w⟩ → ∃ r', K r' ∧ leR 4 (SV.lit (.bool false)) r' := fun h => by rw [decide_eq_false h] at hK; exact res hK (by simp [leR])
 refine ⟨fun a => ⟨fun b => ⟨fun c => ⟨by omega, fun d => ?_, fun d => hn fun h => d h.2.2.2.1⟩, fun c => hn fun h => c h.2.2.1⟩, fun b => hn fun h => b h.2.1⟩, fun a => hn fun h => a h.1⟩
 refine res hK ?_
 simp only [leR, Vl.ok, a, b, c, d, and_self, true_and]
def C18 : PC := C19
theorem p18 : PureOk Try.prog 18 C18 := by
 refine pure_of (T := [(54, .pc C54)]) ⟨⟨p54, q54⟩, trivial⟩ Try.func18 k18 ?_
 rintro args K ⟨v, rfl, hK⟩
 simp only [Vl.sv, Vl.chk] at hK ⊢
 simp only [e_reg, e_seq, o_nil, o_cons, gd_none, putK_e, runK_e, vK_e, boxK_e, bldK_e, conK_e, callK_e, evh_v, evh_box, evh_bld, evh_call, seqK_n, gam_e, gamK_p, pc_e, pcK_e, evp, gt, st, putf, X.get, gets, getp, ap, mkfr, rep, clV, clL, clS, clo, ld, lda, tk, dr, sp, sp.spl, lay, ll, cs1, gb, pb, ln, lk, undef, Nat.reduceSub, Nat.reduceAdd, beq_self_eq_true, true_and, s18, r18]
 refine ⟨v, rfl, ?_⟩
 simp only [e_skip, e_reg, e_seq, e_cond, e_ret, o_nil, o_cons, gd_none, putK_e, runK_e, vK_e, evh_v, seqK_n, seqK_r, xNz, ends_r, endK1_e, endK2_e, evp, gt, st, putf, X.get, rdR, tupled, clV, clS, clo, Bool.not_true, Bool.not_false, true_and, decide_eq_true_eq, decide_eq_false_iff_not, Bool.not_eq_eq_eq_not]
 refine ⟨fun h => ?_, fun h => ?_⟩
 ·rw [if_neg (by simpa using h)] at hK; exact res hK (by simp [leR])
 ·rw [if_pos (by simpa using h)] at hK; exact res hK (by simp [leR])
def F82 : FC := fun args => match args with
 | [] => some (True, .agg [.int .i64 1, .int .i64 0])
 | _ => none
theorem p82 : PureOk Try.prog 82 (fcC F82) := by
 refine pure_of (T := []) trivial Try.func82 k82 ?_
 intro args K hC
 unfold fcC F82 at hC
 split at hC <;> first | (exact hC.elim) | skip
 rename_i h
 split at h <;> first | (cases h; done) | skip
 cases h
 obtain ⟨-, hK⟩ := hC
 simp only [↓reduceIte, e_reg, and_self, e_seq, e_ret, o_nil, o_cons, gd_none, putK_e, runK_e, bldK_e, storeK3_e, storeK2_e, storeK_e, evh_new, evh_bld, evh_store, seqK_n, ends_r, endK1_e, endK2_e, gt, st, putf, X.get, getp, mkfr, rep, rdR, tupled, clV, clL, clS, clo, ld, tk, dr, sp, sp.spl, lay, ll, cs1, one, allOne, gb, sb, pb, ln, undef, Bool.and_true, Nat.reduceAdd, beq_self_eq_true, true_and, s82, r82]
 exact res hK (by simp [leR, leR.leRs])
def cmL (a b c d : Int) : Int := if max a c ≤ min b d then max a c else 1
def cmH (a b c d : Int) : Int := if max a c ≤ min b d then min b d else 0
def F81 : FC := fun args => match args with
 | [.agg [.int .i64 a, .int .i64 b], .agg [.int .i64 c, .int .i64 d]] => some (True, .agg [.int .i64 (cmL a b c d), .int .i64 (cmH a b c d)])
 | _ => none
theorem p81 : PureOk Try.prog 81 (fcC F81) := by
 refine pure_of (T := [(82, .fc F82)]) ⟨⟨p82, q82⟩, trivial⟩ Try.func81 k81 ?_
 intro args K hC
 unfold fcC F81 at hC
 split at hC <;> first | (exact hC.elim) | skip
 rename_i h
 split at h <;> first | (cases h; done) | skip
 cases h
 obtain ⟨-, hK⟩ := hC
 simp only [↓reduceIte, e_skip, e_reg, and_self, e_seq, e_cond, e_ret, o_nil, o_cons, gd_none, putK_e, runK_e, vK_e, boxK_e, bldK_e, storeK3_e, storeK2_e, storeK_e, conK_e, callK_e, evh_v, evh_new, evh_box, evh_bld, evh_store, evh_call, seqK_n, seqK_r, xNz, ends_r, endK1_e, endK2_e, gam_e, gamK_f, pc_e, pcK_e, fcC_e, fcK_e, evp, bin, gt, gq, st, putf, X.get, gets, getp, ap, mkfr, rep, rdR, tupled, clV, clL, clS, clo, ld, lda, tk, dr, sp, sp.spl, lay, ll, cs1, one, allOne, gb, sb, pb, ln, lk, Value.oneCell', undef, Bool.and_true, Nat.reduceSub, Nat.reduceAdd, beq_self_eq_true, true_and, decide_eq_true_eq, decide_eq_false_iff_not, s81, r81, F82]
 refine ⟨fun h => res hK ?_, fun h => res hK ?_⟩ <;> (simp only [leR, leR.leRs, cmL, cmH]; refine ⟨?_, ?_, trivial⟩ <;> simp <;> omega)
def arL (a b c d : Int) : Int := if a = 1 ∧ b = 0 then c else min a c
def arH (a b c d : Int) : Int := if a = 1 ∧ b = 0 then d else max b d
def F83 : FC := fun args => match args with
 | [.agg [.int .i64 a, .int .i64 b], .agg [.int .i64 c, .int .i64 d]] => some ((-9223372036854775808 ≤ a ∧ a ≤ 9223372036854775807) ∧ -9223372036854775808 ≤ b ∧ b ≤ 9223372036854775807, .agg [.int .i64 (arL a b c d), .int .i64 (arH a b c d)])
 | _ => none
theorem p83 : PureOk Try.prog 83 (fcC F83) := by
 refine pure_of (T := [(82, .fc F82)]) ⟨⟨p82, q82⟩, trivial⟩ Try.func83 k83 ?_
 intro args K hC
 unfold fcC F83 at hC
 split at hC <;> first | (exact hC.elim) | skip
 rename_i h
 split at h <;> first | (cases h; done) | skip
 cases h
 obtain ⟨hb, hK⟩ := hC
 simp only [↓reduceIte, List.cons.injEq, e_skip, e_reg, and_self, e_drw, e_seq, e_cond, e_ret, o_nil, o_cons, gd_none, putK_e, runK_e, vK_e, boxK_e, bldK_e, storeK3_e, storeK2_e, storeK_e, evh_v, evh_new, evh_box, evh_bld, evh_store, dX_e, dG_t, d_nil, d_cons, tlK_n, seqK_n, seqK_r, xNz, ends_r, endK1_e, endK2_e, gamq_e, gamqK_f, evp, fit, InQ, gt, gq, st, putf, X.get, gets, getp, ap, mkfr, rep, rdR, tupled, clV, clL, clS, clo, clo.clos, ld, lda, tk, dr, sp, sp.spl, lay, ll, cs1, one, allOne, gb, sb, pb, ln, lk, evq, gdl, undef, Bool.and_true, cond_false, Nat.reduceSub, Nat.reduceAdd, beq_self_eq_true, true_and, and_true, decide_eq_true_eq, decide_eq_false_iff_not, s83, r83, F82]
 refine ⟨⟨hb, by omega⟩, fun h => res hK ?_, fun h => res hK ?_⟩ <;> (simp only [leR, leR.leRs, arL, arH, h]; refine ⟨?_, ?_, trivial⟩ <;> simp <;> omega)
def F98 : FC := fun args => match args with
 | [.agg [.int .i64 a, .int .i64 b]] => some (-4611686018427387903 ≤ a ∧ a ≤ 4611686018427387903 ∧ -4611686018427387903 ≤ b ∧ b ≤ 4611686018427387903, .int .i64 (b - a))
 | _ => none
theorem p98 : PureOk Try.prog 98 (fcC F98) := by
 refine pure_of (T := []) trivial Try.func98 k98 ?_
 intro args K hC
 unfold fcC F98 at hC
 split at hC <;> first | (exact hC.elim) | skip
 rename_i h
 split at h <;> first | (cases h; done) | skip
 cases h
 obtain ⟨hb, hK⟩ := hC
 simp only [inr64, e_reg, e_seq, e_ret, o_nil, o_cons, gd_none, putK_e, runK_e, vK_e, boxK_e, evh_v, evh_box, seqK_n, ends_r, endK1_e, endK2_e, evp, bin, gt, gq, st, putf, X.get, mkfr, rep, rdR, tupled, clV, clS, clo, ld, lda, cs1, gb, pb, ln, undef, Nat.reduceSub, Nat.reduceAdd, true_and, s98, r98]
 exact ⟨by omega, res hK (by simp [leR])⟩
def Vl.cells (v : Vl) : List SV := [.int .i64 v.m, .int .i64 v.l1, .int .i64 v.l2, .int .i64 v.v1, .int .i64 v.v2, .int .i64 v.z1, .int .i64 v.z2, .int .i64 v.w]
def C94 : PC := fun args K => ∃ (v : Vl) (x : Int), args = [v.sv, .int .i64 x] ∧ (v.ok ∧ -1000000 ≤ x ∧ x ≤ 1000000) ∧ K (.agg [.int .i64 (x - v.w), .int .i64 (x + v.w)])
theorem p94 : PureOk Try.prog 94 C94 := by
 refine pure_of (T := []) trivial Try.func94 k94 ?_
 rintro args K ⟨v, x, rfl, ⟨hv, hx⟩, hK⟩
 obtain ⟨m, l1, l2, v1, v2, z1, z2, w⟩ := v
 simp only [Vl.sv, Vl.ok] at hK hv ⊢
 simp only [inr64, ↓reduceIte, e_reg, and_self, e_seq, e_ret, o_nil, o_cons, gd_none, putK_e, runK_e, vK_e, boxK_e, bldK_e, storeK3_e, storeK2_e, storeK_e, evh_v, evh_new, evh_box, evh_bld, evh_store, seqK_n, ends_r, endK1_e, endK2_e, evp, bin, gt, gq, st, putf, X.get, getp, mkfr, rep, rdR, tupled, clV, clL, clS, clo, ld, lda, tk, dr, sp, sp.spl, lay, ll, cs1, one, allOne, gb, sb, pb, ln, undef, Bool.and_true, Nat.reduceSub, Nat.reduceAdd, beq_self_eq_true, true_and, s94, r94]
 exact ⟨by omega, by omega, res hK (by simp [leR, leR.leRs])⟩
def Vl.tl (v : Vl) (a : Int) : Int := min (v.v1 * a) (v.v2 * a)
def Vl.th (v : Vl) (b : Int) : Int := max (v.v1 * b) (v.v2 * b)
def C84 : PC := fun args K => ∃ (v : Vl) (a b : Int), args = [v.sv, .agg [.int .i64 a, .int .i64 b]] ∧ (v.ok ∧ (-1000000 ≤ a ∧ a ≤ 1000000) ∧ -1000000 ≤ b ∧ b ≤ 1000000) ∧ K (.agg [.int .i64 (v.tl a), .int .i64 (v.th b)])
theorem p84 : PureOk Try.prog 84 C84 := by
 refine pure_of (T := []) trivial Try.func84 k84 ?_
 rintro args K ⟨v, a, b, rfl, ⟨hv, ha, hb⟩, hK⟩
 obtain ⟨m, l1, l2, v1, v2, z1, z2, w⟩ := v
 simp only [Vl.sv, Vl.ok, Vl.tl, Vl.th] at hK hv ⊢
 simp only [inr64, ↓reduceIte, e_reg, and_self, e_seq, e_ret, o_nil, o_cons, gd_none, putK_e, runK_e, vK_e, boxK_e, bldK_e, storeK3_e, storeK2_e, storeK_e, evh_v, evh_new, evh_box, evh_bld, evh_store, seqK_n, ends_r, endK1_e, endK2_e, evp, bin, gt, gq, st, putf, X.get, getp, mkfr, rep, rdR, tupled, clV, clL, clS, clo, ld, lda, tk, dr, sp, sp.spl, lay, ll, cs1, one, allOne, gb, sb, pb, ln, undef, Bool.and_true, Nat.reduceSub, Nat.reduceAdd, beq_self_eq_true, true_and, s84, r84]
 have bd : ∀ v x : Int, 1 ≤ v → v ≤ 500 → -1000000 ≤ x → x ≤ 1000000 → -9223372036854775808 ≤ v * x ∧ v * x ≤ 9223372036854775807 := fun v x h1 h2 h3 h4 => by
  have e1 := Int.mul_le_mul_of_nonneg_left h4 (show 0 ≤ v by omega)
  have e2 := Int.mul_le_mul_of_nonneg_left h3 (show 0 ≤ v by omega)
  omega
 refine ⟨bd _ _ (by omega) (by omega) ha.1 ha.2, bd _ _ (by omega) (by omega) ha.1 ha.2, bd _ _ (by omega) (by omega) hb.1 hb.2, bd _ _ (by omega) (by omega) hb.1 hb.2, res hK ?_⟩
 simp only [leR, leR.leRs]
 refine ⟨?_, ?_, trivial⟩ <;> simp <;> omega
def Vl.rch (v : Vl) (t : Int) : Prop := t ≤ v.v1 * min (v.z1 - v.l2) (2 * v.m - v.l2 - v.z2)
instance (v : Vl) (t : Int) : Decidable (v.rch t) := by unfold Vl.rch; infer_instance
def C99 : PC := fun args K => ∃ (v : Vl) (t : Int), args = [v.sv, .int .i64 t] ∧ v.ok ∧ K (.bool (decide (v.rch t)))
theorem p99 : PureOk Try.prog 99 C99 := by
 refine pure_of (T := []) trivial Try.func99 k99 ?_
 rintro args K ⟨v, t, rfl, hv, hK⟩
 obtain ⟨m, l1, l2, v1, v2, z1, z2, w⟩ := v
 simp only [Vl.sv, Vl.ok, Vl.rch] at hK hv ⊢
 simp only [inr64, e_reg, e_drw, e_seq, e_ret, o_nil, o_cons, gd_none, putK_e, runK_e, vK_e, boxK_e, evh_v, evh_box, dX_e, dG_t, d_nil, d_cons, tlK_n, seqK_n, ends_r, endK1_e, endK2_e, evp, bin, gt, gq, st, putf, X.get, mkfr, rep, rdR, tupled, clV, clS, clo, ld, lda, cs1, gb, pb, ln, evq, gdl, undef, Nat.reduceSub, Nat.reduceAdd, true_and, s99, r99]
 have em : (if 2 * m - l2 - z2 < z1 - l2 then 2 * m - l2 - z2 else z1 - l2) = min (z1 - l2) (2 * m - l2 - z2) := by split <;> omega
 rw [em]
 have q1 : min (z1 - l2) (2 * m - l2 - z2) ≤ 1000000 := by omega
 have q2 : -1000000 ≤ min (z1 - l2) (2 * m - l2 - z2) := by omega
 have e1 := Int.mul_le_mul_of_nonneg_left q1 (show 0 ≤ v1 by omega)
 have e2 := Int.mul_le_mul_of_nonneg_left q2 (show 0 ≤ v1 by omega)
 exact ⟨by omega, by omega, by omega, by omega, ⟨by omega, by omega⟩, res hK (by simp [leR])⟩
def F70 : FC := fun args => match args with
 | [.agg [.int .i64 a, .int .i64 b]] => some (True, .bool (decide ((0 ≤ a ∧ a ≤ 100000) ∧ (0 ≤ b ∧ b ≤ 100000))))
 | _ => none
theorem p70 : PureOk Try.prog 70 (fcC F70) := by
 refine pure_of (T := [(65, .fc F42)]) ⟨⟨p65, q65⟩, trivial⟩ Try.func70 k70 ?_
 intro args K hC
 unfold fcC F70 at hC
 split at hC <;> first | (exact hC.elim) | skip
 rename_i h
 split at h <;> first | (cases h; done) | skip
 cases h
 obtain ⟨-, hK⟩ := hC
 simp only [e_reg, e_seq, e_ret, o_nil, o_cons, gd_none, gd_some, gdK_tt, gdK_ft, xRe, putK_e, runK_e, skipK_e, vK_e, boxK_e, conK_e, callK_e, evh_v, evh_box, evh_call, seqK_n, ends_r, endK1_e, endK2_e, gam_e, gamK_f, pc_e, pcK_e, fcC_e, fcK_e, evp, gt, gq, st, putf, X.get, gets, ap, mkfr, rep, rdR, tupled, clV, clL, clS, clo, ld, lda, cs1, gb, pb, ln, lk, undef, Nat.reduceSub, Nat.reduceAdd, beq_self_eq_true, true_and, decide_eq_true_eq, decide_eq_false_iff_not, s70, r70, F42]
 exact ⟨fun h => res hK (by simp [leR, h]), fun h => res hK (by simp [leR, h])⟩
def F73 : FC := fun args => match args with
 | [.agg [.int .i64 a, .int .i64 b], .agg [.int .i64 c, .int .i64 d]] => some (True, .bool (decide (b < d)))
 | _ => none
theorem p73 : PureOk Try.prog 73 (fcC F73) := by
 refine pure_of (T := []) trivial Try.func73 k73 ?_
 intro args K hC
 unfold fcC F73 at hC
 split at hC <;> first | (exact hC.elim) | skip
 rename_i h
 split at h <;> first | (cases h; done) | skip
 cases h
 obtain ⟨-, hK⟩ := hC
 simp only [e_reg, e_seq, e_ret, o_nil, o_cons, gd_none, putK_e, runK_e, vK_e, boxK_e, evh_v, evh_box, seqK_n, ends_r, endK1_e, endK2_e, evp, bin, gt, gq, st, putf, X.get, mkfr, rep, rdR, tupled, clV, clS, clo, ld, lda, cs1, gb, pb, ln, undef, Nat.reduceSub, Nat.reduceAdd, true_and, s73, r73]
 exact res hK (by simp [leR])
end Go.Proofs.Ytgdihdiadlmjiaa
end
section
namespace Go.Proofs.Ytgdihdiadlmjiaa
open Go Go.Vg
set_option maxRecDepth 10000
abbrev Md := Int × Bool
def nz (z : Int) (e : Md) : Int := if e.2 = true then -(e.1 - z) else e.1 - z
def loW (w z : Int) (L : List Md) : Int := L.foldl (fun a e => max a (nz z e - w)) (-10000)
def hiW (w z : Int) (L : List Md) : Int := L.foldl (fun a e => min a (nz z e + w)) 10000
end Go.Proofs.Ytgdihdiadlmjiaa
end
section
namespace Go.Proofs.Ytgdihdiadlmjiaa
open Go Go.Vg
set_option maxRecDepth 10000
structure Tz where
 (t1 t2 u1 u2 : Int)
 f : Bool
def wdL (a x : Int) (f : Bool) : Int := if f then x else min a x
def wdH (b x : Int) (f : Bool) : Int := if f then x else max b x
def Vl.lst (v : Vl) (a : Int) : Int := if a * v.v2 < a * v.v1 then a * v.v2 else a * v.v1
def Vl.mst (v : Vl) (b : Int) : Int := if b * v.v1 < b * v.v2 then b * v.v2 else b * v.v1
def tstep (v : Vl) (L : List Md) (z : Int) (s : Tz) : Tz :=
 if hiW v.w z L < loW v.w z L then s
 else ⟨wdL (wdL s.t1 (v.lst (loW v.w z L)) !s.f) (v.mst (hiW v.w z L)) false, wdH (wdH s.t2 (v.lst (loW v.w z L)) !s.f) (v.mst (hiW v.w z L)) false, wdL s.u1 z !s.f, wdH s.u2 z !s.f, true⟩
def tzN (v : Vl) (L : List Md) : Nat → Tz
 | 0 => ⟨0, 0, 0, 0, false⟩
 | k + 1 => tstep v L (v.z1 + k) (tzN v L k)
def tzA (v : Vl) (L : List Md) : Tz := tzN v L (v.z2 + 1 - v.z1).toNat
end Go.Proofs.Ytgdihdiadlmjiaa
end
section
namespace Go.Proofs.Ytgdihdiadlmjiaa
open Go Go.Vg
set_option maxRecDepth 10000
def s76 : SC :=
 (.seq (.reg [⟨(some 2),none,.box 78 (.t 0)⟩,.w5 4 false]) (.seq (.seq (.reg [.u0 7 1,.w2 8 7,(.w1 9 65 [(.t 8),(.c (.int .i64 (1))),(.c (.int .i64 (8)))]),(.w6 10 (.not (.t 9)))]) (.cond (.t 10) (.seq (.reg [.w5 4 false]) .ret) .skip)) (.seq (.seq (.reg [.u0 11 1,.w2 12 11,.u1 13 (0)]) (.block 0 (.loop (.seq (.reg [.u6 14 .lss 13 12]) (.seq (.cond (.t 14) .skip (.exit 0)) (.seq (.block 1 (.seq (.reg [(.w6 15 (.ixa (.t 11) (.t 13) 3)),.u4 16 15 3,⟨(some 6),none,.new 57 [(.int .i64 (0)),(.int .i64 (0)),(.lit (.bool false))]⟩,.w3 3 6 16]) (.seq (.seq (.reg [.u2 17 6 0,.u3 18 17,.u7 19 .lss 18 (0),.u0 20 19,(.w0 21 20 false (.off (.t 6) 1)),(.w0 22 20 false (.load (.t 21) none)),(.w0 23 20 false (.off (.t 6) 0)),(.w0 24 20 false (.load (.t 23) none)),(.w0 25 20 false (.bin .leq (.t 22) (.t 24))),.u9 26 20 25,.u0 27 26,(.w0 28 27 false (.off (.t 6) 1)),(.w0 29 27 false (.load (.t 28) none)),(.w0 30 27 false (.off (.t 2) 0)),(.w0 31 27 false (.off (.t 30) 0)),(.w0 32 27 false (.load (.t 31) none)),(.w0 33 27 false (.bin .gtr (.t 29) (.t 32))),.u9 34 27 33]) (.cond (.t 34) (.seq (.reg [.w5 4 false]) .ret) .skip)) (.seq (.reg [.u2 35 6 1,.u3 36 35,.u2 37 6 0,.u3 38 37,.u6 39 .sub 36 38,.u2 40 2 0,.u2 41 40 1,.u2 42 41 0,.u3 43 42,.u2 44 2 0,.u2 45 44 7,.u3 46 45,.u6 47 .sub 43 46,.u2 48 2 0,.u2 49 48 1,.u2 50 49 1,.u3 51 50,.u2 52 2 0,.u2 53 52 7,.u3 54 53,.u6 55 .add 51 54,(.w1 56 65 [(.t 39),(.t 47),(.t 55)]),(.w6 57 (.not (.t 56)))]) (.cond (.t 57) (.seq (.reg [.w5 4 false]) .ret) .skip))))) (.reg [.u7 58 .add 13 (1),.u0 13 58]))))))) (.seq (.reg [.w5 4 true]) .ret))))
def r76 : List RV := [.t 4]
theorem k76 : (Try.f76.body.bind (cC Try.prog), cR Try.prog Try.f76.results.toList, Try.f76.ntmps) = (some s76, some r76, 59) := by kernel_rfl
theorem q76 : Known Try.prog 76 := ⟨_, Try.func76, by decide, by simp [Try.f76]⟩
def s47 : SC :=
 (.seq (.reg [⟨(some 2),none,.box 25 (.t 0)⟩,.u1 4 (0)]) (.seq (.seq (.reg [.u4 6 2 8,(.w1 7 18 [(.t 6)]),.u0 5 7]) (.seq (.reg [.u0 8 5,.u7 9 .neq 8 (0)]) (.cond (.t 9) (.seq (.reg [.u0 10 5,.u0 4 10]) .ret) .skip))) (.seq (.seq (.reg [.u4 11 2 8,⟨(some 12),none,.bld [(.int .i64 (0)),(.int .i64 (0)),(.int .i64 (0)),(.int .i64 (0)),(.int .i64 (0)),(.int .i64 (0)),(.int .i64 (0)),(.int .i64 (0))] [(0,8,(.t 11))]⟩,.u0 13 1,(.w1 14 76 [(.t 12),(.t 13)]),(.w6 15 (.not (.t 14)))]) (.cond (.t 15) (.seq (.reg [.u1 4 (31)]) .ret) .skip)) (.seq (.reg [.u1 4 (0)]) .ret))))
def r47 : List RV := [.t 4]
theorem k47 : (Try.f47.body.bind (cC Try.prog), cR Try.prog Try.f47.results.toList, Try.f47.ntmps) = (some s47, some r47, 16) := by kernel_rfl
theorem q47 : Known Try.prog 47 := ⟨_, Try.func47, by decide, by simp [Try.f47]⟩
abbrev Rg := Int × Int × Bool
def r0 : Rg := (0, 0, false)
def rowR (R : List Rg) : Nat → List SV := fun j => [.int .i64 (R.getD j r0).1, .int .i64 (R.getD j r0).2.1, .bool (R.getD j r0).2.2]
def okR (v : Vl) (e : Rg) : Prop := (0 ≤ e.1 ∧ e.1 ≤ v.m) ∧ (e.1 + 1 ≤ e.2.1 ∧ e.2.1 ≤ v.m) ∧ (v.l1 - v.w ≤ e.2.1 - e.1 ∧ e.2.1 - e.1 ≤ v.l2 + v.w)
instance (v : Vl) (e : Rg) : Decidable (okR v e) := by unfold okR; infer_instance
def okRs (v : Vl) (R : List Rg) : Prop := (1 ≤ R.length ∧ R.length ≤ 8) ∧ ∀ e ∈ R, okR v e
instance (v : Vl) (R : List Rg) : Decidable (okRs v R) := by unfold okRs; infer_instance
theorem takeR {R : List Rg} {i : Nat} (h : i < R.length) : R.take (i + 1) = R.take i ++ [R.getD i r0] := by
 rw [List.take_add_one, List.getElem?_eq_getElem h]; simp [List.getD, h]
theorem memR {R : List Rg} {i : Nat} (h : i < R.length) : R.getD i r0 ∈ R := by
 simp [List.getD, h]
theorem allR {v : Vl} {R : List Rg} {i : Nat} (h : i < R.length) : (∀ e ∈ R.take (i + 1), okR v e) ↔ (∀ e ∈ R.take i, okR v e) ∧ okR v (R.getD i r0) := by
 rw [takeR h]
 simp only [List.mem_append, List.mem_singleton]
 exact ⟨fun h => ⟨fun e he => h e (.inl he), h _ (.inr rfl)⟩, fun h e he => he.elim (h.1 e) fun he => he ▸ h.2⟩
def askI (v : Vl) (R : List Rg) : Int := if v.ok then if okRs v R then 0 else 31 else 30
def C51 : PC := fun args K => ∃ (v : Vl) (R : List Rg), args = [v.sv, .rd 3 R.length (rowR R)] ∧ K (.int .i64 (askI v R))
def C76 : PC := fun args K => ∃ (v : Vl) (R : List Rg), args = [v.sv, .rd 3 R.length (rowR R)] ∧ v.ok ∧ K (.bool (decide (okRs v R)))
theorem p76 : PureOk Try.prog 76 C76 := by
 refine pure_of (T := [(65, .fc F42)]) ⟨⟨p65, q65⟩, trivial⟩ Try.func76 k76 ?_
 rintro args K ⟨v, R, rfl, hv, hK⟩
 have hv' := hv
 simp only [Vl.ok] at hv'
 simp only [Vl.sv]
 simp only [e_skip, e_reg, e_seq, e_cond, e_block, e_loop, e_ret, o_nil, o_cons, gd_none, putK_e, runK_e, vK_e, boxK_e, conK_e, callK_e, evh_v, evh_box, evh_call, seqK_n, seqK_r, xNz, ends_r, endK1_e, endK2_e, gam_e, gamK_f, pc_e, pcK_e, fcC_e, fcK_e, evp, gt, st, putf, X.get, gets, ap, mkfr, rep, rdR, tupled, clV, clL, clS, clo, lens, cs1, pb, ln, lk, undef, Bool.not_true, Bool.not_false, Nat.reduceSub, beq_self_eq_true, true_and, decide_eq_true_eq, decide_eq_false_iff_not, Bool.not_eq_eq_eq_not, s76, r76, F42]
 refine ⟨fun h => ?_, fun h => ?_⟩
 ·refine res hK ?_
  have : ¬ okRs v R := fun h3 => by have := h3.1; omega
  simp [leR, this]
 ·refine loop_at2 (G := Nat) (fun g => [(13, .int .i64 g)]) (fun i => [Blk.box 78 v.cells])
   (fun g => g ≤ R.length ∧ ∀ e ∈ R.take g, okR v e) (fun g => R.length - g) 0 ⟨Nat.zero_le _, by simp⟩ ?_
  (intro fr1 hf1; simp only [forget, dstC, dstO, st] at hf1; subst hf1)
  refine ⟨?_, ?_⟩
  ·refine Lw_re 1 [] (Nat.zero_le _) (by simp [ln]) (by simp [ln]) rfl ?_ ?_
   ·simp only [reL, reX, inb, inb.inbs, ln, sts, st, Bool.and_self, Nat.reduceLT, Nat.reduceAdd, decide_true, and_self, Int.natCast_zero, implies_true]
   ·simp only [reL, reX, reH, reB, reN, inb, ln, Nat.reduceAdd, and_self, Vl.cells]
  ·rintro i ⟨hi, hp⟩
   simp only [inr64, e_skip, e_reg, and_self, e_seq, e_cond, e_block, e_exit, e_ret, o_nil, o_cons, gd_none, gd_some, gdK_tf, gdK_ff, xRf, putK_e, runK_e, skipK_e, vK_e, storeK3_e, storeK2_e, storeK_e, conK_e, callK_e, evh_v, evh_new, evh_store, evh_call, loopK_n, loopK_x, loopK_r, seqK_n, seqK_x, seqK_r, condK_t, xNz, exitK_t, blockK_x, blockK_n, blockK_r, ends_r, endK1_e, endK2_e, gam_e, gamK_f, pc_e, pcK_e, fcC_e, fcK_e, evp, bin, gt, gq, st, putf, X.get, gets, ap, rdR, tupled, clV, clL, clS, clo, ld, lda, ixs, tk, dr, sp, sp.spl, ll, cs1, one, allOne, gb, sb, pb, ln, lk, undef, Bool.and_true, Bool.not_true, Bool.not_false, Nat.reduceAdd, beq_self_eq_true, true_and, decide_eq_true_eq, decide_eq_false_iff_not, Bool.not_eq_eq_eq_not, sts, F42, Int.toNat_natCast, rowR, Vl.cells]
   have no : i < R.length → ¬ okR v (R.getD i r0) → ∃ r', K r' ∧ leR 4 (SV.lit (Value.bool false)) r' := fun hi' hn => by
    refine res hK ?_
    have : ¬ okRs v R := fun h3 => hn (h3.2 _ (memR hi'))
    simp [leR, this]
   refine ⟨fun hi1 => ?_, fun hi1 => ?_⟩
   ·have hi' : i < R.length := by omega
    refine ⟨by omega, fun a => ⟨fun b => ⟨fun c => no hi' fun h => by have := h.2.1; omega, fun c => ⟨by omega, by omega, by omega, fun d => no hi' fun h => d h.2.2, fun d => ⟨by omega, ?_⟩⟩⟩, fun b => no hi' fun h => by have := h.2.1; omega⟩, fun a => no hi' fun h => by have := h.1; omega⟩
    refine Nx.mk (i + 1) ⟨by show i + 1 ≤ R.length; omega, (allR hi').2 ⟨hp, ⟨by omega, by omega⟩, ⟨by omega, by omega⟩, d⟩⟩ (by show R.length - (i + 1) < R.length - i; omega) (Lw_re 1 [] (Nat.zero_le _) (by simp [ln]) (by simp [ln]) rfl ?_ ?_)
    ·simp only [reL, reX, inb, inb.inbs, Bool.and_self, Nat.reduceLT, decide_true, and_self, Int.natCast_add, Int.natCast_one, implies_true]
    ·simp only [reL, reX, reH, reB, reN, inb, and_self]
   ·have e : i = R.length := by omega
    subst e
    rw [List.take_length] at hp
    have : okRs v R := ⟨by omega, hp⟩
    exact res hK (by simp [leR, this])
def C47 : PC := C51
theorem p47 : PureOk Try.prog 47 C47 := by
 refine pure_of (T := [(18, .pc C18), (76, .pc C76)]) ⟨⟨p18, q18⟩, ⟨p76, q76⟩, trivial⟩ Try.func47 k47 ?_
 rintro args K ⟨v, R, rfl, hK⟩
 simp only [Vl.sv]
 simp only [e_reg, e_seq, o_nil, o_cons, gd_none, putK_e, runK_e, vK_e, boxK_e, conK_e, callK_e, evh_v, evh_box, evh_call, seqK_n, gam_e, gamK_p, pc_e, pcK_e, evp, bin, gt, st, putf, X.get, gets, ap, mkfr, rep, clV, clL, clS, clo, ld, lda, tk, dr, cs1, gb, pb, ln, lk, undef, Nat.reduceSub, beq_self_eq_true, true_and, s47, r47]
 refine ⟨v, rfl, ?_⟩
 by_cases hv : v.ok
 ·simp only [Vl.chk, if_pos hv]
  simp only [not_true_eq_false, e_skip, e_reg, e_seq, e_cond, e_ret, o_nil, o_cons, gd_none, putK_e, runK_e, vK_e, bldK_e, conK_e, callK_e, evh_v, evh_bld, evh_call, seqK_n, seqK_r, xNz, ends_r, endK1_e, endK2_e, gam_e, gamK_p, pc_e, pcK_e, evp, gt, st, putf, X.get, gets, getp, ap, rdR, tupled, clV, clL, clS, clo, ld, lda, tk, dr, sp, sp.spl, lay, ll, cs1, gb, lk, Bool.not_true, Bool.not_false, Nat.reduceAdd, Nat.reduceBEq, beq_self_eq_true, true_and, decide_eq_true_eq, decide_eq_false_iff_not, Bool.not_eq_eq_eq_not]
  refine ⟨fun h => h.elim, fun _ => ⟨v, R, rfl, hv, ?_⟩⟩
  simp only [e_skip, e_reg, e_seq, e_cond, e_ret, o_nil, o_cons, gd_none, putK_e, runK_e, vK_e, evh_v, seqK_n, seqK_r, xNz, ends_r, endK1_e, endK2_e, evp, gt, st, putf, X.get, rdR, tupled, clV, clS, clo, Bool.not_true, Bool.not_false, true_and, decide_eq_true_eq, decide_eq_false_iff_not, Bool.not_eq_eq_eq_not]
  refine ⟨fun h => res hK ?_, fun h => res hK ?_⟩
  ·simp [leR, askI, hv, h]
  ·simp [leR, askI, hv, h]
 ·simp only [Vl.chk, if_neg hv]
  simp only [e_skip, e_reg, e_seq, e_cond, e_ret, o_nil, o_cons, gd_none, putK_e, runK_e, vK_e, bldK_e, conK_e, callK_e, evh_v, evh_bld, evh_call, seqK_n, seqK_r, xNz, ends_r, endK1_e, endK2_e, gam_e, gamK_p, pc_e, pcK_e, evp, gt, st, putf, X.get, gets, getp, ap, rdR, tupled, clV, clL, clS, clo, ld, lda, tk, dr, sp, sp.spl, lay, ll, cs1, gb, lk, Bool.not_true, Bool.not_false, Nat.reduceAdd, Nat.reduceBEq, beq_self_eq_true, true_and, decide_eq_true_eq, decide_eq_false_iff_not, Bool.not_eq_eq_eq_not]
  exact ⟨fun _ => res hK (by simp [leR, askI, hv]), fun h => absurd h (by decide)⟩
end Go.Proofs.Ytgdihdiadlmjiaa
end
section
namespace Go.Vg
open Go
theorem leRs4_ok {w : World} {im : Nat → Prop} {n : Nat} : ∀ {xs ys : List SV} {vs : List Value}, leR.leRs n xs ys → Cvs w im xs vs → Cvs w im ys vs
 | [], ys, vs, h, hx => by cases ys <;> simp only [leR.leRs] at h; exact hx
 | x :: xs, ys, vs, h, hx => by
  cases ys <;> simp only [leR.leRs] at h
  cases hx with
  | cons _ v _ vs hx hr => exact .cons _ _ _ _ (leR_ok n h.1 hx) (leRs4_ok h.2 hr)
def leA (x y : SV) : Prop := leR 4 x y ∨ ∃ sz len f g, x = .rd sz len f ∧ y = .rd sz len g ∧ ∀ i, i < len → leR.leRs 4 (f i) (g i)
theorem leA_ok {w : World} {im : Nat → Prop} {x y : SV} {v : Value} (h : leA x y) (hx : Cv w im x v) : Cv w im y v := by
 rcases h with h | ⟨sz, len, f, g, rfl, rfl, h⟩
 ·exact leR_ok 4 h hx
 ·cases hx with
  | rdNil => exact .rdNil _ _
  | rdE => exact .rdE _ _ _ _
  | rd _ _ _ b off cap vs hb h1 h2 h3 h4 => exact .rd _ _ _ b off cap vs hb (fun i hi => leRs4_ok (h i hi) (h1 i hi)) h2 h3 h4
def leAs : List SV → List SV → Prop
 | [], [] => True
 | x :: a, y :: b => leA x y ∧ leAs a b
 | _, _ => False
theorem leAs_ok {w : World} {im : Nat → Prop} : ∀ {xs ys : List SV} {vs : List Value}, leAs xs ys → Cvs w im xs vs → Cvs w im ys vs
 | [], ys, vs, h, hx => by cases ys <;> simp only [leAs] at h; exact hx
 | x :: xs, ys, vs, h, hx => by
  cases ys <;> simp only [leAs] at h
  cases hx with
  | cons _ v _ vs hx hr => exact .cons _ _ _ _ (leA_ok h.1 hx) (leAs_ok h.2 hr)
def PC.le (C : PC) : PC := fun args K => ∃ args', leAs args args' ∧ C args' K
theorem PureOk.le {P : Program} {f : FuncId} {C : PC} (h : PureOk P f C) : PureOk P f C.le :=
 fun w im _ vs K hb hv ⟨args', hl, hc⟩ => h w im args' vs K hb (leAs_ok hl hv) hc
end Go.Vg
end
section
namespace Go.Proofs.Ytgdihdiadlmjiaa
open Go Go.Vg
set_option maxRecDepth 10000
def fltN (v : Vl) : Nat → Int
 | 0 => 0
 | k + 1 => if (tzA v [(v.l2 + k, false)]).f = true then (if fltN v k < (tzA v [(v.l2 + k, false)]).t2 - (tzA v [(v.l2 + k, false)]).t1 then (tzA v [(v.l2 + k, false)]).t2 - (tzA v [(v.l2 + k, false)]).t1 else fltN v k) else fltN v k
def flt (v : Vl) : Int := fltN v (2 * v.m + 1 - 2 * v.l2).toNat
def F92 : FC := fun args => match args with
 | [.agg [.int .i64 m, .int .i64 l1, .int .i64 l2, .int .i64 v1, .int .i64 v2, .int .i64 z1, .int .i64 z2, .int .i64 w]] => some (Vl.ok ⟨m, l1, l2, v1, v2, z1, z2, w⟩, .int .i64 (flt ⟨m, l1, l2, v1, v2, z1, z2, w⟩))
 | _ => none
end Go.Proofs.Ytgdihdiadlmjiaa
end
section
namespace Go.Proofs.Ytgdihdiadlmjiaa
open Go Go.Vg
set_option maxRecDepth 10000
def doesP (v : Vl) (r f : Int) : Prop := (0 ≤ 2 * v.m - v.l2 - v.z2 ∧ 0 ≤ v.z1 - v.l2) ∧ r ≤ v.v1 * min (2 * v.m - v.l2 - v.z2) (v.z1 - v.l2) ∧ flt v ≤ f
instance (v : Vl) (r f : Int) : Decidable (doesP v r f) := by unfold doesP; infer_instance
abbrev v0 : Vl := ⟨0, 0, 0, 0, 0, 0, 0, 0⟩
def rowV (V : List Vl) : Nat → List SV := fun j => (V.getD j v0).cells
def stkP (V : List Vl) (p : List Int) (r f : Int) : Prop := ((1 ≤ V.length ∧ V.length ≤ 10) ∧ p.length = V.length ∧ (0 ≤ r ∧ r ≤ 100000) ∧ (0 ≤ f ∧ f ≤ 100000)) ∧ ∀ i, i < V.length → (V.getD i v0).ok ∧ 0 ≤ p.getD i 0 ∧ p.getD i 0 ≤ 1000
def chsN (V : List Vl) (p : List Int) (r f : Int) : Nat → Int
 | 0 => -1
 | i + 1 => if doesP (V.getD i v0) r f ∧ (chsN V p r f i < 0 ∨ p.getD i 0 < p.getD (chsN V p r f i).toNat 0) then i else chsN V p r f i
theorem chs_b (V : List Vl) (p : List Int) (r f : Int) : ∀ i : Nat, -1 ≤ chsN V p r f i ∧ chsN V p r f i < i
 | 0 => by simp [chsN]
 | i + 1 => by
  have := chs_b V p r f i
  rw [chsN]
  split <;> omega
def C31 : PC := fun args K => ∃ (V : List Vl) (p : List Int) (r f : Int), args = [.rd 8 V.length (rowV V), .ints .i64 p, .agg [.int .i64 r, .int .i64 f]] ∧
 (stkP V p r f → 0 ≤ chsN V p r f V.length → K (.tup [.int .i64 (chsN V p r f V.length), .int .i64 0])) ∧
 (stkP V p r f → chsN V p r f V.length < 0 → K (.tup [.int .i64 0, .int .i64 4])) ∧
 (¬ stkP V p r f → K (.tup [.int .i64 0, .int .i64 34]))
end Go.Proofs.Ytgdihdiadlmjiaa
end
section
namespace Go.Proofs.Ytgdihdiadlmjiaa
open Go Go.Vg
set_option maxRecDepth 10000
def s69 : SC :=
 (.seq (.reg [.w5 4 false]) (.seq (.seq (.reg [.u0 7 0,.w2 8 7,(.w1 9 65 [(.t 8),(.c (.int .i64 (1))),(.c (.int .i64 (10)))]),(.w6 10 (.not (.t 9))),.u0 11 10,(.w0 12 11 false (.mov (.t 1))),(.w0 13 11 false (.len (.t 12))),(.w0 14 11 false (.mov (.t 0))),(.w0 15 11 false (.len (.t 14))),(.w0 16 11 false (.bin .neq (.t 13) (.t 15))),.u9 17 11 16]) (.cond (.t 17) (.seq (.reg [.w5 4 false]) .ret) .skip)) (.seq (.seq (.reg [.u0 18 0,.w2 19 18,.u1 20 (0)]) (.block 0 (.loop (.seq (.reg [.u6 21 .lss 20 19]) (.seq (.cond (.t 21) .skip (.exit 0)) (.seq (.block 1 (.seq (.reg [.u0 22 20,(.w6 23 (.ixa (.t 18) (.t 20) 8)),.u4 24 23 8,⟨(some 6),none,.new 25 [(.int .i64 (0)),(.int .i64 (0)),(.int .i64 (0)),(.int .i64 (0)),(.int .i64 (0)),(.int .i64 (0)),(.int .i64 (0)),(.int .i64 (0))]⟩,.u0 5 22,.w3 8 6 24]) (.seq (.reg [.u4 25 6 8,⟨(some 26),none,.bld [(.int .i64 (0)),(.int .i64 (0)),(.int .i64 (0)),(.int .i64 (0)),(.int .i64 (0)),(.int .i64 (0)),(.int .i64 (0)),(.int .i64 (0))] [(0,8,(.t 25))]⟩,(.w1 27 54 [(.t 26)]),(.w6 28 (.not (.t 27))),.u0 29 28,(.w0 30 29 false (.mov (.t 1))),(.w0 31 29 false (.mov (.t 5))),(.w0 32 29 false (.ixa (.t 30) (.t 31) 1)),(.w0 33 29 false (.load (.t 32) none)),⟨(some 34),(some (29,false)),.call (.c (.fn 65 [])) [(.t 33),(.c (.int .i64 (0))),(.c (.int .i64 (1000)))]⟩,(.w0 35 29 false (.not (.t 34))),.u9 36 29 35]) (.cond (.t 36) (.seq (.reg [.w5 4 false]) .ret) .skip)))) (.reg [.u7 37 .add 20 (1),.u0 20 37]))))))) (.seq (.reg [.w5 4 true]) .ret))))
def r69 : List RV := [.t 4]
theorem k69 : (Try.f69.body.bind (cC Try.prog), cR Try.prog Try.f69.results.toList, Try.f69.ntmps) = (some s69, some r69, 38) := by kernel_rfl
theorem q69 : Known Try.prog 69 := ⟨_, Try.func69, by decide, by simp [Try.f69]⟩
def s91 : SC :=
 (.seq (.reg [⟨(some 2),none,.box 78 (.t 0)⟩,⟨(some 3),none,.box 49 (.t 1)⟩,.w5 4 false]) (.seq (.drw [(0,.u4 5 2 8,false),(1,.u2 6 3 0,false),(2,.u3 7 6,false),(3,(.w1 8 99 [(.t 5),(.t 7)]),false),(4,.u0 9 8,true),(5,(.w0 10 9 true (.load (.t 2) (some 8))),false),(6,⟨(some 11),(some (9,true)),.call (.c (.fn 100 [])) [(.t 10)]⟩,false),(7,(.w0 12 9 true (.off (.t 3) 1)),false),(8,(.w0 13 9 true (.load (.t 12) none)),false)] none [(.w0 14 9 true (.bin .leq (.t 11) (.t 13))),.u8 15 9 14,.u0 4 15]) .ret))
def r91 : List RV := [.t 4]
theorem k91 : (Try.f91.body.bind (cC Try.prog), cR Try.prog Try.f91.results.toList, Try.f91.ntmps) = (some s91, some r91, 16) := by kernel_rfl
theorem q91 : Known Try.prog 91 := ⟨_, Try.func91, by decide, by simp [Try.f91]⟩
def s71 : SC :=
 (.seq (.reg [⟨(some 5),none,.box 49 (.t 2)⟩,(.w6 6 (.mov (.c (.lit (.slice none 0 0)))))]) (.seq (.reg [(.w6 7 (.mov (.c (.lit (.slice none 0 0)))))]) (.seq (.seq (.reg [.u0 10 0,.w2 11 10,.u1 12 (0)]) (.block 0 (.loop (.seq (.reg [.u6 13 .lss 12 11]) (.seq (.cond (.t 13) .skip (.exit 0)) (.seq (.block 1 (.seq (.reg [.u0 14 12,(.w6 15 (.ixa (.t 10) (.t 12) 8)),.u4 16 15 8,⟨(some 9),none,.new 25 [(.int .i64 (0)),(.int .i64 (0)),(.int .i64 (0)),(.int .i64 (0)),(.int .i64 (0)),(.int .i64 (0)),(.int .i64 (0)),(.int .i64 (0))]⟩,.u0 8 14,.w3 8 9 16]) (.seq (.reg [.u4 17 9 8,⟨(some 18),none,.bld [(.int .i64 (0)),(.int .i64 (0)),(.int .i64 (0)),(.int .i64 (0)),(.int .i64 (0)),(.int .i64 (0)),(.int .i64 (0)),(.int .i64 (0))] [(0,8,(.t 17))]⟩,.u4 19 5 2,(.w1 20 91 [(.t 18),(.t 19)])]) (.cond (.t 20) (.reg [.u0 21 7,.u0 22 8,.u0 23 1,.u0 24 8,(.w6 25 (.ixa (.t 23) (.t 24) 1)),.u3 26 25,⟨(some 27),none,.bld [(.int .i64 (0)),(.int .i64 (0))] [(0,1,(.t 22)),(1,1,(.t 26))]⟩,⟨(some 28),none,.bsl 107 1 [(.int .i64 (0)),(.int .i64 (0))] [(0,2,(.t 27))]⟩,⟨(some 29),none,.app 107 2 16 (.t 21) (.t 28)⟩,.u0 7 29]) .skip)))) (.reg [.u7 30 .add 12 (1),.u0 12 30]))))))) (.seq (.reg [.u0 31 7,.u0 6 31]) .ret))))
def r71 : List RV := [.t 6]
theorem k71 : (Try.f71.body.bind (cC Try.prog), cR Try.prog Try.f71.results.toList, Try.f71.ntmps) = (some s71, some r71, 32) := by kernel_rfl
theorem q71 : Known Try.prog 71 := ⟨_, Try.func71, by decide, by simp [Try.f71]⟩
def s72 : SC :=
 (.seq (.reg [⟨(some 4),none,.box 107 (.t 1)⟩,⟨(some 6),none,.new 107 [(.int .i64 (0)),(.int .i64 (0))]⟩]) (.seq (.seq (.reg [.u0 9 2,.w2 10 9,.u1 11 (0)]) (.block 0 (.loop (.seq (.reg [.u6 12 .lss 11 10]) (.seq (.cond (.t 12) .skip (.exit 0)) (.seq (.block 1 (.seq (.reg [(.w6 13 (.ixa (.t 9) (.t 11) 2)),.u4 14 13 2,⟨(some 8),none,.new 107 [(.int .i64 (0)),(.int .i64 (0))]⟩,.w3 2 8 14]) (.seq (.reg [.u0 15 0,.u4 16 8 2,.u4 17 4 2,⟨(some 18),none,.call (.t 15) [(.t 16),(.t 17)]⟩]) (.cond (.t 18) (.reg [.u4 19 8 2,.w3 2 4 19]) .skip)))) (.reg [.u7 20 .add 11 (1),.u0 11 20]))))))) (.seq (.reg [.u4 21 4 2,.w3 2 6 21]) .ret)))
def r72 : List RV := [.c 6 (some 2)]
theorem k72 : (Try.f72.body.bind (cC Try.prog), cR Try.prog Try.f72.results.toList, Try.f72.ntmps) = (some s72, some r72, 22) := by kernel_rfl
theorem q72 : Known Try.prog 72 := ⟨_, Try.func72, by decide, by simp [Try.f72]⟩
def s30 : SC :=
 (.seq (.reg [⟨(some 5),none,.box 49 (.t 2)⟩,.u1 6 (0),.u1 7 (0)]) (.seq (.seq (.reg [.u0 9 0,.u0 10 1,(.w1 11 69 [(.t 9),(.t 10)]),(.w6 12 (.not (.t 11))),.u0 13 12,(.w0 14 13 false (.load (.t 5) (some 2))),⟨(some 15),(some (13,false)),.call (.c (.fn 70 [])) [(.t 14)]⟩,(.w0 16 13 false (.not (.t 15))),.u9 17 13 16]) (.cond (.t 17) (.seq (.reg [.u1 6 (0),.u1 7 (34)]) .ret) .skip)) (.seq (.reg [.u0 18 0,.u0 19 1,.u4 20 5 2,(.w1 21 71 [(.t 18),(.t 19),(.t 20)]),.u0 8 21]) (.seq (.seq (.reg [.u0 22 8,.w2 23 22,.u7 24 .eql 23 (0)]) (.cond (.t 24) (.seq (.reg [.u1 6 (0),.u1 7 (4)]) .ret) .skip)) (.seq (.shut [8,25,26,28,27,29,30,31] (.drw [(0,.u0 25 8,false),(1,(.w6 26 (.ixa (.t 25) (.c (.int .i64 (0))) 2)),false),(2,.u4 27 26 2,false),(3,.u0 28 8,false),(4,⟨(some 29),none,.slc (.t 28) (some (.c (.int .i64 (1)))) none none 2⟩,false)] none [(.w1 30 72 [(.c (.fn 73 [])),(.t 27),(.t 29)]),(.w6 31 (.fld (.t 30) 0 none)),.u0 6 31,.u1 7 (0)])) .ret)))))
def r30 : List RV := [.t 6, .t 7]
theorem k30 : (Try.f30.body.bind (cC Try.prog), cR Try.prog Try.f30.results.toList, Try.f30.ntmps) = (some s30, some r30, 32) := by kernel_rfl
theorem q30 : Known Try.prog 30 := ⟨_, Try.func30, by decide, by simp [Try.f30]⟩
def F54 : FC := fun args => match args with
 | [.agg [.int .i64 m, .int .i64 l1, .int .i64 l2, .int .i64 v1, .int .i64 v2, .int .i64 z1, .int .i64 z2, .int .i64 w]] => some (True, .bool (decide (Vl.ok ⟨m, l1, l2, v1, v2, z1, z2, w⟩)))
 | _ => none
theorem p54f : PureOk Try.prog 54 (fcC F54) := by
 intro w im args vs K hb hv hC
 refine p54 w im args vs K hb hv ?_
 unfold fcC F54 at hC
 split at hC <;> first | (exact hC.elim) | skip
 rename_i h
 split at h <;> first | (cases h; done) | skip
 cases h
 exact ⟨⟨_, _, _, _, _, _, _, _⟩, rfl, hC.2⟩
def F99 : FC := fun args => match args with
 | [.agg [.int .i64 m, .int .i64 l1, .int .i64 l2, .int .i64 v1, .int .i64 v2, .int .i64 z1, .int .i64 z2, .int .i64 w], .int .i64 t] => some (Vl.ok ⟨m, l1, l2, v1, v2, z1, z2, w⟩, .bool (decide (Vl.rch ⟨m, l1, l2, v1, v2, z1, z2, w⟩ t)))
 | _ => none
theorem p99f : PureOk Try.prog 99 (fcC F99) := by
 intro w im args vs K hb hv hC
 refine p99 w im args vs K hb hv ?_
 unfold fcC F99 at hC
 split at hC <;> first | (exact hC.elim) | skip
 rename_i h
 split at h <;> first | (cases h; done) | skip
 cases h
 exact ⟨⟨_, _, _, _, _, _, _, _⟩, _, rfl, hC.1, hC.2⟩
def F91 : FC := fun args => match args with
 | [.agg [.int .i64 m, .int .i64 l1, .int .i64 l2, .int .i64 v1, .int .i64 v2, .int .i64 z1, .int .i64 z2, .int .i64 w], .agg [.int .i64 r, .int .i64 f]] => some (Vl.ok ⟨m, l1, l2, v1, v2, z1, z2, w⟩ ∧ 0 ≤ r, .bool (decide (doesP ⟨m, l1, l2, v1, v2, z1, z2, w⟩ r f)))
 | _ => none
theorem rch_iff {v : Vl} {r f : Int} (hv : v.ok) (hr : 0 ≤ r) : (v.rch r ∧ flt v ≤ f) ↔ doesP v r f := by
 simp only [Vl.ok] at hv
 unfold Vl.rch doesP
 rw [show min (v.z1 - v.l2) (2 * v.m - v.l2 - v.z2) = min (2 * v.m - v.l2 - v.z2) (v.z1 - v.l2) by omega]
 refine ⟨fun ⟨h1, h2⟩ => ⟨?_, h1, h2⟩, fun h => h.2⟩
 have : 0 ≤ min (2 * v.m - v.l2 - v.z2) (v.z1 - v.l2) := by
  apply Classical.byContradiction
  intro hn
  have := Int.mul_neg_of_pos_of_neg (show 0 < v.v1 by omega) (show min (2 * v.m - v.l2 - v.z2) (v.z1 - v.l2) < 0 by omega)
  omega
 omega
theorem q100 : Known Try.prog 100 := ⟨_, Try.func100, by decide, by simp [Try.f100]⟩
theorem p91 (p100 : PureOk Try.prog 100 (fcC F92)) : PureOk Try.prog 91 (fcC F91) := by
 refine pure_of (T := [(99, .fc F99), (100, .fc F92)]) ⟨⟨p99f, q99⟩, ⟨p100, q100⟩, trivial⟩ Try.func91 k91 ?_
 intro args K hC
 unfold fcC F91 at hC
 split at hC <;> first | (exact hC.elim) | skip
 rename_i h
 split at h <;> first | (cases h; done) | skip
 rename_i m l1 l2 v1 v2 z1 z2 w r f
 cases h
 obtain ⟨⟨hv, hr⟩, hK⟩ := hC
 have hx := rch_iff (f := f) hv hr
 simp only [e_reg, e_drw, e_seq, e_ret, o_nil, o_cons, gd_none, gd_some, gdK_tt, gdK_ft, putK_e, runK_e, skipK_e, vK_e, boxK_e, evh_v, evh_box, dX_e, dX_b, dG_t, dG_f, d_nil, d_cons, tlK_n, seqK_n, ends_r, endK1_e, endK2_e, gamq_e, gamqK_f, evp, bin, gt, gq, st, putf, X.get, gets, ap, mkfr, rep, rdR, tupled, clV, clS, clo, clo.clos, ld, lda, tk, dr, cs1, gb, pb, ln, lk, evq, gdl, undef, Bool.and_true, Bool.not_true, Nat.reduceSub, Nat.reduceAdd, Nat.reduceBEq, beq_self_eq_true, true_and, decide_eq_true_eq, decide_eq_false_iff_not, s91, r91, F92, F99]
 have hn : ¬ doesP ⟨m, l1, l2, v1, v2, z1, z2, w⟩ r f → ∃ r', K r' ∧ leR 4 (SV.lit (.bool false)) r' := fun h => by rw [decide_eq_false h] at hK; exact res hK (by simp [leR])
 refine ⟨hv, fun a => ⟨hv, res hK ?_⟩, fun a => hn fun h => a (hx.2 h).1⟩
 simp only [leR]
 rw [decide_eq_decide, ← hx]
 exact ⟨fun h => ⟨a, h⟩, fun h => h.2⟩
def stkC (V : List Vl) (p : List Int) : Prop := ((1 ≤ V.length ∧ V.length ≤ 10) ∧ p.length = V.length) ∧ ∀ i, i < V.length → (V.getD i v0).ok ∧ 0 ≤ p.getD i 0 ∧ p.getD i 0 ≤ 1000
def C69 : PC := fun args K => ∃ (V : List Vl) (p : List Int), args = [.rd 8 V.length (rowV V), .ints .i64 p] ∧ (stkC V p → K (.bool true)) ∧ (¬ stkC V p → K (.bool false))
theorem p69 : PureOk Try.prog 69 C69 := by
 refine pure_of (T := [(65, .fc F42), (54, .fc F54)]) ⟨⟨p65, q65⟩, ⟨p54f, q54⟩, trivial⟩ Try.func69 k69 ?_
 rintro args K ⟨V, p, rfl, hK1, hK2⟩
 simp only [e_skip, e_reg, e_seq, e_cond, e_block, e_loop, e_ret, o_nil, o_cons, gd_none, gd_some, gdK_tf, gdK_ff, xRf, putK_e, runK_e, skipK_e, vK_e, conK_e, callK_e, evh_v, evh_call, seqK_n, seqK_r, condK_t, xNz, ends_r, endK1_e, endK2_e, gam_e, gamK_f, pc_e, pcK_e, fcC_e, fcK_e, evp, bin, gt, st, putf, X.get, gets, ap, mkfr, rep, rdR, tupled, clV, clL, clS, clo, lens, lk, undef, Bool.not_true, Bool.not_false, Nat.reduceSub, beq_self_eq_true, true_and, decide_eq_true_eq, decide_eq_false_iff_not, Bool.not_eq_eq_eq_not, s69, r69, F42]
 have nf : ¬ stkC V p → ∃ r', K r' ∧ leR 4 (SV.lit (.bool false)) r' := fun h => res (hK2 h) (by simp [leR])
 refine ⟨fun g1 => ⟨fun g2 => nf fun h => g2 (by have := h.1.2; omega), fun g2 => ?_⟩, fun g1 => nf fun h => g1 (by have := h.1.1; omega)⟩
 refine loop_at2 (G := Nat) (fun i => [(20, .int .i64 i)]) (fun _ => []) (fun i => i ≤ V.length ∧ ∀ j, j < i → (V.getD j v0).ok ∧ 0 ≤ p.getD j 0 ∧ p.getD j 0 ≤ 1000) (fun i => V.length - i) 0 ⟨Nat.zero_le _, fun j hj => absurd hj (by omega)⟩ ?_
 (intro fr1 hf1; simp only [forget, dstC, dstO, st] at hf1; subst hf1)
 refine ⟨?_, ?_⟩
 ·refine Lw_re 0 [] (Nat.zero_le _) (by simp [ln]) (by simp [ln]) rfl ?_ ?_
  ·simp only [reL, reX, inb, ln, sts, st, and_self, Int.natCast_zero, implies_true]
  ·simp only [reH, reN]
 ·rintro i ⟨hi, hp⟩
  simp only [inr64, e_skip, e_reg, and_self, e_seq, e_cond, e_block, e_exit, e_ret, o_nil, o_cons, gd_none, gd_some, gdK_tf, gdK_ff, xRf, putK_e, runK_e, skipK_e, vK_e, bldK_e, storeK3_e, storeK2_e, storeK_e, conK_e, callK_e, evh_v, evh_new, evh_bld, evh_store, evh_call, loopK_n, loopK_x, loopK_r, seqK_n, seqK_x, seqK_r, condK_t, xNz, exitK_t, blockK_x, blockK_n, blockK_r, ends_r, endK1_e, endK2_e, gam_e, gamK_f, pc_e, pcK_e, fcC_e, fcK_e, evp, bin, gt, gq, st, putf, X.get, gets, getp, ap, rdR, tupled, clV, clL, clS, clo, ld, lda, ixs, tk, dr, sp, sp.spl, lay, ll, cs1, one, allOne, gb, sb, pb, ln, lk, undef, Bool.and_true, Bool.not_true, Bool.not_false, Nat.reduceAdd, Nat.reduceBEq, beq_self_eq_true, true_and, decide_eq_true_eq, decide_eq_false_iff_not, Bool.not_eq_eq_eq_not, sts, F42, F54, Int.toNat_natCast, rowV, Vl.cells]
  refine ⟨fun h => ?_, fun h => ?_⟩
  ·have hi' : i < V.length := by omega
   refine ⟨by omega, fun a => ⟨by omega, fun b => ?_, fun b => ⟨by omega, ?_⟩⟩, fun a => ?_⟩
   ·exact nf fun h => b (h.2 i hi').2
   ·refine Nx.mk (i + 1) ⟨by show i + 1 ≤ V.length; omega, fun j hj => ?_⟩ (by show V.length - (i + 1) < V.length - i; omega) (Lw_re 0 [] (Nat.zero_le _) (by simp [ln]) (by simp [ln]) rfl ?_ ?_)
    ·by_cases e : j = i
     ·subst e; exact ⟨a, b⟩
     ·exact hp j (by omega)
    ·simp only [reL, reX, inb, and_self, Int.natCast_add, Int.natCast_one, implies_true]
    ·simp only [reH, reN]
   ·exact nf fun h => a (h.2 i hi').1
  ·refine res (hK1 ⟨by omega, fun j hj => hp j (by omega)⟩) (by simp [leR])
def pick2 (a b : Nat → Int) (x y : Int) : Nat → Int × Int
 | 0 => (x, y)
 | j + 1 => if b j < (pick2 a b x y j).2 then (a j, b j) else pick2 a b x y j
def C72 : PC := fun args K => ∃ (n : Nat) (a b : Nat → Int) (x y : Int), args = [.fn 73 [], .agg [.int .i64 x, .int .i64 y], .rd 2 n fun j => [.int .i64 (a j), .int .i64 (b j)]] ∧ n ≤ 100 ∧
 K (.agg [.int .i64 (pick2 a b x y n).1, .int .i64 (pick2 a b x y n).2])
theorem p72 : PureOk Try.prog 72 C72 := by
 refine pure_of (T := [(73, .fc F73)]) ⟨⟨p73, q73⟩, trivial⟩ Try.func72 k72 ?_
 rintro args K ⟨n, a, b, x, y, rfl, hn, hK⟩
 simp only [e_reg, e_seq, e_block, e_loop, o_nil, o_cons, gd_none, putK_e, runK_e, vK_e, boxK_e, evh_v, evh_new, evh_box, seqK_n, evp, gt, st, putf, X.get, mkfr, rep, lens, cs1, pb, ln, undef, Nat.reduceSub, Nat.reduceAdd, true_and, s72, r72]
 refine loop_at2 (G := Nat) (fun i => [(11, .int .i64 i)]) (fun i => [Blk.box 107 [.int .i64 (pick2 a b x y i).1, .int .i64 (pick2 a b x y i).2], Blk.box 107 [.int .i64 0, .int .i64 0]]) (fun i => i ≤ n) (fun i => n - i) 0 (Nat.zero_le _) ?_
 (intro fr1 hf1; simp only [forget, dstC, dstO, st] at hf1; subst hf1)
 refine ⟨?_, ?_⟩
 ·refine Lw_re 2 [] (Nat.zero_le _) (by simp [ln]) (by simp [ln]) rfl ?_ ?_
  ·simp only [reL, reX, inb, inb.inbs, ln, sts, st, Bool.and_self, Nat.reduceLT, Nat.reduceAdd, decide_true, and_self, Int.natCast_zero, implies_true]
  ·simp only [reL, reX, reH, reB, reN, inb, and_self, pick2]
 ·intro i hi
  simp only [inr64, e_skip, e_reg, and_self, e_seq, e_cond, e_block, e_exit, e_ret, o_nil, o_cons, gd_none, putK_e, runK_e, vK_e, storeK3_e, storeK2_e, storeK_e, conK_e, callK_e, evh_v, evh_new, evh_store, evh_call, loopK_n, loopK_x, seqK_n, seqK_x, xNz, exitK_t, blockK_x, blockK_n, ends_r, endK1_e, endK2_e, gam_e, gamK_f, pc_e, pcK_e, fcC_e, fcK_e, evp, bin, gt, st, putf, X.get, gets, ap, rdR, tupled, clV, clL, clS, clo, ld, lda, ixs, tk, dr, sp, sp.spl, ll, cs1, one, allOne, gb, sb, pb, ln, lk, Bool.and_true, Nat.reduceAdd, beq_self_eq_true, true_and, decide_eq_true_eq, decide_eq_false_iff_not, sts, F73, Int.toNat_natCast]
  refine ⟨fun h => ?_, fun h => ?_⟩
  ·refine ⟨by omega, fun c => ⟨by omega, ?_⟩, fun c => ⟨by omega, ?_⟩⟩
   ·have e : pick2 a b x y (i + 1) = (a i, b i) := by rw [pick2, if_pos c]
    refine Nx.mk (i + 1) (by show i + 1 ≤ n; omega) (by show n - (i + 1) < n - i; omega) (Lw_re 2 [] (Nat.zero_le _) (by simp [ln]) (by simp [ln]) rfl ?_ ?_)
    ·simp only [reL, reX, inb, inb.inbs, Bool.and_self, Nat.reduceLT, decide_true, and_self, Int.natCast_add, Int.natCast_one, implies_true]
    ·simp only [reL, reX, reH, reB, reN, inb, and_self, e]
   ·have e : pick2 a b x y (i + 1) = pick2 a b x y i := by rw [pick2, if_neg c]
    refine Nx.mk (i + 1) (by show i + 1 ≤ n; omega) (by show n - (i + 1) < n - i; omega) (Lw_re 2 [] (Nat.zero_le _) (by simp [ln]) (by simp [ln]) rfl ?_ ?_)
    ·simp only [reL, reX, inb, inb.inbs, Bool.and_self, Nat.reduceLT, decide_true, and_self, Int.natCast_add, Int.natCast_one, implies_true]
    ·simp only [reL, reX, reH, reB, reN, inb, and_self, e]
  ·have e : i = n := by omega
   subst e
   exact res hK (by simp [leR, leR.leRs])
end Go.Proofs.Ytgdihdiadlmjiaa
end
section
namespace Go.Proofs.Ytgdihdiadlmjiaa
open Go Go.Vg
set_option maxRecDepth 10000
def rowP (O : List (Int × Int)) : Nat → List SV := fun j => [.int .i64 (O.getD j (0, 0)).1, .int .i64 (O.getD j (0, 0)).2]
def offN (V : List Vl) (p : List Int) (r f : Int) : Nat → List (Int × Int)
 | 0 => []
 | i + 1 => if doesP (V.getD i v0) r f then offN V p r f i ++ [((i : Int), p.getD i 0)] else offN V p r f i
theorem offN_len (V : List Vl) (p : List Int) (r f : Int) : ∀ i, (offN V p r f i).length ≤ i
 | 0 => by simp [offN]
 | i + 1 => by
  have := offN_len V p r f i
  rw [offN]
  split
  ·simp only [List.length_append, List.length_singleton]; omega
  ·omega
def C71 : PC := fun args K => ∃ (V : List Vl) (p : List Int) (r f : Int), args = [.rd 8 V.length (rowV V), .ints .i64 p, .agg [.int .i64 r, .int .i64 f]] ∧ (stkC V p ∧ 0 ≤ r) ∧
 K (.rd 2 (offN V p r f V.length).length (rowP (offN V p r f V.length)))
theorem p71 (p100 : PureOk Try.prog 100 (fcC F92)) : PureOk Try.prog 71 C71 := by
 refine pure_of (T := [(91, .fc F91)]) ⟨⟨p91 p100, q91⟩, trivial⟩ Try.func71 k71 ?_
 rintro args K ⟨V, p, r, f, rfl, ⟨hs, hr⟩, hK⟩
 obtain ⟨⟨g1, g2⟩, g3⟩ := hs
 simp only [e_reg, e_seq, e_block, e_loop, o_nil, o_cons, gd_none, putK_e, runK_e, vK_e, boxK_e, evh_v, evh_box, seqK_n, evp, gt, st, putf, X.get, mkfr, rep, lens, cs1, pb, ln, undef, Nat.reduceSub, true_and, s71, r71]
 refine loop_at2 (G := Nat) (fun i => [(12, .int .i64 i), (7, .own 1)]) (fun i => [Blk.box 49 [.int .i64 r, .int .i64 f], .orw 107 2 (offN V p r f i).length (rowP (offN V p r f i))]) (fun i => i ≤ V.length) (fun i => V.length - i) 0 (Nat.zero_le _) ?_
 (intro fr1 hf1; simp only [forget, dstC, dstO, st] at hf1; subst hf1)
 refine ⟨?_, ?_⟩
 ·refine Lw_re 1 [none] (Nat.zero_le _) (by simp [ln]) (by simp [ln]) rfl ?_ ?_
  ·simp only [reL, reX, rn, List.getElem?_cons_zero, Nat.reduceSub, Nat.lt_irrefl, Nat.le_refl, reduceCtorEq, or_true, inb, inb.inbs, ln, sts, st, Bool.and_self, Nat.reduceLT, Nat.reduceAdd, decide_true, and_self, Int.natCast_zero, implies_true]
  ·simp only [reL, reX, reH, reB, reN, newB, inb, and_self, offN, List.length_nil]
 ·intro i hi
  simp only [inr64, ↓reduceIte, e_skip, e_reg, and_self, e_seq, e_cond, e_block, e_exit, e_ret, o_nil, o_cons, gd_none, putK_e, runK_e, vK_e, bslK_e, bldK_e, storeK3_e, storeK2_e, storeK_e, appK2_or, appK_e, conK_e, callK_e, evh_v, evh_new, evh_bsl, evh_bld, evh_store, evh_app, evh_call, loopK_n, loopK_x, seqK_n, seqK_x, xNz, exitK_t, blockK_x, blockK_n, ends_r, endK1_e, endK2_e, gam_e, gamK_f, pc_e, pcK_e, fcC_e, fcK_e, evp, bin, gt, gq, st, putf, X.get, gets, getp, ap, rdR, tupled, clV, clL, clS, clo, clo.clos, ld, lda, ixs, tk, dr, sp, sp.spl, lay, ll, cs1, one, allOne, gb, sb, pb, ln, lk, Bool.and_true, Nat.reduceAdd, beq_self_eq_true, true_and, decide_eq_true_eq, decide_eq_false_iff_not, sts, F91, Int.toNat_natCast, rowV, Vl.cells]
  have hlen := offN_len V p r f i
  refine ⟨fun h => ?_, fun h => ?_⟩
  ·have hi' : i < V.length := by omega
   refine ⟨by omega, ⟨(g3 i hi').1, hr⟩, fun a => ⟨by omega, by omega, by omega, ?_⟩, fun a => ⟨by omega, ?_⟩⟩
   ·have e : offN V p r f (i + 1) = offN V p r f i ++ [((i : Int), p.getD i 0)] := by rw [offN]; exact if_pos a
    refine Nx.mk (i + 1) (by show i + 1 ≤ V.length; omega) (by show V.length - (i + 1) < V.length - i; omega) (Lw_re 1 [some 4] (Nat.zero_le _) (by simp [ln]) (by simp [ln]) rfl ?_ ?_)
    ·simp only [reL, reX, rn, List.getElem?_cons_zero, Nat.reduceSub, Nat.lt_irrefl, Nat.le_refl, and_false, or_true, inb, inb.inbs, ln, Bool.and_self, Nat.reduceLT, Nat.reduceAdd, decide_true, and_self, Int.natCast_add, Int.natCast_one, implies_true]
    ·simp only [reL, reX, reH, reB, reM, reN, gb, Nat.reduceLeDiff, inb, ln, Nat.reduceLT, Nat.reduceAdd, true_and, and_true, and_self, e, List.length_append, List.length_singleton]
     intro j hj
     unfold rowP
     by_cases hji : j < (offN V p r f i).length
     ·rw [if_pos hji]
      simp [List.getD, hji, List.getElem?_append_left hji]
     ·obtain rfl : j = (offN V p r f i).length := by omega
      rw [if_neg hji]
      simp [List.getD]
   ·have e : offN V p r f (i + 1) = offN V p r f i := by rw [offN]; exact if_neg a
    refine Nx.mk (i + 1) (by show i + 1 ≤ V.length; omega) (by show V.length - (i + 1) < V.length - i; omega) (Lw_re 1 [some 1] (Nat.zero_le _) (by simp [ln]) (by simp [ln]) rfl ?_ ?_)
    ·simp only [reL, reX, rn, List.getElem?_cons_zero, Nat.reduceSub, Nat.lt_irrefl, Nat.le_refl, and_false, or_true, inb, inb.inbs, ln, Bool.and_self, Nat.reduceLT, Nat.reduceAdd, decide_true, and_self, Int.natCast_add, Int.natCast_one, implies_true]
    ·simp only [reL, reX, reH, reB, reM, reN, gb, Nat.le_refl, inb, ln, Nat.reduceLT, Nat.reduceAdd, and_self, e, implies_true]
  ·have e : i = V.length := by omega
   subst e
   exact res hK (by simp [leR])
def pickO : List (Int × Int) → Int × Int
 | [] => (0, 0)
 | h :: t => t.foldl (fun s e => if e.2 < s.2 then e else s) h
theorem pickO_snoc {O : List (Int × Int)} {e : Int × Int} (h : O ≠ []) : pickO (O ++ [e]) = if e.2 < (pickO O).2 then e else pickO O := by
 cases O with
 | nil => exact absurd rfl h
 | cons x t =>
  simp only [pickO, List.cons_append, List.foldl_append, List.foldl_cons, List.foldl_nil]
  split
  ·rename_i hc; exact (if_pos hc).symm
  ·rename_i hc; exact (if_neg hc).symm
theorem pick2_eq (h : Int × Int) (t : List (Int × Int)) (a b : Nat → Int) (ha : ∀ j, j < t.length → a j = (t.getD j (0, 0)).1 ∧ b j = (t.getD j (0, 0)).2) : ∀ n, n ≤ t.length → pick2 a b h.1 h.2 n = (t.take n).foldl (fun s e => if e.2 < s.2 then e else s) h
 | 0, _ => by simp [pick2]
 | n + 1, hn => by
  have ih := pick2_eq h t a b ha n (by omega)
  have e : t.take (n + 1) = t.take n ++ [t.getD n (0, 0)] := by
   rw [List.take_add_one, List.getElem?_eq_getElem (show n < t.length by omega)]; simp [List.getD, show n < t.length by omega]
  rw [e, List.foldl_append, ← ih]
  obtain ⟨h1, h2⟩ := ha n (by omega)
  simp only [pick2, List.foldl_cons, List.foldl_nil, h1, h2]
theorem pick_chs (V : List Vl) (p : List Int) (r f : Int) : ∀ i : Nat, (offN V p r f i = [] ↔ chsN V p r f i < 0) ∧ (offN V p r f i ≠ [] → pickO (offN V p r f i) = (chsN V p r f i, p.getD (chsN V p r f i).toNat 0))
 | 0 => by simp [offN, chsN]
 | i + 1 => by
  obtain ⟨i1, i2⟩ := pick_chs V p r f i
  have hb := chs_b V p r f i
  by_cases hd : doesP (V.getD i v0) r f
  ·rw [offN, if_pos hd, chsN]
   by_cases hn : offN V p r f i = []
   ·rw [hn, if_pos ⟨hd, .inl (i1.1 hn)⟩]
    simp [pickO]
   ·rw [pickO_snoc hn, i2 hn]
    have hc : ¬ chsN V p r f i < 0 := fun h => hn (i1.2 h)
    by_cases hp : p.getD i 0 < p.getD (chsN V p r f i).toNat 0
    ·rw [if_pos ⟨hd, .inr hp⟩, if_pos hp]
     simp
    ·rw [if_neg (fun h => h.2.elim hc hp), if_neg hp]
     simp [hc]
  ·rw [offN, if_neg hd, chsN, if_neg (fun h => hd h.1)]
   exact ⟨i1, i2⟩
theorem p30 (p100 : PureOk Try.prog 100 (fcC F92)) : PureOk Try.prog 30 C31 := by
 refine pure_of (T := [(69, .pc C69), (70, .fc F70), (71, .pc C71), (72, .pc C72)]) ⟨⟨p69, q69⟩, ⟨p70, q70⟩, ⟨p71 p100, q71⟩, ⟨p72, q72⟩, trivial⟩ Try.func30 k30 ?_
 rintro args K ⟨V, p, r, f, rfl, hK1, hK2, hK3⟩
 simp only [e_reg, e_seq, o_nil, o_cons, gd_none, putK_e, runK_e, vK_e, boxK_e, conK_e, callK_e, evh_v, evh_box, evh_call, seqK_n, gam_e, gamK_p, pc_e, pcK_e, evp, gt, st, putf, X.get, gets, ap, mkfr, rep, clV, clL, clS, clo, cs1, pb, ln, lk, undef, Nat.reduceSub, beq_self_eq_true, true_and, s30, r30]
 refine ⟨V, p, rfl, fun hs => ?_, fun hs => ?_⟩
 ·simp only [reduceCtorEq, e_skip, e_reg, e_seq, e_cond, e_ret, o_nil, o_cons, gd_none, gd_some, gdK_tf, gdK_ff, xRf, putK_e, runK_e, skipK_e, vK_e, conK_e, callK_e, evh_v, evh_call, seqK_n, seqK_r, condK_t, xNz, ends_r, endK1_e, endK2_e, gam_e, gamK_f, gamK_p, pc_e, pcK_e, fcC_e, fcK_e, evp, gt, st, putf, X.get, gets, ap, rdR, tupled, clV, clL, clS, clo, ld, lda, lens, tk, dr, gb, lk, undef, Bool.not_true, Bool.not_false, Nat.reduceBEq, beq_self_eq_true, true_and, decide_eq_true_eq, decide_eq_false_iff_not, Bool.not_eq_eq_eq_not, F70]
  refine ⟨fun _ => ⟨fun h => ?_, fun h => ?_⟩, fun h => h.elim⟩
  ·exact res (hK3 fun h3 => h ⟨h3.1.2.2.1, h3.1.2.2.2⟩) (by simp [leR, leR.leRs])
  ·have hS : stkP V p r f := ⟨⟨hs.1.1, hs.1.2, h⟩, hs.2⟩
   have hK1 := hK1 hS
   have hK2 := hK2 hS
   obtain ⟨c1, c2⟩ := pick_chs V p r f V.length
   have hlen := offN_len V p r f V.length
   have hV := hs.1.1
   refine ⟨V, p, r, f, rfl, ⟨hs, h.1.1⟩, ?_⟩
   generalize offN V p r f V.length = O at c1 c2 hlen ⊢
   simp only [e_skip, e_reg, e_drw, e_seq, e_cond, e_ret, e_shut, shutG, shutQ, shut2, shutH, shut1, slQ, o_nil, o_cons, gd_none, putK_e, runK_e, vK_e, conK_e, callK_e, evh_v, evh_call, bnd, slv, xAg, xAi, dX_e, dG_t, d_nil, d_cons, tlK_n, seqK_n, seqK_r, xNz, ends_r, endK1_e, endK2_e, gam_e, gamK_p, pc_e, pcK_e, evp, bin, gt, st, putf, X.get, gets, ap, rdR, tupled, clV, clL, clS, clo, ld, lda, ixs, tk, dr, lk, evq, gdl, Nat.reduceBEq, beq_self_eq_true, true_and, decide_eq_true_eq, decide_eq_false_iff_not, rowP]
   refine ⟨fun hz => res (hK2 (c1.1 (List.eq_nil_of_length_eq_zero (by omega)))) (by simp [leR, leR.leRs]), fun hz => ⟨by omega, by omega, ((O.length : Int) - 1).toNat, fun i => (O.getD (Int.toNat 1 + i) (0, 0)).1, fun i => (O.getD (Int.toNat 1 + i) (0, 0)).2, _, _, rfl, by omega, ?_⟩⟩
   have hne : O ≠ [] := fun h => hz (by simp [h])
   have hc0 : 0 ≤ chsN V p r f V.length := by
    apply Classical.byContradiction
    intro hc
    exact hne (c1.2 (by omega))
   have ep : pick2 (fun i => (O.getD (Int.toNat 1 + i) (0, 0)).1) (fun i => (O.getD (Int.toNat 1 + i) (0, 0)).2) (O.getD (Int.toNat 0) (0, 0)).1 (O.getD (Int.toNat 0) (0, 0)).2 ((O.length : Int) - 1).toNat = pickO O := by
    cases O with
    | nil => exact absurd rfl hne
    | cons x t =>
     have e1 : (((x :: t).length : Int) - 1).toNat = t.length := by simp
     rw [e1]
     have := pick2_eq x t (fun i => ((x :: t).getD (Int.toNat 1 + i) (0, 0)).1) (fun i => ((x :: t).getD (Int.toNat 1 + i) (0, 0)).2) (fun j hj => by
      rw [show Int.toNat 1 + j = j + 1 by simp; omega]
      simp [List.getD]) t.length (Nat.le_refl _)
     rw [List.take_length] at this
     exact this
   rw [ep, c2 hne]
   simp only [e_ret, o_nil, o_cons, gd_none, putK_e, runK_e, vK_e, evh_v, seqK_n, ends_r, endK1_e, endK2_e, evp, gt, gq, st, putf, X.get, rdR, tupled, clV, clL, clS, clo, true_and]
   exact res (hK1 hc0) (by simp [leR, leR.leRs])
 ·have n34 : ∃ r', K r' ∧ leR 4 (SV.tup [SV.int IntKind.i64 0, SV.int IntKind.i64 34]) r' := res (hK3 fun h3 => hs ⟨⟨h3.1.1, h3.1.2.1⟩, h3.2⟩) (by simp [leR, leR.leRs])
  simp only [reduceCtorEq, e_skip, e_reg, e_seq, e_cond, e_ret, o_nil, o_cons, gd_none, gd_some, gdK_tf, gdK_ff, xRf, putK_e, runK_e, skipK_e, vK_e, conK_e, callK_e, evh_v, evh_call, seqK_n, seqK_r, condK_t, xNz, ends_r, endK1_e, endK2_e, gam_e, gamK_f, gamK_p, pc_e, pcK_e, fcC_e, fcK_e, evp, gt, st, putf, X.get, gets, ap, rdR, tupled, clV, clL, clS, clo, ld, lda, lens, tk, dr, gb, lk, undef, Bool.not_true, Bool.not_false, Nat.reduceBEq, beq_self_eq_true, true_and, decide_eq_true_eq, decide_eq_false_iff_not, Bool.not_eq_eq_eq_not, F70]
  exact ⟨fun h => h.elim, fun _ => n34⟩
end Go.Proofs.Ytgdihdiadlmjiaa
end
section
namespace Go.Proofs.Ytgdihdiadlmjiaa
open Go Go.Vg
set_option maxRecDepth 10000
def midR (e : Rg) : Md := (e.1 + e.2.1, e.2.2)
end Go.Proofs.Ytgdihdiadlmjiaa
end
section
namespace Go.Proofs.Ytgdihdiadlmjiaa
open Go Go.Vg
set_option maxRecDepth 10000
end Go.Proofs.Ytgdihdiadlmjiaa
end
section
namespace Go.Proofs.Ytgdihdiadlmjiaa
open Go Go.Vg
set_option maxRecDepth 10000
def decR (n : Nat) (f : Nat → List SV) : List Rg := (List.range n).map fun j => match f j with
 | [.int .i64 a, .int .i64 b, .bool c] => (a, b, c)
 | _ => r0
theorem decR_row (R : List Rg) : decR R.length (rowR R) = R := by
 refine List.ext_getElem (by simp [decR]) fun i h1 h2 => ?_
 simp [decR, rowR, List.getD, h2]
theorem decR_len (n : Nat) (f : Nat → List SV) : (decR n f).length = n := by simp [decR]
def canP (v : Vl) (R : List Rg) (a z t : Int) : Prop := loW v.w z (R.map midR) ≤ hiW v.w z (R.map midR) ∧ loW v.w z (R.map midR) * a ≤ t ∧ t ≤ hiW v.w z (R.map midR) * a
instance (v : Vl) (R : List Rg) (a z t : Int) : Decidable (canP v R a z t) := by unfold canP; infer_instance
theorem ask0 {v : Vl} {R : List Rg} (h : askI v R = 0) : v.ok ∧ okRs v R := by
 unfold askI at h
 split at h
 ·split at h
  ·rename_i a b; exact ⟨a, b⟩
  ·cases h
 ·cases h
end Go.Proofs.Ytgdihdiadlmjiaa
end
section
namespace Go.Proofs.Ytgdihdiadlmjiaa
open Go Go.Vg
set_option maxRecDepth 10000
def s118 : SC :=
 (.seq (.reg [⟨(some 2),none,.box 145 (.t 0)⟩,.w4 4]) (.seq (.reg [.u2 5 2 0,.u3 6 5,.u0 7 1,.u6 8 .sub 6 7,.u2 9 2 1,.u3 10 9,.u0 11 1,.u6 12 .sub 10 11,⟨(some 13),none,.bld [(.int .i64 (0)),(.int .i64 (0))] [(0,1,(.t 8)),(1,1,(.t 12))]⟩,.w3 2 4 13]) .ret))
def r118 : List RV := [.c 4 (some 2)]
theorem k118 : (Try.f118.body.bind (cC Try.prog), cR Try.prog Try.f118.results.toList, Try.f118.ntmps) = (some s118, some r118, 14) := by kernel_rfl
theorem q118 : Known Try.prog 118 := ⟨_, Try.func118, by decide, by simp [Try.f118]⟩
def s119 : SC :=
 (.seq (.reg [⟨(some 2),none,.box 146 (.t 0)⟩,.w4 4]) (.seq (.reg [.u0 5 1,.u2 6 2 1,.u3 7 6,.u6 8 .sub 5 7,.u0 9 1,.u2 10 2 0,.u3 11 10,.u6 12 .sub 9 11,⟨(some 13),none,.bld [(.int .i64 (0)),(.int .i64 (0))] [(0,1,(.t 8)),(1,1,(.t 12))]⟩,.w3 2 4 13]) .ret))
def r119 : List RV := [.c 4 (some 2)]
theorem k119 : (Try.f119.body.bind (cC Try.prog), cR Try.prog Try.f119.results.toList, Try.f119.ntmps) = (some s119, some r119, 14) := by kernel_rfl
theorem q119 : Known Try.prog 119 := ⟨_, Try.func119, by decide, by simp [Try.f119]⟩
def s80 : SC :=
 (.seq (.reg [⟨(some 1),none,.box 78 (.t 0)⟩,(.w6 2 (.mov (.c (.lit .nilFunc))))]) (.seq (.reg [(.w6 3 (.mkfn 95 [(.t 1)])),.u0 2 3]) .ret))
def r80 : List RV := [.t 2]
theorem k80 : (Try.f80.body.bind (cC Try.prog), cR Try.prog Try.f80.results.toList, Try.f80.ntmps) = (some s80, some r80, 4) := by kernel_rfl
theorem q80 : Known Try.prog 80 := ⟨_, Try.func80, by decide, by simp [Try.f80]⟩
def sml (x : Int) : Prop := -1000000000000 ≤ x ∧ x ≤ 1000000000000
def F118 : FC := fun args => match args with
 | [.agg [.int .i64 a, .int .i64 b], .int .i64 z] => some (sml a ∧ sml b ∧ sml z, .agg [.int .i64 (a - z), .int .i64 (b - z)])
 | _ => none
theorem p118 : PureOk Try.prog 118 (fcC F118) := by
 refine pure_of (T := []) trivial Try.func118 k118 ?_
 intro args K hC
 unfold fcC F118 at hC
 split at hC <;> first | (exact hC.elim) | skip
 rename_i h
 split at h <;> first | (cases h; done) | skip
 cases h
 obtain ⟨⟨ha, hb, hz⟩, hK⟩ := hC
 unfold sml at ha hb hz
 simp only [inr64, ↓reduceIte, e_reg, and_self, e_seq, e_ret, o_nil, o_cons, gd_none, putK_e, runK_e, vK_e, boxK_e, bldK_e, storeK3_e, storeK2_e, storeK_e, evh_v, evh_new, evh_box, evh_bld, evh_store, seqK_n, ends_r, endK1_e, endK2_e, evp, bin, gt, gq, st, putf, X.get, getp, mkfr, rep, rdR, tupled, clV, clL, clS, clo, ld, lda, tk, dr, sp, sp.spl, lay, ll, cs1, one, allOne, gb, sb, pb, ln, undef, Bool.and_true, Nat.reduceSub, Nat.reduceAdd, beq_self_eq_true, true_and, s118, r118]
 exact ⟨by omega, by omega, res hK (by simp [leR, leR.leRs])⟩
def F119 : FC := fun args => match args with
 | [.agg [.int .i64 a, .int .i64 b], .int .i64 z] => some (sml a ∧ sml b ∧ sml z, .agg [.int .i64 (z - b), .int .i64 (z - a)])
 | _ => none
theorem p119 : PureOk Try.prog 119 (fcC F119) := by
 refine pure_of (T := []) trivial Try.func119 k119 ?_
 intro args K hC
 unfold fcC F119 at hC
 split at hC <;> first | (exact hC.elim) | skip
 rename_i h
 split at h <;> first | (cases h; done) | skip
 cases h
 obtain ⟨⟨ha, hb, hz⟩, hK⟩ := hC
 unfold sml at ha hb hz
 simp only [inr64, ↓reduceIte, e_reg, and_self, e_seq, e_ret, o_nil, o_cons, gd_none, putK_e, runK_e, vK_e, boxK_e, bldK_e, storeK3_e, storeK2_e, storeK_e, evh_v, evh_new, evh_box, evh_bld, evh_store, seqK_n, ends_r, endK1_e, endK2_e, evp, bin, gt, gq, st, putf, X.get, getp, mkfr, rep, rdR, tupled, clV, clL, clS, clo, ld, lda, tk, dr, sp, sp.spl, lay, ll, cs1, one, allOne, gb, sb, pb, ln, undef, Bool.and_true, Nat.reduceSub, Nat.reduceAdd, beq_self_eq_true, true_and, s119, r119]
 exact ⟨by omega, by omega, res hK (by simp [leR, leR.leRs])⟩
def F80 : FC := fun args => match args with
 | [.agg [.int .i64 m, .int .i64 l1, .int .i64 l2, .int .i64 v1, .int .i64 v2, .int .i64 z1, .int .i64 z2, .int .i64 w]] => some (True, .fn 95 [.rp (Vl.cells ⟨m, l1, l2, v1, v2, z1, z2, w⟩) 0])
 | _ => none
theorem p80 : PureOk Try.prog 80 (fcC F80) := by
 refine pure_of (T := []) trivial Try.func80 k80 ?_
 intro args K hC
 unfold fcC F80 at hC
 split at hC <;> first | (exact hC.elim) | skip
 rename_i h
 split at h <;> first | (cases h; done) | skip
 cases h
 obtain ⟨-, hK⟩ := hC
 simp only [e_reg, e_seq, e_ret, o_nil, o_cons, gd_none, putK_e, runK_e, vK_e, boxK_e, evh_v, evh_box, seqK_n, ends_r, endK1_e, endK2_e, evp, gt, st, putf, X.get, gets, mkfr, rep, rdR, tupled, clV, clL, clS, clo, cs1, gb, sb, pb, ln, undef, Nat.reduceSub, true_and, s80, r80]
 exact res hK (by simp [leR, leR.leRs, Vl.cells])
end Go.Proofs.Ytgdihdiadlmjiaa
end
