import Derived.Test.YtgdihdiadlmjiaaVgL1
import Derived.Test.YtgdihdiadlmjiaaVgV9
set_option linter.all false
section
namespace Go.Proofs.Ytgdihdiadlmjiaa
open Go Go.Vg
set_option maxRecDepth 10000
def s54 : SC :=
 (.seq (.reg [⟨(some 1),none,.box 78 (.t 0)⟩,.w5 2 false]) (.seq (.reg [.u2 3 1 0,.u2 4 3 0,.u3 5 4,(.w1 6 65 [(.t 5),(.c (.int .i64 (10))),(.c (.int .i64 (200)))]),.u0 7 6,(.w0 8 7 true (.off (.t 1) 0)),(.w0 9 7 true (.off (.t 8) 1)),(.w0 10 7 true (.load (.t 9) (some 2))),(.w0 11 7 true (.off (.t 1) 0)),(.w0 12 7 true (.off (.t 11) 0)),(.w0 13 7 true (.load (.t 12) none)),⟨(some 14),(some (7,true)),.call (.c (.fn 64 [])) [(.t 10),(.c (.int .i64 (1))),(.t 13)]⟩,.u8 15 7 14,.u0 16 15,(.w0 17 16 true (.off (.t 1) 0)),(.w0 18 16 true (.off (.t 17) 3)),(.w0 19 16 true (.load (.t 18) (some 2))),⟨(some 20),(some (16,true)),.call (.c (.fn 64 [])) [(.t 19),(.c (.int .i64 (1))),(.c (.int .i64 (500)))]⟩,.u8 21 16 20,.u0 22 21,(.w0 23 22 true (.off (.t 1) 0)),(.w0 24 22 true (.off (.t 23) 5)),(.w0 25 22 true (.load (.t 24) (some 2))),(.w0 26 22 true (.off (.t 1) 0)),(.w0 27 22 true (.off (.t 26) 0)),(.w0 28 22 true (.load (.t 27) none)),(.w0 29 22 true (.bin .mul (.c (.int .i64 (2))) (.t 28))),⟨(some 30),(some (22,true)),.call (.c (.fn 64 [])) [(.t 25),(.c (.int .i64 (0))),(.t 29)]⟩,.u8 31 22 30,.u0 32 31,(.w0 33 32 true (.off (.t 1) 0)),(.w0 34 32 true (.off (.t 33) 7)),(.w0 35 32 true (.load (.t 34) none)),⟨(some 36),(some (32,true)),.call (.c (.fn 65 [])) [(.t 35),(.c (.int .i64 (0))),(.c (.int .i64 (8)))]⟩,.u8 37 32 36,.u0 2 37]) .ret))
def r54 : List RV := [.t 2]
theorem k54 : (Try.f54.body.bind (cC Try.prog), cR Try.prog Try.f54.results.toList, Try.f54.ntmps) = (some s54, some r54, 38) := by kernel_rfl
theorem q54 : Known Try.prog 54 := ⟨_, Try.func54, by decide, by simp [Try.f54]⟩
def s18 : SC :=
 (.seq (.reg [⟨(some 1),none,.box 25 (.t 0)⟩,.u1 2 (0)]) (.seq (.seq (.reg [.u4 3 1 8,⟨(some 4),none,.bld [(.int .i64 (0)),(.int .i64 (0)),(.int .i64 (0)),(.int .i64 (0)),(.int .i64 (0)),(.int .i64 (0)),(.int .i64 (0)),(.int .i64 (0))] [(0,8,(.t 3))]⟩,(.w1 5 54 [(.t 4)]),(.w6 6 (.not (.t 5)))]) (.cond (.t 6) (.seq (.reg [.u1 2 (30)]) .ret) .skip)) (.seq (.reg [.u1 2 (0)]) .ret)))
def r18 : List RV := [.t 2]
theorem k18 : (Try.f18.body.bind (cC Try.prog), cR Try.prog Try.f18.results.toList, Try.f18.ntmps) = (some s18, some r18, 7) := by kernel_rfl
theorem q18 : Known Try.prog 18 := ⟨_, Try.func18, by decide, by simp [Try.f18]⟩
def s57 : SC :=
 (.seq (.reg [⟨(some 0),none,.new 88 [(.int .i64 (0)),(.int .i64 (0)),(.int .i64 (0)),(.int .i64 (0))]⟩]) (.seq (.reg [(.w1 1 82 []),(.w1 2 82 []),⟨(some 3),none,.bld [(.int .i64 (0)),(.int .i64 (0)),(.int .i64 (0)),(.int .i64 (0))] [(0,2,(.t 1)),(2,2,(.t 2))]⟩,.w3 4 0 3]) .ret))
def r57 : List RV := [.c 0 (some 4)]
theorem k57 : (Try.f57.body.bind (cC Try.prog), cR Try.prog Try.f57.results.toList, Try.f57.ntmps) = (some s57, some r57, 4) := by kernel_rfl
theorem q57 : Known Try.prog 57 := ⟨_, Try.func57, by decide, by simp [Try.f57]⟩
def s82 : SC :=
 (.seq (.reg [.w4 0]) (.seq (.reg [⟨(some 1),none,.bld [(.int .i64 (0)),(.int .i64 (0))] [(0,1,(.c (.int .i64 (1)))),(1,1,(.c (.int .i64 (0))))]⟩,.w3 2 0 1]) .ret))
def r82 : List RV := [.c 0 (some 2)]
theorem k82 : (Try.f82.body.bind (cC Try.prog), cR Try.prog Try.f82.results.toList, Try.f82.ntmps) = (some s82, some r82, 2) := by kernel_rfl
theorem q82 : Known Try.prog 82 := ⟨_, Try.func82, by decide, by simp [Try.f82]⟩
def s81 : SC :=
 (.seq (.reg [⟨(some 2),none,.box 23 (.t 0)⟩,⟨(some 3),none,.box 23 (.t 1)⟩,.w4 4]) (.seq (.reg [.u2 6 2 0,.u3 7 6,.u2 8 3 0,.u3 9 8,(.w6 10 (.max2 (.t 7) (.t 9))),.u2 11 2 1,.u3 12 11,.u2 13 3 1,.u3 14 13,(.w6 15 (.min2 (.t 12) (.t 14))),⟨(some 16),none,.bld [(.int .i64 (0)),(.int .i64 (0))] [(0,1,(.t 10)),(1,1,(.t 15))]⟩,.w4 5,.w3 2 5 16]) (.seq (.seq (.reg [.u2 17 5 0,.u3 18 17,.u2 19 5 1,.u3 20 19,.u6 21 .gtr 18 20]) (.cond (.t 21) (.seq (.reg [(.w1 22 82 []),.w3 2 4 22]) .ret) .skip)) (.seq (.reg [.u4 23 5 2,.w3 2 4 23]) .ret))))
def r81 : List RV := [.c 4 (some 2)]
theorem k81 : (Try.f81.body.bind (cC Try.prog), cR Try.prog Try.f81.results.toList, Try.f81.ntmps) = (some s81, some r81, 24) := by kernel_rfl
theorem q81 : Known Try.prog 81 := ⟨_, Try.func81, by decide, by simp [Try.f81]⟩
def s83 : SC :=
 (.seq (.reg [⟨(some 2),none,.box 23 (.t 0)⟩,⟨(some 3),none,.box 23 (.t 1)⟩,.w4 4]) (.seq (.seq (.drw [(0,.u4 5 2 2,false),(1,(.w1 6 82 []),false)] none [(.w6 7 (.eqs [(some .i64),(some .i64)] false (.t 5) (.t 6)))]) (.cond (.t 7) (.seq (.reg [.u4 8 3 2,.w3 2 4 8]) .ret) .skip)) (.seq (.reg [.u2 9 2 0,.u3 10 9,.u2 11 3 0,.u3 12 11,(.w6 13 (.min2 (.t 10) (.t 12))),.u2 14 2 1,.u3 15 14,.u2 16 3 1,.u3 17 16,(.w6 18 (.max2 (.t 15) (.t 17))),⟨(some 19),none,.bld [(.int .i64 (0)),(.int .i64 (0))] [(0,1,(.t 13)),(1,1,(.t 18))]⟩,.w3 2 4 19]) .ret)))
def r83 : List RV := [.c 4 (some 2)]
theorem k83 : (Try.f83.body.bind (cC Try.prog), cR Try.prog Try.f83.results.toList, Try.f83.ntmps) = (some s83, some r83, 20) := by kernel_rfl
theorem q83 : Known Try.prog 83 := ⟨_, Try.func83, by decide, by simp [Try.f83]⟩
def s98 : SC :=
 (.seq (.reg [⟨(some 1),none,.box 23 (.t 0)⟩,.u1 2 (0)]) (.seq (.reg [.u2 3 1 1,.u3 4 3,.u2 5 1 0,.u3 6 5,.u6 7 .sub 4 6,.u0 2 7]) .ret))
def r98 : List RV := [.t 2]
theorem k98 : (Try.f98.body.bind (cC Try.prog), cR Try.prog Try.f98.results.toList, Try.f98.ntmps) = (some s98, some r98, 8) := by kernel_rfl
theorem q98 : Known Try.prog 98 := ⟨_, Try.func98, by decide, by simp [Try.f98]⟩
def s94 : SC :=
 (.seq (.reg [⟨(some 2),none,.box 78 (.t 0)⟩,.w4 4]) (.seq (.reg [.u0 5 1,.u2 6 2 0,.u2 7 6 7,.u3 8 7,.u6 9 .sub 5 8,.u0 10 1,.u2 11 2 0,.u2 12 11 7,.u3 13 12,.u6 14 .add 10 13,⟨(some 15),none,.bld [(.int .i64 (0)),(.int .i64 (0))] [(0,1,(.t 9)),(1,1,(.t 14))]⟩,.w3 2 4 15]) .ret))
def r94 : List RV := [.c 4 (some 2)]
theorem k94 : (Try.f94.body.bind (cC Try.prog), cR Try.prog Try.f94.results.toList, Try.f94.ntmps) = (some s94, some r94, 16) := by kernel_rfl
theorem q94 : Known Try.prog 94 := ⟨_, Try.func94, by decide, by simp [Try.f94]⟩
def s84 : SC :=
 (.seq (.reg [⟨(some 2),none,.box 78 (.t 0)⟩,⟨(some 3),none,.box 23 (.t 1)⟩,.w4 4]) (.seq (.reg [.u2 5 2 0,.u2 6 5 3,.u2 7 6 0,.u3 8 7,.u2 9 3 0,.u3 10 9,.u6 11 .mul 8 10,.u2 12 2 0,.u2 13 12 3,.u2 14 13 1,.u3 15 14,.u2 16 3 0,.u3 17 16,.u6 18 .mul 15 17,(.w6 19 (.min2 (.t 11) (.t 18))),.u2 20 2 0,.u2 21 20 3,.u2 22 21 0,.u3 23 22,.u2 24 3 1,.u3 25 24,.u6 26 .mul 23 25,.u2 27 2 0,.u2 28 27 3,.u2 29 28 1,.u3 30 29,.u2 31 3 1,.u3 32 31,.u6 33 .mul 30 32,(.w6 34 (.max2 (.t 26) (.t 33))),⟨(some 35),none,.bld [(.int .i64 (0)),(.int .i64 (0))] [(0,1,(.t 19)),(1,1,(.t 34))]⟩,.w3 2 4 35]) .ret))
def r84 : List RV := [.c 4 (some 2)]
theorem k84 : (Try.f84.body.bind (cC Try.prog), cR Try.prog Try.f84.results.toList, Try.f84.ntmps) = (some s84, some r84, 36) := by kernel_rfl
theorem q84 : Known Try.prog 84 := ⟨_, Try.func84, by decide, by simp [Try.f84]⟩
structure Vl where
 (m l1 l2 v1 v2 z1 z2 w : Int)
def Vl.sv (v : Vl) : SV := .agg [.int .i64 v.m, .int .i64 v.l1, .int .i64 v.l2, .int .i64 v.v1, .int .i64 v.v2, .int .i64 v.z1, .int .i64 v.z2, .int .i64 v.w]
def Vl.ok (v : Vl) : Prop := (10 <= v.m /\ v.m <= 200) /\ ((1 <= v.l1 /\ v.l1 <= v.l2) /\ v.l2 <= v.m) /\ ((1 <= v.v1 /\ v.v1 <= v.v2) /\ v.v2 <= 500) /\ ((0 <= v.z1 /\ v.z1 <= v.z2) /\ v.z2 <= 2 * v.m) /\ (0 <= v.w /\ v.w <= 8)
instance (v : Vl) : Decidable v.ok := by unfold Vl.ok; infer_instance
def Vl.chk (v : Vl) : Int := if v.ok then 0 else 30
def C19 : PC := fun args K => ∃ v : Vl, args = [v.sv] /\ K (.int .i64 v.chk)
def C54 : PC := fun args K => ∃ v : Vl, args = [.agg [.int .i64 v.m, .int .i64 v.l1, .int .i64 v.l2, .int .i64 v.v1, .int .i64 v.v2, .int .i64 v.z1, .int .i64 v.z2, .int .i64 v.w]] /\ K (.bool (decide v.ok))
theorem p54 : PureOk Try.prog 54 C54 := by
 refine pure_of (T := [(65, .fc F42), (64, .fc F55)]) ⟨⟨p65, q65⟩, ⟨p64, q64⟩, trivial⟩ Try.func54 k54 ?_
 rintro args K ⟨v, rfl, hK⟩
 obtain ⟨m, l1, l2, v1, v2, z1, z2, w⟩ := v
 simp only [inr64, e_reg, e_seq, e_ret, o_nil, o_cons, gd_none, gd_some, gdK_tt, gdK_ft, xRe, putK_e, runK_e, skipK_e, vK_e, boxK_e, conK_e, callK_e, evh_v, evh_box, evh_call, seqK_n, ends_r, endK1_e, endK2_e, gam_e, gamK_f, pc_e, pcK_e, fcC_e, fcK_e, evp, bin, gt, gq, st, putf, X.get, gets, ap, mkfr, rep, rdR, tupled, clV, clL, clS, clo, ld, lda, tk, dr, cs1, gb, pb, ln, lk, undef, Nat.reduceSub, Nat.reduceAdd, Nat.reduceBEq, beq_self_eq_true, true_and, decide_eq_true_eq, decide_eq_false_iff_not, s54, r54, F42, F55]
 have hn : ¬ Vl.ok ⟨m, l1, l2, v1, v2, z1, z2, w⟩ -> ∃ r', K r' /\ leR 4 (SV.lit (.bool false)) r' := fun h => by rw [decide_eq_false h] at hK; exact res hK (by simp [leR])
 refine ⟨fun a => ⟨fun b => ⟨fun c => ⟨by omega, fun d => ?_, fun d => hn fun h => d h.2.2.2.1⟩, fun c => hn fun h => c h.2.2.1⟩, fun b => hn fun h => b h.2.1⟩, fun a => hn fun h => a h.1⟩
 refine res hK ?_
 simp only [leR, Vl.ok, a, b, c, d, and_self, true_and]
def C18 : PC := C19
theorem p18 : PureOk Try.prog 18 C18 := by
 refine pure_of (T := [(54, .pc C54)]) ⟨⟨p54, q54⟩, trivial⟩ Try.func18 k18 ?_
 rintro args K ⟨v, rfl, hK⟩
 simp only [Vl.sv, Vl.chk] at hK ⊢
 simp only [e_reg, e_seq, o_nil, o_cons, gd_none, putK_e, runK_e, vK_e, boxK_e, bldK_e, conK_e, callK_e, evh_v, evh_box, evh_bld, evh_call, seqK_n, gam_e, gamK_p, pc_e, pcK_e, evp, gt, st, putf, X.get, gets, getp, ap, mkfr, rep, clV, clL, clS, clo, ld, lda, tk, dr, sp, sp.spl, lay, ll, cs1, gb, pb, ln, lk, undef, Nat.reduceSub, Nat.reduceAdd, beq_self_eq_true, true_and, s18, r18]
 refine ⟨v, rfl, ?_⟩
 simp only [e_skip, e_reg, e_seq, e_cond, e_ret, o_nil, o_cons, gd_none, putK_e, runK_e, vK_e, evh_v, seqK_n, seqK_r, xNz, ends_r, endK1_e, endK2_e, evp, gt, st, putf, X.get, rdR, tupled, clV, clS, clo, Bool.not_true, Bool.not_false, true_and, decide_eq_true_eq, decide_eq_false_iff_not, Bool.not_eq_eq_eq_not]
 refine ⟨fun h => ?_, fun h => ?_⟩
 ·rw [if_neg (by simpa using h)] at hK; exact res hK (by simp [leR])
 ·rw [if_pos (by simpa using h)] at hK; exact res hK (by simp [leR])
def F82 : FC := fun args => match args with
 | [] => some (True, .agg [.int .i64 1, .int .i64 0])
 | _ => none
theorem p82 : PureOk Try.prog 82 (fcC F82) := by
 refine pure_of (T := []) trivial Try.func82 k82 ?_
 intro args K hC
 unfold fcC F82 at hC
 split at hC <;> first | (exact hC.elim) | skip
 rename_i h
 split at h <;> first | (cases h; done) | skip
 cases h
 obtain ⟨-, hK⟩ := hC
 simp only [↓reduceIte, e_reg, and_self, e_seq, e_ret, o_nil, o_cons, gd_none, putK_e, runK_e, bldK_e, storeK3_e, storeK2_e, storeK_e, evh_new, evh_bld, evh_store, seqK_n, ends_r, endK1_e, endK2_e, gt, st, putf, X.get, getp, mkfr, rep, rdR, tupled, clV, clL, clS, clo, ld, tk, dr, sp, sp.spl, lay, ll, cs1, one, allOne, gb, sb, pb, ln, undef, Bool.and_true, Nat.reduceAdd, beq_self_eq_true, true_and, s82, r82]
 exact res hK (by simp [leR, leR.leRs])
def cmL (a b c d : Int) : Int := if max a c <= min b d then max a c else 1
def cmH (a b c d : Int) : Int := if max a c <= min b d then min b d else 0
def F81 : FC := fun args => match args with
 | [.agg [.int .i64 a, .int .i64 b], .agg [.int .i64 c, .int .i64 d]] => some (True, .agg [.int .i64 (cmL a b c d), .int .i64 (cmH a b c d)])
 | _ => none
theorem p81 : PureOk Try.prog 81 (fcC F81) := by
 refine pure_of (T := [(82, .fc F82)]) ⟨⟨p82, q82⟩, trivial⟩ Try.func81 k81 ?_
 intro args K hC
 unfold fcC F81 at hC
 split at hC <;> first | (exact hC.elim) | skip
 rename_i h
 split at h <;> first | (cases h; done) | skip
 cases h
 obtain ⟨-, hK⟩ := hC
 simp only [↓reduceIte, e_skip, e_reg, and_self, e_seq, e_cond, e_ret, o_nil, o_cons, gd_none, putK_e, runK_e, vK_e, boxK_e, bldK_e, storeK3_e, storeK2_e, storeK_e, conK_e, callK_e, evh_v, evh_new, evh_box, evh_bld, evh_store, evh_call, seqK_n, seqK_r, xNz, ends_r, endK1_e, endK2_e, gam_e, gamK_f, pc_e, pcK_e, fcC_e, fcK_e, evp, bin, gt, gq, st, putf, X.get, gets, getp, ap, mkfr, rep, rdR, tupled, clV, clL, clS, clo, ld, lda, tk, dr, sp, sp.spl, lay, ll, cs1, one, allOne, gb, sb, pb, ln, lk, Value.oneCell', undef, Bool.and_true, Nat.reduceSub, Nat.reduceAdd, beq_self_eq_true, true_and, decide_eq_true_eq, decide_eq_false_iff_not, s81, r81, F82]
 refine ⟨fun h => res hK ?_, fun h => res hK ?_⟩ <;> (simp only [leR, leR.leRs, cmL, cmH]; refine ⟨?_, ?_, trivial⟩ <;> simp <;> omega)
def arL (a b c d : Int) : Int := if a = 1 /\ b = 0 then c else min a c
def arH (a b c d : Int) : Int := if a = 1 /\ b = 0 then d else max b d
def F83 : FC := fun args => match args with
 | [.agg [.int .i64 a, .int .i64 b], .agg [.int .i64 c, .int .i64 d]] => some ((-9223372036854775808 <= a /\ a <= 9223372036854775807) /\ -9223372036854775808 <= b /\ b <= 9223372036854775807, .agg [.int .i64 (arL a b c d), .int .i64 (arH a b c d)])
 | _ => none
theorem p83 : PureOk Try.prog 83 (fcC F83) := by
 refine pure_of (T := [(82, .fc F82)]) ⟨⟨p82, q82⟩, trivial⟩ Try.func83 k83 ?_
 intro args K hC
 unfold fcC F83 at hC
 split at hC <;> first | (exact hC.elim) | skip
 rename_i h
 split at h <;> first | (cases h; done) | skip
 cases h
 obtain ⟨hb, hK⟩ := hC
 simp only [↓reduceIte, List.cons.injEq, e_skip, e_reg, and_self, e_drw, e_seq, e_cond, e_ret, o_nil, o_cons, gd_none, putK_e, runK_e, vK_e, boxK_e, bldK_e, storeK3_e, storeK2_e, storeK_e, evh_v, evh_new, evh_box, evh_bld, evh_store, dX_e, dG_t, d_nil, d_cons, tlK_n, seqK_n, seqK_r, xNz, ends_r, endK1_e, endK2_e, gamq_e, gamqK_f, evp, fit, InQ, gt, gq, st, putf, X.get, gets, getp, ap, mkfr, rep, rdR, tupled, clV, clL, clS, clo, clo.clos, ld, lda, tk, dr, sp, sp.spl, lay, ll, cs1, one, allOne, gb, sb, pb, ln, lk, evq, gdl, undef, Bool.and_true, cond_false, Nat.reduceSub, Nat.reduceAdd, beq_self_eq_true, true_and, and_true, decide_eq_true_eq, decide_eq_false_iff_not, s83, r83, F82]
 refine ⟨⟨hb, by omega⟩, fun h => res hK ?_, fun h => res hK ?_⟩ <;> (simp only [leR, leR.leRs, arL, arH, h]; refine ⟨?_, ?_, trivial⟩ <;> simp <;> omega)
def F98 : FC := fun args => match args with
 | [.agg [.int .i64 a, .int .i64 b]] => some (-4611686018427387903 <= a /\ a <= 4611686018427387903 /\ -4611686018427387903 <= b /\ b <= 4611686018427387903, .int .i64 (b - a))
 | _ => none
theorem p98 : PureOk Try.prog 98 (fcC F98) := by
 refine pure_of (T := []) trivial Try.func98 k98 ?_
 intro args K hC
 unfold fcC F98 at hC
 split at hC <;> first | (exact hC.elim) | skip
 rename_i h
 split at h <;> first | (cases h; done) | skip
 cases h
 obtain ⟨hb, hK⟩ := hC
 simp only [inr64, e_reg, e_seq, e_ret, o_nil, o_cons, gd_none, putK_e, runK_e, vK_e, boxK_e, evh_v, evh_box, seqK_n, ends_r, endK1_e, endK2_e, evp, bin, gt, gq, st, putf, X.get, mkfr, rep, rdR, tupled, clV, clS, clo, ld, lda, cs1, gb, pb, ln, undef, Nat.reduceSub, Nat.reduceAdd, true_and, s98, r98]
 exact ⟨by omega, res hK (by simp [leR])⟩
def Vl.cells (v : Vl) : List SV := [.int .i64 v.m, .int .i64 v.l1, .int .i64 v.l2, .int .i64 v.v1, .int .i64 v.v2, .int .i64 v.z1, .int .i64 v.z2, .int .i64 v.w]
def C94 : PC := fun args K => ∃ (v : Vl) (x : Int), args = [v.sv, .int .i64 x] /\ (v.ok /\ -1000000 <= x /\ x <= 1000000) /\ K (.agg [.int .i64 (x - v.w), .int .i64 (x + v.w)])
theorem p94 : PureOk Try.prog 94 C94 := by
 refine pure_of (T := []) trivial Try.func94 k94 ?_
 rintro args K ⟨v, x, rfl, ⟨hv, hx⟩, hK⟩
 obtain ⟨m, l1, l2, v1, v2, z1, z2, w⟩ := v
 simp only [Vl.sv, Vl.ok] at hK hv ⊢
 simp only [inr64, ↓reduceIte, e_reg, and_self, e_seq, e_ret, o_nil, o_cons, gd_none, putK_e, runK_e, vK_e, boxK_e, bldK_e, storeK3_e, storeK2_e, storeK_e, evh_v, evh_new, evh_box, evh_bld, evh_store, seqK_n, ends_r, endK1_e, endK2_e, evp, bin, gt, gq, st, putf, X.get, getp, mkfr, rep, rdR, tupled, clV, clL, clS, clo, ld, lda, tk, dr, sp, sp.spl, lay, ll, cs1, one, allOne, gb, sb, pb, ln, undef, Bool.and_true, Nat.reduceSub, Nat.reduceAdd, beq_self_eq_true, true_and, s94, r94]
 exact ⟨by omega, by omega, res hK (by simp [leR, leR.leRs])⟩
def Vl.tl (v : Vl) (a : Int) : Int := min (v.v1 * a) (v.v2 * a)
def Vl.th (v : Vl) (b : Int) : Int := max (v.v1 * b) (v.v2 * b)
def C84 : PC := fun args K => ∃ (v : Vl) (a b : Int), args = [v.sv, .agg [.int .i64 a, .int .i64 b]] /\ (v.ok /\ (-1000000 <= a /\ a <= 1000000) /\ -1000000 <= b /\ b <= 1000000) /\ K (.agg [.int .i64 (v.tl a), .int .i64 (v.th b)])
theorem p84 : PureOk Try.prog 84 C84 := by
 refine pure_of (T := []) trivial Try.func84 k84 ?_
 rintro args K ⟨v, a, b, rfl, ⟨hv, ha, hb⟩, hK⟩
 obtain ⟨m, l1, l2, v1, v2, z1, z2, w⟩ := v
 simp only [Vl.sv, Vl.ok, Vl.tl, Vl.th] at hK hv ⊢
 simp only [inr64, ↓reduceIte, e_reg, and_self, e_seq, e_ret, o_nil, o_cons, gd_none, putK_e, runK_e, vK_e, boxK_e, bldK_e, storeK3_e, storeK2_e, storeK_e, evh_v, evh_new, evh_box, evh_bld, evh_store, seqK_n, ends_r, endK1_e, endK2_e, evp, bin, gt, gq, st, putf, X.get, getp, mkfr, rep, rdR, tupled, clV, clL, clS, clo, ld, lda, tk, dr, sp, sp.spl, lay, ll, cs1, one, allOne, gb, sb, pb, ln, undef, Bool.and_true, Nat.reduceSub, Nat.reduceAdd, beq_self_eq_true, true_and, s84, r84]
 have bd : ∀ v x : Int, 1 <= v -> v <= 500 -> -1000000 <= x -> x <= 1000000 -> -9223372036854775808 <= v * x /\ v * x <= 9223372036854775807 := fun v x h1 h2 h3 h4 => by
  have e1 := Int.mul_le_mul_of_nonneg_left h4 (show 0 <= v by omega)
  have e2 := Int.mul_le_mul_of_nonneg_left h3 (show 0 <= v by omega)
  omega
 refine ⟨bd _ _ (by omega) (by omega) ha.1 ha.2, bd _ _ (by omega) (by omega) ha.1 ha.2, bd _ _ (by omega) (by omega) hb.1 hb.2, bd _ _ (by omega) (by omega) hb.1 hb.2, res hK ?_⟩
 simp only [leR, leR.leRs]
 refine ⟨?_, ?_, trivial⟩ <;> simp <;> omega
def Vl.rch (v : Vl) (t : Int) : Prop := t <= v.v1 * min (v.z1 - v.l2) (2 * v.m - v.l2 - v.z2)
instance (v : Vl) (t : Int) : Decidable (v.rch t) := by unfold Vl.rch; infer_instance
end Go.Proofs.Ytgdihdiadlmjiaa
end
section
namespace Go.Proofs.Ytgdihdiadlmjiaa
open Go Go.Vg
set_option maxRecDepth 10000
abbrev Md := Int × Bool
def nz (z : Int) (e : Md) : Int := if e.2 = true then -(e.1 - z) else e.1 - z
def loW (w z : Int) (L : List Md) : Int := L.foldl (fun a e => max a (nz z e - w)) (-10000)
def hiW (w z : Int) (L : List Md) : Int := L.foldl (fun a e => min a (nz z e + w)) 10000
end Go.Proofs.Ytgdihdiadlmjiaa
end
section
namespace Go.Proofs.Ytgdihdiadlmjiaa
open Go Go.Vg
set_option maxRecDepth 10000
structure Tz where
 (t1 t2 u1 u2 : Int)
 f : Bool
def wdL (a x : Int) (f : Bool) : Int := if f then x else min a x
def wdH (b x : Int) (f : Bool) : Int := if f then x else max b x
def Vl.lst (v : Vl) (a : Int) : Int := if a * v.v2 < a * v.v1 then a * v.v2 else a * v.v1
def Vl.mst (v : Vl) (b : Int) : Int := if b * v.v1 < b * v.v2 then b * v.v2 else b * v.v1
def tstep (v : Vl) (L : List Md) (z : Int) (s : Tz) : Tz :=
 if hiW v.w z L < loW v.w z L then s
 else ⟨wdL (wdL s.t1 (v.lst (loW v.w z L)) !s.f) (v.mst (hiW v.w z L)) false, wdH (wdH s.t2 (v.lst (loW v.w z L)) !s.f) (v.mst (hiW v.w z L)) false, wdL s.u1 z !s.f, wdH s.u2 z !s.f, true⟩
def tzN (v : Vl) (L : List Md) : Nat -> Tz
 | 0 => ⟨0, 0, 0, 0, false⟩
 | k + 1 => tstep v L (v.z1 + k) (tzN v L k)
def tzA (v : Vl) (L : List Md) : Tz := tzN v L (v.z2 + 1 - v.z1).toNat
end Go.Proofs.Ytgdihdiadlmjiaa
end
section
namespace Go.Proofs.Ytgdihdiadlmjiaa
open Go Go.Vg
set_option maxRecDepth 10000
def s76 : SC :=
 (.seq (.reg [⟨(some 2),none,.box 78 (.t 0)⟩,.w5 4 false]) (.seq (.seq (.reg [.u0 7 1,.w2 8 7,(.w1 9 65 [(.t 8),(.c (.int .i64 (1))),(.c (.int .i64 (8)))]),(.w6 10 (.not (.t 9)))]) (.cond (.t 10) (.seq (.reg [.w5 4 false]) .ret) .skip)) (.seq (.seq (.reg [.u0 11 1,.w2 12 11,.u1 13 (0)]) (.block 0 (.loop (.seq (.reg [.u6 14 .lss 13 12]) (.seq (.cond (.t 14) .skip (.exit 0)) (.seq (.block 1 (.seq (.reg [(.w6 15 (.ixa (.t 11) (.t 13) 3)),.u4 16 15 3,⟨(some 6),none,.new 57 [(.int .i64 (0)),(.int .i64 (0)),(.lit (.bool false))]⟩,.w3 3 6 16]) (.seq (.seq (.reg [.u2 17 6 0,.u3 18 17,.u7 19 .lss 18 (0),.u0 20 19,(.w0 21 20 false (.off (.t 6) 1)),(.w0 22 20 false (.load (.t 21) none)),(.w0 23 20 false (.off (.t 6) 0)),(.w0 24 20 false (.load (.t 23) none)),(.w0 25 20 false (.bin .leq (.t 22) (.t 24))),.u9 26 20 25,.u0 27 26,(.w0 28 27 false (.off (.t 6) 1)),(.w0 29 27 false (.load (.t 28) none)),(.w0 30 27 false (.off (.t 2) 0)),(.w0 31 27 false (.off (.t 30) 0)),(.w0 32 27 false (.load (.t 31) none)),(.w0 33 27 false (.bin .gtr (.t 29) (.t 32))),.u9 34 27 33]) (.cond (.t 34) (.seq (.reg [.w5 4 false]) .ret) .skip)) (.seq (.reg [.u2 35 6 1,.u3 36 35,.u2 37 6 0,.u3 38 37,.u6 39 .sub 36 38,.u2 40 2 0,.u2 41 40 1,.u2 42 41 0,.u3 43 42,.u2 44 2 0,.u2 45 44 7,.u3 46 45,.u6 47 .sub 43 46,.u2 48 2 0,.u2 49 48 1,.u2 50 49 1,.u3 51 50,.u2 52 2 0,.u2 53 52 7,.u3 54 53,.u6 55 .add 51 54,(.w1 56 65 [(.t 39),(.t 47),(.t 55)]),(.w6 57 (.not (.t 56)))]) (.cond (.t 57) (.seq (.reg [.w5 4 false]) .ret) .skip))))) (.reg [.u7 58 .add 13 (1),.u0 13 58]))))))) (.seq (.reg [.w5 4 true]) .ret))))
def r76 : List RV := [.t 4]
theorem k76 : (Try.f76.body.bind (cC Try.prog), cR Try.prog Try.f76.results.toList, Try.f76.ntmps) = (some s76, some r76, 59) := by kernel_rfl
theorem q76 : Known Try.prog 76 := ⟨_, Try.func76, by decide, by simp [Try.f76]⟩
def s47 : SC :=
 (.seq (.reg [⟨(some 2),none,.box 25 (.t 0)⟩,.u1 4 (0)]) (.seq (.seq (.reg [.u4 6 2 8,(.w1 7 18 [(.t 6)]),.u0 5 7]) (.seq (.reg [.u0 8 5,.u7 9 .neq 8 (0)]) (.cond (.t 9) (.seq (.reg [.u0 10 5,.u0 4 10]) .ret) .skip))) (.seq (.seq (.reg [.u4 11 2 8,⟨(some 12),none,.bld [(.int .i64 (0)),(.int .i64 (0)),(.int .i64 (0)),(.int .i64 (0)),(.int .i64 (0)),(.int .i64 (0)),(.int .i64 (0)),(.int .i64 (0))] [(0,8,(.t 11))]⟩,.u0 13 1,(.w1 14 76 [(.t 12),(.t 13)]),(.w6 15 (.not (.t 14)))]) (.cond (.t 15) (.seq (.reg [.u1 4 (31)]) .ret) .skip)) (.seq (.reg [.u1 4 (0)]) .ret))))
def r47 : List RV := [.t 4]
theorem k47 : (Try.f47.body.bind (cC Try.prog), cR Try.prog Try.f47.results.toList, Try.f47.ntmps) = (some s47, some r47, 16) := by kernel_rfl
theorem q47 : Known Try.prog 47 := ⟨_, Try.func47, by decide, by simp [Try.f47]⟩
abbrev Rg := Int × Int × Bool
def r0 : Rg := (0, 0, false)
def rowR (R : List Rg) : Nat -> List SV := fun j => [.int .i64 (R.getD j r0).1, .int .i64 (R.getD j r0).2.1, .bool (R.getD j r0).2.2]
def okR (v : Vl) (e : Rg) : Prop := (0 <= e.1 /\ e.1 <= v.m) /\ (e.1 + 1 <= e.2.1 /\ e.2.1 <= v.m) /\ (v.l1 - v.w <= e.2.1 - e.1 /\ e.2.1 - e.1 <= v.l2 + v.w)
instance (v : Vl) (e : Rg) : Decidable (okR v e) := by unfold okR; infer_instance
def okRs (v : Vl) (R : List Rg) : Prop := (1 <= R.length /\ R.length <= 8) /\ ∀ e ∈ R, okR v e
instance (v : Vl) (R : List Rg) : Decidable (okRs v R) := by unfold okRs; infer_instance
theorem takeR {R : List Rg} {i : Nat} (h : i < R.length) : R.take (i + 1) = R.take i ++ [R.getD i r0] := by
 rw [List.take_add_one, List.getElem?_eq_getElem h]; simp [List.getD, h]
theorem memR {R : List Rg} {i : Nat} (h : i < R.length) : R.getD i r0 ∈ R := by
 simp [List.getD, h]
theorem allR {v : Vl} {R : List Rg} {i : Nat} (h : i < R.length) : (∀ e ∈ R.take (i + 1), okR v e) ↔ (∀ e ∈ R.take i, okR v e) /\ okR v (R.getD i r0) := by
 rw [takeR h]
 simp only [List.mem_append, List.mem_singleton]
 exact ⟨fun h => ⟨fun e he => h e (.inl he), h _ (.inr rfl)⟩, fun h e he => he.elim (h.1 e) fun he => he ▸ h.2⟩
def askI (v : Vl) (R : List Rg) : Int := if v.ok then if okRs v R then 0 else 31 else 30
def C51 : PC := fun args K => ∃ (v : Vl) (R : List Rg), args = [v.sv, .rd 3 R.length (rowR R)] /\ K (.int .i64 (askI v R))
def C76 : PC := fun args K => ∃ (v : Vl) (R : List Rg), args = [v.sv, .rd 3 R.length (rowR R)] /\ v.ok /\ K (.bool (decide (okRs v R)))
theorem p76 : PureOk Try.prog 76 C76 := by
 refine pure_of (T := [(65, .fc F42)]) ⟨⟨p65, q65⟩, trivial⟩ Try.func76 k76 ?_
 rintro args K ⟨v, R, rfl, hv, hK⟩
 have hv' := hv
 simp only [Vl.ok] at hv'
 simp only [Vl.sv]
 simp only [e_skip, e_reg, e_seq, e_cond, e_block, e_loop, e_ret, o_nil, o_cons, gd_none, putK_e, runK_e, vK_e, boxK_e, conK_e, callK_e, evh_v, evh_box, evh_call, seqK_n, seqK_r, xNz, ends_r, endK1_e, endK2_e, gam_e, gamK_f, pc_e, pcK_e, fcC_e, fcK_e, evp, gt, st, putf, X.get, gets, ap, mkfr, rep, rdR, tupled, clV, clL, clS, clo, lens, cs1, pb, ln, lk, undef, Bool.not_true, Bool.not_false, Nat.reduceSub, beq_self_eq_true, true_and, decide_eq_true_eq, decide_eq_false_iff_not, Bool.not_eq_eq_eq_not, s76, r76, F42]
 refine ⟨fun h => ?_, fun h => ?_⟩
 ·refine res hK ?_
  have : ¬ okRs v R := fun h3 => by have := h3.1; omega
  simp [leR, this]
 ·refine loop_at2 (G := Nat) (fun g => [(13, .int .i64 g)]) (fun i => [Blk.box 78 v.cells])
   (fun g => g <= R.length /\ ∀ e ∈ R.take g, okR v e) (fun g => R.length - g) 0 ⟨Nat.zero_le _, by simp⟩ ?_
  (intro fr1 hf1; simp only [forget, dstC, dstO, st] at hf1; subst hf1)
  refine ⟨?_, ?_⟩
  ·refine Lw_re 1 [] (Nat.zero_le _) (by simp [ln]) (by simp [ln]) rfl ?_ ?_
   ·simp only [reL, reX, inb, inb.inbs, ln, sts, st, Bool.and_self, Nat.reduceLT, Nat.reduceAdd, decide_true, and_self, Int.natCast_zero, implies_true]
   ·simp only [reL, reX, reH, reB, reN, inb, ln, Nat.reduceAdd, and_self, Vl.cells]
  ·rintro i ⟨hi, hp⟩
   simp only [inr64, e_skip, e_reg, and_self, e_seq, e_cond, e_block, e_exit, e_ret, o_nil, o_cons, gd_none, gd_some, gdK_tf, gdK_ff, xRf, putK_e, runK_e, skipK_e, vK_e, storeK3_e, storeK2_e, storeK_e, conK_e, callK_e, evh_v, evh_new, evh_store, evh_call, loopK_n, loopK_x, loopK_r, seqK_n, seqK_x, seqK_r, condK_t, xNz, exitK_t, blockK_x, blockK_n, blockK_r, ends_r, endK1_e, endK2_e, gam_e, gamK_f, pc_e, pcK_e, fcC_e, fcK_e, evp, bin, gt, gq, st, putf, X.get, gets, ap, rdR, tupled, clV, clL, clS, clo, ld, lda, ixs, tk, dr, sp, sp.spl, ll, cs1, one, allOne, gb, sb, pb, ln, lk, undef, Bool.and_true, Bool.not_true, Bool.not_false, Nat.reduceAdd, beq_self_eq_true, true_and, decide_eq_true_eq, decide_eq_false_iff_not, Bool.not_eq_eq_eq_not, sts, F42, Int.toNat_natCast, rowR, Vl.cells]
   have no : i < R.length -> ¬ okR v (R.getD i r0) -> ∃ r', K r' /\ leR 4 (SV.lit (Value.bool false)) r' := fun hi' hn => by
    refine res hK ?_
    have : ¬ okRs v R := fun h3 => hn (h3.2 _ (memR hi'))
    simp [leR, this]
   refine ⟨fun hi1 => ?_, fun hi1 => ?_⟩
   ·have hi' : i < R.length := by omega
    refine ⟨by omega, fun a => ⟨fun b => ⟨fun c => no hi' fun h => by have := h.2.1; omega, fun c => ⟨by omega, by omega, by omega, fun d => no hi' fun h => d h.2.2, fun d => ⟨by omega, ?_⟩⟩⟩, fun b => no hi' fun h => by have := h.2.1; omega⟩, fun a => no hi' fun h => by have := h.1; omega⟩
    refine Nx.mk (i + 1) ⟨by show i + 1 <= R.length; omega, (allR hi').2 ⟨hp, ⟨by omega, by omega⟩, ⟨by omega, by omega⟩, d⟩⟩ (by show R.length - (i + 1) < R.length - i; omega) (Lw_re 1 [] (Nat.zero_le _) (by simp [ln]) (by simp [ln]) rfl ?_ ?_)
    ·simp only [reL, reX, inb, inb.inbs, Bool.and_self, Nat.reduceLT, decide_true, and_self, Int.natCast_add, Int.natCast_one, implies_true]
    ·simp only [reL, reX, reH, reB, reN, inb, and_self]
   ·have e : i = R.length := by omega
    subst e
    rw [List.take_length] at hp
    have : okRs v R := ⟨by omega, hp⟩
    exact res hK (by simp [leR, this])
def C47 : PC := C51
theorem p47 : PureOk Try.prog 47 C47 := by
 refine pure_of (T := [(18, .pc C18), (76, .pc C76)]) ⟨⟨p18, q18⟩, ⟨p76, q76⟩, trivial⟩ Try.func47 k47 ?_
 rintro args K ⟨v, R, rfl, hK⟩
 simp only [Vl.sv]
 simp only [e_reg, e_seq, o_nil, o_cons, gd_none, putK_e, runK_e, vK_e, boxK_e, conK_e, callK_e, evh_v, evh_box, evh_call, seqK_n, gam_e, gamK_p, pc_e, pcK_e, evp, bin, gt, st, putf, X.get, gets, ap, mkfr, rep, clV, clL, clS, clo, ld, lda, tk, dr, cs1, gb, pb, ln, lk, undef, Nat.reduceSub, beq_self_eq_true, true_and, s47, r47]
 refine ⟨v, rfl, ?_⟩
 by_cases hv : v.ok
 ·simp only [Vl.chk, if_pos hv]
  simp only [not_true_eq_false, e_skip, e_reg, e_seq, e_cond, e_ret, o_nil, o_cons, gd_none, putK_e, runK_e, vK_e, bldK_e, conK_e, callK_e, evh_v, evh_bld, evh_call, seqK_n, seqK_r, xNz, ends_r, endK1_e, endK2_e, gam_e, gamK_p, pc_e, pcK_e, evp, gt, st, putf, X.get, gets, getp, ap, rdR, tupled, clV, clL, clS, clo, ld, lda, tk, dr, sp, sp.spl, lay, ll, cs1, gb, lk, Bool.not_true, Bool.not_false, Nat.reduceAdd, Nat.reduceBEq, beq_self_eq_true, true_and, decide_eq_true_eq, decide_eq_false_iff_not, Bool.not_eq_eq_eq_not]
  refine ⟨fun h => h.elim, fun _ => ⟨v, R, rfl, hv, ?_⟩⟩
  simp only [e_skip, e_reg, e_seq, e_cond, e_ret, o_nil, o_cons, gd_none, putK_e, runK_e, vK_e, evh_v, seqK_n, seqK_r, xNz, ends_r, endK1_e, endK2_e, evp, gt, st, putf, X.get, rdR, tupled, clV, clS, clo, Bool.not_true, Bool.not_false, true_and, decide_eq_true_eq, decide_eq_false_iff_not, Bool.not_eq_eq_eq_not]
  refine ⟨fun h => res hK ?_, fun h => res hK ?_⟩
  ·simp [leR, askI, hv, h]
  ·simp [leR, askI, hv, h]
 ·simp only [Vl.chk, if_neg hv]
  simp only [e_skip, e_reg, e_seq, e_cond, e_ret, o_nil, o_cons, gd_none, putK_e, runK_e, vK_e, bldK_e, conK_e, callK_e, evh_v, evh_bld, evh_call, seqK_n, seqK_r, xNz, ends_r, endK1_e, endK2_e, gam_e, gamK_p, pc_e, pcK_e, evp, gt, st, putf, X.get, gets, getp, ap, rdR, tupled, clV, clL, clS, clo, ld, lda, tk, dr, sp, sp.spl, lay, ll, cs1, gb, lk, Bool.not_true, Bool.not_false, Nat.reduceAdd, Nat.reduceBEq, beq_self_eq_true, true_and, decide_eq_true_eq, decide_eq_false_iff_not, Bool.not_eq_eq_eq_not]
  exact ⟨fun _ => res hK (by simp [leR, askI, hv]), fun h => absurd h (by decide)⟩
end Go.Proofs.Ytgdihdiadlmjiaa
end
section
namespace Go.Vg
open Go
theorem leRs4_ok {w : World} {im : Nat -> Prop} {n : Nat} : ∀ {xs ys : List SV} {vs : List Value}, leR.leRs n xs ys -> Cvs w im xs vs -> Cvs w im ys vs
 | [], ys, vs, h, hx => by cases ys <;> simp only [leR.leRs] at h; exact hx
 | x :: xs, ys, vs, h, hx => by
  cases ys <;> simp only [leR.leRs] at h
  cases hx with
  | cons _ v _ vs hx hr => exact .cons _ _ _ _ (leR_ok n h.1 hx) (leRs4_ok h.2 hr)
def leA (x y : SV) : Prop := leR 4 x y \/ ∃ sz len f g, x = .rd sz len f /\ y = .rd sz len g /\ ∀ i, i < len -> leR.leRs 4 (f i) (g i)
theorem leA_ok {w : World} {im : Nat -> Prop} {x y : SV} {v : Value} (h : leA x y) (hx : Cv w im x v) : Cv w im y v := by
 rcases h with h | ⟨sz, len, f, g, rfl, rfl, h⟩
 ·exact leR_ok 4 h hx
 ·cases hx with
  | rdNil => exact .rdNil _ _
  | rdE => exact .rdE _ _ _ _
  | rd _ _ _ b off cap vs hb h1 h2 h3 h4 => exact .rd _ _ _ b off cap vs hb (fun i hi => leRs4_ok (h i hi) (h1 i hi)) h2 h3 h4
def leAs : List SV -> List SV -> Prop
 | [], [] => True
 | x :: a, y :: b => leA x y /\ leAs a b
 | _, _ => False
theorem leAs_ok {w : World} {im : Nat -> Prop} : ∀ {xs ys : List SV} {vs : List Value}, leAs xs ys -> Cvs w im xs vs -> Cvs w im ys vs
 | [], ys, vs, h, hx => by cases ys <;> simp only [leAs] at h; exact hx
 | x :: xs, ys, vs, h, hx => by
  cases ys <;> simp only [leAs] at h
  cases hx with
  | cons _ v _ vs hx hr => exact .cons _ _ _ _ (leA_ok h.1 hx) (leAs_ok h.2 hr)
def PC.le (C : PC) : PC := fun args K => ∃ args', leAs args args' /\ C args' K
theorem PureOk.le {P : Program} {f : FuncId} {C : PC} (h : PureOk P f C) : PureOk P f C.le :=
 fun w im _ vs K hb hv ⟨args', hl, hc⟩ => h w im args' vs K hb (leAs_ok hl hv) hc
end Go.Vg
end
section
namespace Go.Proofs.Ytgdihdiadlmjiaa
open Go Go.Vg
set_option maxRecDepth 10000
def fltN (v : Vl) : Nat -> Int
 | 0 => 0
 | k + 1 => if (tzA v [(v.l2 + k, false)]).f = true then (if fltN v k < (tzA v [(v.l2 + k, false)]).t2 - (tzA v [(v.l2 + k, false)]).t1 then (tzA v [(v.l2 + k, false)]).t2 - (tzA v [(v.l2 + k, false)]).t1 else fltN v k) else fltN v k
def flt (v : Vl) : Int := fltN v (2 * v.m + 1 - 2 * v.l2).toNat
end Go.Proofs.Ytgdihdiadlmjiaa
end
section
namespace Go.Proofs.Ytgdihdiadlmjiaa
open Go Go.Vg
set_option maxRecDepth 10000
def doesP (v : Vl) (r f : Int) : Prop := (0 <= 2 * v.m - v.l2 - v.z2 /\ 0 <= v.z1 - v.l2) /\ r <= v.v1 * min (2 * v.m - v.l2 - v.z2) (v.z1 - v.l2) /\ flt v <= f
instance (v : Vl) (r f : Int) : Decidable (doesP v r f) := by unfold doesP; infer_instance
abbrev v0 : Vl := ⟨0, 0, 0, 0, 0, 0, 0, 0⟩
end Go.Proofs.Ytgdihdiadlmjiaa
end
section
namespace Go.Proofs.Ytgdihdiadlmjiaa
open Go Go.Vg
set_option maxRecDepth 10000
end Go.Proofs.Ytgdihdiadlmjiaa
end
section
namespace Go.Proofs.Ytgdihdiadlmjiaa
open Go Go.Vg
set_option maxRecDepth 10000
end Go.Proofs.Ytgdihdiadlmjiaa
end
section
namespace Go.Proofs.Ytgdihdiadlmjiaa
open Go Go.Vg
set_option maxRecDepth 10000
def midR (e : Rg) : Md := (e.1 + e.2.1, e.2.2)
end Go.Proofs.Ytgdihdiadlmjiaa
end
section
namespace Go.Proofs.Ytgdihdiadlmjiaa
open Go Go.Vg
set_option maxRecDepth 10000
end Go.Proofs.Ytgdihdiadlmjiaa
end
section
namespace Go.Proofs.Ytgdihdiadlmjiaa
open Go Go.Vg
set_option maxRecDepth 10000
def decR (n : Nat) (f : Nat -> List SV) : List Rg := (List.range n).map fun j => match f j with
 | [.int .i64 a, .int .i64 b, .bool c] => (a, b, c)
 | _ => r0
theorem decR_row (R : List Rg) : decR R.length (rowR R) = R := by
 refine List.ext_getElem (by simp [decR]) fun i h1 h2 => ?_
 simp [decR, rowR, List.getD, h2]
theorem decR_len (n : Nat) (f : Nat -> List SV) : (decR n f).length = n := by simp [decR]
def canP (v : Vl) (R : List Rg) (a z t : Int) : Prop := loW v.w z (R.map midR) <= hiW v.w z (R.map midR) /\ loW v.w z (R.map midR) * a <= t /\ t <= hiW v.w z (R.map midR) * a
instance (v : Vl) (R : List Rg) (a z t : Int) : Decidable (canP v R a z t) := by unfold canP; infer_instance
theorem ask0 {v : Vl} {R : List Rg} (h : askI v R = 0) : v.ok /\ okRs v R := by
 unfold askI at h
 split at h
 ·split at h
  ·rename_i a b; exact ⟨a, b⟩
  ·cases h
 ·cases h
end Go.Proofs.Ytgdihdiadlmjiaa
end
section
namespace Go.Proofs.Ytgdihdiadlmjiaa
open Go Go.Vg
set_option maxRecDepth 10000
def s87 : SC :=
 (.seq (.reg [⟨(some 0),none,.new 134 [(.lit (.bool false)),(.lit .nilFunc),(.lit (.bool false)),(.lit .nilFunc)]⟩]) (.seq (.reg [⟨(some 1),none,.bld [(.lit (.bool false)),(.lit .nilFunc)] [(0,1,(.c (.lit (.bool false)))),(1,1,(.c (.fn 96 [])))]⟩,⟨(some 2),none,.bld [(.lit (.bool false)),(.lit .nilFunc)] [(0,1,(.c (.lit (.bool true)))),(1,1,(.c (.fn 97 [])))]⟩,⟨(some 3),none,.bld [(.lit (.bool false)),(.lit .nilFunc),(.lit (.bool false)),(.lit .nilFunc)] [(0,2,(.t 1)),(2,2,(.t 2))]⟩,.w3 4 0 3]) .ret))
def r87 : List RV := [.c 0 (some 4)]
theorem k87 : (Try.f87.body.bind (cC Try.prog), cR Try.prog Try.f87.results.toList, Try.f87.ntmps) = (some s87, some r87, 4) := by kernel_rfl
theorem q87 : Known Try.prog 87 := ⟨_, Try.func87, by decide, by simp [Try.f87]⟩
def s118 : SC :=
 (.seq (.reg [⟨(some 2),none,.box 145 (.t 0)⟩,.w4 4]) (.seq (.reg [.u2 5 2 0,.u3 6 5,.u0 7 1,.u6 8 .sub 6 7,.u2 9 2 1,.u3 10 9,.u0 11 1,.u6 12 .sub 10 11,⟨(some 13),none,.bld [(.int .i64 (0)),(.int .i64 (0))] [(0,1,(.t 8)),(1,1,(.t 12))]⟩,.w3 2 4 13]) .ret))
def r118 : List RV := [.c 4 (some 2)]
theorem k118 : (Try.f118.body.bind (cC Try.prog), cR Try.prog Try.f118.results.toList, Try.f118.ntmps) = (some s118, some r118, 14) := by kernel_rfl
theorem q118 : Known Try.prog 118 := ⟨_, Try.func118, by decide, by simp [Try.f118]⟩
def s119 : SC :=
 (.seq (.reg [⟨(some 2),none,.box 146 (.t 0)⟩,.w4 4]) (.seq (.reg [.u0 5 1,.u2 6 2 1,.u3 7 6,.u6 8 .sub 5 7,.u0 9 1,.u2 10 2 0,.u3 11 10,.u6 12 .sub 9 11,⟨(some 13),none,.bld [(.int .i64 (0)),(.int .i64 (0))] [(0,1,(.t 8)),(1,1,(.t 12))]⟩,.w3 2 4 13]) .ret))
def r119 : List RV := [.c 4 (some 2)]
theorem k119 : (Try.f119.body.bind (cC Try.prog), cR Try.prog Try.f119.results.toList, Try.f119.ntmps) = (some s119, some r119, 14) := by kernel_rfl
theorem q119 : Known Try.prog 119 := ⟨_, Try.func119, by decide, by simp [Try.f119]⟩
def s80 : SC :=
 (.seq (.reg [⟨(some 1),none,.box 78 (.t 0)⟩,(.w6 2 (.mov (.c (.lit .nilFunc))))]) (.seq (.reg [(.w6 3 (.mkfn 95 [(.t 1)])),.u0 2 3]) .ret))
def r80 : List RV := [.t 2]
theorem k80 : (Try.f80.body.bind (cC Try.prog), cR Try.prog Try.f80.results.toList, Try.f80.ntmps) = (some s80, some r80, 4) := by kernel_rfl
theorem q80 : Known Try.prog 80 := ⟨_, Try.func80, by decide, by simp [Try.f80]⟩
def F87 : FC := fun args => match args with
 | [] => some (True, .agg [.bool false, .fn 96 [], .bool true, .fn 97 []])
 | _ => none
theorem p87 : PureOk Try.prog 87 (fcC F87) := by
 refine pure_of (T := []) trivial Try.func87 k87 ?_
 intro args K hC
 unfold fcC F87 at hC
 split at hC <;> first | (exact hC.elim) | skip
 rename_i h
 split at h <;> first | (cases h; done) | skip
 cases h
 obtain ⟨-, hK⟩ := hC
 simp only [↓reduceIte, e_reg, and_self, e_seq, e_ret, o_nil, o_cons, gd_none, putK_e, runK_e, bldK_e, storeK3_e, storeK2_e, storeK_e, evh_new, evh_bld, evh_store, seqK_n, ends_r, endK1_e, endK2_e, gt, st, putf, X.get, getp, mkfr, rep, rdR, tupled, clV, clL, clS, clo, ld, tk, dr, sp, sp.spl, lay, ll, cs1, one, allOne, gb, sb, pb, ln, Value.oneCell', undef, Bool.and_true, Nat.reduceAdd, beq_self_eq_true, true_and, s87, r87]
 exact res hK (by simp [leR, leR.leRs])
def sml (x : Int) : Prop := -1000000000000 <= x /\ x <= 1000000000000
def F118 : FC := fun args => match args with
 | [.agg [.int .i64 a, .int .i64 b], .int .i64 z] => some (sml a /\ sml b /\ sml z, .agg [.int .i64 (a - z), .int .i64 (b - z)])
 | _ => none
theorem p118 : PureOk Try.prog 118 (fcC F118) := by
 refine pure_of (T := []) trivial Try.func118 k118 ?_
 intro args K hC
 unfold fcC F118 at hC
 split at hC <;> first | (exact hC.elim) | skip
 rename_i h
 split at h <;> first | (cases h; done) | skip
 cases h
 obtain ⟨⟨ha, hb, hz⟩, hK⟩ := hC
 unfold sml at ha hb hz
 simp only [inr64, ↓reduceIte, e_reg, and_self, e_seq, e_ret, o_nil, o_cons, gd_none, putK_e, runK_e, vK_e, boxK_e, bldK_e, storeK3_e, storeK2_e, storeK_e, evh_v, evh_new, evh_box, evh_bld, evh_store, seqK_n, ends_r, endK1_e, endK2_e, evp, bin, gt, gq, st, putf, X.get, getp, mkfr, rep, rdR, tupled, clV, clL, clS, clo, ld, lda, tk, dr, sp, sp.spl, lay, ll, cs1, one, allOne, gb, sb, pb, ln, undef, Bool.and_true, Nat.reduceSub, Nat.reduceAdd, beq_self_eq_true, true_and, s118, r118]
 exact ⟨by omega, by omega, res hK (by simp [leR, leR.leRs])⟩
def F119 : FC := fun args => match args with
 | [.agg [.int .i64 a, .int .i64 b], .int .i64 z] => some (sml a /\ sml b /\ sml z, .agg [.int .i64 (z - b), .int .i64 (z - a)])
 | _ => none
theorem p119 : PureOk Try.prog 119 (fcC F119) := by
 refine pure_of (T := []) trivial Try.func119 k119 ?_
 intro args K hC
 unfold fcC F119 at hC
 split at hC <;> first | (exact hC.elim) | skip
 rename_i h
 split at h <;> first | (cases h; done) | skip
 cases h
 obtain ⟨⟨ha, hb, hz⟩, hK⟩ := hC
 unfold sml at ha hb hz
 simp only [inr64, ↓reduceIte, e_reg, and_self, e_seq, e_ret, o_nil, o_cons, gd_none, putK_e, runK_e, vK_e, boxK_e, bldK_e, storeK3_e, storeK2_e, storeK_e, evh_v, evh_new, evh_box, evh_bld, evh_store, seqK_n, ends_r, endK1_e, endK2_e, evp, bin, gt, gq, st, putf, X.get, getp, mkfr, rep, rdR, tupled, clV, clL, clS, clo, ld, lda, tk, dr, sp, sp.spl, lay, ll, cs1, one, allOne, gb, sb, pb, ln, undef, Bool.and_true, Nat.reduceSub, Nat.reduceAdd, beq_self_eq_true, true_and, s119, r119]
 exact ⟨by omega, by omega, res hK (by simp [leR, leR.leRs])⟩
def F80 : FC := fun args => match args with
 | [.agg [.int .i64 m, .int .i64 l1, .int .i64 l2, .int .i64 v1, .int .i64 v2, .int .i64 z1, .int .i64 z2, .int .i64 w]] => some (True, .fn 95 [.rp (Vl.cells ⟨m, l1, l2, v1, v2, z1, z2, w⟩) 0])
 | _ => none
theorem p80 : PureOk Try.prog 80 (fcC F80) := by
 refine pure_of (T := []) trivial Try.func80 k80 ?_
 intro args K hC
 unfold fcC F80 at hC
 split at hC <;> first | (exact hC.elim) | skip
 rename_i h
 split at h <;> first | (cases h; done) | skip
 cases h
 obtain ⟨-, hK⟩ := hC
 simp only [e_reg, e_seq, e_ret, o_nil, o_cons, gd_none, putK_e, runK_e, vK_e, boxK_e, evh_v, evh_box, seqK_n, ends_r, endK1_e, endK2_e, evp, gt, st, putf, X.get, gets, mkfr, rep, rdR, tupled, clV, clL, clS, clo, cs1, gb, sb, pb, ln, undef, Nat.reduceSub, true_and, s80, r80]
 exact res hK (by simp [leR, leR.leRs, Vl.cells])
end Go.Proofs.Ytgdihdiadlmjiaa
end
