import Derived.Test.YtgdihdiadlmjiaaVgLM9
set_option linter.all false
namespace Go.Proofs.Ytgdihdiadlmjiaa
open Go Go.Vg
set_option maxRecDepth 10000
def s33 : SC :=
 (.seq (.reg [⟨(some 1),none,.box 25 (.t 0)⟩,.w5 2 false]) (.seq (.reg [.u4 3 1 8,(.w1 4 18 [(.t 3)]),.u7 5 .eql 4 (0),.u0 6 5,(.w0 7 6 true (.off (.t 1) 0)),(.w0 8 6 true (.load (.t 7) none)),⟨(some 9),(some (6,true)),.call (.c (.fn 42 [])) [(.t 8),(.c (.int .i64 (10))),(.c (.int .i64 (200)))]⟩,.u8 10 6 9,.u0 11 10,(.w0 12 11 true (.off (.t 1) 5)),(.w0 13 11 true (.load (.t 12) (some 2))),⟨(some 14),(some (11,true)),.call (.c (.fn 55 [])) [(.t 13),(.c (.int .i64 (0))),(.c (.int .i64 (400)))]⟩,.u8 15 11 14,.u0 16 15,(.w0 17 16 true (.off (.t 1) 3)),(.w0 18 16 true (.load (.t 17) (some 2))),⟨(some 19),(some (16,true)),.call (.c (.fn 55 [])) [(.t 18),(.c (.int .i64 (1))),(.c (.int .i64 (500)))]⟩,.u8 20 16 19,.u0 21 20,(.w0 22 21 true (.off (.t 1) 7)),(.w0 23 21 true (.load (.t 22) none)),⟨(some 24),(some (21,true)),.call (.c (.fn 42 [])) [(.t 23),(.c (.int .i64 (0))),(.c (.int .i64 (8)))]⟩,.u8 25 21 24,.u0 26 25,(.w0 27 26 true (.off (.t 1) 1)),(.w0 28 26 true (.load (.t 27) (some 2))),(.w0 29 26 true (.off (.t 1) 0)),(.w0 30 26 true (.load (.t 29) none)),⟨(some 31),(some (26,true)),.call (.c (.fn 55 [])) [(.t 28),(.c (.int .i64 (1))),(.t 30)]⟩,.u8 32 26 31,.u0 2 32]) .ret))
def r33 : List RV := [.t 2]
theorem k33 : (Try.f33.body.bind (cC Try.prog), cR Try.prog Try.f33.results.toList, Try.f33.ntmps) = (some s33, some r33, 33) := by kernel_rfl
theorem q33 : Known Try.prog 33 := ⟨_, Try.func33, by decide, by simp [Try.f33]⟩
noncomputable def s9 : SC :=
 (.seq (.reg [⟨(some 2),none,.box 25 (.t 0)⟩,.w5 4 false]) (.seq (.reg [.u4 21 2 8,.u0 22 1,(.w1 23 20 [(.t 21),(.t 22)]),.u0 20 23,.u5 24 20 0,.u5 25 20 1,.u5 26 20 2,.w4 5,.w4 6,.w3 2 5 24,.w3 2 6 25,.u0 7 26]) (.seq (.seq (.reg [.u0 27 7,.u7 28 .neq 27 (0),.u0 29 28,(.w0 30 29 false (.load (.t 2) (some 8))),⟨(some 31),(some (29,false)),.call (.c (.fn 33 [])) [(.t 30)]⟩,(.w0 32 29 false (.not (.t 31))),.u9 33 29 32]) (.cond (.t 33) (.seq (.reg [.u0 34 7,.u7 35 .neq 34 (0),.u0 36 35,(.w0 37 36 true (.load (.t 5) (some 2))),⟨(some 38),(some (36,true)),.bld [(.int .i64 (0)),(.int .i64 (0))] []⟩,(.w0 39 36 true (.eqs [(some .i64),(some .i64)] false (.t 37) (.t 38))),.u8 40 36 39,.u0 41 40,⟨(some 42),(some (41,true)),.call (.c (.fn 22 [])) []⟩,.u8 43 41 42,.u0 4 43]) .ret) .skip)) (.seq (.reg [⟨(some 44),none,.bsl 4 4 [(.lit (.bool false)),(.lit (.bool false)),(.lit (.bool false)),(.lit (.bool false))] [(0,1,(.c (.lit (.bool false)))),(1,1,(.c (.lit (.bool false)))),(2,1,(.c (.lit (.bool false)))),(3,1,(.c (.lit (.bool false))))]⟩,.u0 8 44]) (.seq (.seq (.reg [.u2 45 2 5,.u2 46 45 0,.u3 47 46,.u0 9 47]) (.block 0 (.loop (.seq (.seq (.reg [.u0 48 9,.u2 49 2 5,.u2 50 49 1,.u3 51 50,.u6 52 .leq 48 51]) (.cond (.t 52) .skip (.exit 0))) (.seq (.block 1 (.seq (.reg [.u1 10 (0)]) (.block 2 (.loop (.seq (.seq (.reg [.u0 55 10,.u7 56 .lss 55 (4)]) (.cond (.t 56) .skip (.exit 2))) (.seq (.block 3 (.seq (.drw [(0,.u2 59 2 3,false),(1,.u2 60 59 0,false),(2,.u3 61 60,false),(3,.u2 62 5 0,false),(4,.u3 63 62,false),(5,.u0 11 61,false)] none [.u0 12 63]) (.seq (.seq (.reg [.u0 64 10,.u7 65 .geq 64 (2)]) (.cond (.t 65) (.reg [.u2 66 2 3,.u2 67 66 1,.u3 68 67,.u0 11 68]) .skip)) (.seq (.seq (.reg [.u0 69 10,.u7 70 .rem 69 (2),.u7 71 .eql 70 (1)]) (.cond (.t 71) (.reg [.u2 72 5 1,.u3 73 72,.u0 12 73]) .skip)) (.seq (.reg [.u4 75 2 8,.u0 76 1,.u0 77 11,.u0 78 9,.u0 79 12,⟨(some 80),none,.bld [(.int .i64 (0)),(.int .i64 (0)),(.int .i64 (0))] [(0,1,(.t 77)),(1,1,(.t 78)),(2,1,(.t 79))]⟩,(.w1 81 16 [(.t 75),(.t 76),(.t 80)]),.u0 74 81,.u5 82 74 0,.u5 83 74 1,.u0 13 82,.u0 14 83]) (.seq (.seq (.reg [.u0 84 14,.u7 85 .neq 84 (0)]) (.cond (.t 85) (.seq (.reg [.w5 4 false]) .ret) .skip)) (.reg [.u0 86 8,.u0 87 10,.u7 88 .rem 87 (2),.u0 89 8,.u0 90 10,.u7 91 .rem 90 (2),(.w6 92 (.ixa (.t 89) (.t 91) 1)),.u3 93 92,.u0 94 93,(.w0 95 94 false (.mov (.t 13))),.u9 96 94 95,(.w6 97 (.ixa (.t 86) (.t 88) 1)),.w3 1 97 96]))))))) (.reg [.u0 57 10,.u7 58 .add 57 (1),.u0 10 58]))))))) (.reg [.u0 53 9,.u7 54 .add 53 (1),.u0 9 54])))))) (.seq (.seq (.reg [.u1 15 (-408)]) (.block 4 (.loop (.seq (.seq (.reg [.u0 98 15,.u7 99 .leq 98 (408)]) (.cond (.t 99) .skip (.exit 4))) (.seq (.block 5 (.seq (.reg [.u4 103 2 8,.u0 104 1,.u2 105 2 3,.u2 106 105 0,.u3 107 106,.u2 108 6 0,.u3 109 108,.u0 110 15,.u2 111 2 3,.u2 112 111 0,.u3 113 112,.u6 114 .mul 110 113,⟨(some 115),none,.bld [(.int .i64 (0)),(.int .i64 (0)),(.int .i64 (0))] [(0,1,(.t 107)),(1,1,(.t 109)),(2,1,(.t 114))]⟩,(.w1 116 16 [(.t 103),(.t 104),(.t 115)]),.u0 102 116,.u5 117 102 0,.u5 118 102 1,.u0 16 117,.u0 17 118]) (.seq (.reg [.u4 120 2 8,.u0 121 1,.u2 122 2 3,.u2 123 122 0,.u3 124 123,.u2 125 6 1,.u3 126 125,.u0 127 15,.u2 128 2 3,.u2 129 128 0,.u3 130 129,.u6 131 .mul 127 130,⟨(some 132),none,.bld [(.int .i64 (0)),(.int .i64 (0)),(.int .i64 (0))] [(0,1,(.t 124)),(1,1,(.t 126)),(2,1,(.t 131))]⟩,(.w1 133 16 [(.t 120),(.t 121),(.t 132)]),.u0 119 133,.u5 134 119 0,.u5 135 119 1,.u0 18 134,.u0 19 135]) (.seq (.seq (.reg [.u0 136 17,.u7 137 .neq 136 (0),.u0 138 137,(.w0 139 138 false (.mov (.t 19))),(.w0 140 138 false (.bin .neq (.t 139) (.c (.int .i64 (0))))),.u9 141 138 140]) (.cond (.t 141) (.seq (.reg [.w5 4 false]) .ret) .skip)) (.sem (rq Try.f9 27)))))) (.reg [.u0 100 15,.u7 101 .add 100 (1),.u0 15 101])))))) (.seq (.reg [.u0 158 8,(.w6 159 (.ixa (.t 158) (.c (.int .i64 (0))) 1)),.u3 160 159,.u0 161 160,(.w0 162 161 true (.mov (.t 8))),(.w0 163 161 true (.ixa (.t 162) (.c (.int .i64 (1))) 1)),(.w0 164 161 true (.load (.t 163) none)),.u8 165 161 164,.u0 166 165,(.w0 167 166 true (.mov (.t 8))),(.w0 168 166 true (.ixa (.t 167) (.c (.int .i64 (2))) 1)),(.w0 169 166 true (.load (.t 168) none)),.u8 170 166 169,.u0 171 170,(.w0 172 171 true (.mov (.t 8))),(.w0 173 171 true (.ixa (.t 172) (.c (.int .i64 (3))) 1)),(.w0 174 171 true (.load (.t 173) none)),.u8 175 171 174,.u0 176 175,⟨(some 177),(some (176,true)),.call (.c (.fn 22 [])) []⟩,.u8 178 176 177,.u0 4 178]) .ret)))))))
def r9 : List RV := [.t 4]
theorem k9 : (Try.f9.body.bind (cC Try.prog), cR Try.prog Try.f9.results.toList, Try.f9.ntmps) = (some s9, some r9, 179) := by kernel_rfl
def F33 : FC := fun args => match args with
 | [.agg [.int .i64 m, .int .i64 l1, .int .i64 l2, .int .i64 v1, .int .i64 v2, .int .i64 z1, .int .i64 z2, .int .i64 w]] => some (True, .bool (decide (Vl.ok ⟨m, l1, l2, v1, v2, z1, z2, w⟩)))
 | _ => none
theorem p33 : PureOk Try.prog 33 (fcC F33) := by
 refine pure_of (T := [(18, .fc F18), (42, .fc F42), (55, .fc F55)]) ⟨⟨p18f, q18⟩, ⟨p42, q42⟩, ⟨p55, q55⟩, trivial⟩ Try.func33 k33 ?_
 intro args K hC
 unfold fcC F33 at hC
 split at hC <;> first | (exact hC.elim) | skip
 rename_i h
 split at h <;> first | (cases h; done) | skip
 rename_i m l1 l2 v1 v2 z1 z2 w
 cases h
 obtain ⟨-, hK⟩ := hC
 by_cases hv : Vl.ok ⟨m, l1, l2, v1, v2, z1, z2, w⟩
 ·have hc : Vl.chk ⟨m, l1, l2, v1, v2, z1, z2, w⟩ = 0 := if_pos hv
  have hd : decide (Vl.ok ⟨m, l1, l2, v1, v2, z1, z2, w⟩) = true := decide_eq_true hv
  rw [hd] at hK
  unfold Vl.ok at hv
  simp only at hv
  have d1 : (10 ≤ m ∧ m ≤ 200) = True := eq_true hv.1
  have d2 : ((0 ≤ z1 ∧ z1 ≤ z2) ∧ z2 ≤ 400) = True := eq_true (by omega)
  have d3 : ((1 ≤ v1 ∧ v1 ≤ v2) ∧ v2 ≤ 500) = True := eq_true (by omega)
  have d4 : (0 ≤ w ∧ w ≤ 8) = True := eq_true (by omega)
  have d5 : ((1 ≤ l1 ∧ l1 ≤ l2) ∧ l2 ≤ m) = True := eq_true (by omega)
  simp only [gdK_btt, decide_true, e_reg, e_seq, e_ret, o_nil, o_cons, gd_none, gd_some, gdK_tt, putK_e, runK_e, vK_e, boxK_e, conK_e, callK_e, evh_v, evh_box, evh_call, seqK_n, ends_r, endK1_e, endK2_e, gam_e, gamK_f, pc_e, pcK_e, fcC_e, fcK_e, evp, bin, gt, gq, st, putf, X.get, gets, ap, mkfr, rep, rdR, tupled, clV, clL, clS, clo, ld, lda, tk, dr, cs1, gb, pb, ln, lk, undef, Nat.reduceSub, Nat.reduceAdd, Nat.reduceBEq, beq_self_eq_true, true_and, s33, r33, F18, F42, F55, hc, d1, d2, d3, d4, d5]
  exact res hK (by simp [leR])
 ·have hc : Vl.chk ⟨m, l1, l2, v1, v2, z1, z2, w⟩ = 30 := if_neg hv
  have hd : decide (Vl.ok ⟨m, l1, l2, v1, v2, z1, z2, w⟩) = false := decide_eq_false hv
  rw [hd] at hK
  have n30 : ((30 : Int) = 0) = False := eq_false (by decide)
  simp only [gdK_btf, decide_false, e_reg, e_seq, e_ret, o_nil, o_cons, gd_none, gd_some, gdK_ft, putK_e, runK_e, skipK_e, vK_e, boxK_e, conK_e, callK_e, evh_v, evh_box, evh_call, seqK_n, ends_r, endK1_e, endK2_e, gam_e, gamK_f, pc_e, pcK_e, fcC_e, fcK_e, evp, bin, gt, st, putf, X.get, gets, ap, mkfr, rep, rdR, tupled, clV, clL, clS, clo, ld, lda, tk, dr, cs1, gb, pb, ln, lk, undef, Nat.reduceSub, beq_self_eq_true, true_and, s33, r33, F18, hc, n30]
  exact res hK (by simp [leR])
def orS (c a : Bool) : SV := match c with | true => .lit undef | false => .lit (.bool a)
def C9 : PC := fun args K => ∃ (v : Vl) (R : List Rg), args = [v.sv, .rd 3 R.length (rowR R)] ∧ K (.bool true)
def AG (v : Vl) (R : List Rg) (a z t : Int) : Bool := agrB (Mp.mid v.w R).ev a z t
def metZ (v : Vl) (R : List Rg) (z : Int) (b0 b1 : Bool) : Prop := ∀ a, (a = v.v1 ∨ a = v.v2) → (AG v R a z (trM v R).1.1 = true → b0 = true) ∧ (AG v R a z (trM v R).1.2 = true → b1 = true)
def askA (v : Vl) (k : Nat) : Int := if 2 ≤ k then v.v2 else v.v1
def askT (v : Vl) (R : List Rg) (k : Nat) : Int := if k % 2 = 1 then (trM v R).1.2 else (trM v R).1.1
def metK (v : Vl) (R : List Rg) (z : Int) (k : Nat) (b0 b1 : Bool) : Prop := ∀ j, j < k → AG v R (askA v j) z (askT v R j) = true → (if j % 2 = 1 then b1 else b0) = true
def up0 (k : Nat) (b x : Bool) : Bool := if k % 2 = 1 then b else b || x
def up1 (k : Nat) (b x : Bool) : Bool := if k % 2 = 1 then b || x else b
theorem metK_s {v : Vl} {R : List Rg} {z : Int} {k : Nat} {b0 b1 : Bool} (h : metK v R z k b0 b1) : metK v R z (k + 1) (up0 k b0 (AG v R (askA v k) z (askT v R k))) (up1 k b1 (AG v R (askA v k) z (askT v R k))) := by
 intro j hj hA
 rcases Nat.lt_or_eq_of_le (Nat.le_of_lt_succ hj) with h2 | rfl
 ·have := h j h2 hA
  unfold up0 up1
  by_cases h3 : j % 2 = 1 <;> by_cases h4 : k % 2 = 1 <;> simp only [h3, h4, if_true, if_false] at this ⊢ <;> simp [this]
 ·unfold up0 up1
  by_cases h3 : j % 2 = 1 <;> simp [h3, hA]
theorem up_ge {k : Nat} {b0 b1 x : Bool} : (b0 = true → up0 k b0 x = true) ∧ (b1 = true → up1 k b1 x = true) := by
 unfold up0 up1
 by_cases h4 : k % 2 = 1 <;> simp only [h4, if_true, if_false] <;> exact ⟨fun h => by simp [h], fun h => by simp [h]⟩
theorem metK_4 {v : Vl} {R : List Rg} {z : Int} {b0 b1 : Bool} (h : metK v R z 4 b0 b1) : metZ v R z b0 b1 := by
 have h0 := h 0 (by omega)
 have h1 := h 1 (by omega)
 have h2 := h 2 (by omega)
 have h3 := h 3 (by omega)
 simp only [askA, askT, show ¬ (2 ≤ 0) by omega, show ¬ (2 ≤ 1) by omega, show (2 ≤ 2) by omega, show (2 ≤ 3) by omega, show ¬ (0 % 2 = 1) by omega, show 1 % 2 = 1 by omega, if_true, if_false] at h0 h1 h2 h3
 rintro a (rfl | rfl)
 ·exact ⟨h0, h1⟩
 ·exact ⟨h2, h3⟩
set_option maxHeartbeats 8000000 in
theorem p9 (p22 : PureOk Try.prog 22 (fcC F22)) (q22 : Known Try.prog 22) : PureOk Try.prog 9 C9 := by
 refine pure_of (T := [(16, .pc C16), (20, .pc C20), (33, .fc F33), (22, .fc F22)]) ⟨⟨p16, q16⟩, ⟨p20, q20⟩, ⟨p33, q33⟩, ⟨p22, q22⟩, trivial⟩ Try.func9 k9 ?_
 rintro args K ⟨v, R, rfl, hK⟩
 simp only [Vl.sv]
 have n33 : ((33 : Int) = 0) = False := eq_false (by decide)
 simp only [e_reg, e_seq, o_nil, o_cons, gd_none, putK_e, runK_e, vK_e, boxK_e, conK_e, callK_e, evh_v, evh_box, evh_call, seqK_n, gam_e, gamK_p, pc_e, pcK_e, evp, gt, st, putf, X.get, gets, ap, mkfr, rep, clV, clL, clS, clo, ld, lda, tk, dr, cs1, gb, pb, ln, lk, undef, Nat.reduceSub, Nat.reduceBEq, beq_self_eq_true, true_and, s9, r9]
 refine ⟨v, R, rfl, fun h => ?_, fun h h2 => ?_, fun h h2 => ?_⟩
 ·have hF : (askI v R = 0) = False := eq_false h
  simp only [gdK_btt, gdK_bft, decide_true, decide_false, e_reg, and_self, e_seq, e_cond, e_ret, o_nil, o_cons, gd_none, gd_some, gdK_tt, gdK_tf, putK_e, runK_e, skipK_e, vK_e, bldK_e, storeK3_e, storeK2_e, storeK_e, conK_e, callK_e, evh_v, evh_new, evh_bld, evh_store, evh_call, seqK_n, seqK_r, condK_t, ends_r, endK1_e, endK2_e, gam_e, gamK_f, pc_e, pcK_e, fcC_e, fcK_e, evp, fit, InQ, bin, gt, gq, st, putf, X.get, gets, getp, ap, rdR, tupled, clV, clL, clS, clo, ld, lda, tk, dr, sp, sp.spl, lay, ll, cs1, one, allOne, gb, sb, pb, ln, lk, undef, Bool.and_true, Bool.not_true, Bool.not_false, cond_false, Nat.reduceAdd, Nat.reduceBEq, beq_self_eq_true, true_and, and_true, hF, F22]
  exact ⟨by omega, _, hK, rfl⟩
 ·simp only [gdK_btt, gdK_bft, decide_true, decide_false, e_reg, and_self, e_seq, e_cond, e_ret, o_nil, o_cons, gd_none, gd_some, gdK_tt, gdK_tf, putK_e, runK_e, skipK_e, vK_e, bldK_e, storeK3_e, storeK2_e, storeK_e, conK_e, callK_e, evh_v, evh_new, evh_bld, evh_store, evh_call, seqK_n, seqK_r, condK_t, ends_r, endK1_e, endK2_e, gam_e, gamK_f, pc_e, pcK_e, fcC_e, fcK_e, evp, fit, InQ, bin, gt, gq, st, putf, X.get, gets, getp, ap, rdR, tupled, clV, clL, clS, clo, ld, lda, tk, dr, sp, sp.spl, lay, ll, cs1, one, allOne, gb, sb, pb, ln, lk, undef, Bool.and_true, Bool.not_true, Bool.not_false, cond_false, Nat.reduceAdd, Nat.reduceBEq, beq_self_eq_true, true_and, and_true, n33, F22]
  exact ⟨by omega, _, hK, rfl⟩
 ·obtain ⟨hv, hR⟩ := ask0 h
  have hv2 := hv
  unfold Vl.ok at hv2
  have hvT : Vl.ok ⟨v.m, v.l1, v.l2, v.v1, v.v2, v.z1, v.z2, v.w⟩ = True := eq_true hv
  have hb := trM_bnd hv hR
  have he := end_t hv hR h2
  simp only [gdK_bff, condK_bf, decide_true, ↓reduceIte, e_skip, e_reg, and_self, e_seq, e_cond, e_block, e_loop, o_nil, o_cons, gd_none, gd_some, gdK_ff, putK_e, runK_e, vK_e, bslK_e, storeK3_e, storeK2_e, storeK_e, conK_e, callK_e, evh_v, evh_new, evh_bsl, evh_store, evh_call, seqK_n, gam_e, gamK_f, pc_e, pcK_e, fcC_e, fcK_e, evp, bin, gt, gq, st, putf, X.get, gets, getp, ap, clV, clL, clS, clo, ld, lda, tk, dr, sp, sp.spl, lay, ll, cs1, one, allOne, gb, sb, pb, ln, lk, Value.oneCell', Bool.and_true, Bool.not_true, Nat.reduceAdd, Nat.reduceBEq, beq_self_eq_true, true_and, F33, hvT]
  refine loop_at2 (G := Nat × Bool × Bool) (fun g => [(9, .int .i64 (v.z1 + g.1))]) (fun g => [Blk.box 25 [.int .i64 v.m, .int .i64 v.l1, .int .i64 v.l2, .int .i64 v.v1, .int .i64 v.v2, .int .i64 v.z1, .int .i64 v.z2, .int .i64 v.w], .box 23 [.int .i64 (trM v R).1.1, .int .i64 (trM v R).1.2], .box 23 [.int .i64 (trM v R).2.1, .int .i64 (trM v R).2.2], .box 4 [.bool g.2.1, .bool g.2.2, .lit (.bool false), .lit (.bool false)]]) (fun g => v.z1 + g.1 ≤ v.z2 + 1 ∧ ∀ j : Nat, j < g.1 → metZ v R (v.z1 + j) g.2.1 g.2.2) (fun g => (v.z2 + 1 - v.z1 - g.1).toNat) (0, false, false) ⟨by simp only; omega, fun j hj => absurd hj (Nat.not_lt_zero _)⟩ ?_
  (intro fr1 hf1; simp only [forget, dstC, dstO, dstD, dst1, st] at hf1; subst hf1)
  refine ⟨?_, ?_⟩
  ·refine Lw_re 4 [] (Nat.zero_le _) (by simp [ln]) (by simp [ln]) rfl ?_ ?_
   ·simp only [reL, reX, inb, inb.inbs, ln, sts, st, Bool.and_self, Nat.reduceLT, Nat.reduceAdd, decide_true, and_self, Int.natCast_zero, Int.add_zero, implies_true]
   ·simp only [reL, reX, reH, reB, reN, inb, and_self]
  ·rintro ⟨i, b0, b1⟩ ⟨hi, hm⟩
   simp only at hi hm
   by_cases hz : v.z1 + i ≤ v.z2
   ·have hzT : (v.z1 + (i : Int) ≤ v.z2) = True := eq_true hz
    simp only [condK_bt, decide_true, e_skip, e_reg, e_seq, e_cond, e_block, e_loop, o_nil, o_cons, gd_none, putK_e, runK_e, vK_e, evh_v, seqK_n, evp, bin, gt, gq, st, putf, X.get, ld, lda, gb, Nat.reduceAdd, true_and, sts, hzT]
    refine loop_at2 (G := Nat × Bool × Bool) (fun g => [(9, .int .i64 (v.z1 + i)), (10, .int .i64 g.1)]) (fun g => [Blk.box 25 [.int .i64 v.m, .int .i64 v.l1, .int .i64 v.l2, .int .i64 v.v1, .int .i64 v.v2, .int .i64 v.z1, .int .i64 v.z2, .int .i64 v.w], .box 23 [.int .i64 (trM v R).1.1, .int .i64 (trM v R).1.2], .box 23 [.int .i64 (trM v R).2.1, .int .i64 (trM v R).2.2], .box 4 [.bool g.2.1, .bool g.2.2, .lit (.bool false), .lit (.bool false)]]) (fun g => g.1 ≤ 4 ∧ (∀ j : Nat, j < i → metZ v R (v.z1 + j) g.2.1 g.2.2) ∧ metK v R (v.z1 + i) g.1 g.2.1 g.2.2) (fun g => 4 - g.1) (0, b0, b1) ⟨by simp only; omega, hm, fun j hj => absurd hj (Nat.not_lt_zero _)⟩ ?_
    (intro fr1 hf1; simp only [forget, dstC, dstO, dstD, dst1, st] at hf1; subst hf1)
    refine ⟨?_, ?_⟩
    ·refine Lw_re 4 [] (Nat.zero_le _) (by simp [ln]) (by simp [ln]) rfl ?_ ?_
     ·simp only [reL, reX, inb, inb.inbs, ln, sts, st, Bool.and_self, Nat.reduceLT, Nat.reduceAdd, decide_true, and_self, Int.natCast_zero, implies_true]
     ·simp only [reL, reX, reH, reB, reN, inb, and_self]
    ·rintro ⟨k, c0, c1⟩ ⟨hk, hm, hmk⟩
     simp only at hk hm hmk
     by_cases hk4 : k < 4
     ·have hs := metK_s hmk
      have hu := up_ge (k := k) (b0 := c0) (b1 := c1) (x := AG v R (askA v k) (v.z1 + i) (askT v R k))
      have hm2 : ∀ j : Nat, j < i → metZ v R (v.z1 + j) (up0 k c0 (AG v R (askA v k) (v.z1 + i) (askT v R k))) (up1 k c1 (AG v R (askA v k) (v.z1 + i) (askT v R k))) := fun j hj a ha => ⟨fun h => hu.1 ((hm j hj a ha).1 h), fun h => hu.2 ((hm j hj a ha).2 h)⟩
      have ht1 : truP v v.v1 (v.z1 + i) := by unfold truP; omega
      have ht2 : truP v v.v2 (v.z1 + i) := by unfold truP; omega
      have f0 : ((0 : Nat) : Int) = 0 := rfl
      have f1 : ((1 : Nat) : Int) = 1 := rfl
      have f2 : ((2 : Nat) : Int) = 2 := rfl
      have f3 : ((3 : Nat) : Int) = 3 := rfl
      have t0 : (0 : Int).tmod 2 = 0 := rfl
      have t1 : (1 : Int).tmod 2 = 1 := rfl
      have t2 : (2 : Int).tmod 2 = 0 := rfl
      have t3 : (3 : Int).tmod 2 = 1 := rfl
      have d01 : ((0 : Int) = 1) = False := eq_false (by decide)
      rcases (show k = 0 ∨ k = 1 ∨ k = 2 ∨ k = 3 by omega) with rfl | rfl | rfl | rfl
      all_goals (cases c0 <;> cases c1)
      all_goals
       simp only [condK_bt, condK_bf, decide_true, decide_false, ↓reduceIte, ne_eq, not_false_eq_true, e_skip, e_reg, and_self, e_drw, e_seq, e_cond, e_block, o_nil, o_cons, gd_none, putK_e, runK_e, vK_e, bldK_e, conK_e, callK_e, evh_v, evh_bld, evh_call, dX_e, dG_t, d_nil, d_cons, tlK_n, seqK_n, gam_e, gamK_p, pc_e, pcK_e, evp, bin, gt, gq, st, putf, X.get, gets, getp, ap, clV, clL, clS, clo, ld, lda, tk, dr, sp, sp.spl, lay, ll, cs1, one, gb, lk, evq, gdl, Nat.reduceSub, Nat.reduceAdd, beq_self_eq_true, true_and, sts, f0, f1, f2, f3, t0, t1, t2, t3, d01, Int.reduceLT, Int.reduceLE, Int.reduceEq, Int.reduceNeg]
      all_goals
       refine ⟨v, R, _, _, _, rfl, fun h3 => absurd h h3, fun _ h3 => absurd (by first | exact ht1 | exact ht2) h3, fun _ _ => ?_⟩
       simp only [gdK_bft, gdK_bff, condK_bf, decide_true, inr64, ↓reduceIte, ne_eq, not_false_eq_true, e_skip, e_reg, and_self, e_seq, e_cond, o_nil, o_cons, gd_none, gd_some, putK_e, runK_e, skipK_e, vK_e, storeK3_e, storeK2_e, storeK_e, evh_v, evh_store, loopK_n, seqK_n, blockK_n, evp, bin, gt, gq, st, putf, X.get, ld, lda, ixs, sp, sp.spl, ll, cs1, one, allOne, gb, sb, Value.oneCell', undef, Bool.and_true, Bool.not_true, Nat.reduceAdd, Nat.reduceMul, true_and, t0, t1, t2, t3, Int.reduceLE, Int.reduceEq, Int.reduceNeg, Int.toNat_zero, Int.toNat_one]
       refine ⟨by decide, by decide, by omega, Nx.mk (_, _, _) ⟨by simp only; omega, hm2, hs⟩ (by simp only; omega) (Lw_re 4 [] (Nat.zero_le _) (by simp [ln]) (by simp [ln]) rfl ?_ ?_)⟩
       ·simp only [reL, reX, inb, inb.inbs, Bool.and_self, Nat.reduceLT, Nat.reduceAdd, decide_true, true_and, and_true, and_self, Int.natCast_one, f2, f3, implies_true]
        first | done | rfl
       ·simp only [reL, reX, reH, reB, reN, Nat.reduceLeDiff, Nat.le_refl, reduceCtorEq, inb, true_and, and_true, and_self, askA, askT, Nat.reduceMod, Nat.zero_mod, Nat.one_mod, Nat.reduceLeDiff, ite_true, ite_false]
        first | done | rfl | (with_reducible refine And.intro ?_ ?_ <;> rfl)
     ·obtain rfl : k = 4 := by omega
      have f4 : ((4 : Nat) : Int) = 4 := rfl
      have d4 : ((4 : Int) < 4) = False := eq_false (by decide)
      simp only [condK_bf, decide_false, inr64, e_reg, e_seq, e_cond, e_exit, o_nil, o_cons, gd_none, putK_e, runK_e, vK_e, evh_v, loopK_n, loopK_x, seqK_n, seqK_x, exitK_t, blockK_x, blockK_n, evp, bin, gt, st, putf, X.get, Nat.reduceSub, beq_self_eq_true, true_and, sts, f4, d4]
      refine ⟨by omega, Nx.mk (i + 1, c0, c1) ⟨by simp only; omega, fun j hj => ?_⟩ (by simp only; omega) (Lw_re 4 [] (Nat.zero_le _) (by simp [ln]) (by simp [ln]) rfl ?_ ?_)⟩
      ·rcases Nat.lt_or_eq_of_le (Nat.le_of_lt_succ hj) with h3 | rfl
       ·exact hm j h3
       ·exact metK_4 hmk
      ·simp only [reL, reX, inb, inb.inbs, Bool.and_self, Nat.reduceLT, decide_true, and_self, Int.natCast_add, Int.natCast_one, Int.add_assoc, implies_true]
      ·simp only [reL, reX, reH, reB, reN, inb, and_self]
   ·have hzF : (v.z1 + (i : Int) ≤ v.z2) = False := eq_false hz
    obtain ⟨⟨a0, z0, ha0, hz0, hA0⟩, ⟨a1, z1, ha1, hz1, hA1⟩, ⟨s2, hs2, hA2⟩, ⟨s3, hs3, hA3⟩, hu1, hu2⟩ := he
    have hb0 : b0 = true := by
     have := (hm (z0 - v.z1).toNat (by omega) a0 ha0).1
     rw [show v.z1 + ((z0 - v.z1).toNat : Int) = z0 by omega] at this
     exact this hA0
    have hb1 : b1 = true := by
     have := (hm (z1 - v.z1).toNat (by omega) a1 ha1).2
     rw [show v.z1 + ((z1 - v.z1).toNat : Int) = z1 by omega] at this
     exact this hA1
    subst hb0 hb1
    simp only [condK_bf, decide_false, e_reg, e_seq, e_cond, e_block, e_loop, e_exit, o_nil, o_cons, gd_none, putK_e, runK_e, vK_e, evh_v, loopK_x, seqK_n, seqK_x, exitK_t, blockK_x, evp, bin, gt, gq, st, putf, X.get, ld, lda, gb, Nat.reduceAdd, beq_self_eq_true, true_and, sts, hzF]
    refine loop_at2 (G := Nat × Bool × Bool) (fun g => [(15, .int .i64 (-408 + (g.1 : Int))), (142, .any), (143, .any), (144, .any), (145, .any), (146, .any), (147, .any), (148, .any), (149, .any), (150, .any), (151, .any), (152, .any), (153, .any), (154, .any), (155, .any), (156, .any), (157, .any)]) (fun g => [Blk.box 25 [.int .i64 v.m, .int .i64 v.l1, .int .i64 v.l2, .int .i64 v.v1, .int .i64 v.v2, .int .i64 v.z1, .int .i64 v.z2, .int .i64 v.w], .box 23 [.int .i64 (trM v R).1.1, .int .i64 (trM v R).1.2], .box 23 [.int .i64 (trM v R).2.1, .int .i64 (trM v R).2.2], .box 4 [.bool true, .bool true, .bool g.2.1, .bool g.2.2]]) (fun g => (g.1 ≤ 817) ∧ ∀ j : Nat, j < g.1 → (AG v R v.v1 (trM v R).2.1 ((-408 + (j : Int)) * v.v1) = true → g.2.1 = true) ∧ (AG v R v.v1 (trM v R).2.2 ((-408 + (j : Int)) * v.v1) = true → g.2.2 = true)) (fun g => 817 - g.1) (0, false, false) ⟨by simp only; omega, fun j hj => absurd hj (Nat.not_lt_zero _)⟩ ?_
    (intro fr1 hf1; simp only [forget, dstC, dstO, st] at hf1; subst hf1)
    refine ⟨?_, ?_⟩
    ·refine Lw_re 4 [] (Nat.zero_le _) (by simp [ln]) (by simp [ln]) rfl ?_ ?_
     ·simp only [reL, reX, inb, inb.inbs, ln, sts, st, Bool.and_self, Nat.reduceLT, Nat.reduceAdd, decide_true, and_self, Int.natCast_zero, Int.add_zero, implies_true]
     ·simp only [reL, reX, reH, reB, reN, inb, and_self]
    ·rintro ⟨i2, c2, c3⟩ ⟨hi2, hm2⟩
     simp only at hi2 hm2
     by_cases hk : i2 < 817
     ·have hkT : (-408 + (i2 : Int) ≤ 408) = True := eq_true (by omega)
      have ht1 : truP v v.v1 (trM v R).2.1 := by unfold truP; omega
      have ht2 : truP v v.v1 (trM v R).2.2 := by unfold truP; omega
      have hmul : -204000 ≤ (-408 + (i2 : Int)) * v.v1 ∧ (-408 + (i2 : Int)) * v.v1 ≤ 204000 := by
       have e1 := Int.mul_le_mul_of_nonneg_right (show -408 + (i2 : Int) ≤ 408 by omega) (show 0 ≤ v.v1 by omega)
       have e2 := Int.mul_le_mul_of_nonneg_right (show -408 ≤ -408 + (i2 : Int) by omega) (show 0 ≤ v.v1 by omega)
       omega
      simp only [condK_bt, decide_true, inr64, ↓reduceIte, e_skip, e_reg, e_seq, e_cond, e_block, o_nil, o_cons, gd_none, putK_e, runK_e, vK_e, bldK_e, conK_e, callK_e, evh_v, evh_bld, evh_call, seqK_n, gam_e, gamK_p, pc_e, pcK_e, evp, bin, gt, gq, st, putf, X.get, gets, getp, ap, clV, clL, clS, clo, ld, lda, tk, dr, sp, sp.spl, lay, ll, cs1, one, gb, lk, Nat.reduceAdd, beq_self_eq_true, true_and, sts, hkT]
      refine ⟨by omega, v, R, _, _, _, rfl, fun h3 => absurd h h3, fun _ h3 => absurd ht1 h3, fun _ _ => ?_⟩
      simp only [inr64, ↓reduceIte, e_reg, e_seq, o_nil, o_cons, gd_none, putK_e, runK_e, vK_e, bldK_e, conK_e, callK_e, evh_v, evh_bld, evh_call, seqK_n, gam_e, gamK_p, pc_e, pcK_e, evp, bin, gt, gq, st, putf, X.get, gets, getp, ap, clV, clL, clS, clo, ld, lda, tk, dr, sp, sp.spl, lay, ll, cs1, one, gb, lk, Nat.reduceAdd, beq_self_eq_true, true_and]
      refine ⟨by omega, v, R, _, _, _, rfl, fun h3 => absurd h h3, fun _ h3 => absurd ht2 h3, fun _ _ => ?_⟩
      simp only [gdK_bff, condK_bf, decide_true, e_skip, e_reg, e_seq, e_cond, o_nil, o_cons, gd_none, gd_some, gdK_ff, putK_e, runK_e, vK_e, evh_v, seqK_n, evp, bin, gt, gq, st, putf, X.get, Bool.not_true, true_and, e_sem]
      have hn : ∀ j : Nat, j < i2 + 1 → (AG v R v.v1 (trM v R).2.1 ((-408 + (j : Int)) * v.v1) = true → (c2 || AG v R v.v1 (trM v R).2.1 ((-408 + (i2 : Int)) * v.v1)) = true) ∧ (AG v R v.v1 (trM v R).2.2 ((-408 + (j : Int)) * v.v1) = true → (c3 || AG v R v.v1 (trM v R).2.2 ((-408 + (i2 : Int)) * v.v1)) = true) := fun j hj => by
       rcases Nat.lt_or_eq_of_le (Nat.le_of_lt_succ hj) with h3 | rfl
       ·exact ⟨fun h => by rw [(hm2 j h3).1 h]; rfl, fun h => by rw [(hm2 j h3).2 h]; rfl⟩
       ·exact ⟨fun h => by rw [h]; exact Bool.or_true _, fun h => by rw [h]; exact Bool.or_true _⟩
      change ∀ j : Nat, j < i2 + 1 → (_ → (c2 || agrB (Mp.mid v.w R).ev v.v1 (trM v R).2.1 ((-408 + (i2 : Int)) * v.v1)) = true) ∧ (_ → (c3 || agrB (Mp.mid v.w R).ev v.v1 (trM v R).2.2 ((-408 + (i2 : Int)) * v.v1)) = true) at hn
      generalize agrB (Mp.mid v.w R).ev v.v1 (trM v R).2.1 ((-408 + (i2 : Int)) * v.v1) = A at hn ⊢
      generalize agrB (Mp.mid v.w R).ev v.v1 (trM v R).2.2 ((-408 + (i2 : Int)) * v.v1) = B at hn ⊢
      refine sem_rgnQ [(142, .bsl 3 4), (143, .bsl 3 4), (144, .bsl 3 4), (145, .ptr 3 2), (146, .lit (.bool c2)), (147, .lit (.bool c2)), (148, orS c2 A), (149, .lit (.bool (c2 || A))), (150, .bsl 3 4), (151, .ptr 3 3), (152, .lit (.bool c3)), (153, .lit (.bool c3)), (154, orS c3 B), (155, .lit (.bool (c3 || B))), (156, .ptr 3 2), (157, .ptr 3 3)] [.box 25 [.int .i64 v.m, .int .i64 v.l1, .int .i64 v.l2, .int .i64 v.v1, .int .i64 v.v2, .int .i64 v.z1, .int .i64 v.z2, .int .i64 v.w], .box 23 [.int .i64 (trM v R).1.1, .int .i64 (trM v R).1.2], .box 23 [.int .i64 (trM v R).2.1, .int .i64 (trM v R).2.2], .box 4 [.bool true, .bool true, .lit (.bool (c2 || A)), .lit (.bool (c3 || B))]] rfl rfl (by cases c2 <;> cases c3 <;> cases A <;> cases B <;> kernel_rfl) ?_
      simp only [puts_n, puts_c]
      simp only [inr64, e_reg, o_nil, o_cons, gd_none, putK_e, runK_e, vK_e, evh_v, loopK_n, seqK_n, blockK_n, evp, bin, gt, st, putf, X.get, true_and]
      refine ⟨by omega, Nx.mk (i2 + 1, (c2 || A), (c3 || B)) ⟨by simp only; omega, hn⟩ (by simp only; omega) (Lw_re 4 [] (Nat.zero_le _) (by simp [ln]) (by simp [ln]) rfl ?_ ?_)⟩
      ·simp only [reL, reX, inb, inb.inbs, Bool.and_self, Nat.reduceLT, decide_true, and_self, Int.natCast_add, Int.natCast_one, Int.add_assoc, implies_true]
      ·simp only [reL, reX, reH, reB, reN, inb, and_self]
     ·have hkF : (-408 + (i2 : Int) ≤ 408) = False := eq_false (by omega)
      have h2t : c2 = true := by
       have := (hm2 (s2 + 408).toNat (by omega)).1
       rw [show -408 + ((s2 + 408).toNat : Int) = s2 by omega] at this
       exact this hA2
      have h3t : c3 = true := by
       have := (hm2 (s3 + 408).toNat (by omega)).2
       rw [show -408 + ((s3 + 408).toNat : Int) = s3 by omega] at this
       exact this hA3
      subst h2t h3t
      simp only [gdK_btt, condK_bf, decide_false, e_reg, e_seq, e_cond, e_exit, e_ret, o_nil, o_cons, gd_none, gd_some, gdK_tt, putK_e, runK_e, vK_e, conK_e, callK_e, evh_v, evh_call, loopK_x, seqK_n, seqK_x, exitK_t, blockK_x, ends_r, endK1_e, endK2_e, gam_e, gamK_f, pc_e, pcK_e, fcC_e, fcK_e, evp, bin, gt, gq, st, putf, X.get, gets, ap, rdR, tupled, clV, clL, clS, clo, ld, lda, ixs, gb, lk, Nat.reduceMul, Nat.reduceBEq, beq_self_eq_true, true_and, sts, hkF, F22, Int.reduceLE, Int.reduceToNat, Int.toNat_zero, Int.toNat_one]
      exact ⟨by decide, by decide, by decide, by decide, _, hK, rfl⟩
end Go.Proofs.Ytgdihdiadlmjiaa
