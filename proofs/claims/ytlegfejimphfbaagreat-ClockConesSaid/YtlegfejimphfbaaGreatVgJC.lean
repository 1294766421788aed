import Derived.Test.YtlegfejimphfbaaGreatVgHC
section
namespace Go.Proofs.YtlegfejimphfbaaGreat
open Go Go.Vg
set_option linter.unusedSimpArgs false
set_option linter.unusedVariables false
set_option maxRecDepth 10000
def Qm (d n : Nat) : Opr := ⟨some d, none, .v (.mov (.t n))⟩
def Ql (d n : Nat) : Opr := ⟨some d, none, .v (.load (.t n) none)⟩
def Qn (d n : Nat) : Opr := ⟨some d, none, .v (.len (.t n))⟩
def Qx (d a b n : Nat) : Opr := ⟨some d, none, .v (.ixa (.t a) (.t b) n)⟩
def Qo (d a n : Nat) : Opr := ⟨some d, none, .v (.off (.t a) n)⟩
def Qv (d : Nat) (v : VOp) : Opr := ⟨some d, none, .v v⟩
def Qc (d f : Nat) (l : List X) : Opr := ⟨some d, none, .call (.c (.fn f [])) l⟩
def Qg (d g : Nat) (b : Bool) (v : VOp) : Opr := ⟨some d, some (g, b), .v v⟩
def Qk (n : Int) : X := .c (.int .i64 n)
def Qf (i : Nat) (o : Opr) : Nat × Opr × Bool := (i, o, false)
def Qt (i : Nat) (o : Opr) : Nat × Opr × Bool := (i, o, true)
def s39 : SC :=
 (.seq (.reg [Qv 4 (.mov (Qk 0))])
 (.seq (.reg [Qm 6 0,
 Qm 7 1,
 Qv 8 (.bin .rem (.t 6) (.t 7)),
 Qm 5 8])
 (.seq (.seq (.reg [Qm 9 5,
 Qv 10 (.bin .lss (.t 9) (Qk 0))])
 (.cond (.t 10)
 (.reg [Qm 11 5,
 Qm 12 1,
 Qv 13 (.bin .add (.t 11) (.t 12)),
 Qm 5 13])
 .skip))
 (.seq (.reg [Qm 14 5,
 Qm 4 14])
 .ret))))
def r39 : List RV := [.t 4]
theorem k39 : (Tryz.f39.body.bind (cC Tryz.prog), cR Tryz.prog Tryz.f39.results.toList, Tryz.f39.ntmps) = (some s39, some r39, 15) := by kernel_rfl
theorem q39 : Known Tryz.prog 39 := ⟨_, Tryz.func39, by decide, by simp [Tryz.f39]⟩
def s38 : SC :=
 (.seq (.reg [Qv 6 (.mov (.c (.lit (.bool false))))])
 (.seq (.reg [Qm 7 0,
 Qm 8 1,
 Qv 9 (.bin .geq (.t 7) (.t 8)),
 Qm 10 9,
 Qg 11 10 true (.mov (.t 0)),
 Qg 12 10 true (.mov (.t 2)),
 Qg 13 10 true (.bin .leq (.t 11) (.t 12)),
 Qv 14 (.pick (.t 10) (.t 13) (.c (.lit (.bool false)))),
 Qm 6 14])
 .ret))
def r38 : List RV := [.t 6]
theorem k38 : (Tryz.f38.body.bind (cC Tryz.prog), cR Tryz.prog Tryz.f38.results.toList, Tryz.f38.ntmps) = (some s38, some r38, 15) := by kernel_rfl
theorem q38 : Known Tryz.prog 38 := ⟨_, Tryz.func38, by decide, by simp [Tryz.f38]⟩
theorem p38 : PureOk Tryz.prog 38 (fcC Fin) := by
 refine pure_of (T := []) trivial Tryz.func38 k38 ?_
 intro args K hC
 unfold fcC Fin at hC
 split at hC <;> first | (exact hC.elim) | skip
 rename_i h
 split at h <;> first | (cases h; done) | skip
 cases h
 simp only [e_reg, e_seq, e_ret, o_nil, o_cons, gd_none, gd_some, gdK_tt, gdK_ft, gdK_bt, putK_e, runK_e, skipK_e, vK_e, evh_v, seqK_n, ends_r, endK1_e, endK2_e, evp, bin, gt, st, putf, X.get, mkfr, rep, rdR, tupled, clV, clS, clo, undef, Nat.reduceSub, true_and, decide_eq_true_eq, decide_eq_false_iff_not, s38, Qm, Ql, Qn, Qx, Qo, Qv, Qc, Qg, Qk, Qf, Qt, r38]
 exact ⟨fun h => res hC.2 (by simp [leR, h]), fun h => res hC.2 (by simp [leR, h])⟩
def Fmod : FC := fun args => match args with
 | [.int .i64 a, .int .i64 b] => some (0 < b ∧ b ≤ 9223372036854775807, .int .i64 (a % b))
 | _ => none
theorem p39 : PureOk Tryz.prog 39 (fcC Fmod) := by
 refine pure_of (T := []) trivial Tryz.func39 k39 ?_
 intro args K hC
 unfold fcC Fmod at hC
 split at hC <;> first | (exact hC.elim) | skip
 rename_i h
 split at h <;> first | (cases h; done) | skip
 cases h
 rename_i a b
 obtain ⟨⟨hb, hb2⟩, hK⟩ := hC
 have e := Int.tmod_eq_emod (a := a) (b := b)
 have h1 := Int.emod_nonneg a (show b ≠ 0 by omega)
 have h2 := Int.emod_lt_of_pos a hb
 have h3 : (b.natAbs : Int) = b := by omega
 simp only [inr64, ne_eq, e_skip, e_reg, e_seq, e_cond, e_ret, o_nil, o_cons, gd_none, putK_e, runK_e, vK_e, evh_v, seqK_n, condK_b, ends_r, endK1_e, endK2_e, evp, bin, gt, st, putf, X.get, mkfr, rep, rdR, tupled, clV, clS, clo, undef, Nat.reduceSub, true_and, decide_eq_true_eq, decide_eq_false_iff_not, s39, Qm, Ql, Qn, Qx, Qo, Qv, Qc, Qg, Qk, Qf, Qt, r39]
 have e2 : a.tmod b = a % b ∨ a.tmod b = a % b - b := by
  by_cases c : 0 ≤ a ∨ b ∣ a
  ·rw [if_pos c] at e; exact .inl (by simpa using e)
  ·rw [if_neg c, h3] at e; exact .inr e
 exact ⟨by omega, fun h => ⟨by omega, res hK (by simp [leR]; omega)⟩, fun h => res hK (by simp [leR]; omega)⟩
def s40 : SC :=
 (.seq (.reg [⟨(some 3), none, .box 25 (.t 0)⟩,
 Qv 6 (.mov (.c (.lit (.bool false))))])
 (.seq (.reg [Qm 7 1,
 Qo 8 3 0,
 Ql 9 8,
 Qv 10 (.bin .leq (.t 7) (.t 9)),
 Qm 11 10,
 Qg 12 11 true (.off (.t 3) 0),
 Qg 13 11 true (.load (.t 12) none),
 Qg 14 11 true (.off (.t 3) 1),
 Qg 15 11 true (.load (.t 14) none),
 Qg 16 11 true (.bin .leq (.t 13) (.t 15)),
 Qv 17 (.pick (.t 11) (.t 16) (.c (.lit (.bool false)))),
 Qm 18 17,
 Qg 19 18 true (.off (.t 3) 1),
 Qg 20 18 true (.load (.t 19) none),
 Qg 21 18 true (.mov (.t 2)),
 Qg 22 18 true (.bin .leq (.t 20) (.t 21)),
 Qv 23 (.pick (.t 18) (.t 22) (.c (.lit (.bool false)))),
 Qm 6 23])
 .ret))
def r40 : List RV := [.t 6]
theorem k40 : (Tryz.f40.body.bind (cC Tryz.prog), cR Tryz.prog Tryz.f40.results.toList, Tryz.f40.ntmps) = (some s40, some r40, 24) := by kernel_rfl
theorem q40 : Known Tryz.prog 40 := ⟨_, Tryz.func40, by decide, by simp [Tryz.f40]⟩
def s79 : SC :=
 (.seq (.reg [Qv 4 (.mov (Qk 0))])
 (.seq (.reg [Qm 5 0,
 Qm 6 0,
 Qm 7 1,
 Qc 8 39 [(.t 6), (.t 7)],
 Qv 9 (.bin .sub (.t 5) (.t 8)),
 Qm 10 1,
 Qv 11 (.bin .quo (.t 9) (.t 10)),
 Qm 4 11])
 .ret))
def r79 : List RV := [.t 4]
theorem k79 : (Tryz.f79.body.bind (cC Tryz.prog), cR Tryz.prog Tryz.f79.results.toList, Tryz.f79.ntmps) = (some s79, some r79, 12) := by kernel_rfl
theorem q79 : Known Tryz.prog 79 := ⟨_, Tryz.func79, by decide, by simp [Tryz.f79]⟩
def s17 : SC :=
 (.seq (.reg [⟨(some 1), none, .box 27 (.t 0)⟩,
 Qv 2 (.mov (Qk 0))])
 (.seq (.reg [Qo 5 1 0,
 Ql 6 5,
 Qn 7 6,
 Qc 8 38 [(.t 7), (Qk 2), (Qk 8)],
 Qm 9 8,
 Qg 10 9 true (.off (.t 1) 1),
 Qg 11 9 true (.load (.t 10) none),
 Qg 12 9 true (.len (.t 11)),
 Qg 13 9 true (.off (.t 1) 0),
 Qg 14 9 true (.load (.t 13) none),
 Qg 15 9 true (.len (.t 14)),
 Qg 16 9 true (.bin .eql (.t 12) (.t 15)),
 Qv 17 (.pick (.t 9) (.t 16) (.c (.lit (.bool false)))),
 Qm 18 17,
 Qg 19 18 true (.off (.t 1) 2),
 Qg 20 18 true (.load (.t 19) (some 2)),
 ⟨(some 21), (some (18, true)), .call (.c (.fn 40 [])) [(.t 20), (.c (.int .i64 (-1000))), (Qk 1000)]⟩,
 Qv 22 (.pick (.t 18) (.t 21) (.c (.lit (.bool false)))),
 Qm 23 22,
 Qg 24 23 true (.off (.t 1) 4),
 Qg 25 23 true (.load (.t 24) (some 2)),
 ⟨(some 26), (some (23, true)), .call (.c (.fn 40 [])) [(.t 25), (.c (.int .i64 (-10000000))), (Qk 10000000)]⟩,
 Qv 27 (.pick (.t 23) (.t 26) (.c (.lit (.bool false)))),
 Qm 3 27])
 (.seq (.seq (.reg [Qv 4 (.mov (Qk 0))])
 (.block 0 (.loop
 (.seq (.seq (.reg [Qm 28 3,
 Qm 29 28,
 Qg 30 29 true (.mov (.t 4)),
 Qg 31 29 true (.off (.t 1) 0),
 Qg 32 29 true (.load (.t 31) none),
 Qg 33 29 true (.len (.t 32)),
 Qg 34 29 true (.bin .lss (.t 30) (.t 33)),
 Qv 35 (.pick (.t 29) (.t 34) (.c (.lit (.bool false))))])
 (.cond (.t 35)
 .skip
 (.exit 0)))
 (.seq (.block 1 (.drw [Qf 0 (Qo 38 1 0),
 Qf 1 (Ql 39 38),
 Qf 2 (Qm 40 4),
 Qf 3 (Qx 41 39 40 1),
 Qf 4 (Ql 42 41),
 Qf 5 (Qc 43 38 [(.t 42), (Qk 0), (Qk 60)]),
 Qt 6 (Qm 44 43),
 Qf 7 (Qg 45 44 true (.mov (.t 4))),
 Qf 8 (Qg 46 44 true (.bin .eql (.t 45) (Qk 0))),
 Qt 9 (Qg 47 44 true (.mov (.t 46))),
 Qf 10 (Qg 48 47 false (.off (.t 1) 0)),
 Qf 11 (Qg 49 47 false (.load (.t 48) none)),
 Qf 12 (Qg 50 47 false (.mov (.t 4))),
 Qf 13 (Qg 51 47 false (.ixa (.t 49) (.t 50) 1)),
 Qf 14 (Qg 52 47 false (.load (.t 51) none)),
 Qf 15 (Qg 53 47 false (.off (.t 1) 0)),
 Qf 16 (Qg 54 47 false (.load (.t 53) none)),
 Qf 17 (Qg 55 47 false (.mov (.t 4))),
 Qf 18 (Qg 56 47 false (.bin .sub (.t 55) (Qk 1))),
 Qf 19 (Qg 57 47 false (.ixa (.t 54) (.t 56) 1)),
 Qf 20 (Qg 58 47 false (.load (.t 57) none)),
 Qf 21 (Qg 59 47 false (.bin .gtr (.t 52) (.t 58))),
 Qf 22 (Qg 60 44 true (.pick (.t 47) (.c (.lit (.bool true))) (.t 59))),
 Qf 23 (Qv 61 (.pick (.t 44) (.t 60) (.c (.lit (.bool false))))),
 Qt 24 (Qm 62 61),
 Qf 25 (Qg 63 62 true (.off (.t 1) 1)),
 Qf 26 (Qg 64 62 true (.load (.t 63) none)),
 Qf 27 (Qg 65 62 true (.mov (.t 4)))]
 none
 [Qg 66 62 true (.ixa (.t 64) (.t 65) 2),
 Qg 67 62 true (.load (.t 66) (some 2)),
 ⟨(some 68), (some (62, true)), .call (.c (.fn 40 [])) [(.t 67), (.c (.int .i64 (-100000))), (Qk 100000)]⟩,
 Qv 69 (.pick (.t 62) (.t 68) (.c (.lit (.bool false)))),
 Qm 3 69]))
 (.reg [Qm 36 4,
 Qv 37 (.bin .add (.t 36) (Qk 1)),
 Qm 4 37]))))))
 (.seq (.seq (.reg [Qm 70 3,
 Qv 71 (.not (.t 70))])
 (.cond (.t 71)
 (.seq (.reg [Qv 2 (.mov (Qk 70))])
 .ret)
 .skip))
 (.seq (.reg [Qv 2 (.mov (Qk 0))])
 .ret)))))
def r17 : List RV := [.t 2]
theorem k17 : (Tryz.f17.body.bind (cC Tryz.prog), cR Tryz.prog Tryz.f17.results.toList, Tryz.f17.ntmps) = (some s17, some r17, 72) := by kernel_rfl
theorem q17 : Known Tryz.prog 17 := ⟨_, Tryz.func17, by decide, by simp [Tryz.f17]⟩
def F21 : FC := fun args => match args with
 | [] => some (True, .lit (.bool true))
 | _ => none
theorem dX_l {s : St} {d} {r : St → Prop} {v} : dX true (.lit v) d r s = r ⟨putf s.fr d (.lit v), s.hp⟩ := rfl
theorem p40 : PureOk Tryz.prog 40 (fcC Fsp) := by
 refine pure_of (T := []) trivial Tryz.func40 k40 ?_
 intro args K hC
 unfold fcC Fsp at hC
 split at hC <;> first | (exact hC.elim) | skip
 rename_i h
 split at h <;> first | (cases h; done) | skip
 cases h
 obtain ⟨-, hK⟩ := hC
 simp only [e_reg, e_seq, e_ret, o_nil, o_cons, gd_none, gd_some, gdK_tt, gdK_ft, gdK_bt, putK_e, runK_e, skipK_e, vK_e, boxK_e, evh_v, evh_box, seqK_n, ends_r, endK1_e, endK2_e, evp, bin, gt, gq, st, putf, X.get, mkfr, rep, rdR, tupled, clV, clS, clo, ld, lda, cs1, gb, pb, ln, undef, Nat.reduceSub, Nat.reduceAdd, true_and, decide_eq_true_eq, decide_eq_false_iff_not, s40, Qm, Ql, Qn, Qx, Qo, Qv, Qc, Qg, Qk, Qf, Qt, r40]
 exact ⟨fun h1 => ⟨fun h2 => res hK (by simp [leR, h1, h2]), fun h2 => res hK (by simp [leR, h1, h2])⟩, fun h1 => res hK (by simp [leR, h1])⟩
theorem p79 : PureOk Tryz.prog 79 (fcC Fdwn) := by
 refine pure_of (T := [(39, .fc Fmod)]) ⟨⟨p39, q39⟩, trivial⟩ Tryz.func79 k79 ?_
 intro args K hC
 unfold fcC Fdwn at hC
 split at hC <;> first | (exact hC.elim) | skip
 rename_i h
 split at h <;> first | (cases h; done) | skip
 cases h
 rename_i a b
 obtain ⟨⟨hb, hb2, ha, ha2⟩, hK⟩ := hC
 have h1 := Int.emod_nonneg a (show b ≠ 0 by omega)
 have h2 := Int.emod_lt_of_pos a hb
 have e1 : a - a % b = b * (a / b) := by have := Int.emod_add_mul_ediv a b; omega
 have e2 : (a - a % b).tdiv b = a / b := by rw [e1]; exact Int.mul_tdiv_cancel_left _ (by omega)
 have e3 : -4611686018427387904 ≤ a / b := Int.le_ediv_of_mul_le hb (by omega)
 have e4 : a / b ≤ 4611686018427387904 := Int.ediv_le_of_le_mul hb (by omega)
 simp only [inr64, ne_eq, e_reg, e_seq, e_ret, o_nil, o_cons, gd_none, putK_e, runK_e, vK_e, conK_e, callK_e, evh_v, evh_call, seqK_n, ends_r, endK1_e, endK2_e, gam_e, gamK_f, pc_e, pcK_e, fcC_e, fcK_e, evp, bin, gt, st, putf, X.get, gets, ap, mkfr, rep, rdR, tupled, clV, clL, clS, clo, lk, undef, Nat.reduceSub, beq_self_eq_true, true_and, s79, Qm, Ql, Qn, Qx, Qo, Qv, Qc, Qg, Qk, Qf, Qt, r79, Fmod]
 rw [e2]
 exact ⟨⟨hb, by omega⟩, by omega, ⟨by omega, by omega, by omega⟩, res hK (by simp [leR])⟩
theorem loop_once {N : Nat} {body : (Exit → St → Prop) → St → Prop} {K : Exit → St → Prop} {s : St} (h : body (loopK K fun _ => False) s) : LoopP N body K s := by
 refine ⟨fun n s' => n = 0 ∧ s' = s, ⟨0, s, fun E a _ hn hr => ⟨E, Env.Le.xt (.refl E) hn, rfl, hr⟩, rfl, rfl⟩, ?_⟩
 rintro n s' ⟨rfl, rfl⟩
 have e : (fun s'' : St => ∃ m s3, m < 0 ∧ Lw N s'' s3 ∧ (m = 0 ∧ s3 = s')) = fun _ => False := by
  funext x
  exact propext ⟨fun ⟨m, _, h, _⟩ => by omega, fun h => h.elim⟩
 rw [e]; exact h
theorem ris_snoc : ∀ {T : List Int} {l : Int} {i : Nat}, i < T.length → risF l (T.take (i + 1)) = (risF l (T.take i) && decide ((if i = 0 then l else T.getD (i - 1) 0 + 1) ≤ T.getD i 0 ∧ T.getD i 0 ≤ 60))
 | [], l, i, h => by simp at h
 | t :: ts, l, 0, h => by simp [risF]
 | t :: ts, l, i + 1, h => by
  have := ris_snoc (T := ts) (l := t + 1) (i := i) (by simpa using h)
  simp only [List.take_succ_cons, risF, this, Bool.and_assoc]
  cases i with
  | zero => simp [List.getD]
  | succ i => simp [List.getD]
theorem ris_le : ∀ {T : List Int} {l : Int}, risF l T = true → ∀ x ∈ T, l ≤ x
 | [], l, h => by simp
 | t :: ts, l, h => by
  simp only [risF, Bool.and_eq_true, decide_eq_true_eq] at h
  intro x hx
  rcases List.mem_cons.1 hx with rfl | hx
  ·exact h.1.1
  ·have := ris_le h.2 x hx; omega
theorem ris_step {T : List Int} {i : Nat} (hi : i < T.length) (h : risF 0 (T.take i) = true) : risF 0 (T.take (i + 1)) = decide ((0 ≤ T.getD i 0 ∧ T.getD i 0 ≤ 60) ∧ (i = 0 ∨ T.getD (i - 1) 0 < T.getD i 0)) := by
 rw [ris_snoc hi, h, Bool.true_and]
 by_cases h0 : i = 0
 ·subst h0; simp
 ·have hm : T.getD (i - 1) 0 ∈ T.take i := by
   rw [List.mem_take_iff_getElem]
   exact ⟨i - 1, by omega, by simp [List.getD, show i - 1 < T.length by omega]⟩
  have := ris_le h _ hm
  congr 1
  rw [eq_iff_iff, if_neg h0]
  omega
theorem ris_take : ∀ {T : List Int} {l : Int} {i : Nat}, risF l T = true → risF l (T.take i) = true
 | [], l, i, h => by simpa using h
 | t :: ts, l, 0, h => by simp [risF]
 | t :: ts, l, i + 1, h => by
  simp only [List.take_succ_cons, risF, Bool.and_eq_true] at h ⊢
  exact ⟨h.1, ris_take h.2⟩
theorem p17 : PureOk Tryz.prog 17 C16 := by
 refine pure_of (T := [(38, .fc Fin), (40, .fc Fsp)]) ⟨⟨p38, q38⟩, ⟨p40, q40⟩, trivial⟩ Tryz.func17 k17 ?_
 rintro args K ⟨⟨T, R, a, b, e, g⟩, rfl, hK⟩
 have hn : ¬ Ck.ok ⟨T, R, a, b, e, g⟩ → ∃ r', K r' ∧ leR 4 (SV.int .i64 70) r' := fun h => by rw [Ck.chk, if_neg h] at hK; exact res hK (by simp [leR])
 simp only [Ck.sv]
 simp only [e_reg, e_seq, e_block, e_loop, o_nil, o_cons, gd_none, gd_some, gdK_tt, gdK_ft, gdK_bt, putK_e, runK_e, skipK_e, vK_e, boxK_e, conK_e, callK_e, evh_v, evh_box, evh_call, seqK_n, gam_e, gamK_f, pc_e, pcK_e, fcC_e, fcK_e, evp, bin, gt, gq, st, putf, X.get, gets, ap, mkfr, rep, clV, clL, clS, clo, ld, lda, lens, tk, dr, cs1, gb, pb, ln, lk, undef, Nat.reduceSub, Nat.reduceAdd, Nat.reduceBEq, beq_self_eq_true, true_and, decide_eq_true_eq, decide_eq_false_iff_not, s17, Qm, Ql, Qn, Qx, Qo, Qv, Qc, Qg, Qk, Qf, Qt, r17, Fin, Fsp]
 refine ⟨fun h1 => ⟨fun h2 => ⟨fun h3 => ?_, fun h3 => ?_⟩, fun h2 => ?_⟩, fun h1 => ?_⟩
 ·refine loop_at2 (G := Nat) (fun i => [(4, .int .i64 i), (3, .bool (decide ((-10000000 ≤ e ∧ e ≤ g) ∧ g ≤ 10000000) && (risF 0 (T.take i) && (R.take i).all (spE (-100000) 100000))))])
   (fun _ => [.box 27 [.ints .i64 T, .rd 2 R.length (rowsS R), .int .i64 a, .int .i64 b, .int .i64 e, .int .i64 g]]) (fun i => i ≤ T.length) (fun i => T.length - i) 0 (Nat.zero_le _) ?_
  (intro fr1 hf1; simp only [forget, dstC, dstO, dstD, dst1, st] at hf1; subst hf1)
  refine ⟨?_, ?_⟩
  ·refine Lw_re 1 [] (Nat.zero_le _) (by simp [ln]) (by simp [ln]) rfl ?_ ?_
   ·simp only [reL, reX, inb, inb.inbs, ln, sts, st, Bool.and_self, Bool.and_true, Nat.reduceLT, Nat.reduceAdd, decide_true, and_self, Int.natCast_zero, List.take_zero, List.all_nil, Bool.and_true, risF, implies_true]
   ·simp only [reL, reX, reH, reB, reN, inb, true_and, and_true, and_self]
    exact fun _ _ => trivial
  ·intro i hi1
   simp only [inr64, e_skip, e_reg, e_drw, e_seq, e_cond, e_block, e_exit, e_ret, o_nil, o_cons, gd_none, gd_some, gdK_tt, gdK_ft, gdK_bt, putK_e, runK_e, skipK_e, vK_e, conK_e, callK_e, evh_v, evh_call, dX_e, dX_b, dX_l, dG_t, dG_f, d_nil, d_cons, tlK_n, loopK_n, loopK_x, seqK_n, seqK_x, seqK_r, condK_f, condK_b, exitK_t, blockK_x, blockK_n, ends_r, endK1_e, endK2_e, gam_e, gamK_f, gamq_e, gamqK_f, pc_e, pcK_e, fcC_e, fcK_e, evp, bin, gt, gq, st, putf, X.get, gets, ap, rdR, tupled, clV, clL, clS, clo, clo.clos, ld, lda, lens, ixs, tk, dr, gb, lk, evq, gdl, undef, Bool.and_true, Bool.not_true, Bool.not_false, Nat.reduceAdd, Nat.reduceBEq, beq_self_eq_true, true_and, decide_eq_true_eq, decide_eq_false_iff_not, Bool.not_eq_eq_eq_not, sts, Int.toNat_natCast, rowsS, Fin, Fsp]
   have hsp : spE (-100000) 100000 (R.getD i (0, 0)) = decide ((-100000 ≤ lo R i ∧ lo R i ≤ hi R i) ∧ hi R i ≤ 100000) := rfl
   have hst : (decide ((-10000000 ≤ e ∧ e ≤ g) ∧ g ≤ 10000000) && (risF 0 (T.take i) && (R.take i).all (spE (-100000) 100000))) = true → i < T.length →
     (decide ((-10000000 ≤ e ∧ e ≤ g) ∧ g ≤ 10000000) && (risF 0 (T.take (i + 1)) && (R.take (i + 1)).all (spE (-100000) 100000))) = (decide ((0 ≤ T.getD i 0 ∧ T.getD i 0 ≤ 60) ∧ (i = 0 ∨ T.getD (i - 1) 0 < T.getD i 0)) && decide ((-100000 ≤ lo R i ∧ lo R i ≤ hi R i) ∧ hi R i ≤ 100000)) := by
    intro h ha
    simp only [Bool.and_eq_true] at h
    rw [h.1, allS_snoc (show i < R.length by omega), h.2.2, ris_step ha h.2.1, hsp, Bool.true_and, Bool.true_and]
   have hko : (decide ((-10000000 ≤ e ∧ e ≤ g) ∧ g ≤ 10000000) && (risF 0 (T.take i) && (R.take i).all (spE (-100000) 100000))) = false → ∃ r', K r' ∧ leR 4 (SV.int .i64 70) r' := fun h => hn fun hok => by
    have e1 : (R.take i).all (spE (-100000) 100000) = true := by
     have h9 := hok.1.2.2.2
     rw [List.all_eq_true] at h9 ⊢
     exact fun x hx => h9 x (List.mem_of_mem_take hx)
    have e2 : risF 0 (T.take i) = true := ris_take hok.1.2.1
    have e3 := hok.2.2
    simp only at e3
    rw [e1, e2, decide_eq_true e3] at h
    cases h
   have nat1 : ((i : Int) - 1).toNat = i - 1 := by omega
   refine ⟨fun h => ⟨fun h4 => ⟨⟨by omega, by omega⟩, fun h5 => ⟨fun h6 => ⟨⟨by omega, by omega⟩, ⟨by omega, by omega⟩, ?_⟩, fun h6 => ⟨⟨by omega, by omega⟩, ⟨by omega, by omega⟩, ⟨by omega, by omega⟩, fun h7 => ⟨⟨by omega, by omega⟩, ⟨by omega, by omega⟩, ?_⟩, fun h7 => ⟨⟨by omega, by omega⟩, ?_⟩⟩⟩, fun h5 => ⟨⟨by omega, by omega⟩, ?_⟩⟩, fun h4 => ⟨hko, fun _ => ?_⟩⟩, fun h => ⟨hko, fun h' => by rw [h] at h'; cases h'⟩⟩
   ·have ha : i < T.length := by omega
    have e1 := hst h ha
    rw [decide_eq_true (show (0 ≤ T.getD i 0 ∧ T.getD i 0 ≤ 60) ∧ (i = 0 ∨ T.getD (i - 1) 0 < T.getD i 0) from ⟨h5, .inl (by omega)⟩), Bool.true_and] at e1
    rw [← e1]
    refine Nx.mk (i + 1) (by show i + 1 ≤ T.length; omega) (by show T.length - (i + 1) < T.length - i; omega) (Lw_re 1 [] (Nat.zero_le _) (by simp [ln]) (by simp [ln]) rfl ?_ ?_)
    ·simp only [reL, reX, inb, inb.inbs, Bool.and_self, Nat.reduceLT, decide_true, and_self, Int.natCast_add, Int.natCast_one, implies_true]
    ·simp only [reL, reX, reH, reB, reN, inb, and_self, implies_true]
   ·have ha : i < T.length := by omega
    have e1 := hst h ha
    rw [nat1] at h7
    rw [decide_eq_true (show (0 ≤ T.getD i 0 ∧ T.getD i 0 ≤ 60) ∧ (i = 0 ∨ T.getD (i - 1) 0 < T.getD i 0) from ⟨h5, .inr h7⟩), Bool.true_and] at e1
    rw [← e1]
    refine Nx.mk (i + 1) (by show i + 1 ≤ T.length; omega) (by show T.length - (i + 1) < T.length - i; omega) (Lw_re 1 [] (Nat.zero_le _) (by simp [ln]) (by simp [ln]) rfl ?_ ?_)
    ·simp only [reL, reX, inb, inb.inbs, Bool.and_self, Nat.reduceLT, decide_true, and_self, Int.natCast_add, Int.natCast_one, implies_true]
    ·simp only [reL, reX, reH, reB, reN, inb, and_self, implies_true]
   ·have ha : i < T.length := by omega
    have e1 := hst h ha
    rw [nat1] at h7
    rw [decide_eq_false (show ¬ ((0 ≤ T.getD i 0 ∧ T.getD i 0 ≤ 60) ∧ (i = 0 ∨ T.getD (i - 1) 0 < T.getD i 0)) by omega), Bool.false_and] at e1
    refine Nx.mk (i + 1) (by show i + 1 ≤ T.length; omega) (by show T.length - (i + 1) < T.length - i; omega) (Lw_re 1 [] (Nat.zero_le _) (by simp [ln]) (by simp [ln]) rfl ?_ ?_)
    ·simp only [reL, reX, inb, inb.inbs, Bool.and_self, Nat.reduceLT, decide_true, and_self, Int.natCast_add, Int.natCast_one, implies_true, e1]
    ·simp only [reL, reX, reH, reB, reN, inb, and_self, implies_true]
   ·have ha : i < T.length := by omega
    have e1 := hst h ha
    rw [decide_eq_false (show ¬ ((0 ≤ T.getD i 0 ∧ T.getD i 0 ≤ 60) ∧ (i = 0 ∨ T.getD (i - 1) 0 < T.getD i 0)) by omega), Bool.false_and] at e1
    refine Nx.mk (i + 1) (by show i + 1 ≤ T.length; omega) (by show T.length - (i + 1) < T.length - i; omega) (Lw_re 1 [] (Nat.zero_le _) (by simp [ln]) (by simp [ln]) rfl ?_ ?_)
    ·simp only [reL, reX, inb, inb.inbs, Bool.and_self, Nat.reduceLT, decide_true, and_self, Int.natCast_add, Int.natCast_one, implies_true, e1]
    ·simp only [reL, reX, reH, reB, reN, inb, and_self, implies_true]
   ·have : i = T.length := by omega
    subst this
    have h' := h
    simp only [Bool.and_eq_true, decide_eq_true_eq] at h'
    rw [List.take_length, List.take_of_length_le (show R.length ≤ T.length by omega)] at h'
    rw [Ck.chk, if_pos (show Ck.ok _ from ⟨⟨h1, h'.2.1, h2, h'.2.2⟩, h3, h'.1⟩)] at hK
    exact res hK (by simp [leR])
 ·refine loop_once ?_
  simp only [e_reg, e_seq, e_cond, e_exit, e_ret, o_nil, o_cons, gd_none, gd_some, gdK_ft, putK_e, runK_e, skipK_e, vK_e, evh_v, loopK_x, seqK_n, seqK_x, seqK_r, condK_t, condK_f, exitK_t, blockK_x, ends_r, endK1_e, endK2_e, evp, gt, st, putf, X.get, rdR, tupled, clV, clS, clo, undef, beq_self_eq_true, true_and]
  exact hn fun h => h3 h.2.1
 ·refine loop_once ?_
  simp only [e_reg, e_seq, e_cond, e_exit, e_ret, o_nil, o_cons, gd_none, gd_some, gdK_ft, putK_e, runK_e, skipK_e, vK_e, evh_v, loopK_x, seqK_n, seqK_x, seqK_r, condK_t, condK_f, exitK_t, blockK_x, ends_r, endK1_e, endK2_e, evp, gt, st, putf, X.get, rdR, tupled, clV, clS, clo, undef, beq_self_eq_true, true_and]
  exact hn fun h => h2 h.1.2.2.1
 ·refine loop_once ?_
  simp only [e_reg, e_seq, e_cond, e_exit, e_ret, o_nil, o_cons, gd_none, gd_some, gdK_ft, putK_e, runK_e, skipK_e, vK_e, evh_v, loopK_x, seqK_n, seqK_x, seqK_r, condK_t, condK_f, exitK_t, blockK_x, ends_r, endK1_e, endK2_e, evp, gt, st, putf, X.get, rdR, tupled, clV, clS, clo, undef, beq_self_eq_true, true_and]
  exact hn fun h => h1 h.1.1
def s50 : SC :=
 (.seq (.reg [Qv 6 (.mov (Qk 0))])
 (.seq (.reg [Qv 7 (.mov (Qk 0))])
 (.seq (.block 0 (.loop
 (.seq (.seq (.reg [Qm 10 7,
 Qv 11 (.bin .add (.t 10) (Qk 1)),
 Qm 12 0,
 Qn 13 12,
 Qv 14 (.bin .lss (.t 11) (.t 13)),
 Qm 15 14,
 Qg 16 15 true (.mov (.t 0)),
 Qg 17 15 true (.mov (.t 7)),
 Qg 18 15 true (.bin .add (.t 17) (Qk 1)),
 Qg 19 15 true (.ixa (.t 16) (.t 18) 1),
 Qg 20 15 true (.load (.t 19) none),
 Qg 21 15 true (.mov (.t 2)),
 Qg 22 15 true (.bin .leq (.t 20) (.t 21)),
 Qv 23 (.pick (.t 15) (.t 22) (.c (.lit (.bool false))))])
 (.cond (.t 23)
 .skip
 (.exit 0)))
 (.block 1 (.reg [Qm 24 7,
 Qv 25 (.bin .add (.t 24) (Qk 1)),
 Qm 7 25])))))
 (.seq (.reg [Qm 26 2,
 Qm 27 0,
 Qm 28 7,
 Qx 29 27 28 1,
 Ql 30 29,
 Qv 31 (.bin .sub (.t 26) (.t 30)),
 Qm 8 31])
 (.seq (.seq (.reg [Qm 32 8,
 Qv 33 (.bin .eql (.t 32) (Qk 0))])
 (.cond (.t 33)
 (.seq (.reg [Qm 34 1,
 Qm 35 7,
 Qx 36 34 35 1,
 Ql 37 36,
 Qm 6 37])
 .ret)
 .skip))
 (.seq (.drw [Qf 0 (Qm 38 0),
 Qf 1 (Qm 39 7),
 Qf 2 (Qv 40 (.bin .add (.t 39) (Qk 1))),
 Qf 3 (Qx 41 38 40 1),
 Qf 4 (Ql 42 41),
 Qf 5 (Qm 43 0),
 Qf 6 (Qm 44 7),
 Qf 7 (Qx 45 43 44 1),
 Qf 8 (Ql 46 45)]
 none
 [Qv 47 (.bin .sub (.t 42) (.t 46)),
 Qm 9 47])
 (.seq (.drw [Qf 0 (Qm 48 1),
 Qf 1 (Qm 49 7),
 Qf 2 (Qx 50 48 49 1),
 Qf 3 (Ql 51 50),
 Qf 4 (Qm 52 9),
 Qf 5 (Qm 53 8),
 Qf 6 (Qv 54 (.bin .sub (.t 52) (.t 53))),
 Qf 7 (Qv 55 (.bin .mul (.t 51) (.t 54))),
 Qf 8 (Qm 56 1),
 Qf 9 (Qm 57 7),
 Qf 10 (Qv 58 (.bin .add (.t 57) (Qk 1))),
 Qf 11 (Qx 59 56 58 1),
 Qf 12 (Ql 60 59),
 Qf 13 (Qm 61 8),
 Qf 14 (Qv 62 (.bin .mul (.t 60) (.t 61))),
 Qf 15 (Qv 63 (.bin .add (.t 55) (.t 62))),
 Qf 16 (Qm 64 9)]
 none
 [Qc 65 79 [(.t 63), (.t 64)],
 Qm 6 65])
 .ret)))))))
def r50 : List RV := [.t 6]
theorem k50 : (Tryz.f50.body.bind (cC Tryz.prog), cR Tryz.prog Tryz.f50.results.toList, Tryz.f50.ntmps) = (some s50, some r50, 66) := by kernel_rfl
theorem q50 : Known Tryz.prog 50 := ⟨_, Tryz.func50, by decide, by simp [Tryz.f50]⟩
def F50 : FC := fun args => match args with
 | [.ints .i64 T, .ints .i64 R, .int .i64 x] => some (Tb T ∧ Rb R ∧ T.length = R.length ∧ At T x, .int .i64 (itp T R x))
 | _ => none
def lst (T : List Int) (x : Int) : Nat := if T.getD (ps T x) 0 = x then ps T x else ps T x - 1
structure LsAt (T : List Int) (x : Int) : Prop where
 lt : lst T x < T.length
 le : T.getD (lst T x) 0 ≤ x
 nx : ∀ j, lst T x < j → j < T.length → x < T.getD j 0
theorem lsAt {T : List Int} {x : Int} (hT : Tb T) (hx : At T x) : LsAt T x := by
 have h := psAt hT hx
 have h0 := h.lt
 have h1 := h.ge
 by_cases he : T.getD (ps T x) 0 = x
 ·have el : lst T x = ps T x := if_pos he
  refine ⟨?_, ?_, fun j hj hj2 => ?_⟩
  ·rw [el]; exact h0
  ·rw [el]; omega
  ·rw [el] at hj; have := hT.rs _ j hj hj2; omega
 ·have el : lst T x = ps T x - 1 := if_neg he
  obtain ⟨h2, h3, h4⟩ := h.nx he
  refine ⟨?_, ?_, fun j hj hj2 => ?_⟩
  ·rw [el]; omega
  ·rw [el]; omega
  ·rw [el] at hj
   by_cases hp : j = ps T x
   ·rw [hp]; exact h4
   ·have := hT.rs (ps T x) j (by omega) hj2; omega
theorem p50 : PureOk Tryz.prog 50 (fcC F50) := by
 refine pure_of (T := [(79, .fc Fdwn)]) ⟨⟨p79, q79⟩, trivial⟩ Tryz.func50 k50 ?_
 intro args K hC
 unfold fcC F50 at hC
 split at hC <;> first | (exact hC.elim) | skip
 rename_i h
 split at h <;> first | (cases h; done) | skip
 cases h
 rename_i T R x
 obtain ⟨⟨hT, hR, hl, hx⟩, hK⟩ := hC
 have hL := lsAt hT hx
 have hlt := hL.lt
 have hlen := hT.len
 simp only [e_reg, e_seq, e_block, e_loop, o_nil, o_cons, gd_none, putK_e, runK_e, vK_e, evh_v, seqK_n, evp, st, putf, X.get, mkfr, rep, undef, Nat.reduceSub, true_and, s50, Qm, Ql, Qn, Qx, Qo, Qv, Qc, Qg, Qk, Qf, Qt, r50]
 refine loop_at2 (G := Nat) (fun i => [(7, .int .i64 i)]) (fun i => []) (fun i => i ≤ lst T x) (fun i => lst T x - i) 0 (Nat.zero_le _) ?_
 (intro fr1 hf1; simp only [forget, dstC, dstO, st] at hf1; subst hf1)
 refine ⟨?_, ?_⟩
 ·refine Lw_re 0 [] (Nat.zero_le _) (by simp [ln]) (by simp [ln]) rfl ?_ ?_
  ·simp only [reL, reX, inb, ln, sts, st, and_self, Int.natCast_zero]
  ·simp only [reH, reN]
 ·intro i hi
  have nat1 : ((i : Int) + 1).toNat = i + 1 := by omega
  have b0 := hT.b i
  have b1 := hT.b (i + 1)
  have bx : 0 ≤ x ∧ x ≤ 60 := by have := hx.1; have := hx.2; have := hT.b 0; have := hT.b (T.length - 1); omega
  by_cases hlt2 : i < lst T x
  ·have n0 : ((i : Int) + 1 < (T.length : Int)) = True := by simp; omega
   have n1 : (T.getD (i + 1) 0 ≤ x) = True := by
    refine eq_true ?_
    by_cases e : i + 1 = lst T x
    ·rw [e]; exact hL.le
    ·have := hT.rs (i + 1) (lst T x) (by omega) hlt
     have := hL.le; omega
   simp only [gdK_btt, condK_bt, decide_true, inr64, e_skip, e_reg, e_seq, e_cond, e_block, o_nil, o_cons, gd_none, gd_some, gdK_tt, putK_e, runK_e, vK_e, evh_v, loopK_n, seqK_n, blockK_n, evp, bin, gt, gq, st, putf, X.get, ld, lda, lens, ixs, true_and, and_true, sts, n0, nat1, n1]
   repeat' (first | omega | apply And.intro)
   refine Nx.mk (i + 1) (by omega) (by omega) (Lw_re 0 [] (Nat.zero_le _) (by simp [ln]) (by simp [ln]) rfl ?_ ?_)
   ·simp only [reL, reX, inb, and_self, Int.natCast_add, Int.natCast_one]
   ·simp only [reH, reN]
  ·have ei : i = lst T x := by omega
   have fin : ∀ P : Prop, (((i : Int) + 1 < (T.length : Int)) = True → (T.getD (i + 1) 0 ≤ x) = False → P) → (((i : Int) + 1 < (T.length : Int)) = False → P) → P := by
    intro P h1 h2
    by_cases hn : i + 1 < T.length
    ·exact h1 (by simp; omega) (eq_false (by have := hL.nx (i + 1) (by omega) hn; omega))
    ·exact h2 (by simp; omega)
   have r0 := hR i
   have r1 := hR (i + 1)
   by_cases he : T.getD (ps T x) 0 = x
   ·have el : lst T x = ps T x := if_pos he
    have n2 : (x - T.getD i 0 = 0) = True := eq_true (by rw [ei, el]; omega)
    have ev : itp T R x = R.getD i 0 := by rw [ei, el]; exact if_pos he
    refine fin _ (fun n0 n1 => ?_) (fun n0 => ?_)
    ·simp only [gdK_btt, condK_bt, condK_bf, decide_true, decide_false, inr64, e_reg, e_seq, e_cond, e_exit, e_ret, o_nil, o_cons, gd_none, gd_some, gdK_tt, putK_e, runK_e, vK_e, evh_v, loopK_x, seqK_n, seqK_x, seqK_r, exitK_t, blockK_x, ends_r, endK1_e, endK2_e, evp, bin, gt, gq, st, putf, X.get, rdR, tupled, clV, clS, clo, ld, lda, lens, ixs, beq_self_eq_true, true_and, and_true, sts, n0, nat1, n1, n2, Int.toNat_natCast]
     repeat' (first | omega | apply And.intro)
     exact res hK (by simp [leR, ev])
    ·simp only [gdK_btf, condK_bt, decide_true, decide_false, inr64, e_reg, e_seq, e_cond, e_exit, e_ret, o_nil, o_cons, gd_none, gd_some, gdK_ft, putK_e, runK_e, skipK_e, vK_e, evh_v, loopK_x, seqK_n, seqK_x, seqK_r, condK_f, exitK_t, blockK_x, ends_r, endK1_e, endK2_e, evp, bin, gt, gq, st, putf, X.get, rdR, tupled, clV, clS, clo, ld, lda, lens, ixs, undef, beq_self_eq_true, true_and, sts, n0, n2, Int.toNat_natCast]
     repeat' (first | omega | apply And.intro)
     exact res hK (by simp [leR, ev])
   ·have el : lst T x = ps T x - 1 := if_neg he
    obtain ⟨h2, h3, h4⟩ := (psAt hT hx).nx he
    have hp := (psAt hT hx).lt
    have ep : ps T x = i + 1 := by omega
    have n2 : (x - T.getD i 0 = 0) = False := eq_false (by rw [show i = ps T x - 1 by omega]; omega)
    have ev : itp T R x = (R.getD i 0 * (T.getD (i + 1) 0 - T.getD i 0 - (x - T.getD i 0)) + R.getD (i + 1) 0 * (x - T.getD i 0)) / (T.getD (i + 1) 0 - T.getD i 0) := by
     unfold itp
     rw [if_neg he, ep, Nat.add_sub_cancel]
    rw [show ps T x - 1 = i by omega] at h3
    rw [ep] at h4
    have m1 := mulB r0.1 r0.2 (show 0 ≤ T.getD (i + 1) 0 - T.getD i 0 - (x - T.getD i 0) by omega) (by omega)
    have m2 := mulB r1.1 r1.2 (show 0 ≤ x - T.getD i 0 by omega) (by omega)
    refine fin _ (fun n0 n1 => ?_) (fun n0 => ?_)
    ·simp only [gdK_btt, condK_bf, decide_true, decide_false, inr64, e_skip, e_reg, e_drw, e_seq, e_cond, e_exit, e_ret, o_nil, o_cons, gd_none, gd_some, gdK_tt, putK_e, runK_e, vK_e, conK_e, callK_e, evh_v, evh_call, dX_e, dG_t, d_nil, d_cons, tlK_n, loopK_x, seqK_n, seqK_x, exitK_t, blockK_x, ends_r, endK1_e, endK2_e, gam_e, gamK_f, pc_e, pcK_e, fcC_e, fcK_e, evp, bin, gt, gq, st, putf, X.get, gets, ap, rdR, tupled, clV, clL, clS, clo, ld, lda, lens, ixs, gb, lk, evq, gdl, beq_self_eq_true, true_and, and_true, sts, n0, nat1, n1, n2, Int.toNat_natCast, Fdwn]
     repeat' (first | omega | apply And.intro)
     exact res hK (by simp [leR, ev])
    ·exfalso
     simp at n0; omega
def s55 : SC :=
 (.seq (.reg [⟨(some 2), none, .box 27 (.t 0)⟩,
 Qv 4 (.mov (Qk 0))])
 (.seq (.seq (.reg [Qv 8 (.load (.t 2) (some 6)),
 Qc 9 17 [(.t 8)],
 Qm 5 9])
 (.seq (.reg [Qm 10 5,
 Qv 11 (.bin .neq (.t 10) (Qk 0))])
 (.cond (.t 11)
 (.seq (.reg [Qm 12 5,
 Qm 4 12])
 .ret)
 .skip)))
 (.seq (.reg [Qm 13 1,
 Qn 14 13,
 Qc 15 38 [(.t 14), (Qk 1), (Qk 60)],
 Qm 6 15])
 (.seq (.seq (.reg [Qv 7 (.mov (Qk 0))])
 (.block 0 (.loop
 (.seq (.seq (.reg [Qm 16 6,
 Qm 17 16,
 Qg 18 17 true (.mov (.t 7)),
 Qg 19 17 true (.mov (.t 1)),
 Qg 20 17 true (.len (.t 19)),
 Qg 21 17 true (.bin .lss (.t 18) (.t 20)),
 Qv 22 (.pick (.t 17) (.t 21) (.c (.lit (.bool false))))])
 (.cond (.t 22)
 .skip
 (.exit 0)))
 (.seq (.block 1 (.drw [Qf 0 (Qm 25 1),
 Qf 1 (Qm 26 7),
 Qf 2 (Qx 27 25 26 2),
 Qf 3 (Qv 28 (.load (.t 27) (some 2))),
 Qf 4 (Qo 29 2 0),
 Qf 5 (Ql 30 29),
 Qf 6 (Qv 31 (.ixa (.t 30) (Qk 0) 1)),
 Qf 7 (Ql 32 31),
 Qf 8 (Qo 33 2 0),
 Qf 9 (Ql 34 33),
 Qf 10 (Qo 35 2 0),
 Qf 11 (Ql 36 35),
 Qf 12 (Qn 37 36),
 Qf 13 (Qv 38 (.bin .sub (.t 37) (Qk 1))),
 Qf 14 (Qx 39 34 38 1),
 Qf 15 (Ql 40 39)]
 none
 [Qc 41 40 [(.t 28), (.t 32), (.t 40)],
 Qm 6 41]))
 (.reg [Qm 23 7,
 Qv 24 (.bin .add (.t 23) (Qk 1)),
 Qm 7 24]))))))
 (.seq (.seq (.reg [Qm 42 6,
 Qv 43 (.not (.t 42))])
 (.cond (.t 43)
 (.seq (.reg [Qv 4 (.mov (Qk 71))])
 .ret)
 .skip))
 (.seq (.reg [Qv 4 (.mov (Qk 0))])
 .ret))))))
def r55 : List RV := [.t 4]
theorem k55 : (Tryz.f55.body.bind (cC Tryz.prog), cR Tryz.prog Tryz.f55.results.toList, Tryz.f55.ntmps) = (some s55, some r55, 44) := by kernel_rfl
theorem q55 : Known Tryz.prog 55 := ⟨_, Tryz.func55, by decide, by simp [Tryz.f55]⟩
theorem p55 : PureOk Tryz.prog 55 C53 := by
 refine pure_of (T := [(17, .pc C16), (38, .fc Fin), (40, .fc Fsp)]) ⟨⟨p17, q17⟩, ⟨p38, q38⟩, ⟨p40, q40⟩, trivial⟩ Tryz.func55 k55 ?_
 rintro args K ⟨c, D, rfl, hK⟩
 have hsv : c.sv = .agg [.ints .i64 c.T, .rd 2 c.R.length (rowsS c.R), .int .i64 c.a, .int .i64 c.b, .int .i64 c.e, .int .i64 c.g] := rfl
 have h70 : ((70 : Int) = 0) = False := by simp
 rw [hsv]
 simp only [e_reg, e_seq, o_nil, o_cons, gd_none, putK_e, runK_e, vK_e, boxK_e, conK_e, callK_e, evh_v, evh_box, evh_call, seqK_n, gam_e, gamK_p, pc_e, pcK_e, evp, bin, gt, st, putf, X.get, gets, ap, mkfr, rep, clV, clL, clS, clo, ld, lda, tk, dr, cs1, gb, pb, ln, lk, undef, Nat.reduceSub, beq_self_eq_true, true_and, s55, Qm, Ql, Qn, Qx, Qo, Qv, Qc, Qg, Qk, Qf, Qt, r55]
 refine ⟨c, rfl, ?_⟩
 by_cases hok : c.ok
 ·have h1 : c.chk = 0 := if_pos hok
  have hT := (c.eo hok (w := 101) (.inl rfl)).tb
  have hl := hT.len
  by_cases hn : 1 ≤ (D.length : Int) ∧ (D.length : Int) ≤ 60
  ·have n0 : (1 ≤ (D.length : Int) ∧ (D.length : Int) ≤ 60) = True := eq_true hn
   simp only [condK_bf, decide_true, e_skip, e_reg, e_seq, e_cond, e_block, e_loop, o_nil, o_cons, gd_none, putK_e, runK_e, vK_e, conK_e, callK_e, evh_v, evh_call, seqK_n, gam_e, gamK_f, pc_e, pcK_e, fcC_e, fcK_e, evp, gt, st, putf, X.get, gets, ap, clV, clL, clS, clo, lens, lk, Bool.not_true, Nat.reduceBEq, beq_self_eq_true, true_and, h1, n0, Fin]
   refine loop_at2 (G := Nat) (fun i => [(7, .int .i64 i), (6, .bool ((D.take i).all (spE (c.T.getD 0 0) (c.T.getD (c.T.length - 1) 0))))])
    (fun _ => [.box 27 [.ints .i64 c.T, .rd 2 c.R.length (rowsS c.R), .int .i64 c.a, .int .i64 c.b, .int .i64 c.e, .int .i64 c.g]]) (fun i => i ≤ D.length) (fun i => D.length - i) 0 (Nat.zero_le _) ?_
   (intro fr1 hf1; simp only [forget, dstC, dstO, dstD, dst1, st] at hf1; subst hf1)
   refine ⟨?_, ?_⟩
   ·refine Lw_re 1 [] (Nat.zero_le _) (by simp [ln]) (by simp [ln]) rfl ?_ ?_
    ·simp only [reL, reX, inb, inb.inbs, ln, sts, st, Bool.and_self, Nat.reduceLT, Nat.reduceAdd, decide_true, and_self, Int.natCast_zero, List.take_zero, List.all_nil, implies_true]
    ·simp only [reL, reX, reH, reB, reN, inb, and_self, implies_true]
   ·intro i hi1
    have nat1 : ((c.T.length : Int) - 1).toNat = c.T.length - 1 := by omega
    simp only [inr64, e_skip, e_reg, e_drw, e_seq, e_cond, e_block, e_exit, e_ret, o_nil, o_cons, gd_none, gd_some, gdK_tt, gdK_ft, gdK_bt, putK_e, runK_e, skipK_e, vK_e, conK_e, callK_e, evh_v, evh_call, dX_e, dG_t, d_nil, d_cons, tlK_n, loopK_n, loopK_x, seqK_n, seqK_x, seqK_r, condK_f, condK_b, exitK_t, blockK_x, blockK_n, ends_r, endK1_e, endK2_e, gam_e, gamK_f, pc_e, pcK_e, fcC_e, fcK_e, evp, bin, gt, gq, st, putf, X.get, gets, ap, rdR, tupled, clV, clL, clS, clo, ld, lda, lens, ixs, tk, dr, gb, lk, evq, gdl, undef, Bool.not_true, Bool.not_false, Nat.reduceAdd, Nat.reduceBEq, beq_self_eq_true, true_and, decide_eq_true_eq, decide_eq_false_iff_not, Bool.not_eq_eq_eq_not, sts, Int.toNat_natCast, rowsS, Fsp, nat1, Int.toNat_zero]
    have hsp : spE (c.T.getD 0 0) (c.T.getD (c.T.length - 1) 0) (D.getD i (0, 0)) = decide ((c.T.getD 0 0 ≤ lo D i ∧ lo D i ≤ hi D i) ∧ hi D i ≤ c.T.getD (c.T.length - 1) 0) := rfl
    have hko : (D.take i).all (spE (c.T.getD 0 0) (c.T.getD (c.T.length - 1) 0)) = false → ∃ r', K r' ∧ leR 4 (SV.int .i64 71) r' := fun h => by
     have hv : ¬ voy c D := fun hv => by
      have h9 := hv.2
      have : (D.take i).all (spE (c.T.getD 0 0) (c.T.getD (c.T.length - 1) 0)) = true := by
       rw [List.all_eq_true] at h9 ⊢
       exact fun x hx => h9 x (List.mem_of_mem_take hx)
      rw [this] at h; cases h
     exact res hK (by simp [leR, askE, hok, hv])
    refine ⟨fun h => ⟨fun h4 => ⟨⟨by omega, by omega⟩, ⟨by omega, by omega⟩, ⟨by omega, by omega⟩, ⟨by omega, by omega⟩, ⟨by omega, by omega⟩, ?_⟩, fun h4 => ⟨hko, fun _ => ?_⟩⟩, fun h => ⟨hko, fun h' => by rw [h] at h'; cases h'⟩⟩
    ·have ha : i < D.length := by omega
     have e := allS_snoc (l := c.T.getD 0 0) (h := c.T.getD (c.T.length - 1) 0) ha
     rw [h, hsp, Bool.true_and] at e
     rw [← e]
     refine Nx.mk (i + 1) (by show i + 1 ≤ D.length; omega) (by show D.length - (i + 1) < D.length - i; omega) (Lw_re 1 [] (Nat.zero_le _) (by simp [ln]) (by simp [ln]) rfl ?_ ?_)
     ·simp only [reL, reX, inb, inb.inbs, Bool.and_self, Nat.reduceLT, decide_true, and_self, Int.natCast_add, Int.natCast_one, implies_true]
     ·simp only [reL, reX, reH, reB, reN, inb, and_self, implies_true]
    ·have : i = D.length := by omega
     subst this
     rw [List.take_length] at h
     have hv : voy c D := ⟨hn, h⟩
     exact res hK (by simp [leR, askE, hok, hv])
  ·have n0 : (1 ≤ (D.length : Int) ∧ (D.length : Int) ≤ 60) = False := eq_false hn
   have hv : ¬ voy c D := fun h => hn h.1
   simp only [condK_bf, decide_true, decide_false, e_skip, e_reg, e_seq, e_cond, e_block, e_loop, o_nil, o_cons, gd_none, putK_e, runK_e, vK_e, conK_e, callK_e, evh_v, evh_call, seqK_n, gam_e, gamK_f, pc_e, pcK_e, fcC_e, fcK_e, evp, gt, st, putf, X.get, gets, ap, clV, clL, clS, clo, lens, lk, Bool.not_true, Nat.reduceBEq, beq_self_eq_true, true_and, h1, n0, Fin]
   refine loop_once ?_
   simp only [gdK_btf, condK_bt, e_reg, e_seq, e_cond, e_exit, e_ret, o_nil, o_cons, gd_none, gd_some, gdK_ft, putK_e, runK_e, skipK_e, vK_e, evh_v, loopK_x, seqK_n, seqK_x, seqK_r, condK_f, exitK_t, blockK_x, ends_r, endK1_e, endK2_e, evp, gt, st, putf, X.get, rdR, tupled, clV, clS, clo, undef, Bool.not_false, beq_self_eq_true, true_and]
   exact res hK (by simp [leR, askE, hok, hv])
 ·have h1 : c.chk = 70 := if_neg hok
  simp only [condK_bt, decide_false, e_reg, e_seq, e_cond, e_ret, o_nil, o_cons, gd_none, putK_e, runK_e, vK_e, evh_v, seqK_n, seqK_r, ends_r, endK1_e, endK2_e, evp, gt, st, putf, X.get, rdR, tupled, clV, clS, clo, Bool.not_false, true_and, h1, h70]
  exact res hK (by simp [leR, askE, hok])
def s51 : SC :=
 (.seq (.reg [Qv 4 (.mov (.c (.lit (.slice none 0 0))))])
 (.seq (.reg [Qv 5 (.mov (.c (.lit (.slice none 0 0))))])
 (.seq (.seq (.reg [Qv 6 (.mov (Qk 0))])
 (.block 0 (.loop
 (.seq (.seq (.reg [Qm 7 6,
 Qm 8 0,
 Qn 9 8,
 Qv 10 (.bin .lss (.t 7) (.t 9))])
 (.cond (.t 10)
 .skip
 (.exit 0)))
 (.seq (.block 1 (.seq (.reg [Qm 13 1])
 (.cond (.t 13)
 (.reg [Qm 14 5,
 Qm 15 0,
 Qm 16 6,
 Qx 17 15 16 2,
 Qo 18 17 1,
 Ql 19 18,
 ⟨(some 20), none, .bsl 3 1 [(.int .i64 (0))] [(0, 1, (.t 19))]⟩,
 ⟨(some 21), none, .app 3 1 8 (.t 14) (.t 20)⟩,
 Qm 5 21])
 (.reg [Qm 22 5,
 Qm 23 0,
 Qm 24 6,
 Qx 25 23 24 2,
 Qo 26 25 0,
 Ql 27 26,
 ⟨(some 28), none, .bsl 3 1 [(.int .i64 (0))] [(0, 1, (.t 27))]⟩,
 ⟨(some 29), none, .app 3 1 8 (.t 22) (.t 28)⟩,
 Qm 5 29]))))
 (.reg [Qm 11 6,
 Qv 12 (.bin .add (.t 11) (Qk 1)),
 Qm 6 12]))))))
 (.seq (.reg [Qm 30 5,
 Qm 4 30])
 .ret))))
def r51 : List RV := [.t 4]
theorem k51 : (Tryz.f51.body.bind (cC Tryz.prog), cR Tryz.prog Tryz.f51.results.toList, Tryz.f51.ntmps) = (some s51, some r51, 31) := by kernel_rfl
theorem q51 : Known Tryz.prog 51 := ⟨_, Tryz.func51, by decide, by simp [Tryz.f51]⟩
def s56 : SC :=
 (.seq (.reg [⟨(some 3), none, .box 25 (.t 0)⟩,
 ⟨(some 6), none, .new 25 [(.int .i64 (0)), (.int .i64 (0))]⟩])
 (.seq (.seq (.reg [Qm 7 2])
 (.cond (.t 7)
 (.seq (.reg [Qm 8 1,
 Qm 9 1,
 ⟨(some 10), none, .bld [(.int .i64 (0)), (.int .i64 (0))] [(0, 1, (.t 8)), (1, 1, (.t 9))]⟩,
 ⟨none, none, .store 2 (.t 6) (.t 10)⟩])
 .ret)
 .skip))
 (.seq (.reg [Qo 11 3 0,
 Ql 12 11,
 Qm 13 1,
 Qv 14 (.min2 (.t 12) (.t 13)),
 Qo 15 3 1,
 Ql 16 15,
 Qm 17 1,
 Qv 18 (.max2 (.t 16) (.t 17)),
 ⟨(some 19), none, .bld [(.int .i64 (0)), (.int .i64 (0))] [(0, 1, (.t 14)), (1, 1, (.t 18))]⟩,
 ⟨none, none, .store 2 (.t 6) (.t 19)⟩])
 .ret)))
def r56 : List RV := [.c 6 (some 2)]
theorem k56 : (Tryz.f56.body.bind (cC Tryz.prog), cR Tryz.prog Tryz.f56.results.toList, Tryz.f56.ntmps) = (some s56, some r56, 20) := by kernel_rfl
theorem q56 : Known Tryz.prog 56 := ⟨_, Tryz.func56, by decide, by simp [Tryz.f56]⟩
def s20 : SC :=
 (.seq (.reg [Qv 4 (.mov (.c (.lit (.bool false))))])
 (.seq (.seq (.reg [Qm 6 0,
 Qn 7 6,
 Qm 8 1,
 Qn 9 8,
 Qv 10 (.bin .neq (.t 7) (.t 9))])
 (.cond (.t 10)
 (.seq (.reg [Qv 4 (.mov (.c (.lit (.bool false))))])
 .ret)
 .skip))
 (.seq (.seq (.reg [Qv 5 (.mov (Qk 0))])
 (.block 0 (.loop
 (.seq (.seq (.reg [Qm 11 5,
 Qm 12 0,
 Qn 13 12,
 Qv 14 (.bin .lss (.t 11) (.t 13))])
 (.cond (.t 14)
 .skip
 (.exit 0)))
 (.seq (.block 1 (.seq (.drw [Qf 0 (Qm 17 0),
 Qf 1 (Qm 18 5),
 Qf 2 (Qx 19 17 18 2),
 Qf 3 (Qv 20 (.load (.t 19) (some 2))),
 Qf 4 (Qm 21 1),
 Qf 5 (Qm 22 5),
 Qf 6 (Qx 23 21 22 2),
 Qf 7 (Qv 24 (.load (.t 23) (some 2)))]
 none
 [Qv 25 (.eqs [(some .i64), (some .i64)] true (.t 20) (.t 24))])
 (.cond (.t 25)
 (.seq (.reg [Qv 4 (.mov (.c (.lit (.bool false))))])
 .ret)
 .skip)))
 (.reg [Qm 15 5,
 Qv 16 (.bin .add (.t 15) (Qk 1)),
 Qm 5 16]))))))
 (.seq (.reg [Qv 4 (.mov (.c (.lit (.bool true))))])
 .ret))))
def r20 : List RV := [.t 4]
theorem k20 : (Tryz.f20.body.bind (cC Tryz.prog), cR Tryz.prog Tryz.f20.results.toList, Tryz.f20.ntmps) = (some s20, some r20, 26) := by kernel_rfl
theorem q20 : Known Tryz.prog 20 := ⟨_, Tryz.func20, by decide, by simp [Tryz.f20]⟩
def s15 : SC :=
 (.seq (.reg [⟨(some 3), none, .box 27 (.t 0)⟩,
 ⟨(some 6), none, .new 25 [(.int .i64 (0)), (.int .i64 (0))]⟩,
 Qv 7 (.mov (Qk 0))])
 (.seq (.seq (.reg [Qv 9 (.load (.t 3) (some 6)),
 Qc 10 17 [(.t 9)],
 Qm 8 10])
 (.seq (.reg [Qm 11 8,
 Qv 12 (.bin .neq (.t 11) (Qk 0))])
 (.cond (.t 12)
 (.seq (.reg [⟨(some 13), none, .bld [(.int .i64 (0)), (.int .i64 (0))] []⟩,
 Qm 14 8,
 ⟨none, none, .store 2 (.t 6) (.t 13)⟩,
 Qm 7 14])
 .ret)
 .skip)))
 (.seq (.seq (.drw [Qf 0 (Qm 15 1),
 Qf 1 (Qo 16 3 0),
 Qf 2 (Ql 17 16),
 Qf 3 (Qv 18 (.ixa (.t 17) (Qk 0) 1)),
 Qf 4 (Ql 19 18),
 Qf 5 (Qo 20 3 0),
 Qf 6 (Ql 21 20),
 Qf 7 (Qo 22 3 0),
 Qf 8 (Ql 23 22),
 Qf 9 (Qn 24 23),
 Qf 10 (Qv 25 (.bin .sub (.t 24) (Qk 1))),
 Qf 11 (Qx 26 21 25 1),
 Qf 12 (Ql 27 26)]
 none
 [Qc 28 38 [(.t 15), (.t 19), (.t 27)],
 Qv 29 (.not (.t 28)),
 Qm 30 29,
 Qg 31 30 false (.mov (.t 2)),
 ⟨(some 32), (some (30, false)), .call (.c (.fn 38 [])) [(.t 31), (Qk 0), (Qk 59)]⟩,
 Qg 33 30 false (.not (.t 32)),
 Qv 34 (.pick (.t 30) (.c (.lit (.bool true))) (.t 33))])
 (.cond (.t 34)
 (.seq (.reg [⟨(some 35), none, .bld [(.int .i64 (0)), (.int .i64 (0))] []⟩,
 ⟨none, none, .store 2 (.t 6) (.t 35)⟩,
 Qv 7 (.mov (Qk 7))])
 .ret)
 .skip))
 (.seq (.drw [Qf 0 (Qo 36 3 0),
 Qf 1 (Ql 37 36),
 Qf 2 (Qo 38 3 1),
 Qf 3 (Ql 39 38),
 Qf 4 (Qc 40 51 [(.t 39), (.c (.lit (.bool false)))]),
 Qf 5 (Qm 41 1),
 Qf 6 (Qc 42 50 [(.t 37), (.t 40), (.t 41)]),
 Qf 7 (Qo 43 3 2),
 Qf 8 (Qo 44 43 0),
 Qf 9 (Ql 45 44),
 Qf 10 (Qm 46 2),
 Qf 11 (Qv 47 (.bin .mul (.t 45) (.t 46))),
 Qf 12 (Qv 48 (.bin .add (.t 42) (.t 47))),
 Qf 13 (Qo 49 3 0),
 Qf 14 (Ql 50 49),
 Qf 15 (Qo 51 3 1),
 Qf 16 (Ql 52 51),
 Qf 17 (Qc 53 51 [(.t 52), (.c (.lit (.bool true)))]),
 Qf 18 (Qm 54 1),
 Qf 19 (Qc 55 50 [(.t 50), (.t 53), (.t 54)]),
 Qf 20 (Qo 56 3 2),
 Qf 21 (Qo 57 56 1),
 Qf 22 (Ql 58 57),
 Qf 23 (Qm 59 2),
 Qf 24 (Qv 60 (.bin .mul (.t 58) (.t 59))),
 Qf 25 (Qv 61 (.bin .add (.t 55) (.t 60)))]
 none
 [⟨(some 62), none, .bld [(.int .i64 (0)), (.int .i64 (0))] [(0, 1, (.t 48)), (1, 1, (.t 61))]⟩,
 ⟨none, none, .store 2 (.t 6) (.t 62)⟩,
 Qv 7 (.mov (Qk 0))])
 .ret))))
def r15 : List RV := [.c 6 (some 2), .t 7]
theorem k15 : (Tryz.f15.body.bind (cC Tryz.prog), cR Tryz.prog Tryz.f15.results.toList, Tryz.f15.ntmps) = (some s15, some r15, 63) := by kernel_rfl
theorem q15 : Known Tryz.prog 15 := ⟨_, Tryz.func15, by decide, by simp [Tryz.f15]⟩
def F51 : FC := fun args => match args with
 | [.rd 2 n f, .lit (.bool b)] => some (n ≤ 1000 ∧ ∃ R, n = R.length ∧ f = rowsS R, .ints .i64 (endsL (if b then 102 else 101) (Tof n f)))
 | _ => none
theorem p51 : PureOk Tryz.prog 51 (fcC F51) := by
 refine pure_of (T := []) trivial Tryz.func51 k51 ?_
 intro args K hC
 unfold fcC F51 at hC
 split at hC <;> first | (exact hC.elim) | skip
 rename_i h
 split at h <;> first | (cases h; done) | skip
 cases h
 rename_i n f b
 obtain ⟨⟨hl, R, rfl, rfl⟩, hK⟩ := hC
 rw [Tof_rows] at hK
 generalize hw : (if b = true then 102 else 101) = w at hK
 simp only [e_reg, e_seq, e_block, e_loop, o_nil, o_cons, gd_none, putK_e, runK_e, vK_e, evh_v, seqK_n, evp, st, putf, X.get, mkfr, rep, undef, Nat.reduceSub, true_and, s51, Qm, Ql, Qn, Qx, Qo, Qv, Qc, Qg, Qk, Qf, Qt, r51]
 refine loop_at2 (G := Nat) (fun i => [(6, .int .i64 i), (5, .own 0)]) (fun i => [.oi .i64 3 (endsL w (R.take i))]) (fun i => i ≤ R.length) (fun i => R.length - i) 0 (Nat.zero_le _) ?_
 (intro fr1 hf1; simp only [forget, dstC, dstO, st] at hf1; subst hf1)
 refine ⟨?_, ?_⟩
 ·refine Lw_re 0 [none] (Nat.zero_le _) (by simp [ln]) (by simp [ln]) rfl ?_ ?_
  ·simp only [reL, reX, rn, List.getElem?_cons_zero, Nat.reduceSub, Nat.lt_irrefl, Nat.le_refl, reduceCtorEq, or_true, inb, ln, sts, st, Nat.reduceLT, Nat.reduceAdd, and_self, Int.natCast_zero, implies_true]
  ·simp only [reH, reN, newB, and_self, List.take_zero, endsL, List.map_nil]
 ·intro i hi1
  by_cases hlt : i < R.length
  ·have n0 : ((i : Int) < (R.length : Int)) = True := by simp; omega
   have hl1 : (endsL w (R.take i)).length = i := by simp [endsL]; omega
   have hs := ends_snoc (w := w) hlt
   have e1 : sel 101 (R.getD i (0, 0)) = lo R i := rfl
   have e2 : sel 102 (R.getD i (0, 0)) = hi R i := rfl
   cases b
   ·have ew : w = 101 := hw.symm
    subst ew
    simp only [condK_bt, decide_true, inr64, ↓reduceIte, e_skip, e_reg, e_seq, e_cond, e_block, o_nil, o_cons, gd_none, putK_e, runK_e, vK_e, bslK_e, appK2_oi, appK_e, evh_v, evh_bsl, evh_app, loopK_n, seqK_n, condK_f, blockK_n, evp, bin, gt, gq, st, putf, X.get, getp, ld, lda, lens, ixs, sp, sp.spl, lay, ll, cs1, one, gb, sb, pb, ln, Nat.reduceAdd, beq_self_eq_true, true_and, and_true, sts, n0, Int.toNat_natCast, rowsS, hl1]
    repeat' (first | omega | apply And.intro)
    refine Nx.mk (i + 1) (by omega) (by omega) (Lw_re 0 [some 2] (Nat.zero_le _) (by simp [ln]) (by simp [ln]) rfl ?_ ?_)
    ·simp only [reL, reX, rn, List.getElem?_cons_zero, Nat.reduceSub, Nat.lt_irrefl, Nat.le_refl, and_false, or_true, inb, ln, Nat.reduceLT, Nat.reduceAdd, and_self, Int.natCast_add, Int.natCast_one, implies_true]
    ·simp only [reH, reM, reN, gb, Nat.reduceLeDiff, ln, Nat.reduceLT, Nat.reduceAdd, and_self, hs, e1]
   ·have ew : w = 102 := hw.symm
    subst ew
    simp only [condK_bt, decide_true, inr64, ↓reduceIte, e_skip, e_reg, e_seq, e_cond, e_block, o_nil, o_cons, gd_none, putK_e, runK_e, vK_e, bslK_e, appK2_oi, appK_e, evh_v, evh_bsl, evh_app, loopK_n, seqK_n, condK_t, blockK_n, evp, bin, gt, gq, st, putf, X.get, getp, ld, lda, lens, ixs, sp, sp.spl, lay, ll, cs1, one, gb, sb, pb, ln, Nat.reduceAdd, beq_self_eq_true, true_and, and_true, sts, n0, Int.toNat_natCast, rowsS, hl1]
    repeat' (first | omega | apply And.intro)
    refine Nx.mk (i + 1) (by omega) (by omega) (Lw_re 0 [some 2] (Nat.zero_le _) (by simp [ln]) (by simp [ln]) rfl ?_ ?_)
    ·simp only [reL, reX, rn, List.getElem?_cons_zero, Nat.reduceSub, Nat.lt_irrefl, Nat.le_refl, and_false, or_true, inb, ln, Nat.reduceLT, Nat.reduceAdd, and_self, Int.natCast_add, Int.natCast_one, implies_true]
    ·simp only [reH, reM, reN, gb, Nat.reduceLeDiff, ln, Nat.reduceLT, Nat.reduceAdd, and_self, hs, e2]
  ·have n0 : ((i : Int) < (R.length : Int)) = False := by simp; omega
   have ei : i = R.length := by omega
   subst ei
   simp only [condK_bf, decide_false, e_reg, e_seq, e_cond, e_exit, e_ret, o_nil, o_cons, gd_none, putK_e, runK_e, vK_e, evh_v, loopK_x, seqK_n, seqK_x, exitK_t, blockK_x, ends_r, endK1_e, endK2_e, evp, bin, gt, st, putf, X.get, rdR, tupled, clV, lens, gb, sb, beq_self_eq_true, true_and, sts, n0]
   rw [List.take_length]
   exact res hK (by simp [leR])
def F56 : FC := fun args => match args with
 | [.agg [.int .i64 a, .int .i64 b], .int .i64 n, .bool f] => some (True, .agg [.int .i64 (if f then n else if n < a then n else a), .int .i64 (if f then n else if b < n then n else b)])
 | [.agg [.int .i64 a, .int .i64 b], .int .i64 n, .lit (.bool f)] => some (True, .agg [.int .i64 (if f then n else if n < a then n else a), .int .i64 (if f then n else if b < n then n else b)])
 | _ => none
theorem p56 : PureOk Tryz.prog 56 (fcC F56) := by
 refine pure_of (T := []) trivial Tryz.func56 k56 ?_
 intro args K hC
 unfold fcC F56 at hC
 split at hC <;> first | (exact hC.elim) | skip
 rename_i h
 split at h <;> first | (cases h; done) | skip
 ·cases h
  obtain ⟨-, hK⟩ := hC
  simp only [↓reduceIte, e_skip, e_reg, and_self, e_seq, e_cond, e_ret, o_nil, o_cons, gd_none, putK_e, runK_e, vK_e, boxK_e, bldK_e, storeK3_e, storeK2_e, storeK_e, evh_v, evh_new, evh_box, evh_bld, evh_store, seqK_n, seqK_r, condK_b, ends_r, endK1_e, endK2_e, evp, gt, gq, st, putf, X.get, getp, mkfr, rep, rdR, tupled, clV, clL, clS, clo, ld, lda, tk, dr, sp, sp.spl, lay, ll, cs1, one, allOne, gb, sb, pb, ln, undef, Bool.and_true, Nat.reduceSub, Nat.reduceAdd, beq_self_eq_true, true_and, s56, Qm, Ql, Qn, Qx, Qo, Qv, Qc, Qg, Qk, Qf, Qt, r56]
  exact ⟨fun h => res hK (by simp [leR, leR.leRs, h]), fun h => res hK (by simp [leR, leR.leRs, h])⟩
 ·cases h
  rename_i f
  obtain ⟨-, hK⟩ := hC
  cases f
  ·simp only [↓reduceIte, e_skip, e_reg, and_self, e_seq, e_cond, e_ret, o_nil, o_cons, gd_none, putK_e, runK_e, vK_e, boxK_e, bldK_e, storeK3_e, storeK2_e, storeK_e, evh_v, evh_new, evh_box, evh_bld, evh_store, seqK_n, condK_f, ends_r, endK1_e, endK2_e, evp, gt, gq, st, putf, X.get, getp, mkfr, rep, rdR, tupled, clV, clL, clS, clo, ld, lda, tk, dr, sp, sp.spl, lay, ll, cs1, one, allOne, gb, sb, pb, ln, undef, Bool.and_true, Nat.reduceSub, Nat.reduceAdd, beq_self_eq_true, true_and, s56, Qm, Ql, Qn, Qx, Qo, Qv, Qc, Qg, Qk, Qf, Qt, r56]
   exact res hK (by simp [leR, leR.leRs])
  ·simp only [↓reduceIte, e_reg, and_self, e_seq, e_cond, e_ret, o_nil, o_cons, gd_none, putK_e, runK_e, vK_e, boxK_e, bldK_e, storeK3_e, storeK2_e, storeK_e, evh_v, evh_new, evh_box, evh_bld, evh_store, seqK_n, seqK_r, condK_t, ends_r, endK1_e, endK2_e, evp, gt, st, putf, X.get, getp, mkfr, rep, rdR, tupled, clV, clL, clS, clo, ld, tk, dr, sp, sp.spl, lay, ll, cs1, one, allOne, gb, sb, pb, ln, undef, Bool.and_true, Nat.reduceSub, Nat.reduceAdd, beq_self_eq_true, true_and, s56, Qm, Ql, Qn, Qx, Qo, Qv, Qc, Qg, Qk, Qf, Qt, r56]
   exact res hK (by simp [leR, leR.leRs])
def rngS (L : List (Int × Int)) : Prop := ∀ i, i < L.length → (-9223372036854775808 ≤ lo L i ∧ lo L i ≤ 9223372036854775807) ∧ -9223372036854775808 ≤ hi L i ∧ hi L i ≤ 9223372036854775807
def C20 : PC := fun args K => ∃ a b : List (Int × Int), args = [.rd 2 a.length (rowsS a), .rd 2 b.length (rowsS b)] ∧ (a.length ≤ 1000 ∧ rngS a ∧ rngS b) ∧ K (.bool (decide (a = b)))
theorem p20 : PureOk Tryz.prog 20 C20 := by
 refine pure_of (T := []) trivial Tryz.func20 k20 ?_
 rintro args K ⟨a, b, rfl, ⟨hl, ra, rb⟩, hK⟩
 by_cases hn : a.length = b.length
 ·have n0 : ((a.length : Int) = (b.length : Int)) = True := eq_true (by omega)
  simp only [condK_bf, decide_true, e_skip, e_reg, e_seq, e_cond, e_block, e_loop, o_nil, o_cons, gd_none, putK_e, runK_e, vK_e, evh_v, seqK_n, evp, bin, gt, st, putf, X.get, mkfr, rep, lens, undef, Bool.not_true, Nat.reduceSub, true_and, s20, Qm, Ql, Qn, Qx, Qo, Qv, Qc, Qg, Qk, Qf, Qt, r20, n0]
  refine loop_at2 (G := Nat) (fun i => [(5, .int .i64 i)]) (fun i => []) (fun i => i ≤ a.length ∧ ∀ j, j < i → a.getD j (0, 0) = b.getD j (0, 0)) (fun i => a.length - i) 0 ⟨Nat.zero_le _, fun j h => by omega⟩ ?_
  (intro fr1 hf1; simp only [forget, dstC, dstO, dstD, dst1, st] at hf1; subst hf1)
  refine ⟨?_, ?_⟩
  ·refine Lw_re 0 [] (Nat.zero_le _) (by simp [ln]) (by simp [ln]) rfl ?_ ?_
   ·simp only [reL, reX, inb, ln, sts, st, and_self, Int.natCast_zero, implies_true]
   ·simp only [reH, reN]
  ·rintro i ⟨hi1, hp⟩
   simp only [inr64, List.cons.injEq, e_skip, e_reg, e_drw, e_seq, e_cond, e_block, e_exit, e_ret, o_nil, o_cons, gd_none, putK_e, runK_e, vK_e, evh_v, dX_e, dG_t, d_nil, d_cons, tlK_n, loopK_n, loopK_x, loopK_r, seqK_n, seqK_x, seqK_r, condK_b, exitK_t, blockK_x, blockK_n, blockK_r, ends_r, endK1_e, endK2_e, evp, fit, InQ, bin, gt, st, putf, X.get, rdR, tupled, clV, clS, clo, ld, lda, lens, ixs, tk, dr, evq, gdl, Bool.not_true, Bool.not_false, cond_true, beq_self_eq_true, true_and, and_true, decide_eq_true_eq, decide_eq_false_iff_not, Bool.not_eq_eq_eq_not, sts, Int.toNat_natCast, rowsS]
   refine ⟨fun h => ⟨⟨by omega, by omega⟩, ⟨by omega, by omega⟩, ⟨ra i (by omega), rb i (by omega)⟩, fun h1 => ?_, fun h1 => ⟨⟨by omega, by omega⟩, ?_⟩⟩, fun h => ?_⟩
   ·have hab : a ≠ b := fun h => h1 (by rw [h]; exact ⟨rfl, rfl⟩)
    exact res hK (by simp [leR, hab])
   ·refine Nx.mk (i + 1) ⟨by omega, fun j hj => ?_⟩ (by show a.length - (i + 1) < a.length - i; omega) (Lw_re 0 [] (Nat.zero_le _) (by simp [ln]) (by simp [ln]) rfl ?_ ?_)
    ·by_cases hji : j = i
     ·subst hji; exact Prod.ext h1.1 h1.2
     ·exact hp j (by omega)
    ·simp only [reL, reX, inb, and_self, Int.natCast_add, Int.natCast_one, implies_true]
    ·simp only [reH, reN]
   ·have hab : a = b := by
     refine List.ext_getElem hn fun j h1 h2 => ?_
     have := hp j (by omega)
     simpa [List.getD, h1, h2] using this
    exact res hK (by simp [leR, hab])
 ·have n0 : ((a.length : Int) = (b.length : Int)) = False := eq_false (by omega)
  have hab : a ≠ b := fun h => hn (by rw [h])
  simp only [condK_bt, decide_false, e_reg, e_seq, e_cond, e_ret, o_nil, o_cons, gd_none, putK_e, runK_e, vK_e, evh_v, seqK_n, seqK_r, ends_r, endK1_e, endK2_e, evp, bin, gt, st, putf, X.get, mkfr, rep, rdR, tupled, clV, clS, clo, lens, undef, Bool.not_false, Nat.reduceSub, true_and, s20, Qm, Ql, Qn, Qx, Qo, Qv, Qc, Qg, Qk, Qf, Qt, r20, n0]
  exact res hK (by simp [leR, hab])
theorem p15 : PureOk Tryz.prog 15 C14 := by
 refine pure_of (T := [(17, .pc C16), (38, .fc Fin), (51, .fc F51), (50, .fc F50)]) ⟨⟨p17, q17⟩, ⟨p38, q38⟩, ⟨p51, q51⟩, ⟨p50, q50⟩, trivial⟩ Tryz.func15 k15 ?_
 rintro args K ⟨c, x, d, rfl, hK⟩
 have hsv : c.sv = .agg [.ints .i64 c.T, .rd 2 c.R.length (rowsS c.R), .int .i64 c.a, .int .i64 c.b, .int .i64 c.e, .int .i64 c.g] := rfl
 have h70 : ((70 : Int) = 0) = False := by simp
 rw [hsv]
 simp only [e_reg, e_seq, o_nil, o_cons, gd_none, putK_e, runK_e, vK_e, boxK_e, conK_e, callK_e, evh_v, evh_new, evh_box, evh_call, seqK_n, gam_e, gamK_p, pc_e, pcK_e, evp, bin, gt, st, putf, X.get, gets, ap, mkfr, rep, clV, clL, clS, clo, ld, lda, tk, dr, cs1, gb, pb, ln, lk, undef, Nat.reduceSub, Nat.reduceAdd, beq_self_eq_true, true_and, s15, Qm, Ql, Qn, Qx, Qo, Qv, Qc, Qg, Qk, Qf, Qt, r15]
 refine ⟨c, rfl, ?_⟩
 by_cases hok : c.ok
 ·have h1 : c.chk = 0 := if_pos hok
  have hE1 := c.eo hok (w := 101) (.inl rfl)
  have hE2 := c.eo hok (w := 102) (.inr rfl)
  have hT := hE1.tb
  have hl := hT.len
  have nat1 : ((c.T.length : Int) - 1).toNat = c.T.length - 1 := by omega
  by_cases hx : At c.T x
  ·have hx' : (c.T.getD 0 0 ≤ x ∧ x ≤ c.T.getD (c.T.length - 1) 0) = True := eq_true hx
   by_cases hd : 0 ≤ d ∧ d ≤ 59
   ·have hd' : (0 ≤ d ∧ d ≤ 59) = True := eq_true hd
    simp (maxSteps := 3000000) only [gdK_bff, condK_bf, decide_true, inr64, ↓reduceIte, reduceCtorEq, e_skip, and_self, e_drw, e_seq, e_cond, e_ret, o_nil, o_cons, gd_none, gd_some, gdK_ff, putK_e, runK_e, vK_e, bldK_e, storeK3_e, storeK2_e, storeK_e, conK_e, callK_e, evh_v, evh_bld, evh_store, evh_call, dX_e, dG_t, d_nil, d_cons, tlK_n, seqK_n, ends_r, endK1_e, endK2_e, gam_e, gamK_f, gamq_e, gamqK_f, pc_e, pcK_e, fcC_e, fcK_e, evp, bin, gt, gq, st, putf, X.get, gets, getp, ap, rdR, tupled, clV, clL, clS, clo, clo.clos, ld, lda, lens, ixs, tk, dr, sp, sp.spl, lay, ll, cs1, one, allOne, gb, sb, lk, evq, gdl, Bool.and_true, Bool.not_true, Nat.reduceAdd, Nat.reduceBEq, beq_self_eq_true, true_and, h1, nat1, Int.toNat_zero, Fin, hx', hd', F51, F50, Tof_rows]
    have b1 := hE1.rteB hx ⟨hd.1, by omega⟩
    have b2 := hE2.rteB hx ⟨hd.1, by omega⟩
    have a1 := ageB hE1.selB.1 hE1.selB.2 hd.1 (by omega)
    have a2 := ageB hE2.selB.1 hE2.selB.2 hd.1 (by omega)
    have s1 : sel 101 (c.a, c.b) = c.a := rfl
    have s2 : sel 102 (c.a, c.b) = c.b := rfl
    unfold rte at b1 b2
    rw [s1] at b1 a1
    rw [s2] at b2 a2
    have l1 := ends_len (w := 101) (L := c.R)
    have l2 := ends_len (w := 102) (L := c.R)
    have hl2 := hE1.len
    refine ⟨⟨by omega, by omega⟩, ⟨by omega, by omega⟩, ⟨by omega, by omega⟩, ⟨by omega, c.R, rfl, rfl⟩, ⟨hT, hE1.rb, by omega, hx⟩, ⟨by omega, by omega⟩, ⟨by omega, by omega⟩, ⟨by omega, c.R, rfl, rfl⟩, ⟨hT, hE2.rb, by omega, hx⟩, ⟨by omega, by omega⟩, ⟨by omega, by omega⟩, ?_⟩
    exact res hK (by simp [leR, leR.leRs, rtR, rtE, hok, hx, hd, rte, s1, s2])
   ·have hd' : (0 ≤ d ∧ d ≤ 59) = False := eq_false hd
    simp only [gdK_bff, condK_bt, condK_bf, decide_true, decide_false, inr64, e_skip, e_reg, and_self, e_drw, e_seq, e_cond, e_ret, o_nil, o_cons, gd_none, gd_some, gdK_ff, putK_e, runK_e, vK_e, bldK_e, storeK3_e, storeK2_e, storeK_e, conK_e, callK_e, evh_v, evh_bld, evh_store, evh_call, dX_e, dG_t, d_nil, d_cons, tlK_n, seqK_n, seqK_r, ends_r, endK1_e, endK2_e, gam_e, gamK_f, pc_e, pcK_e, fcC_e, fcK_e, evp, bin, gt, gq, st, putf, X.get, gets, getp, ap, rdR, tupled, clV, clL, clS, clo, ld, lda, lens, ixs, tk, dr, sp, sp.spl, lay, ll, cs1, one, allOne, gb, sb, lk, evq, gdl, Bool.and_true, Bool.not_true, Bool.not_false, Nat.reduceAdd, Nat.reduceBEq, beq_self_eq_true, true_and, h1, nat1, Int.toNat_zero, Fin, hx', hd']
    refine ⟨⟨by omega, by omega⟩, ⟨by omega, by omega⟩, ⟨by omega, by omega⟩, ?_⟩
    exact res hK (by simp [leR, leR.leRs, rtR, rtE, hok, hx, hd])
  ·have hx' : (c.T.getD 0 0 ≤ x ∧ x ≤ c.T.getD (c.T.length - 1) 0) = False := eq_false hx
   simp only [gdK_bft, condK_bf, decide_true, decide_false, inr64, e_skip, e_reg, and_self, e_drw, e_seq, e_cond, e_ret, o_nil, o_cons, gd_none, gd_some, gdK_tf, putK_e, runK_e, skipK_e, vK_e, bldK_e, storeK3_e, storeK2_e, storeK_e, conK_e, callK_e, evh_v, evh_bld, evh_store, evh_call, dX_e, dG_t, d_nil, d_cons, tlK_n, seqK_n, seqK_r, condK_t, ends_r, endK1_e, endK2_e, gam_e, gamK_f, pc_e, pcK_e, fcC_e, fcK_e, evp, bin, gt, gq, st, putf, X.get, gets, getp, ap, rdR, tupled, clV, clL, clS, clo, ld, lda, lens, ixs, tk, dr, sp, sp.spl, lay, ll, cs1, one, allOne, gb, sb, lk, evq, gdl, undef, Bool.and_true, Bool.not_true, Bool.not_false, Nat.reduceAdd, Nat.reduceBEq, beq_self_eq_true, true_and, h1, nat1, Int.toNat_zero, Fin, hx']
   refine ⟨⟨by omega, by omega⟩, ⟨by omega, by omega⟩, ⟨by omega, by omega⟩, ?_⟩
   exact res hK (by simp [leR, leR.leRs, rtR, rtE, hok, hx])
 ·have h1 : c.chk = 70 := if_neg hok
  simp only [condK_bt, decide_false, e_reg, and_self, e_seq, e_cond, e_ret, o_nil, o_cons, gd_none, putK_e, runK_e, vK_e, bldK_e, storeK3_e, storeK2_e, storeK_e, evh_v, evh_bld, evh_store, seqK_n, seqK_r, ends_r, endK1_e, endK2_e, evp, gt, st, putf, X.get, getp, rdR, tupled, clV, clL, clS, clo, ld, tk, dr, sp, sp.spl, lay, ll, cs1, one, allOne, gb, sb, Bool.and_true, Bool.not_false, Nat.reduceAdd, true_and, h1, h70]
  exact res hK (by simp [leR, leR.leRs, rtR, rtE, hok])
def s19 : SC :=
 (.seq (.reg [⟨(some 2), none, .box 27 (.t 0)⟩,
 Qv 4 (.mov (.c (.lit (.slice none 0 0)))),
 Qv 5 (.mov (Qk 0))])
 (.seq (.seq (.reg [Qv 14 (.load (.t 2) (some 6)),
 Qm 15 1,
 Qc 16 55 [(.t 14), (.t 15)],
 Qm 6 16])
 (.seq (.reg [Qm 17 6,
 Qv 18 (.bin .neq (.t 17) (Qk 0))])
 (.cond (.t 18)
 (.seq (.reg [Qm 19 6,
 Qv 4 (.mov (.c (.lit (.slice none 0 0)))),
 Qm 5 19])
 .ret)
 .skip)))
 (.seq (.reg [Qo 20 2 4,
 Qv 21 (.load (.t 20) (some 2)),
 ⟨(some 7), none, .new 25 [(.int .i64 (0)), (.int .i64 (0))]⟩,
 ⟨none, none, .store 2 (.t 7) (.t 21)⟩])
 (.seq (.reg [Qv 8 (.mov (.c (.lit (.slice none 0 0))))])
 (.seq (.seq (.reg [Qv 9 (.mov (Qk 0))])
 (.block 0 (.loop
 (.seq (.seq (.reg [Qm 22 9,
 Qm 23 1,
 Qn 24 23,
 Qv 25 (.bin .lss (.t 22) (.t 24))])
 (.cond (.t 25)
 .skip
 (.exit 0)))
 (.seq (.block 1 (.seq (.reg [⟨(some 10), none, .new 25 [(.int .i64 (0)), (.int .i64 (0))]⟩])
 (.seq (.seq (.reg [Qm 28 1,
 Qm 29 9,
 Qx 30 28 29 2,
 Qo 31 30 0,
 Ql 32 31,
 Qm 11 32])
 (.block 2 (.loop
 (.seq (.seq (.reg [Qm 33 11,
 Qm 34 1,
 Qm 35 9,
 Qx 36 34 35 2,
 Qo 37 36 1,
 Ql 38 37,
 Qv 39 (.bin .leq (.t 33) (.t 38))])
 (.cond (.t 39)
 .skip
 (.exit 2)))
 (.seq (.block 3 (.seq (.reg [Qv 43 (.load (.t 2) (some 6)),
 Qm 44 11,
 Qm 45 9,
 Qc 46 15 [(.t 43), (.t 44), (.t 45)],
 Qm 42 46,
 Qv 47 (.ext (.t 42) 0),
 Qv 48 (.ext (.t 42) 1),
 ⟨(some 12), none, .new 25 [(.int .i64 (0)), (.int .i64 (0))]⟩,
 ⟨none, none, .store 2 (.t 12) (.t 47)⟩,
 Qm 13 48])
 (.drw [Qf 0 (Qv 49 (.load (.t 10) (some 2))),
 Qf 1 (Qo 50 12 0),
 Qf 2 (Ql 51 50),
 Qf 3 (Qm 52 11),
 Qf 4 (Qm 53 1),
 Qf 5 (Qm 54 9),
 Qf 6 (Qx 55 53 54 2),
 Qf 7 (Qo 56 55 0),
 Qf 8 (Ql 57 56),
 Qf 9 (Qv 58 (.bin .eql (.t 52) (.t 57))),
 Qf 10 (Qc 59 56 [(.t 49), (.t 51), (.t 58)]),
 Qf 11 (Qo 60 12 1),
 Qf 12 (Ql 61 60)]
 none
 [Qc 62 56 [(.t 59), (.t 61), (.c (.lit (.bool false)))],
 ⟨none, none, .store 2 (.t 10) (.t 62)⟩])))
 (.reg [Qm 40 11,
 Qv 41 (.bin .add (.t 40) (Qk 1)),
 Qm 11 41]))))))
 (.seq (.reg [Qo 63 7 0,
 Ql 64 63,
 Qo 65 10 0,
 Ql 66 65,
 Qv 67 (.bin .add (.t 64) (.t 66)),
 Qo 68 7 1,
 Ql 69 68,
 Qo 70 10 1,
 Ql 71 70,
 Qv 72 (.bin .add (.t 69) (.t 71)),
 ⟨(some 73), none, .bld [(.int .i64 (0)), (.int .i64 (0))] [(0, 1, (.t 67)), (1, 1, (.t 72))]⟩,
 ⟨none, none, .store 2 (.t 7) (.t 73)⟩])
 (.reg [Qm 74 8,
 Qv 75 (.load (.t 7) (some 2)),
 ⟨(some 76), none, .bsl 25 1 [(.int .i64 (0)), (.int .i64 (0))] [(0, 2, (.t 75))]⟩,
 ⟨(some 77), none, .app 25 2 16 (.t 74) (.t 76)⟩,
 Qm 8 77])))))
 (.reg [Qm 26 9,
 Qv 27 (.bin .add (.t 26) (Qk 1)),
 Qm 9 27]))))))
 (.seq (.reg [Qm 78 8,
 Qm 4 78,
 Qv 5 (.mov (Qk 0))])
 .ret))))))
def r19 : List RV := [.t 4, .t 5]
theorem k19 : (Tryz.f19.body.bind (cC Tryz.prog), cR Tryz.prog Tryz.f19.results.toList, Tryz.f19.ntmps) = (some s19, some r19, 79) := by kernel_rfl
theorem q19 : Known Tryz.prog 19 := ⟨_, Tryz.func19, by decide, by simp [Tryz.f19]⟩
def dyL (f : Int → Int) (x : Int) : Nat → Int
 | 0 => 0
 | m + 1 => mnF f x m
def dyH (f : Int → Int) (x : Int) : Nat → Int
 | 0 => 0
 | m + 1 => mxF f x m
theorem dyL_step {f g : Int → Int} {x : Int} {m : Nat} (h : f (x + m) ≤ g (x + m)) :
  (if g (x + m) < (if x + (m : Int) = x then f (x + m) else if f (x + m) < dyL f x m then f (x + m) else dyL f x m) then g (x + m) else (if x + (m : Int) = x then f (x + m) else if f (x + m) < dyL f x m then f (x + m) else dyL f x m)) = dyL f x (m + 1) := by
 cases m with
 | zero =>
  have e : x + ((0 : Nat) : Int) = x := by simp
  rw [if_pos e, if_neg (by omega)]
  simp [dyL, mnF]
 | succ m =>
  have e : ¬ x + ((m + 1 : Nat) : Int) = x := by omega
  rw [if_neg e]
  have e2 : x + ((m + 1 : Nat) : Int) = x + 1 + m := by omega
  rw [e2] at h ⊢
  simp only [dyL, mnF]
  have key : ∀ z p q : Int, p ≤ q → (if q < (if p < z then p else z) then q else (if p < z then p else z)) = (if p < z then p else z) := fun z p q h => by
   by_cases h1 : p < z
   ·simp only [if_pos h1]; rw [if_neg (by omega)]
   ·simp only [if_neg h1]; rw [if_neg (by omega)]
  exact key _ _ _ h
theorem dyH_step {f g : Int → Int} {x : Int} {m : Nat} (h : f (x + m) ≤ g (x + m)) :
  (if (if x + (m : Int) = x then f (x + m) else if dyH g x m < f (x + m) then f (x + m) else dyH g x m) < g (x + m) then g (x + m) else (if x + (m : Int) = x then f (x + m) else if dyH g x m < f (x + m) then f (x + m) else dyH g x m)) = dyH g x (m + 1) := by
 cases m with
 | zero =>
  have e : x + ((0 : Nat) : Int) = x := by simp
  rw [if_pos e]
  simp only [dyH, mxF]
  have e0 : x + ((0 : Nat) : Int) = x := by omega
  rw [e0] at h ⊢
  split <;> omega
 | succ m =>
  have e : ¬ x + ((m + 1 : Nat) : Int) = x := by omega
  rw [if_neg e]
  have e2 : x + ((m + 1 : Nat) : Int) = x + 1 + m := by omega
  rw [e2] at h ⊢
  simp only [dyH, mxF]
  have key : ∀ z p q : Int, p ≤ q → (if (if z < p then p else z) < q then q else (if z < p then p else z)) = (if z < q then q else z) := fun z p q h => by
   by_cases h1 : z < p
   ·simp only [if_pos h1]; rw [if_pos (show z < q by omega)]; split <;> omega
   ·simp only [if_neg h1]
  exact key _ _ _ h
theorem p19 : PureOk Tryz.prog 19 C18 := by
 refine pure_of (T := [(55, .pc C53), (15, .pc C14), (56, .fc F56)]) ⟨⟨p55, q55⟩, ⟨p15, q15⟩, ⟨p56, q56⟩, trivial⟩ Tryz.func19 k19 ?_
 rintro args K ⟨c, D, rfl, hK⟩
 have hsv : c.sv = .agg [.ints .i64 c.T, .rd 2 c.R.length (rowsS c.R), .int .i64 c.a, .int .i64 c.b, .int .i64 c.e, .int .i64 c.g] := rfl
 have h70 : ((70 : Int) = 0) = False := by simp
 have h71 : ((71 : Int) = 0) = False := by simp
 rw [hsv]
 simp only [e_reg, e_seq, o_nil, o_cons, gd_none, putK_e, runK_e, vK_e, boxK_e, conK_e, callK_e, evh_v, evh_box, evh_call, seqK_n, gam_e, gamK_p, pc_e, pcK_e, evp, bin, gt, st, putf, X.get, gets, ap, mkfr, rep, clV, clL, clS, clo, ld, lda, tk, dr, cs1, gb, pb, ln, lk, undef, Nat.reduceSub, beq_self_eq_true, true_and, s19, Qm, Ql, Qn, Qx, Qo, Qv, Qc, Qg, Qk, Qf, Qt, r19]
 refine ⟨c, D, rfl, ?_⟩
 by_cases hok : c.ok
 ·by_cases hv : voy c D
  ·have h1 : askE c D = 0 := by simp [askE, hok, hv]
   have hE1 := c.eo hok (w := 101) (.inl rfl)
   have hE2 := c.eo hok (w := 102) (.inr rfl)
   have hvl := hv.1
   have hdat := c.dat hv
   have heg := hok.2.2
   have hB1 := hE1.conB (e := c.e) (g := c.g) (D := D) (by omega) hdat (by omega)
   have hB2 := hE2.conB (e := c.e) (g := c.g) (D := D) (by omega) hdat (by omega)
   simp only [condK_bf, decide_true, e_skip, e_reg, and_self, e_seq, e_cond, e_block, e_loop, o_nil, o_cons, gd_none, putK_e, runK_e, vK_e, storeK3_e, storeK2_e, storeK_e, evh_v, evh_new, evh_store, seqK_n, evp, gt, st, putf, X.get, ld, lda, tk, dr, sp, sp.spl, ll, cs1, one, allOne, gb, sb, pb, ln, Bool.and_true, Bool.not_true, Nat.reduceAdd, true_and, h1]
   refine loop_at2 (G := Nat) (fun i => [(9, .int .i64 i), (8, .own 2)]) (fun i => [.box 27 [.ints .i64 c.T, .rd 2 c.R.length (rowsS c.R), .int .i64 c.a, .int .i64 c.b, .int .i64 c.e, .int .i64 c.g], .box 25 [.int .i64 (conS c.T c.R c.a c.b c.e c.g 101 D i), .int .i64 (conS c.T c.R c.a c.b c.e c.g 102 D i)], .orw 25 2 i (rowsS (cnP c D i))]) (fun i => i ≤ D.length) (fun i => D.length - i) 0 (Nat.zero_le _) ?_
   (intro fr1 hf1; simp only [forget, dstC, dstO, dstD, dst1, st] at hf1; subst hf1)
   refine ⟨?_, ?_⟩
   ·refine Lw_re 2 [none] (Nat.zero_le _) (by simp [ln]) (by simp [ln]) rfl ?_ ?_
    ·simp only [reL, reX, rn, List.getElem?_cons_zero, Nat.reduceSub, Nat.lt_irrefl, Nat.le_refl, reduceCtorEq, or_true, inb, inb.inbs, ln, sts, st, Bool.and_self, Nat.reduceLT, Nat.reduceAdd, decide_true, and_self, Int.natCast_zero, implies_true]
    ·simp only [reL, reX, reH, reB, reN, newB, inb, true_and, and_true, and_self, implies_true, conS, sel]
     exact ⟨rfl, rfl⟩
   ·intro i hii
    by_cases hlt : i < D.length
    ·have n0 : ((i : Int) < (D.length : Int)) = True := by simp; omega
     obtain ⟨d1, d2, d3⟩ := hdat i hlt
     simp only [condK_bt, decide_true, e_skip, e_reg, e_seq, e_cond, e_block, e_loop, o_nil, o_cons, gd_none, putK_e, runK_e, vK_e, evh_v, evh_new, seqK_n, evp, bin, gt, gq, st, putf, X.get, ld, lda, lens, ixs, pb, ln, Nat.reduceAdd, true_and, and_true, sts, n0, Int.toNat_natCast, rowsS]
     repeat refine And.intro (by first | omega | decide) ?_
     have hF : ∃ F : Int → Int, F = fun z => rte c.T c.R c.a c.b 101 z i := ⟨_, rfl⟩
     have hG : ∃ G : Int → Int, G = fun z => rte c.T c.R c.a c.b 102 z i := ⟨_, rfl⟩
     obtain ⟨F, hF⟩ := hF
     obtain ⟨G, hG⟩ := hG
     refine loop_at2 (G := Nat) (fun m => [(11, .int .i64 (lo D i + m))]) (fun m => [.box 27 [.ints .i64 c.T, .rd 2 c.R.length (rowsS c.R), .int .i64 c.a, .int .i64 c.b, .int .i64 c.e, .int .i64 c.g], .box 25 [.int .i64 (conS c.T c.R c.a c.b c.e c.g 101 D i), .int .i64 (conS c.T c.R c.a c.b c.e c.g 102 D i)], .orw 25 2 i (rowsS (cnP c D i)), .box 25 [.int .i64 (dyL F (lo D i) m), .int .i64 (dyH G (lo D i) m)]]) (fun m => m ≤ (hi D i - lo D i).toNat + 1) (fun m => (hi D i - lo D i).toNat + 1 - m) 0 (Nat.zero_le _) ?_
     (intro fr1 hf1; simp only [forget, dstC, dstO, dstD, dst1, st] at hf1; subst hf1)
     refine ⟨?_, ?_⟩
     ·refine Lw_re 4 [] (Nat.zero_le _) (by simp [ln]) (by simp [ln]) rfl ?_ ?_
      ·simp only [reL, reX, rn, Nat.reduceSub, Nat.reduceLeDiff, false_and, or_false, reduceCtorEq, inb, inb.inbs, ln, sts, st, Bool.and_self, Nat.reduceLT, Nat.reduceAdd, decide_true, and_true, and_self, Int.natCast_zero, Int.add_zero, implies_true]
      ·simp only [reL, reX, reH, reB, reN, inb, and_self, implies_true, dyL, dyH]
     ·intro m hm
      by_cases hle : lo D i + (m : Int) ≤ hi D i
      ·have n1 : (lo D i + (m : Int) ≤ hi D i) = True := eq_true hle
       have hat : At c.T (lo D i + m) := Eo.at' d2 d3 (by omega)
       have hfg : F (lo D i + m) ≤ G (lo D i + m) := by
        have m1 := itp_mono (R := endsL 101 c.R) (R' := endsL 102 c.R) hE1.tb hat fun k hk => by
         have hl2 := hE1.len
         rw [ends_getD (by omega), ends_getD (by omega)]
         have := all_get hok.1.2.2.2 (show k < c.R.length by omega)
         have := this.1.2
         unfold lo hi at this
         simpa [sel] using this
        have hab := hok.2.1.1.2
        have n3 := Int.mul_le_mul_of_nonneg_right hab (show (0 : Int) ≤ i by omega)
        rw [hF, hG]
        unfold rte
        have s1 : sel 101 (c.a, c.b) = c.a := rfl
        have s2 : sel 102 (c.a, c.b) = c.b := rfl
        simp only [s1, s2]
        omega
       have hr : rtR c (lo D i + m) i = (F (lo D i + m), G (lo D i + m)) := by
        rw [hF, hG]; exact if_pos ⟨hok, hat, by omega, by omega⟩
       have r1 : (rtR c (lo D i + m) i).1 = F (lo D i + m) := by rw [hr]
       have r2 : (rtR c (lo D i + m) i).2 = G (lo D i + m) := by rw [hr]
       have hbT := hE1.tb.b
       have hhi := hE1.tb.b (c.T.length - 1)
       have hhi2 := d3.2
       have hlo := hE1.tb.b 0
       have hlo2 := d2.1
       simp only [condK_bt, decide_true, e_skip, e_reg, e_seq, e_cond, e_block, o_nil, o_cons, gd_none, putK_e, runK_e, vK_e, conK_e, callK_e, evh_v, evh_call, seqK_n, gam_e, gamK_p, pc_e, pcK_e, evp, bin, gt, gq, st, putf, X.get, gets, ap, clV, clL, clS, clo, ld, lda, ixs, tk, dr, gb, lk, Nat.reduceAdd, Nat.reduceBEq, beq_self_eq_true, true_and, sts, n1, Int.toNat_natCast, rowsS]
       refine ⟨⟨by omega, by omega⟩, c, _, _, rfl, ?_⟩
       simp only [inr64, ↓reduceIte, reduceCtorEq, e_reg, and_self, e_drw, o_nil, o_cons, gd_none, putK_e, runK_e, vK_e, storeK3_e, storeK2_e, storeK_e, conK_e, callK_e, evh_v, evh_new, evh_store, evh_call, dX_e, dG_t, d_nil, d_cons, tlK_n, loopK_n, seqK_n, blockK_n, gam_e, gamK_f, gamq_e, gamqK_f, pc_e, pcK_e, fcC_e, fcK_e, evp, bin, gt, gq, st, putf, X.get, gets, ap, clV, clL, clS, clo, clo.clos, ld, lda, ixs, tk, dr, sp, sp.spl, ll, cs1, one, allOne, gb, sb, pb, ln, lk, evq, gdl, Value.oneCell', Bool.and_true, Nat.reduceAdd, Nat.reduceBEq, beq_self_eq_true, true_and, decide_eq_true_eq, r1, r2, F56, Int.toNat_natCast, rowsS]
       rw [dyL_step hfg, dyH_step hfg]
       refine ⟨⟨by omega, by omega⟩, ⟨by omega, by omega⟩, ?_⟩
       refine Nx.mk (m + 1) (by show m + 1 ≤ (hi D i - lo D i).toNat + 1; omega) (by show (hi D i - lo D i).toNat + 1 - (m + 1) < (hi D i - lo D i).toNat + 1 - m; omega) (Lw_re 4 [] (Nat.zero_le _) (by simp [ln]) (by simp [ln]) rfl ?_ ?_)
       ·simp only [reL, reX, rn, Nat.reduceSub, Nat.reduceLeDiff, false_and, or_false, reduceCtorEq, inb, inb.inbs, ln, Bool.and_self, Nat.reduceLT, Nat.reduceAdd, decide_true, and_true, and_self, Int.natCast_add, Int.natCast_one, implies_true, Int.add_assoc]
       ·simp only [reL, reX, reH, reB, reN, inb, and_self, implies_true]
      ·have n1 : (lo D i + (m : Int) ≤ hi D i) = False := eq_false hle
       have em : m = (hi D i - lo D i).toNat + 1 := by omega
       have eL : dyL F (lo D i) m = gain c.T c.R c.a c.b 101 i (lo D i) (hi D i) := by rw [em, hF]; rfl
       have eH : dyH G (lo D i) m = gain c.T c.R c.a c.b 102 i (lo D i) (hi D i) := by rw [em, hG]; rfl
       have c1 := hB1 (i + 1) (by omega)
       have c2 := hB2 (i + 1) (by omega)
       have f1 : conS c.T c.R c.a c.b c.e c.g 101 D (i + 1) = conS c.T c.R c.a c.b c.e c.g 101 D i + gain c.T c.R c.a c.b 101 i (lo D i) (hi D i) := rfl
       have f2 : conS c.T c.R c.a c.b c.e c.g 102 D (i + 1) = conS c.T c.R c.a c.b c.e c.g 102 D i + gain c.T c.R c.a c.b 102 i (lo D i) (hi D i) := rfl
       have g1 := f1.symm
       have g2 := f2.symm
       have hs := cnP_snoc (c := c) (D := D) (n := i)
       have hl := cnP_len (c := c) (D := D) (n := i)
       have hi0 := hB1 i (by omega)
       simp only [condK_bf, decide_false, inr64, ↓reduceIte, e_reg, and_self, e_seq, e_cond, e_exit, o_nil, o_cons, gd_none, putK_e, runK_e, vK_e, bslK_e, bldK_e, storeK3_e, storeK2_e, storeK_e, appK2_or, appK_e, evh_v, evh_bsl, evh_bld, evh_store, evh_app, loopK_n, loopK_x, seqK_n, seqK_x, exitK_t, blockK_x, blockK_n, evp, bin, gt, gq, st, putf, X.get, getp, clo, clo.clos, ld, lda, ixs, tk, dr, sp, sp.spl, lay, ll, cs1, one, allOne, gb, sb, pb, ln, Bool.and_true, Nat.reduceAdd, beq_self_eq_true, true_and, sts, n1, Int.toNat_natCast, rowsS, eL, eH, g1, g2]
       refine ⟨⟨by omega, by omega⟩, ⟨by omega, by omega⟩, ⟨by omega, by omega⟩, ⟨by omega, by omega, by omega⟩, ⟨by omega, by omega⟩, ?_⟩
       refine Nx.mk (i + 1) (by show i + 1 ≤ D.length; omega) (by show D.length - (i + 1) < D.length - i; omega) (Lw_re 2 [some 5] (Nat.zero_le _) (by simp [ln]) (by simp [ln]) rfl ?_ ?_)
       ·simp only [reL, reX, rn, List.getElem?_cons_zero, Nat.reduceSub, Nat.lt_irrefl, Nat.le_refl, and_false, or_true, inb, inb.inbs, ln, Bool.and_self, Nat.reduceLT, Nat.reduceAdd, decide_true, and_self, Int.natCast_add, Int.natCast_one, implies_true]
       ·simp only [reL, reX, reH, reB, reM, reN, gb, Nat.reduceLeDiff, inb, ln, Nat.reduceLT, Nat.reduceAdd, true_and, and_true, and_self, implies_true, hs]
        intro j hj
        have := rowsS_snoc (cnP c D i) (conS c.T c.R c.a c.b c.e c.g 101 D (i + 1), conS c.T c.R c.a c.b c.e c.g 102 D (i + 1)) j (by rw [hl]; exact hj)
        rw [hl] at this
        exact this
    ·have n0 : ((i : Int) < (D.length : Int)) = False := by simp; omega
     have ei : i = D.length := by omega
     subst ei
     simp only [condK_bf, decide_false, e_reg, e_seq, e_cond, e_exit, e_ret, o_nil, o_cons, gd_none, putK_e, runK_e, vK_e, evh_v, loopK_x, seqK_n, seqK_x, exitK_t, blockK_x, ends_r, endK1_e, endK2_e, evp, bin, gt, st, putf, X.get, rdR, tupled, clV, clL, clS, clo, lens, gb, sb, beq_self_eq_true, true_and, sts, n0]
     have hr : cnR c D = cnP c D D.length := if_pos ⟨hok, hv⟩
     exact res hK (by simp [leR, leR.leRs, hr, cnP_len, askE, hok, hv])
  ·have h1 : askE c D = 71 := by simp [askE, hok, hv]
   have hr : cnR c D = [] := if_neg (fun h => hv h.2)
   simp only [condK_bt, decide_false, e_reg, e_seq, e_cond, e_ret, o_nil, o_cons, gd_none, putK_e, runK_e, vK_e, evh_v, seqK_n, seqK_r, ends_r, endK1_e, endK2_e, evp, gt, st, putf, X.get, rdR, tupled, clV, clL, clS, clo, Bool.not_false, true_and, h1, h71]
   exact res hK (by simp [leR, leR.leRs, hr, askE, hok, hv])
 ·have h1 : askE c D = 70 := by simp [askE, hok]
  have hr : cnR c D = [] := if_neg (fun h => hok h.1)
  simp only [condK_bt, decide_false, e_reg, e_seq, e_cond, e_ret, o_nil, o_cons, gd_none, putK_e, runK_e, vK_e, evh_v, seqK_n, seqK_r, ends_r, endK1_e, endK2_e, evp, gt, st, putf, X.get, rdR, tupled, clV, clL, clS, clo, Bool.not_false, true_and, h1, h70]
  exact res hK (by simp [leR, leR.leRs, hr, askE, hok])
namespace Cones
def s3 : SC :=
 (.seq (.reg [⟨(some 3), none, .box 27 (.t 0)⟩,
 ⟨(some 5), none, .box 28 (.t 2)⟩,
 Qv 6 (.mov (.c (.lit (.bool false))))])
 (.seq (.reg [Qv 14 (.load (.t 3) (some 6)),
 Qv 15 (.ixarr (.t 5) (Qk 0) 2 1),
 Ql 16 15,
 Qv 17 (.ixarr (.t 5) (Qk 1) 2 1),
 Ql 18 17,
 Qc 19 14 [(.t 14), (.t 16), (.t 18)],
 Qm 13 19,
 Qv 20 (.ext (.t 13) 0),
 Qv 21 (.ext (.t 13) 1),
 ⟨(some 7), none, .new 25 [(.int .i64 (0)), (.int .i64 (0))]⟩,
 ⟨none, none, .store 2 (.t 7) (.t 20)⟩,
 Qm 8 21])
 (.seq (.reg [Qv 23 (.load (.t 3) (some 6)),
 Qv 24 (.ixarr (.t 5) (Qk 0) 2 1),
 Ql 25 24,
 Qv 26 (.ixarr (.t 5) (Qk 1) 2 1),
 Ql 27 26,
 Qc 28 15 [(.t 23), (.t 25), (.t 27)],
 Qm 22 28,
 Qv 29 (.ext (.t 22) 0),
 Qv 30 (.ext (.t 22) 1),
 ⟨(some 9), none, .new 25 [(.int .i64 (0)), (.int .i64 (0))]⟩,
 ⟨none, none, .store 2 (.t 9) (.t 29)⟩,
 Qm 10 30])
 (.seq (.seq (.drw [Qf 0 (Qv 31 (.load (.t 7) (some 2))),
 Qf 1 (Qv 32 (.load (.t 9) (some 2))),
 Qf 2 (Qv 33 (.eqs [(some .i64), (some .i64)] true (.t 31) (.t 32))),
 Qt 3 (Qm 34 33),
 Qf 4 (Qg 35 34 false (.mov (.t 8))),
 Qf 5 (Qg 36 34 false (.mov (.t 10))),
 Qf 6 (Qg 37 34 false (.bin .neq (.t 35) (.t 36))),
 Qf 7 (Qv 38 (.pick (.t 34) (.c (.lit (.bool true))) (.t 37))),
 Qt 8 (Qm 39 38),
 Qf 9 (Qg 40 39 false (.load (.t 3) (some 6))),
 (10, ⟨(some 41), (some (39, false)), .call (.c (.fn 16 [])) [(.t 40)]⟩, false),
 Qf 11 (Qg 42 39 false (.load (.t 3) (some 6)))]
 none
 [⟨(some 43), (some (39, false)), .call (.c (.fn 17 [])) [(.t 42)]⟩,
 Qg 44 39 false (.bin .neq (.t 41) (.t 43)),
 Qv 45 (.pick (.t 39) (.c (.lit (.bool true))) (.t 44))])
 (.cond (.t 45)
 (.seq (.reg [Qv 6 (.mov (.c (.lit (.bool false))))])
 .ret)
 .skip))
 (.seq (.reg [Qv 47 (.load (.t 3) (some 6)),
 Qm 48 1,
 Qc 49 18 [(.t 47), (.t 48)],
 Qm 46 49,
 Qv 50 (.ext (.t 46) 0),
 Qv 51 (.ext (.t 46) 1),
 Qm 11 50,
 Qm 8 51])
 (.seq (.reg [Qv 53 (.load (.t 3) (some 6)),
 Qm 54 1,
 Qc 55 19 [(.t 53), (.t 54)],
 Qm 52 55,
 Qv 56 (.ext (.t 52) 0),
 Qv 57 (.ext (.t 52) 1),
 Qm 12 56,
 Qm 10 57])
 (.seq (.reg [Qm 58 11,
 Qm 59 12,
 Qc 60 20 [(.t 58), (.t 59)],
 Qm 61 60,
 Qg 62 61 true (.mov (.t 8)),
 Qg 63 61 true (.mov (.t 10)),
 Qg 64 61 true (.bin .eql (.t 62) (.t 63)),
 Qv 65 (.pick (.t 61) (.t 64) (.c (.lit (.bool false)))),
 Qm 66 65,
 ⟨(some 67), (some (66, true)), .call (.c (.fn 21 [])) []⟩,
 Qv 68 (.pick (.t 66) (.t 67) (.c (.lit (.bool false)))),
 Qm 6 68])
 .ret)))))))
def r3 : List RV := [.t 6]
def n3 : Nat := 69
theorem k3 : (Tryz.f3.body.bind (cC Tryz.prog), cR Tryz.prog Tryz.f3.results.toList, Tryz.f3.ntmps) = (some s3, some r3, 69) := by kernel_rfl
theorem cnR_rng (c : Ck) (D : List (Int × Int)) : (cnR c D).length ≤ 1000 ∧ rngS (cnR c D) := by
 unfold cnR
 split
 ·rename_i h
  obtain ⟨hok, hv⟩ := h
  have hE1 := c.eo hok (w := 101) (.inl rfl)
  have hE2 := c.eo hok (w := 102) (.inr rfl)
  have hvl := hv.1
  have hdat := c.dat hv
  have heg := hok.2.2
  have hB1 := hE1.conB (e := c.e) (g := c.g) (D := D) (by omega) hdat (by omega)
  have hB2 := hE2.conB (e := c.e) (g := c.g) (D := D) (by omega) hdat (by omega)
  refine ⟨by rw [cnP_len]; omega, fun i hi' => ?_⟩
  rw [cnP_len] at hi'
  have h1 := hB1 (i + 1) (by omega)
  have h2 := hB2 (i + 1) (by omega)
  have e : (cnP c D D.length).getD i (0, 0) = (conS c.T c.R c.a c.b c.e c.g 101 D (i + 1), conS c.T c.R c.a c.b c.e c.g 102 D (i + 1)) := by simp [cnP, List.getD, hi']
  unfold lo hi
  rw [e]
  simp only
  omega
 ·exact ⟨by simp, fun i h => by simp at h⟩
theorem rtR_rng (c : Ck) (x d : Int) : (-9223372036854775808 ≤ (rtR c x d).1 ∧ (rtR c x d).1 ≤ 9223372036854775807) ∧ -9223372036854775808 ≤ (rtR c x d).2 ∧ (rtR c x d).2 ≤ 9223372036854775807 := by
 unfold rtR
 split
 ·rename_i h
  have h1 := (c.eo h.1 (w := 101) (.inl rfl)).rteB h.2.1 ⟨h.2.2.1, by omega⟩
  have h2 := (c.eo h.1 (w := 102) (.inr rfl)).rteB h.2.1 ⟨h.2.2.1, by omega⟩
  simp only; omega
 ·simp
def F16 : FC := fun args => match args with
 | [.agg [.ints .i64 T, .rd 2 n f, .int .i64 a, .int .i64 b, .int .i64 e, .int .i64 g]] => some (∃ R, n = R.length ∧ f = rowsS R, .int .i64 (Ck.chk ⟨T, Tof n f, a, b, e, g⟩))
 | _ => none
theorem f16 {f : Nat} (h : PureOk Tryz.prog f C16) : PureOk Tryz.prog f (fcC F16) := by
 intro w im args vs K him ha hC
 refine h w im args vs K him ha ?_
 unfold fcC F16 at hC
 split at hC <;> first | (exact hC.elim) | skip
 rename_i h
 split at h <;> first | (cases h; done) | skip
 cases h
 obtain ⟨⟨R, rfl, rfl⟩, hK⟩ := hC
 rw [Tof_rows] at hK
 exact ⟨⟨_, R, _, _, _, _⟩, rfl, hK⟩
def C3 : PC := fun args K => ∃ (c : Ck) (D : List (Int × Int)) (x d : Int), args = [c.sv, .rd 2 D.length (rowsS D), .agg [.int .i64 x, .int .i64 d]] ∧ K (.lit (.bool true))
theorem p3 (p21 : PureOk Tryz.prog 21 (fcC F21)) (q21 : Known Tryz.prog 21) : PureOk Tryz.prog 3 C3 := by
 refine pure_of (T := [(14, .pc C14), (15, .pc C14), (16, .fc F16), (17, .fc F16), (18, .pc C18), (19, .pc C18), (20, .pc C20), (21, .fc F21)]) ⟨⟨p14, q14⟩, ⟨p15, q15⟩, ⟨f16 p16, q16⟩, ⟨f16 p17, q17⟩, ⟨p18, q18⟩, ⟨p19, q19⟩, ⟨p20, q20⟩, ⟨p21, q21⟩, trivial⟩ Tryz.func3 k3 ?_
 rintro args K ⟨c, D, x, d, rfl, hK⟩
 have hsv : c.sv = .agg [.ints .i64 c.T, .rd 2 c.R.length (rowsS c.R), .int .i64 c.a, .int .i64 c.b, .int .i64 c.e, .int .i64 c.g] := rfl
 have hr := rtR_rng c x d
 have hc := cnR_rng c D
 rw [hsv]
 simp only [e_reg, e_seq, o_nil, o_cons, gd_none, putK_e, runK_e, vK_e, boxK_e, conK_e, callK_e, evh_v, evh_box, evh_call, seqK_n, gam_e, gamK_p, pc_e, pcK_e, evp, gt, gq, st, putf, X.get, gets, ap, mkfr, rep, clV, clL, clS, clo, ld, lda, tk, dr, cs1, gb, pb, ln, lk, undef, Nat.reduceSub, Nat.reduceAdd, Nat.reduceMul, beq_self_eq_true, true_and, s3, Qm, Ql, Qn, Qx, Qo, Qv, Qc, Qg, Qk, Qf, Qt, r3, Int.toNat_zero, Int.toNat_one]
 refine ⟨by decide, by decide, c, x, d, rfl, ?_⟩
 simp only [e_reg, and_self, e_seq, o_nil, o_cons, gd_none, putK_e, runK_e, vK_e, storeK3_e, storeK2_e, storeK_e, conK_e, callK_e, evh_v, evh_new, evh_store, evh_call, seqK_n, gam_e, gamK_p, pc_e, pcK_e, evp, gt, gq, st, putf, X.get, gets, ap, clV, clL, clS, clo, ld, lda, tk, dr, sp, sp.spl, ll, cs1, one, allOne, gb, sb, pb, ln, lk, Bool.and_true, Nat.reduceAdd, Nat.reduceMul, Nat.reduceBEq, beq_self_eq_true, true_and, Int.toNat_zero, Int.toNat_one]
 refine ⟨by decide, by decide, c, x, d, rfl, ?_⟩
 simp only [dX_bf, condK_bf, decide_true, e_skip, e_reg, and_self, e_drw, e_seq, e_cond, o_nil, o_cons, gd_none, gd_some, gdK_ff, putK_e, runK_e, vK_e, storeK3_e, storeK2_e, storeK_e, conK_e, callK_e, evh_v, evh_new, evh_store, evh_call, dX_e, dG_t, d_nil, d_cons, tlK_n, seqK_n, gam_e, gamK_f, gamK_p, gamq_e, gamqK_f, pc_e, pcK_e, fcC_e, fcK_e, evp, fit, InQ, bin, gt, gq, st, putf, X.get, gets, ap, clV, clL, clS, clo, clo.clos, ld, lda, tk, dr, sp, sp.spl, ll, cs1, one, allOne, gb, sb, pb, ln, lk, evq, gdl, Bool.and_true, Bool.not_true, Bool.not_false, cond_true, Nat.reduceAdd, Nat.reduceBEq, beq_self_eq_true, true_and, F16, Tof_rows, hr]
 refine ⟨⟨c.R, rfl, rfl⟩, ⟨c.R, rfl, rfl⟩, c, D, rfl, ?_⟩
 simp only [e_reg, e_seq, o_nil, o_cons, gd_none, putK_e, runK_e, vK_e, conK_e, callK_e, evh_v, evh_call, seqK_n, gam_e, gamK_p, pc_e, pcK_e, evp, gt, gq, st, putf, X.get, gets, ap, clV, clL, clS, clo, ld, lda, tk, dr, gb, lk, Nat.reduceBEq, beq_self_eq_true, true_and]
 refine ⟨c, D, rfl, ?_⟩
 simp only [e_reg, e_seq, o_nil, o_cons, gd_none, gd_some, putK_e, runK_e, vK_e, conK_e, callK_e, evh_v, evh_call, seqK_n, gam_e, gamK_p, pc_e, pcK_e, evp, gt, gq, st, putf, X.get, gets, ap, clV, clL, clS, clo, lk, Nat.reduceBEq, beq_self_eq_true, true_and]
 refine ⟨_, _, rfl, ⟨hc.1, hc.2, hc.2⟩, ?_⟩
 rw [decide_eq_true (rfl : cnR c D = cnR c D)]
 simp only [gdK_btt, decide_true, e_ret, o_nil, o_cons, gd_none, gd_some, gdK_tt, putK_e, runK_e, vK_e, conK_e, callK_e, evh_v, evh_call, seqK_n, ends_r, endK1_e, endK2_e, gam_e, gamK_f, pc_e, pcK_e, fcC_e, fcK_e, evp, bin, gt, st, putf, X.get, gets, ap, rdR, tupled, clV, clL, clS, clo, lk, Nat.reduceBEq, beq_self_eq_true, true_and, F21]
 exact res hK (by simp [leR])
end Cones
end Go.Proofs.YtlegfejimphfbaaGreat
end
