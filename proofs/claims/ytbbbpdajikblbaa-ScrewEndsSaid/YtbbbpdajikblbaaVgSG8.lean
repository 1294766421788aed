import Derived.Test.YtbbbpdajikblbaaVgSG7
namespace Go.Proofs.Ytbbbpdajikblbaa
open Go Go.Vg
set_option linter.unusedSimpArgs false
set_option linter.unusedVariables false
set_option maxRecDepth 10000
theorem F25_e {T : List Int} {m : Int} {L : List Rdg} {N : Nat} {Y : Nat → List Int} {b : Bool} {c : Int} (hb : truE T m L N Y = b) (hc : chk T m L = c) :
  F25 [.agg [.ints .i64 T, .int .i64 m], .rd 6 L.length (rgR L), .rd 1 N fun i => [.ints .i64 (Y i)]] = some (True, .tup [.bool b, .int .i64 c]) := by
 have h1 : F25 [.agg [.ints .i64 T, .int .i64 m], .rd 6 L.length (rgR L), .rd 1 N fun i => [.ints .i64 (Y i)]] = some ((∀ i, i < L.length → rgR L i = (rdOf (rgR L i)).row) ∧ ((∀ i, i < N → [SV.ints .i64 (Y i)] = [.ints .i64 (gI [.ints .i64 (Y i)])]) ∨ (∀ i, i < N → [SV.ints .i64 (Y i)] = [.clip .i64 (gI [.ints .i64 (Y i)])])),
  .tup [.bool (truE T m (rdsOf L.length (rgR L)) N fun i => gI [.ints .i64 (Y i)]), .int .i64 (chk T m (rdsOf L.length (rgR L)))]) := rfl
 rw [h1, rdsOf_rgR, hc, show (fun i => gI [.ints .i64 (Y i)]) = Y from rfl, hb]
 exact congrArg some (Prod.ext (eq_true ⟨fun i _ => rfl, .inl fun i _ => rfl⟩) rfl)
theorem F43_e {T : List Int} {m : Int} {d : Dst} (hs : okS T m = true) (b : Bool) : F43 [.rd 1 T.length (spW T d), .lit (.bool b)] = some (True, .rd 1 T.length fun i => [.ints .i64 (rowsE T (endD b d) i)]) := by
 have h1 : F43 [.rd 1 T.length (spW T d), .lit (.bool b)] = some (∃ (T' : List Int) (m : Int) (d' : Dst), okS T' m = true ∧ T.length = T'.length ∧ spW T d = spW T' d', .rd 1 T.length fun i => [.ints .i64 (endR b (spW T d i))]) := rfl
 rw [h1]
 exact congrArg some (Prod.ext (eq_true ⟨T, m, d, hs, rfl, rfl⟩) rfl)
def C8 : PC := fun args K => ∃ (T : List Int) (m : Int) (L : List Rdg) (N : Nat) (Y : Nat → List Int), args = [.agg [.ints .i64 T, .int .i64 m], .rd 6 L.length (rgR L), .rd 1 N fun i => [.ints .i64 (Y i)]] ∧ K (.lit (.bool true))
abbrev T8 : List (Nat × Sg) := [(24, .fc F24), (27, .pc C27), (25, .fc F25), (43, .fc F43), (44, .fc F44)]
set_option maxHeartbeats 4000000 in
theorem p8 (p24 : PureOk Try.prog 24 (fcC F24)) (q24 : Known Try.prog 24) : PureOk Try.prog 8 C8 := by
 refine pure_of (T := T8) ⟨⟨p24, q24⟩, ⟨p27, q27⟩, ⟨p25, q25⟩, ⟨p43, q43⟩, ⟨p44, q44⟩, trivial⟩ Try.func8 k8 ?_
 rintro args K ⟨T, m, L, N, Y, rfl, hK⟩
 have e1 : ∀ x : Int, (x = x) = True := fun x => eq_self x
 have f40 : ((4 : Int) = 0) = False := eq_false (by decide)
 have f00 : (((0 : Nat) : Int) = 0) = True := by simp
 simp only [e_reg, e_seq, o_nil, o_cons, gd_none, putK_e, runK_e, vK_e, boxK_e, conK_e, callK_e, evh_v, evh_box, evh_call, seqK_n, gam_e, gamK_p, pc_e, pcK_e, evp, gt, st, putf, X.get, gets, ap, mkfr, rep, clV, clL, clS, clo, ld, lda, tk, dr, cs1, gb, pb, ln, lk, undef, Nat.reduceSub, Nat.reduceBEq, beq_self_eq_true, true_and, s8, r8]
 refine ⟨T, m, L, rfl, ?_⟩
 by_cases h0 : chk T m L = 0
 ·obtain ⟨hs, hL⟩ := chk_0.1 h0
  obtain ⟨hT1, hm, hT⟩ := okS_all hs
  cases htr : trR T m L with
  | none =>
   have e : spnS T m L = .tup [.lit (.slice none 0 0), .int .i64 4] := by simp [spnS, h0, htr]
   have hf : truE T m L N Y = false := by
    cases ht : truE T m L N Y with
    | false => rfl
    | true =>
     obtain ⟨d, hd⟩ := tr_of hs hL (true_isT ht)
     rw [htr] at hd; cases hd
   have e25 := F25_e hf h0
   rw [e]
   simp only [gdK_btt, gdK_bft, condK_bt, decide_true, decide_false, e_reg, e_seq, e_cond, e_ret, o_nil, o_cons, gd_none, gd_some, gdK_tt, gdK_tf, putK_e, runK_e, skipK_e, vK_e, conK_e, callK_e, evh_v, evh_call, seqK_n, seqK_r, ends_r, endK1_e, endK2_e, gam_e, gamK_f, pc_e, pcK_e, fcC_e, fcK_e, evp, bin, gt, gq, st, putf, X.get, gets, ap, rdR, tupled, clV, clL, clS, clo, ld, lda, lens, tk, dr, gb, lk, undef, Bool.not_false, Nat.reduceBEq, beq_self_eq_true, true_and, e25, f40, f00, F24]
   exact res hK (by simp [leR])
  | some d =>
   have e : spnS T m L = .tup [.rd 1 T.length (spW T d), .int .i64 0] := by simp [spnS, h0, htr]
   obtain ⟨hhi, hlo⟩ := tr_ends hs hL htr
   have eh := F25_e (T := T) (m := m) (L := L) (N := T.length) (Y := rowsE T (endD true d)) (isT_true h0 hhi) h0
   have el := F25_e (T := T) (m := m) (L := L) (N := T.length) (Y := rowsE T (endD false d)) (isT_true h0 hlo) h0
   have fh := F43_e (d := d) hs true
   have fl := F43_e (d := d) hs false
   rw [e]
   cases ht : truE T m L N Y with
   | false =>
    have e25 := F25_e ht h0
    simp only [gdK_bff, condK_bf, decide_true, e_skip, e_reg, e_drw, e_seq, e_cond, e_block, e_loop, o_nil, o_cons, gd_none, gd_some, gdK_ff, putK_e, runK_e, vK_e, conK_e, callK_e, evh_v, evh_call, dX_e, dG_t, d_nil, d_cons, tlK_n, seqK_n, gam_e, gamK_f, gamq_e, gamqK_f, pc_e, pcK_e, fcC_e, fcK_e, evp, bin, gt, gq, st, putf, X.get, gets, ap, clV, clL, clS, clo, clo.clos, ld, lda, tk, dr, gb, lk, evq, gdl, Bool.and_true, Bool.not_true, Nat.reduceBEq, beq_self_eq_true, true_and, e25, eh, el, fh, fl]
    refine loop_atc (G := Nat) (fun i => [(15, .int .i64 i)]) (fun i => i ≤ 0) (fun i => 0 - i) 0 (Nat.zero_le _) ?_
    (intro fr1 hf1; simp only [forget, dstC, dstO, dstD, dst1, st] at hf1; subst hf1)
    refine ⟨?_, ?_⟩
    ·refine Lw_fr ?_
     simp only [frW, sts, st, Int.natCast_zero, true_or, or_true, and_self, reduceCtorEq, eq_self]
    ·intro i hi1
     simp only [gdK_btf, e_reg, e_seq, e_cond, e_exit, e_ret, o_nil, o_cons, gd_none, gd_some, gdK_ft, putK_e, runK_e, skipK_e, vK_e, conK_e, callK_e, evh_v, evh_call, loopK_x, seqK_n, seqK_x, condK_f, exitK_t, blockK_x, ends_r, endK1_e, endK2_e, gam_e, gamK_f, pc_e, pcK_e, fcC_e, fcK_e, evp, gt, st, putf, X.get, gets, ap, rdR, tupled, clV, clL, clS, clo, lk, undef, beq_self_eq_true, true_and, sts, F24]
     exact res hK (by simp [leR])
   | true =>
    have e25 := F25_e ht h0
    have hin := tr_in (true_isT ht) htr
    have hh : haveE T m N Y = true := by
     simp only [truE, Bool.and_eq_true] at ht; exact ht.2.1
    obtain ⟨hN1, hrow⟩ := haveE_row hh
    simp only [gdK_bff, condK_bf, decide_true, e_skip, e_reg, e_drw, e_seq, e_cond, e_block, e_loop, o_nil, o_cons, gd_none, gd_some, gdK_ff, putK_e, runK_e, vK_e, conK_e, callK_e, evh_v, evh_call, dX_e, dG_t, d_nil, d_cons, tlK_n, seqK_n, gam_e, gamK_f, gamq_e, gamqK_f, pc_e, pcK_e, fcC_e, fcK_e, evp, bin, gt, gq, st, putf, X.get, gets, ap, clV, clL, clS, clo, clo.clos, ld, lda, tk, dr, gb, lk, evq, gdl, Bool.and_true, Bool.not_true, Nat.reduceBEq, beq_self_eq_true, true_and, e25, eh, el, fh, fl]
    refine loop_atc (G := Nat) (fun i => [(15, .int .i64 i)]) (fun i => i ≤ N) (fun i => N - i) 0 (Nat.zero_le _) ?_
    (intro fr1 hf1; simp only [forget, dstC, dstO, dstD, dst1, st] at hf1; subst hf1)
    refine ⟨?_, ?_⟩
    ·refine Lw_fr ?_
     simp only [frW, sts, st, Int.natCast_zero, true_or, or_true, and_self, reduceCtorEq, eq_self]
    ·intro i hi1
     by_cases hi2 : i < N
     ·have n0 : ((i : Int) < (N : Int)) = True := eq_true (by omega)
      have n1 : ((i : Int) ≥ (T.length : Int)) = False := eq_false (by omega)
      obtain ⟨q1, q2, q3⟩ := hrow i hi2
      have hti := hT i (by omega)
      have hsp : ((spN T i : Nat) : Int) = T.getD i 0 + 1 := by unfold spN; omega
      simp only [gdK_btt, condK_bt, decide_true, e_skip, e_reg, e_seq, e_cond, e_block, e_loop, o_nil, o_cons, gd_none, gd_some, gdK_tt, putK_e, runK_e, vK_e, evh_v, seqK_n, evp, bin, gt, st, putf, X.get, lens, true_and, sts, n0]
      refine loop_atc (G := Nat) (fun j => [(16, .int .i64 j)]) (fun j => j ≤ (Y i).length) (fun j => (Y i).length - j) 0 (Nat.zero_le _) ?_
      (intro fr1 hf1; simp only [forget, dstC, dstO, dstD, dst1, st] at hf1; subst hf1)
      refine ⟨?_, ?_⟩
      ·refine Lw_fr ?_
       simp only [frW, sts, st, Int.natCast_zero, or_true, and_self, reduceCtorEq, eq_self]
      ·intro j hj1
       by_cases hj2 : j < (Y i).length
       ·have m0 : ((j : Int) < ((Y i).length : Int)) = True := eq_true (by omega)
        have m1 : ((j : Int) ≥ ((spN T i : Nat) : Int)) = False := eq_false (by omega)
        have hb : (d (i * 9 + j)).1 ≤ (Y i).getD j 0 ∧ (Y i).getD j 0 ≤ (d (i * 9 + j)).2 := by
         have := hin (i * 9 + j)
         unfold errE at this
         rw [show (i * 9 + j) / 9 = i by omega, show (i * 9 + j) % 9 = j by omega, if_pos hi2] at this
         exact this
        have hb' := eq_true hb
        simp only [dX_bf, condK_bt, condK_bf, decide_true, decide_false, inr64, e_skip, e_reg, e_drw, e_seq, e_cond, e_block, o_nil, o_cons, gd_none, gd_some, gdK_ff, putK_e, runK_e, vK_e, conK_e, callK_e, evh_v, evh_call, dX_e, dG_t, d_nil, d_cons, tlK_n, loopK_n, seqK_n, blockK_n, gam_e, gamK_f, pc_e, pcK_e, fcC_e, fcK_e, evp, bin, gt, gq, st, putf, X.get, gets, ap, clV, clL, clS, clo, ld, lda, lens, ixs, tk, dr, lk, evq, gdl, Bool.not_true, Bool.not_false, Nat.reduceBEq, beq_self_eq_true, true_and, and_true, sts, m0, m1, n1, Int.toNat_natCast, spW, spC, F44, hb']
        repeat' (first | omega | (with_reducible refine And.intro ?_ ?_))
        refine Nx.mk (j + 1) (by show j + 1 ≤ (Y i).length; omega) (by show (Y i).length - (j + 1) < (Y i).length - j; omega) (Lw_fr ?_)
        simp only [frW, Int.natCast_add, Int.natCast_one, true_or, or_true, and_self, reduceCtorEq, eq_self]
       ·have m0 : ((j : Int) < ((Y i).length : Int)) = False := eq_false (by omega)
        simp only [condK_bf, decide_false, inr64, e_reg, e_seq, e_cond, e_exit, o_nil, o_cons, gd_none, putK_e, runK_e, vK_e, evh_v, loopK_n, loopK_x, seqK_n, seqK_x, exitK_t, blockK_x, blockK_n, evp, bin, gt, gq, st, putf, X.get, ld, lda, lens, ixs, beq_self_eq_true, true_and, sts, m0, Int.toNat_natCast]
        repeat' (first | omega | (with_reducible refine And.intro ?_ ?_))
        refine Nx.mk (i + 1) (by show i + 1 ≤ N; omega) (by show N - (i + 1) < N - i; omega) (Lw_fr ?_)
        simp only [frW, Int.natCast_add, Int.natCast_one, true_or, or_true, and_self, reduceCtorEq, eq_self]
     ·have n0 : ((i : Int) < (N : Int)) = False := eq_false (by omega)
      simp only [gdK_btt, condK_bf, decide_false, e_reg, e_seq, e_cond, e_exit, e_ret, o_nil, o_cons, gd_none, gd_some, gdK_tt, putK_e, runK_e, vK_e, conK_e, callK_e, evh_v, evh_call, loopK_x, seqK_n, seqK_x, exitK_t, blockK_x, ends_r, endK1_e, endK2_e, gam_e, gamK_f, pc_e, pcK_e, fcC_e, fcK_e, evp, bin, gt, st, putf, X.get, gets, ap, rdR, tupled, clV, clL, clS, clo, lens, lk, beq_self_eq_true, true_and, sts, n0, F24]
      exact res hK (by simp [leR])
 ·have e : spnS T m L = .tup [.lit (.slice none 0 0), .int .i64 (chk T m L)] := by simp [spnS, h0]
  have hf : truE T m L N Y = false := by simp [truE, h0]
  have e25 := F25_e hf rfl
  have t0 := eq_false h0
  have t4 : (chk T m L = 4) = False := eq_false (by unfold chk; split <;> (try split) <;> omega)
  rw [e]
  simp only [gdK_btt, gdK_btf, condK_bt, decide_true, decide_false, e_reg, e_seq, e_cond, e_ret, o_nil, o_cons, gd_none, gd_some, gdK_tt, gdK_ft, gdK_ff, putK_e, runK_e, skipK_e, vK_e, conK_e, callK_e, evh_v, evh_call, seqK_n, seqK_r, ends_r, endK1_e, endK2_e, gam_e, gamK_f, pc_e, pcK_e, fcC_e, fcK_e, evp, bin, gt, gq, st, putf, X.get, gets, ap, rdR, tupled, clV, clL, clS, clo, ld, lda, lens, tk, dr, gb, lk, undef, Bool.not_false, Nat.reduceBEq, beq_self_eq_true, true_and, e25, t0, t4, f00, F24]
  exact res hK (by simp [leR])
end Go.Proofs.Ytbbbpdajikblbaa
