import Derived.Test.YtlegfejimphfbaaGreatVgHC
import Derived.Test.YtlegfejimphfbaaGreatVgCY
section
section
namespace Go.Proofs.YtlegfejimphfbaaGreat
open Go Go.Vg
set_option linter.unusedSimpArgs false
set_option linter.unusedVariables false
set_option maxRecDepth 10000
def s39 : SC :=
 (.seq (.reg [⟨(some 4), none, .v (.mov (.c (.int .i64 (0))))⟩])
 (.seq (.reg [⟨(some 6), none, .v (.mov (.t 0))⟩,
  ⟨(some 7), none, .v (.mov (.t 1))⟩,
  ⟨(some 8), none, .v (.bin .rem (.t 6) (.t 7))⟩,
  ⟨(some 5), none, .v (.mov (.t 8))⟩])
 (.seq (.seq (.reg [⟨(some 9), none, .v (.mov (.t 5))⟩,
  ⟨(some 10), none, .v (.bin .lss (.t 9) (.c (.int .i64 (0))))⟩])
 (.cond (.t 10)
  (.reg [⟨(some 11), none, .v (.mov (.t 5))⟩,
   ⟨(some 12), none, .v (.mov (.t 1))⟩,
   ⟨(some 13), none, .v (.bin .add (.t 11) (.t 12))⟩,
   ⟨(some 5), none, .v (.mov (.t 13))⟩])
  .skip))
 (.seq (.reg [⟨(some 14), none, .v (.mov (.t 5))⟩,
  ⟨(some 4), none, .v (.mov (.t 14))⟩])
 .ret))))
def r39 : List RV := [.t 4]
theorem k39 : (Tryz.f39.body.bind (cC Tryz.prog), cR Tryz.prog Tryz.f39.results.toList, Tryz.f39.ntmps) = (some s39, some r39, 15) := by kernel_rfl
theorem q39 : Known Tryz.prog 39 := ⟨_, Tryz.func39, by decide, by simp [Tryz.f39]⟩
def s36 : SC :=
 (.seq (.reg [⟨(some 6), none, .v (.mov (.c (.int .i64 (0))))⟩])
 (.seq (.seq (.reg [⟨(some 8), none, .v (.mov (.t 0))⟩,
  ⟨(some 9), none, .v (.mov (.t 1))⟩,
  ⟨(some 10), none, .v (.bin .geq (.t 8) (.t 9))⟩])
 (.cond (.t 10)
  (.seq (.reg [⟨(some 11), none, .v (.mov (.t 0))⟩,
   ⟨(some 6), none, .v (.mov (.t 11))⟩])
  .ret)
  .skip))
 (.seq (.reg [⟨(some 12), none, .v (.mov (.t 1))⟩,
  ⟨(some 13), none, .v (.mov (.t 0))⟩,
  ⟨(some 14), none, .v (.bin .sub (.t 12) (.t 13))⟩,
  ⟨(some 15), none, .v (.bin .add (.t 14) (.c (.int .i64 (1))))⟩,
  ⟨(some 7), none, .v (.mov (.t 15))⟩])
 (.seq (.seq (.reg [⟨(some 16), none, .v (.mov (.t 7))⟩,
  ⟨(some 17), none, .v (.bin .lss (.t 16) (.c (.int .i64 (1))))⟩])
 (.cond (.t 17)
  (.seq (.reg [⟨(some 18), none, .v (.mov (.t 2))⟩,
   ⟨(some 19), none, .v (.mov (.t 0))⟩,
   ⟨(some 20), none, .v (.max2 (.t 18) (.t 19))⟩,
   ⟨(some 21), none, .v (.mov (.t 1))⟩,
   ⟨(some 22), none, .v (.min2 (.t 20) (.t 21))⟩,
   ⟨(some 6), none, .v (.mov (.t 22))⟩])
  .ret)
  .skip))
 (.seq (.reg [⟨(some 23), none, .v (.mov (.t 0))⟩,
  ⟨(some 24), none, .v (.mov (.t 2))⟩,
  ⟨(some 25), none, .v (.mov (.t 7))⟩,
  ⟨(some 26), none, .call (.c (.fn 39 [])) [(.t 24), (.t 25)]⟩,
  ⟨(some 27), none, .v (.bin .add (.t 23) (.t 26))⟩,
  ⟨(some 6), none, .v (.mov (.t 27))⟩])
 .ret)))))
def r36 : List RV := [.t 6]
theorem k36 : (Tryz.f36.body.bind (cC Tryz.prog), cR Tryz.prog Tryz.f36.results.toList, Tryz.f36.ntmps) = (some s36, some r36, 28) := by kernel_rfl
theorem q36 : Known Tryz.prog 36 := ⟨_, Tryz.func36, by decide, by simp [Tryz.f36]⟩
def s37 : SC :=
 (.seq (.reg [⟨(some 4), none, .v (.mov (.c (.int .i64 (0))))⟩])
 (.seq (.seq (.reg [⟨(some 5), none, .v (.mov (.t 0))⟩,
  ⟨(some 6), none, .v (.len (.t 5))⟩,
  ⟨(some 7), none, .v (.bin .eql (.t 6) (.c (.int .i64 (0))))⟩])
 (.cond (.t 7)
  (.seq (.reg [⟨(some 4), none, .v (.mov (.c (.int .i64 (0))))⟩])
  .ret)
  .skip))
 (.seq (.reg [⟨(some 8), none, .v (.mov (.t 0))⟩,
  ⟨(some 9), none, .v (.mov (.t 1))⟩,
  ⟨(some 10), none, .v (.mov (.t 0))⟩,
  ⟨(some 11), none, .v (.len (.t 10))⟩,
  ⟨(some 12), none, .call (.c (.fn 39 [])) [(.t 9), (.t 11)]⟩,
  ⟨(some 13), none, .v (.ixa (.t 8) (.t 12) 1)⟩,
  ⟨(some 14), none, .v (.load (.t 13) none)⟩,
  ⟨(some 4), none, .v (.mov (.t 14))⟩])
 .ret)))
def r37 : List RV := [.t 4]
theorem k37 : (Tryz.f37.body.bind (cC Tryz.prog), cR Tryz.prog Tryz.f37.results.toList, Tryz.f37.ntmps) = (some s37, some r37, 15) := by kernel_rfl
theorem q37 : Known Tryz.prog 37 := ⟨_, Tryz.func37, by decide, by simp [Tryz.f37]⟩
def s38 : SC :=
 (.seq (.reg [⟨(some 6), none, .v (.mov (.c (.lit (.bool false))))⟩])
 (.seq (.reg [⟨(some 7), none, .v (.mov (.t 0))⟩,
  ⟨(some 8), none, .v (.mov (.t 1))⟩,
  ⟨(some 9), none, .v (.bin .geq (.t 7) (.t 8))⟩,
  ⟨(some 10), none, .v (.mov (.t 9))⟩,
  ⟨(some 11), (some (10, true)), .v (.mov (.t 0))⟩,
  ⟨(some 12), (some (10, true)), .v (.mov (.t 2))⟩,
  ⟨(some 13), (some (10, true)), .v (.bin .leq (.t 11) (.t 12))⟩,
  ⟨(some 14), none, .v (.pick (.t 10) (.t 13) (.c (.lit (.bool false))))⟩,
  ⟨(some 6), none, .v (.mov (.t 14))⟩])
 .ret))
def r38 : List RV := [.t 6]
theorem k38 : (Tryz.f38.body.bind (cC Tryz.prog), cR Tryz.prog Tryz.f38.results.toList, Tryz.f38.ntmps) = (some s38, some r38, 15) := by kernel_rfl
theorem q38 : Known Tryz.prog 38 := ⟨_, Tryz.func38, by decide, by simp [Tryz.f38]⟩
def s31 : SC :=
 (.seq (.reg [⟨(some 1), none, .box 27 (.t 0)⟩,
  ⟨(some 2), none, .v (.mov (.c (.lit (.bool false))))⟩])
 (.seq (.reg [⟨(some 3), none, .v (.load (.t 1) (some 6))⟩,
  ⟨(some 4), none, .call (.c (.fn 16 [])) [(.t 3)]⟩,
  ⟨(some 5), none, .v (.bin .eql (.t 4) (.c (.int .i64 (0))))⟩,
  ⟨(some 6), none, .v (.mov (.t 5))⟩,
  ⟨(some 7), (some (6, true)), .v (.off (.t 1) 0)⟩,
  ⟨(some 8), (some (6, true)), .v (.load (.t 7) none)⟩,
  ⟨(some 9), (some (6, true)), .v (.len (.t 8))⟩,
  ⟨(some 10), (some (6, true)), .call (.c (.fn 38 [])) [(.t 9), (.c (.int .i64 (2))), (.c (.int .i64 (8)))]⟩,
  ⟨(some 11), none, .v (.pick (.t 6) (.t 10) (.c (.lit (.bool false))))⟩,
  ⟨(some 12), none, .v (.mov (.t 11))⟩,
  ⟨(some 13), (some (12, true)), .v (.off (.t 1) 1)⟩,
  ⟨(some 14), (some (12, true)), .v (.load (.t 13) none)⟩,
  ⟨(some 15), (some (12, true)), .v (.len (.t 14))⟩,
  ⟨(some 16), (some (12, true)), .v (.off (.t 1) 0)⟩,
  ⟨(some 17), (some (12, true)), .v (.load (.t 16) none)⟩,
  ⟨(some 18), (some (12, true)), .v (.len (.t 17))⟩,
  ⟨(some 19), (some (12, true)), .v (.bin .eql (.t 15) (.t 18))⟩,
  ⟨(some 20), none, .v (.pick (.t 12) (.t 19) (.c (.lit (.bool false))))⟩,
  ⟨(some 2), none, .v (.mov (.t 20))⟩])
 .ret))
def r31 : List RV := [.t 2]
theorem k31 : (Tryz.f31.body.bind (cC Tryz.prog), cR Tryz.prog Tryz.f31.results.toList, Tryz.f31.ntmps) = (some s31, some r31, 21) := by kernel_rfl
theorem q31 : Known Tryz.prog 31 := ⟨_, Tryz.func31, by decide, by simp [Tryz.f31]⟩
theorem p38 : PureOk Tryz.prog 38 (fcC Fin) := by
 refine pure_of (T := []) trivial Tryz.func38 k38 ?_
 intro args K hC
 unfold fcC Fin at hC
 split at hC <;> first | (exact hC.elim) | skip
 rename_i h
 split at h <;> first | (cases h; done) | skip
 cases h
 simp only [e_reg, e_seq, e_ret, o_nil, o_cons, gd_none, gd_some, gdK_tt, gdK_ft, gdK_bt, putK_e, runK_e, skipK_e, vK_e, evh_v, seqK_n, ends_r, endK1_e, endK2_e, evp, bin, gt, st, putf, X.get, mkfr, rep, rdR, tupled, clV, clS, clo, undef, Nat.reduceSub, true_and, decide_eq_true_eq, decide_eq_false_iff_not, s38, r38]
 exact ⟨fun h => res hC.2 (by simp [leR, h]), fun h => res hC.2 (by simp [leR, h])⟩
def Fmod : FC := fun args => match args with
 | [.int .i64 a, .int .i64 b] => some (0 < b ∧ b ≤ 9223372036854775807, .int .i64 (a % b))
 | _ => none
theorem p39 : PureOk Tryz.prog 39 (fcC Fmod) := by
 refine pure_of (T := []) trivial Tryz.func39 k39 ?_
 intro args K hC
 unfold fcC Fmod at hC
 split at hC <;> first | (exact hC.elim) | skip
 rename_i h
 split at h <;> first | (cases h; done) | skip
 cases h
 rename_i a b
 obtain ⟨⟨hb, hb2⟩, hK⟩ := hC
 have e := Int.tmod_eq_emod (a := a) (b := b)
 have h1 := Int.emod_nonneg a (show b ≠ 0 by omega)
 have h2 := Int.emod_lt_of_pos a hb
 have h3 : (b.natAbs : Int) = b := by omega
 simp only [inr64, ne_eq, e_skip, e_reg, e_seq, e_cond, e_ret, o_nil, o_cons, gd_none, putK_e, runK_e, vK_e, evh_v, seqK_n, condK_b, ends_r, endK1_e, endK2_e, evp, bin, gt, st, putf, X.get, mkfr, rep, rdR, tupled, clV, clS, clo, undef, Nat.reduceSub, true_and, decide_eq_true_eq, decide_eq_false_iff_not, s39, r39]
 have e2 : a.tmod b = a % b ∨ a.tmod b = a % b - b := by
  by_cases c : 0 ≤ a ∨ b ∣ a
  ·rw [if_pos c] at e; exact .inl (by simpa using e)
  ·rw [if_neg c, h3] at e; exact .inr e
 exact ⟨by omega, fun h => ⟨by omega, res hK (by simp [leR]; omega)⟩, fun h => res hK (by simp [leR]; omega)⟩
def chz (low high n : Int) : Int := if high ≤ low then low else low + n % (high - low + 1)
theorem chz_bnd {a b n : Int} (h : a ≤ b) : a ≤ chz a b n ∧ chz a b n ≤ b := by
 unfold chz
 split
 ·omega
 ·have h1 := Int.emod_nonneg n (show b - a + 1 ≠ 0 by omega)
  have h2 := Int.emod_lt_of_pos n (show 0 < b - a + 1 by omega)
  omega
def Fch : FC := fun args => match args with
 | [.int .i64 a, .int .i64 b, .int .i64 n] => some ((-1000000000 ≤ a ∧ a ≤ 1000000000) ∧ (-1000000000 ≤ b ∧ b ≤ 1000000000), .int .i64 (chz a b n))
 | _ => none
theorem p36 : PureOk Tryz.prog 36 (fcC Fch) := by
 refine pure_of (T := [(39, .fc Fmod)]) ⟨⟨p39, q39⟩, trivial⟩ Tryz.func36 k36 ?_
 intro args K hC
 unfold fcC Fch at hC
 split at hC <;> first | (exact hC.elim) | skip
 rename_i h
 split at h <;> first | (cases h; done) | skip
 cases h
 rename_i a b n
 obtain ⟨⟨⟨h1, h2⟩, h3, h4⟩, hK⟩ := hC
 simp only [inr64, e_skip, e_reg, e_seq, e_cond, e_ret, o_nil, o_cons, gd_none, putK_e, runK_e, vK_e, conK_e, callK_e, evh_v, evh_call, seqK_n, seqK_r, condK_b, ends_r, endK1_e, endK2_e, gam_e, gamK_f, pc_e, pcK_e, fcC_e, fcK_e, evp, bin, gt, st, putf, X.get, gets, ap, mkfr, rep, rdR, tupled, clV, clL, clS, clo, lk, undef, Nat.reduceSub, beq_self_eq_true, true_and, decide_eq_true_eq, decide_eq_false_iff_not, s36, r36, Fmod]
 refine ⟨fun h => res hK (by simp [leR, chz]; omega), fun h => ⟨by omega, by omega, fun h5 => by omega, fun h5 => ?_⟩⟩
 have m1 := Int.emod_nonneg n (show b - a + 1 ≠ 0 by omega)
 have m2 := Int.emod_lt_of_pos n (show 0 < b - a + 1 by omega)
 exact ⟨⟨by omega, by omega⟩, by omega, res hK (by simp [leR, chz]; omega)⟩
def pk (l : List Int) (n : Int) : Int := if l.length = 0 then 0 else l.getD (n % (l.length : Int)).toNat 0
def Fpk : FC := fun args => match args with
 | [.ints .i64 l, .int .i64 n] => some ((l.length : Int) ≤ 9223372036854775807, .int .i64 (pk l n))
 | _ => none
theorem p37 : PureOk Tryz.prog 37 (fcC Fpk) := by
 refine pure_of (T := [(39, .fc Fmod)]) ⟨⟨p39, q39⟩, trivial⟩ Tryz.func37 k37 ?_
 intro args K hC
 unfold fcC Fpk at hC
 split at hC <;> first | (exact hC.elim) | skip
 rename_i h
 split at h <;> first | (cases h; done) | skip
 cases h
 rename_i l n
 obtain ⟨h1, hK⟩ := hC
 simp only [e_skip, e_reg, e_seq, e_cond, e_ret, o_nil, o_cons, gd_none, putK_e, runK_e, vK_e, conK_e, callK_e, evh_v, evh_call, seqK_n, seqK_r, condK_b, ends_r, endK1_e, endK2_e, gam_e, gamK_f, pc_e, pcK_e, fcC_e, fcK_e, evp, bin, gt, gq, st, putf, X.get, gets, ap, mkfr, rep, rdR, tupled, clV, clL, clS, clo, ld, lda, lens, ixs, lk, undef, Nat.reduceSub, beq_self_eq_true, true_and, decide_eq_true_eq, decide_eq_false_iff_not, s37, r37, Fmod]
 refine ⟨fun h => res hK (by simp [leR, pk]; intro h2; simp [h2] at h), fun h => ?_⟩
 have m1 := Int.emod_nonneg n (show (l.length : Int) ≠ 0 by omega)
 have m2 := Int.emod_lt_of_pos n (show 0 < (l.length : Int) by omega)
 have h' : l.length ≠ 0 := by omega
 rw [pk, if_neg h'] at hK
 exact ⟨⟨by omega, by omega⟩, ⟨m1, m2⟩, res hK (by simp [leR])⟩
def C31 : PC := fun args K => ∃ c : Ck, args = [c.sv] ∧ K (.bool (decide c.ok))
theorem p31 : PureOk Tryz.prog 31 C31 := by
 refine pure_of (T := [(16, .pc C16), (38, .fc Fin)]) ⟨⟨p16, q16⟩, ⟨p38, q38⟩, trivial⟩ Tryz.func31 k31 ?_
 rintro args K ⟨c, rfl, hK⟩
 have hsv : c.sv = .agg [.ints .i64 c.T, .rd 2 c.R.length (rowsS c.R), .int .i64 c.a, .int .i64 c.b, .int .i64 c.e, .int .i64 c.g] := rfl
 rw [hsv]
 simp only [e_reg, e_seq, o_nil, o_cons, gd_none, putK_e, runK_e, vK_e, boxK_e, conK_e, callK_e, evh_v, evh_box, evh_call, seqK_n, gam_e, gamK_p, pc_e, pcK_e, evp, bin, gt, st, putf, X.get, gets, ap, mkfr, rep, clV, clL, clS, clo, ld, lda, tk, dr, cs1, gb, pb, ln, lk, undef, Nat.reduceSub, beq_self_eq_true, true_and, s31, r31]
 refine ⟨c, rfl, ?_⟩
 by_cases hok : c.ok
 ·have h1 : c.chk = 0 := by simp [Ck.chk, hok]
  have h2 : (2 ≤ (c.T.length : Int) ∧ (c.T.length : Int) ≤ 8) = True := eq_true hok.1.1
  have h3 : ((c.R.length : Int) = c.T.length) = True := eq_true hok.1.2.2.1
  simp only [gdK_btt, decide_true, e_ret, o_nil, o_cons, gd_none, gd_some, gdK_tt, putK_e, runK_e, vK_e, conK_e, callK_e, evh_v, evh_call, seqK_n, ends_r, endK1_e, endK2_e, gam_e, gamK_f, pc_e, pcK_e, fcC_e, fcK_e, evp, bin, gt, gq, st, putf, X.get, gets, ap, rdR, tupled, clV, clL, clS, clo, ld, lda, lens, gb, lk, Nat.reduceAdd, Nat.reduceBEq, beq_self_eq_true, true_and, h1, Fin, h2, h3]
  exact res hK (by simp [leR, hok])
 ·have h1 : c.chk = 70 := by simp [Ck.chk, hok]
  have h70 : ((70 : Int) = 0) = False := by simp
  simp only [gdK_btf, decide_false, e_ret, o_nil, o_cons, gd_none, gd_some, gdK_ft, putK_e, runK_e, skipK_e, vK_e, evh_v, seqK_n, ends_r, endK1_e, endK2_e, evp, gt, st, putf, X.get, rdR, tupled, clV, clS, clo, undef, true_and, h1, h70]
  exact res hK (by simp [leR, hok])
end Go.Proofs.YtlegfejimphfbaaGreat
end
section
namespace Go.Proofs.YtlegfejimphfbaaGreat
open Go Go.Vg
set_option linter.unusedVariables false
set_option maxRecDepth 10000
def F21 : FC := fun args => match args with
 | [] => some (True, .lit (.bool true))
 | _ => none
theorem mnF_le {h : Int → Int} {x : Int} : ∀ {n k : Nat}, k ≤ n → mnF h x n ≤ h (x + k) ∧ h (x + k) ≤ mxF h x n
 | 0, k, hk => by
  have : k = 0 := by omega
  subst this
  simp [mnF, mxF]
 | n + 1, k, hk => by
  simp only [mnF, mxF]
  by_cases hkn : k = n + 1
  ·subst hkn
   rw [show x + ((n + 1 : Nat) : Int) = x + 1 + n by omega]
   split <;> split <;> omega
  ·have := mnF_le (h := h) (x := x) (n := n) (k := k) (by omega)
   split <;> split <;> omega
theorem Ck.mid {c : Ck} {D : List (Int × Int)} {t : Tr} (hok : c.ok) (ht : truT c D t) {x d : Int} (hx : At c.T x) (hd : 0 ≤ d) :
  rte c.T c.R c.a c.b 101 x d ≤ itp c.T t.R x + t.a * d ∧ itp c.T t.R x + t.a * d ≤ rte c.T c.R c.a c.b 102 x d := by
 have hT := (c.eo hok (w := 101) (.inl rfl)).tb
 have hlen := hok.1.2.2.1
 obtain ⟨⟨t1, t2⟩, ⟨t3, t4⟩, _⟩ := ht
 have m1 := itp_mono (R := endsL 101 c.R) (R' := t.R) hT hx fun i hi' => by
  rw [ends_getD (by omega)]
  have := (t2 i (by omega)).1
  unfold lo at this
  simpa [sel] using this
 have m2 := itp_mono (R := t.R) (R' := endsL 102 c.R) hT hx fun i hi' => by
  rw [ends_getD (by omega)]
  have := (t2 i (by omega)).2
  unfold hi at this
  simpa [sel] using this
 have n1 := Int.mul_le_mul_of_nonneg_right t3 hd
 have n2 := Int.mul_le_mul_of_nonneg_right t4 hd
 unfold rte
 have s1 : sel 101 (c.a, c.b) = c.a := rfl
 have s2 : sel 102 (c.a, c.b) = c.b := rfl
 rw [s1, s2]
 omega
theorem gain_le {T : List Int} {R : List (Int × Int)} {a b d x y z : Int} (h1 : x ≤ z) (h2 : z ≤ y) : gain T R a b 101 d x y ≤ rte T R a b 101 z d ∧ rte T R a b 102 z d ≤ gain T R a b 102 d x y := by
 have hz : x + ((z - x).toNat : Int) = z := by omega
 have k1 := (mnF_le (h := fun z => itp T (endsL 101 R) z + sel 101 (a, b) * d) (x := x) (n := (y - x).toNat) (k := (z - x).toNat) (by omega)).1
 have k2 := (mnF_le (h := fun z => itp T (endsL 102 R) z + sel 102 (a, b) * d) (x := x) (n := (y - x).toNat) (k := (z - x).toNat) (by omega)).2
 rw [hz] at k1 k2
 exact ⟨k1, k2⟩
theorem Ck.in {c : Ck} {D : List (Int × Int)} {t : Tr} (hok : c.ok) (hv : voy c D) (ht : truT c D t) : ∀ k, k ≤ D.length → conS c.T c.R c.a c.b c.e c.g 101 D k ≤ errS c.T t k ∧ errS c.T t k ≤ conS c.T c.R c.a c.b c.e c.g 102 D k
 | 0, _ => by
  have := ht.2.2.1
  simp only [conS, errS, sel]
  simpa using this
 | k + 1, hk => by
  have ih := Ck.in hok hv ht k (by omega)
  have h1 := ht.2.2.2.2 k (by omega)
  obtain ⟨d1, d2, d3⟩ := c.dat hv k (by omega)
  have hx : At c.T (t.T.getD k 0) := ⟨by have := d2.1; omega, by have := d3.2; omega⟩
  have m := c.mid hok ht hx (show (0 : Int) ≤ k by omega)
  have g := gain_le (T := c.T) (R := c.R) (a := c.a) (b := c.b) (d := k) h1.1 h1.2
  simp only [conS, errS]
  omega
theorem cnP_get {c : Ck} {D : List (Int × Int)} {n i : Nat} (h : i < n) : lo (cnP c D n) i = conS c.T c.R c.a c.b c.e c.g 101 D (i + 1) ∧ hi (cnP c D n) i = conS c.T c.R c.a c.b c.e c.g 102 D (i + 1) := by
 unfold lo hi cnP; simp [List.getD, h]
end Go.Proofs.YtlegfejimphfbaaGreat
end
section
namespace Go.Vg
open Go Go.RowKit Go.ChangeShapes Go.WideShapes
theorem ints_len {P : Program} {w : World} {im : Nat → Prop} {t e : TypeId} {k : IntKind} {base : Nat} (ht : P.underlying t = some (.slice e)) {v : Value} {l : List Int}
  (hval : Value.okWide P w .any base t v) (hc : Cv w im (.ints k l) v) : (l.length : Int) ≤ 9223372036854775807 := by
 cases hc with
 | intsNil => simp
 | ints k xs b off cap hb hcell hcap =>
  simp only [Value.okWide, ht, Cell.okWide, Cell.ok] at hval
  obtain ⟨h1, h2, _⟩ := hval
  have : (IntKind.i64.max : Int) = 9223372036854775807 := rfl
  omega
end Go.Vg
end
end
section
namespace Go.Vg
open Go
theorem rvs_stx {E : Env} {x : SV} : ∀ {fr : List SV} {vs : List Value} (i : Nat), Rvs E fr vs → (∀ v, vs[i]? = some v → Rv E x v) → Rvs E (st fr i x) vs
  | [], [], i, .nil, _ => by cases i <;> exact .nil
  | y :: t, v :: vs, 0, .cons _ _ _ _ _ hs, h => .cons _ _ _ _ (h v rfl) hs
  | y :: t, v :: vs, i + 1, .cons _ _ _ _ hy hs, h => .cons _ _ _ _ hy (rvs_stx i hs h)
theorem Lw_cl {N : Nat} {fr : List SV} {hp hp' : List Blk} (n i : Nat) {x : SV} (e : clV n hp (gt fr i) = some (x, hp')) : Lw N ⟨fr, hp⟩ ⟨st fr i x, hp'⟩ := by
  intro E a hN hn h
  obtain ⟨E', hc, hr, hx⟩ := clV_ok n h.hp (h.fr.gt i) e
  refine ⟨E', hc.le.xt hn, hc.w, ⟨rvs_stx i (h.fr.mono hc.le) ?_, hr, h.df.trans hc.le.df.symm⟩⟩
  intro v hv
  rw [show a.tmps.toList.getD i undef = v by rw [List.getD, hv]; rfl] at hx
  exact hx.rv
theorem loop_cl {N : Nat} {body : (Exit → St → Prop) → St → Prop} {K : Exit → St → Prop} {fr : List SV} {hp hp' : List Blk} (n i : Nat) {x : SV} (e : clV n hp (gt fr i) = some (x, hp'))
    (h : LoopP N body K ⟨st fr i x, hp'⟩) : LoopP N body K ⟨fr, hp⟩ := by
  obtain ⟨I, ⟨m, s', h1, h2⟩, h3⟩ := h
  exact ⟨I, ⟨m, s', fun E a hN hn hr => by
    obtain ⟨E1, x1, w1, r1⟩ := Lw_cl (N := N) n i e E a hN hn hr
    obtain ⟨E2, x2, w2, r2⟩ := h1 E1 a (by have := x1.n0; omega) (by have := x1.n0; have := x1.n; omega) r1
    exact ⟨E2, x1.trans x2, w2.trans w1, r2⟩, h2⟩, h3⟩
end Go.Vg
namespace Go.Proofs.YtlegfejimphfbaaGreat
open Go Go.Vg
set_option linter.unusedVariables false
set_option maxRecDepth 10000
def s34 : SC :=
  (.seq (.reg [⟨(some 4), none, .new 25 [(.int .i64 (0)), (.int .i64 (0))]⟩])
  (.seq (.reg [⟨(some 5), none, .v (.mov (.t 0))⟩,
    ⟨(some 6), none, .v (.mov (.t 1))⟩,
    ⟨(some 7), none, .bld [(.int .i64 (0)), (.int .i64 (0))] [(0, 1, (.t 5)), (1, 1, (.t 6))]⟩,
    ⟨none, none, .store 2 (.t 4) (.t 7)⟩])
  .ret))
def r34 : List RV := [.c 4 (some 2)]
theorem k34 : (Tryz.f34.body.bind (cC Tryz.prog), cR Tryz.prog Tryz.f34.results.toList, Tryz.f34.ntmps) = (some s34, some r34, 8) := by kernel_rfl
theorem q34 : Known Tryz.prog 34 := ⟨_, Tryz.func34, by decide, by simp [Tryz.f34]⟩
def s35 : SC :=
  (.seq (.reg [⟨(some 3), none, .box 25 (.t 0)⟩,
    ⟨(some 5), none, .new 25 [(.int .i64 (0)), (.int .i64 (0))]⟩])
  (.seq (.drw [(0, ⟨(some 7), none, .v (.off (.t 3) 0)⟩, false),
    (1, ⟨(some 8), none, .v (.load (.t 7) none)⟩, false),
    (2, ⟨(some 9), none, .v (.off (.t 3) 1)⟩, false),
    (3, ⟨(some 10), none, .v (.load (.t 9) none)⟩, false),
    (4, ⟨(some 11), none, .v (.load (.t 2) none)⟩, false),
    (5, ⟨(some 12), none, .v (.mov (.t 1))⟩, false),
    (6, ⟨(some 13), none, .call (.c (.fn 37 [])) [(.t 11), (.t 12)]⟩, false)]
    none
    [⟨(some 14), none, .call (.c (.fn 36 [])) [(.t 8), (.t 10), (.t 13)]⟩,
    ⟨(some 6), none, .v (.mov (.t 14))⟩])
  (.seq (.drw [(0, ⟨(some 15), none, .v (.mov (.t 6))⟩, false),
    (1, ⟨(some 16), none, .v (.mov (.t 6))⟩, false),
    (2, ⟨(some 17), none, .v (.off (.t 3) 1)⟩, false),
    (3, ⟨(some 18), none, .v (.load (.t 17) none)⟩, false),
    (4, ⟨(some 19), none, .v (.load (.t 2) none)⟩, false),
    (5, ⟨(some 20), none, .v (.mov (.t 1))⟩, false),
    (6, ⟨(some 21), none, .v (.bin .add (.t 20) (.c (.int .i64 (1))))⟩, false),
    (7, ⟨(some 22), none, .call (.c (.fn 37 [])) [(.t 19), (.t 21)]⟩, false),
    (8, ⟨(some 23), none, .call (.c (.fn 36 [])) [(.t 16), (.t 18), (.t 22)]⟩, false)]
    none
    [⟨(some 24), none, .call (.c (.fn 34 [])) [(.t 15), (.t 23)]⟩,
    ⟨none, none, .store 2 (.t 5) (.t 24)⟩])
  .ret)))
def r35 : List RV := [.c 5 (some 2)]
theorem k35 : (Tryz.f35.body.bind (cC Tryz.prog), cR Tryz.prog Tryz.f35.results.toList, Tryz.f35.ntmps) = (some s35, some r35, 25) := by kernel_rfl
theorem q35 : Known Tryz.prog 35 := ⟨_, Tryz.func35, by decide, by simp [Tryz.f35]⟩
def o9_0 : Opr := ⟨(some 6), none, .v (.mov (.c (.lit (.bool false))))⟩
def o9_1 : Opr := ⟨(some 46), none, .v (.load (.t 45) none)⟩
def o9_2 : Opr := ⟨(some 50), none, .call (.t 47) [(.t 49), (.c (.int .i64 (0)))]⟩
def o9_3 : Opr := ⟨(some 53), none, .v (.load (.t 52) (some 2))⟩
def o9_4 : Opr := ⟨(some 54), none, .call (.t 51) [(.t 53), (.c (.int .i64 (2)))]⟩
def o9_5 : Opr := ⟨(some 55), none, .bld [(.lit (.slice none 0 0)), (.lit (.slice none 0 0)), (.int .i64 (0)), (.int .i64 (0)), (.int .i64 (0)), (.int .i64 (0))] [(0, 1, (.t 46)), (2, 2, (.t 50)), (4, 2, (.t 54))]⟩
def o9_6 : Opr := ⟨(some 10), none, .new 27 [(.lit (.slice none 0 0)), (.lit (.slice none 0 0)), (.int .i64 (0)), (.int .i64 (0)), (.int .i64 (0)), (.int .i64 (0))]⟩
def o9_7 : Opr := ⟨none, none, .store 6 (.t 10) (.t 55)⟩
def o9_8 : Opr := ⟨(some 64), none, .v (.load (.t 63) none)⟩
def o9_9 : Opr := ⟨(some 74), none, .bsl 25 1 [(.int .i64 (0)), (.int .i64 (0))] [(0, 2, (.t 73))]⟩
def o9_10 : Opr := ⟨(some 75), none, .app 25 2 16 (.t 64) (.t 74)⟩
def o9_11 : Opr := ⟨(some 76), none, .v (.off (.t 10) 1)⟩
def o9_12 : Opr := ⟨none, none, .store 1 (.t 76) (.t 75)⟩
def s9 : SC :=
  (.seq (.reg [⟨(some 3), none, .box 27 (.t 0)⟩,
    ⟨(some 5), none, .box 22 (.t 2)⟩,
    o9_0])
  (.seq (.reg [⟨(some 17), none, .v (.load (.t 3) (some 6))⟩,
    ⟨(some 18), none, .v (.mov (.t 1))⟩,
    ⟨(some 19), none, .call (.c (.fn 18 [])) [(.t 17), (.t 18)]⟩,
    ⟨(some 16), none, .v (.mov (.t 19))⟩,
    ⟨(some 20), none, .v (.ext (.t 16) 0)⟩,
    ⟨(some 21), none, .v (.ext (.t 16) 1)⟩,
    ⟨(some 7), none, .v (.mov (.t 20))⟩,
    ⟨(some 8), none, .v (.mov (.t 21))⟩])
  (.seq (.seq (.reg [⟨(some 22), none, .v (.mov (.t 8))⟩,
    ⟨(some 23), none, .v (.bin .neq (.t 22) (.c (.int .i64 (0))))⟩,
    ⟨(some 24), none, .v (.mov (.t 23))⟩,
    ⟨(some 25), (some (24, false)), .v (.load (.t 3) (some 6))⟩,
    ⟨(some 26), (some (24, false)), .call (.c (.fn 31 [])) [(.t 25)]⟩,
    ⟨(some 27), (some (24, false)), .v (.not (.t 26))⟩,
    ⟨(some 28), none, .v (.pick (.t 24) (.c (.lit (.bool true))) (.t 27))⟩,
    ⟨(some 29), none, .v (.mov (.t 28))⟩,
    ⟨(some 30), (some (29, false)), .v (.mov (.t 1))⟩,
    ⟨(some 31), (some (29, false)), .v (.len (.t 30))⟩,
    ⟨(some 32), (some (29, false)), .v (.bin .gtr (.t 31) (.c (.int .i64 (60))))⟩,
    ⟨(some 33), none, .v (.pick (.t 29) (.c (.lit (.bool true))) (.t 32))⟩])
  (.cond (.t 33)
    (.seq (.reg [⟨(some 34), none, .v (.mov (.t 8))⟩,
      ⟨(some 35), none, .v (.bin .neq (.t 34) (.c (.int .i64 (0))))⟩,
      ⟨(some 36), none, .v (.mov (.t 35))⟩,
      ⟨(some 37), (some (36, true)), .v (.mov (.t 7))⟩,
      ⟨(some 38), (some (36, true)), .v (.len (.t 37))⟩,
      ⟨(some 39), (some (36, true)), .v (.bin .eql (.t 38) (.c (.int .i64 (0))))⟩,
      ⟨(some 40), none, .v (.pick (.t 36) (.t 39) (.c (.lit (.bool false))))⟩,
      ⟨(some 41), none, .v (.mov (.t 40))⟩,
      ⟨(some 42), (some (41, true)), .call (.c (.fn 21 [])) []⟩,
      ⟨(some 43), none, .v (.pick (.t 41) (.t 42) (.c (.lit (.bool false))))⟩,
      ⟨(some 6), none, .v (.mov (.t 43))⟩])
    .ret)
    .skip))
  (.seq (.reg [⟨(some 44), none, .v (.mkfn 35 [(.t 5)])⟩,
    ⟨(some 9), none, .v (.mov (.t 44))⟩])
  (.seq (.tre (tn ⟨(some 45), none, .v (.off (.t 3) 0)⟩ (tn ⟨(some 47), none, .v (.mov (.t 9))⟩ (tn ⟨(some 48), none, .v (.off (.t 3) 2)⟩ (tn ⟨(some 49), none,
  .v (.load (.t 48) (some 2))⟩ (tn ⟨(some 51), none, .v (.mov (.t 9))⟩ (tn ⟨(some 52), none, .v (.off (.t 3) 4)⟩ (.op o9_1 (.op o9_2 (.op o9_3 (.op o9_4
  (tn o9_5 (tn o9_6 (tn o9_7 .leaf))) (tn o9_6 (tn o9_4 (tn o9_5 (tn o9_7 .leaf))))) (tn o9_6 (tn o9_3 (tn o9_4 (tn o9_5 (tn o9_7 .leaf)))))) (.op o9_3 (.op
  o9_2 (.op o9_4 (tn o9_5 (tn o9_6 (tn o9_7 .leaf))) (tn o9_6 (tn o9_4 (tn o9_5 (tn o9_7 .leaf))))) (tn o9_6 (tn o9_2 (tn o9_4 (tn o9_5 (tn o9_7 .leaf))))))
  (tn o9_6 (.op o9_2 (tn o9_3 (tn o9_4 (tn o9_5 (tn o9_7 .leaf)))) (tn o9_3 (tn o9_2 (tn o9_4 (tn o9_5 (tn o9_7 .leaf))))))))) (.op o9_2 (.op o9_1 (.op o9_3
  (.op o9_4 (tn o9_5 (tn o9_6 (tn o9_7 .leaf))) (tn o9_6 (tn o9_4 (tn o9_5 (tn o9_7 .leaf))))) (tn o9_6 (tn o9_3 (tn o9_4 (tn o9_5 (tn o9_7 .leaf)))))) (.op
  o9_3 (.op o9_1 (.op o9_4 (tn o9_5 (tn o9_6 (tn o9_7 .leaf))) (tn o9_6 (tn o9_4 (tn o9_5 (tn o9_7 .leaf))))) (.op o9_4 (.op o9_1 (tn o9_5 (tn o9_6 (tn o9_7
  .leaf))) (tn o9_6 (tn o9_1 (tn o9_5 (tn o9_7 .leaf))))) (tn o9_6 (.op o9_1 (tn o9_4 (tn o9_5 (tn o9_7 .leaf))) (tn o9_4 (tn o9_1 (tn o9_5 (tn o9_7 .leaf))))))))
  (tn o9_6 (.op o9_1 (tn o9_3 (tn o9_4 (tn o9_5 (tn o9_7 .leaf)))) (tn o9_3 (.op o9_1 (tn o9_4 (tn o9_5 (tn o9_7 .leaf))) (tn o9_4 (tn o9_1 (tn o9_5 (tn
  o9_7 .leaf)))))))))) (.op o9_3 (.op o9_1 (.op o9_2 (.op o9_4 (tn o9_5 (tn o9_6 (tn o9_7 .leaf))) (tn o9_6 (tn o9_4 (tn o9_5 (tn o9_7 .leaf))))) (tn o9_6
  (tn o9_2 (tn o9_4 (tn o9_5 (tn o9_7 .leaf)))))) (.op o9_2 (.op o9_1 (.op o9_4 (tn o9_5 (tn o9_6 (tn o9_7 .leaf))) (tn o9_6 (tn o9_4 (tn o9_5 (tn o9_7 .leaf)))))
  (.op o9_4 (.op o9_1 (tn o9_5 (tn o9_6 (tn o9_7 .leaf))) (tn o9_6 (tn o9_1 (tn o9_5 (tn o9_7 .leaf))))) (tn o9_6 (.op o9_1 (tn o9_4 (tn o9_5 (tn o9_7 .leaf)))
  (tn o9_4 (tn o9_1 (tn o9_5 (tn o9_7 .leaf)))))))) (tn o9_6 (.op o9_1 (tn o9_2 (tn o9_4 (tn o9_5 (tn o9_7 .leaf)))) (tn o9_2 (.op o9_1 (tn o9_4 (tn o9_5
  (tn o9_7 .leaf))) (tn o9_4 (tn o9_1 (tn o9_5 (tn o9_7 .leaf)))))))))) (tn o9_6 (.op o9_1 (.op o9_2 (tn o9_3 (tn o9_4 (tn o9_5 (tn o9_7 .leaf)))) (tn o9_3
  (tn o9_2 (tn o9_4 (tn o9_5 (tn o9_7 .leaf)))))) (.op o9_2 (.op o9_1 (tn o9_3 (tn o9_4 (tn o9_5 (tn o9_7 .leaf)))) (tn o9_3 (.op o9_1 (tn o9_4 (tn o9_5
  (tn o9_7 .leaf))) (tn o9_4 (tn o9_1 (tn o9_5 (tn o9_7 .leaf))))))) (tn o9_3 (.op o9_1 (tn o9_2 (tn o9_4 (tn o9_5 (tn o9_7 .leaf)))) (tn o9_2 (.op o9_1
  (tn o9_4 (tn o9_5 (tn o9_7 .leaf))) (tn o9_4 (tn o9_1 (tn o9_5 (tn o9_7 .leaf)))))))))))))))))))))
  (.seq (.seq (.reg [⟨(some 11), none, .v (.mov (.c (.int .i64 (0))))⟩])
  (.block 0 (.loop
    (.seq (.seq (.reg [⟨(some 56), none, .v (.mov (.t 11))⟩,
      ⟨(some 57), none, .v (.off (.t 3) 1)⟩,
      ⟨(some 58), none, .v (.load (.t 57) none)⟩,
      ⟨(some 59), none, .v (.len (.t 58))⟩,
      ⟨(some 60), none, .v (.bin .lss (.t 56) (.t 59))⟩])
    (.cond (.t 60)
      .skip
      (.exit 0)))
    (.seq (.block 1 (.tre (tn ⟨(some 63), none, .v (.off (.t 10) 1)⟩ (tn ⟨(some 65), none, .v (.mov (.t 9))⟩ (tn ⟨(some 66), none, .v (.off (.t 3) 1)⟩ (tn ⟨(some 67), none,
  .v (.load (.t 66) none)⟩ (tn ⟨(some 68), none, .v (.mov (.t 11))⟩ (tn ⟨(some 69), none, .v (.ixa (.t 67) (.t 68) 2)⟩ (tn ⟨(some 70), none, .v (.load (.t
  69) (some 2))⟩ (tn ⟨(some 71), none, .v (.mov (.t 11))⟩ (tn ⟨(some 72), none, .v (.bin .add (.t 71) (.c (.int .i64 (4))))⟩ (.op o9_8 (tn ⟨(some 73), none,
  .call (.t 65) [(.t 70), (.t 72)]⟩ (tn o9_9 (tn o9_10 (tn o9_11 (tn o9_12 .leaf))))) (tn ⟨(some 73), none, .call (.t 65) [(.t 70), (.t 72)]⟩ (.op o9_8 (tn
  o9_9 (tn o9_10 (tn o9_11 (tn o9_12 .leaf)))) (tn o9_9 (tn o9_8 (tn o9_10 (tn o9_11 (tn o9_12 .leaf)))))))))))))))))))
    (.reg [⟨(some 61), none, .v (.mov (.t 11))⟩,
      ⟨(some 62), none, .v (.bin .add (.t 61) (.c (.int .i64 (1))))⟩,
      ⟨(some 11), none, .v (.mov (.t 62))⟩]))))))
  (.seq (.reg [⟨(some 12), none, .v (.mov (.c (.lit (.slice none 0 0))))⟩])
  (.seq (.seq (.reg [⟨(some 13), none, .v (.mov (.c (.int .i64 (0))))⟩])
  (.block 2 (.loop
    (.seq (.seq (.reg [⟨(some 77), none, .v (.mov (.t 13))⟩,
      ⟨(some 78), none, .v (.mov (.t 1))⟩,
      ⟨(some 79), none, .v (.len (.t 78))⟩,
      ⟨(some 80), none, .v (.bin .lss (.t 77) (.t 79))⟩])
    (.cond (.t 80)
      .skip
      (.exit 2)))
    (.seq (.block 3 (.reg [⟨(some 83), none, .v (.mov (.t 12))⟩,
      ⟨(some 84), none, .v (.mov (.t 9))⟩,
      ⟨(some 85), none, .v (.mov (.t 1))⟩,
      ⟨(some 86), none, .v (.mov (.t 13))⟩,
      ⟨(some 87), none, .v (.ixa (.t 85) (.t 86) 2)⟩,
      ⟨(some 88), none, .v (.load (.t 87) (some 2))⟩,
      ⟨(some 89), none, .v (.mov (.t 13))⟩,
      ⟨(some 90), none, .v (.bin .mul (.c (.int .i64 (2))) (.t 89))⟩,
      ⟨(some 91), none, .call (.t 84) [(.t 88), (.t 90)]⟩,
      ⟨(some 92), none, .bsl 25 1 [(.int .i64 (0)), (.int .i64 (0))] [(0, 2, (.t 91))]⟩,
      ⟨(some 93), none, .app 25 2 16 (.t 83) (.t 92)⟩,
      ⟨(some 12), none, .v (.mov (.t 93))⟩]))
    (.reg [⟨(some 81), none, .v (.mov (.t 13))⟩,
      ⟨(some 82), none, .v (.bin .add (.t 81) (.c (.int .i64 (1))))⟩,
      ⟨(some 13), none, .v (.mov (.t 82))⟩]))))))
  (.seq (.reg [⟨(some 95), none, .v (.load (.t 10) (some 6))⟩,
    ⟨(some 96), none, .v (.mov (.t 12))⟩,
    ⟨(some 97), none, .call (.c (.fn 18 [])) [(.t 95), (.t 96)]⟩,
    ⟨(some 94), none, .v (.mov (.t 97))⟩,
    ⟨(some 98), none, .v (.ext (.t 94) 0)⟩,
    ⟨(some 99), none, .v (.ext (.t 94) 1)⟩,
    ⟨(some 14), none, .v (.mov (.t 98))⟩,
    ⟨(some 8), none, .v (.mov (.t 99))⟩])
  (.seq (.seq (.reg [⟨(some 100), none, .v (.mov (.t 8))⟩,
    ⟨(some 101), none, .v (.bin .neq (.t 100) (.c (.int .i64 (0))))⟩,
    ⟨(some 102), none, .v (.mov (.t 101))⟩,
    ⟨(some 103), (some (102, false)), .v (.mov (.t 14))⟩,
    ⟨(some 104), (some (102, false)), .v (.len (.t 103))⟩,
    ⟨(some 105), (some (102, false)), .v (.mov (.t 7))⟩,
    ⟨(some 106), (some (102, false)), .v (.len (.t 105))⟩,
    ⟨(some 107), (some (102, false)), .v (.bin .neq (.t 104) (.t 106))⟩,
    ⟨(some 108), none, .v (.pick (.t 102) (.c (.lit (.bool true))) (.t 107))⟩])
  (.cond (.t 108)
    (.seq (.reg [o9_0])
    .ret)
    .skip))
  (.seq (.seq (.reg [⟨(some 15), none, .v (.mov (.c (.int .i64 (0))))⟩])
  (.block 4 (.loop
    (.seq (.seq (.reg [⟨(some 109), none, .v (.mov (.t 15))⟩,
      ⟨(some 110), none, .v (.mov (.t 7))⟩,
      ⟨(some 111), none, .v (.len (.t 110))⟩,
      ⟨(some 112), none, .v (.bin .lss (.t 109) (.t 111))⟩])
    (.cond (.t 112)
      .skip
      (.exit 4)))
    (.seq (.block 5 (.seq (.drw [(0, ⟨(some 115), none, .v (.mov (.t 14))⟩, false),
      (1, ⟨(some 116), none, .v (.mov (.t 15))⟩, false),
      (2, ⟨(some 117), none, .v (.ixa (.t 115) (.t 116) 2)⟩, false),
      (3, ⟨(some 118), none, .v (.off (.t 117) 0)⟩, false),
      (4, ⟨(some 119), none, .v (.load (.t 118) none)⟩, false),
      (5, ⟨(some 120), none, .v (.mov (.t 7))⟩, false),
      (6, ⟨(some 121), none, .v (.mov (.t 15))⟩, false),
      (7, ⟨(some 122), none, .v (.ixa (.t 120) (.t 121) 2)⟩, false),
      (8, ⟨(some 123), none, .v (.off (.t 122) 0)⟩, false),
      (9, ⟨(some 124), none, .v (.load (.t 123) none)⟩, false),
      (10, ⟨(some 125), none, .v (.bin .lss (.t 119) (.t 124))⟩, false),
      (11, ⟨(some 126), none, .v (.mov (.t 125))⟩, true),
      (12, ⟨(some 127), (some (126, false)), .v (.mov (.t 14))⟩, false),
      (13, ⟨(some 128), (some (126, false)), .v (.mov (.t 15))⟩, false),
      (14, ⟨(some 129), (some (126, false)), .v (.ixa (.t 127) (.t 128) 2)⟩, false),
      (15, ⟨(some 130), (some (126, false)), .v (.off (.t 129) 1)⟩, false),
      (16, ⟨(some 131), (some (126, false)), .v (.load (.t 130) none)⟩, false),
      (17, ⟨(some 132), (some (126, false)), .v (.mov (.t 7))⟩, false),
      (18, ⟨(some 133), (some (126, false)), .v (.mov (.t 15))⟩, false),
      (19, ⟨(some 134), (some (126, false)), .v (.ixa (.t 132) (.t 133) 2)⟩, false),
      (20, ⟨(some 135), (some (126, false)), .v (.off (.t 134) 1)⟩, false),
      (21, ⟨(some 136), (some (126, false)), .v (.load (.t 135) none)⟩, false)]
      none
      [⟨(some 137), (some (126, false)), .v (.bin .gtr (.t 131) (.t 136))⟩,
      ⟨(some 138), none, .v (.pick (.t 126) (.c (.lit (.bool true))) (.t 137))⟩])
    (.cond (.t 138)
      (.seq (.reg [o9_0])
      .ret)
      .skip)))
    (.reg [⟨(some 113), none, .v (.mov (.t 15))⟩,
      ⟨(some 114), none, .v (.bin .add (.t 113) (.c (.int .i64 (1))))⟩,
      ⟨(some 15), none, .v (.mov (.t 114))⟩]))))))
  (.seq (.reg [⟨(some 139), none, .call (.c (.fn 21 [])) []⟩,
    ⟨(some 6), none, .v (.mov (.t 139))⟩])
  .ret))))))))))))
def r9 : List RV := [.t 6]
theorem k9 : (Tryz.f9.body.bind (cC Tryz.prog), cR Tryz.prog Tryz.f9.results.toList, Tryz.f9.ntmps) = (some s9, some r9, 140) := by kernel_rfl
def prt (a b : Int) (bits : List Int) (n : Int) : Int × Int := (chz a b (pk bits n), chz (chz a b (pk bits n)) b (pk bits (n + 1)))
theorem prt_in {a b n : Int} {bits : List Int} (h : a ≤ b) : (a ≤ (prt a b bits n).1 ∧ (prt a b bits n).1 ≤ (prt a b bits n).2) ∧ (prt a b bits n).2 ≤ b := by
  have h1 := chz_bnd (n := pk bits n) h
  have h2 := chz_bnd (a := chz a b (pk bits n)) (b := b) (n := pk bits (n + 1)) h1.2
  unfold prt
  exact ⟨⟨h1.1, h2.1⟩, h2.2⟩
def nrw (L : List (Int × Int)) (bits : List Int) (m o : Int) (n : Nat) : List (Int × Int) := (List.range n).map fun i => prt (lo L i) (hi L i) bits (m * i + o)
theorem nrw_len {L : List (Int × Int)} {bits : List Int} {m o : Int} {n : Nat} : (nrw L bits m o n).length = n := by simp [nrw]
theorem nrw_snoc {L : List (Int × Int)} {bits : List Int} {m o : Int} {n : Nat} : nrw L bits m o (n + 1) = nrw L bits m o n ++ [prt (lo L n) (hi L n) bits (m * n + o)] := by simp [nrw, List.range_succ]
theorem nrw_get {L : List (Int × Int)} {bits : List Int} {m o : Int} {n i : Nat} (h : i < n) : (lo (nrw L bits m o n) i, hi (nrw L bits m o n) i) = prt (lo L i) (hi L i) bits (m * i + o) := by
  have e : (nrw L bits m o n).getD i (0, 0) = prt (lo L i) (hi L i) bits (m * i + o) := by simp [nrw, List.getD, h]
  unfold lo hi at *; rw [e]
def Sub (L' L : List (Int × Int)) : Prop := L'.length = L.length ∧ ∀ i, i < L.length → (lo L i ≤ lo L' i ∧ lo L' i ≤ hi L' i) ∧ hi L' i ≤ hi L i
theorem nrw_sub {L : List (Int × Int)} {bits : List Int} {m o : Int} (h : ∀ i, i < L.length → lo L i ≤ hi L i) : Sub (nrw L bits m o L.length) L := by
  refine ⟨nrw_len, fun i hi' => ?_⟩
  have e := nrw_get (L := L) (bits := bits) (m := m) (o := o) hi'
  have := prt_in (n := m * i + o) (bits := bits) (h i hi')
  rw [← e] at this
  exact this
theorem Sub.all {L' L : List (Int × Int)} {l h : Int} (hs : Sub L' L) (ha : L.all (spE l h) = true) : L'.all (spE l h) = true := by
  simp only [List.all_eq_true]
  intro p hp
  obtain ⟨i, hi', rfl⟩ := List.getElem_of_mem hp
  have h1 := hs.2 i (by have := hs.1; omega)
  have h2 := all_get ha (i := i) (by have := hs.1; omega)
  have e1 : lo L' i = L'[i].1 := by simp [lo, List.getD, hi']
  have e2 : hi L' i = L'[i].2 := by simp [hi, List.getD, hi']
  rw [e1, e2] at h1
  simp only [spE, decide_eq_true_eq]
  omega
theorem mnF_at {h : Int → Int} : ∀ (n : Nat) (x : Int), (∃ k : Nat, k ≤ n ∧ mnF h x n = h (x + k)) ∧ ∃ k : Nat, k ≤ n ∧ mxF h x n = h (x + k)
  | 0, x => ⟨⟨0, Nat.le_refl _, by simp [mnF]⟩, 0, Nat.le_refl _, by simp [mxF]⟩
  | n + 1, x => by
    obtain ⟨⟨k, hk, e⟩, j, hj, g⟩ := mnF_at n x
    simp only [mnF, mxF]
    refine ⟨?_, ?_⟩
    · split
      · exact ⟨n + 1, Nat.le_refl _, by congr 1; omega⟩
      · exact ⟨k, by omega, e⟩
    · split
      · exact ⟨n + 1, Nat.le_refl _, by congr 1; omega⟩
      · exact ⟨j, by omega, g⟩
theorem gain_sub {T : List Int} {R R' : List (Int × Int)} {a b a' b' d x y x' y' : Int} (hT : Tb T) (hx : At T x) (hy : At T y) (hl : T.length = R.length) (hs : Sub R' R) (h1 : (x ≤ x' ∧ x' ≤ y') ∧ y' ≤ y) (ha : (a ≤ a' ∧ a' ≤ b') ∧ b' ≤ b) (hd : 0 ≤ d) :
    gain T R a b 101 d x y ≤ gain T R' a' b' 101 d x' y' ∧ gain T R' a' b' 102 d x' y' ≤ gain T R a b 102 d x y := by
  obtain ⟨⟨k, hk, e⟩, -⟩ := mnF_at (h := fun z => itp T (endsL 101 R') z + sel 101 (a', b') * d) (y' - x').toNat x'
  obtain ⟨-, j, hj, g⟩ := mnF_at (h := fun z => itp T (endsL 102 R') z + sel 102 (a', b') * d) (y' - x').toNat x'
  have g1 := (gain_le (T := T) (R := R) (a := a) (b := b) (d := d) (x := x) (y := y) (z := x' + k) (by omega) (by omega)).1
  have g2 := (gain_le (T := T) (R := R) (a := a) (b := b) (d := d) (x := x) (y := y) (z := x' + j) (by omega) (by omega)).2
  have e1 : gain T R' a' b' 101 d x' y' = rte T R' a' b' 101 (x' + k) d := e
  have e2 : gain T R' a' b' 102 d x' y' = rte T R' a' b' 102 (x' + j) d := g
  have a1 : At T (x' + k) := ⟨by have := hx.1; omega, by have := hy.2; omega⟩
  have a2 : At T (x' + j) := ⟨by have := hx.1; omega, by have := hy.2; omega⟩
  have m1 := itp_mono (R := endsL 101 R) (R' := endsL 101 R') hT a1 fun i hi' => by
    rw [ends_getD (by omega), ends_getD (by have := hs.1; omega)]
    have := (hs.2 i (by omega)).1.1
    unfold lo at this
    simpa [sel] using this
  have m2 := itp_mono (R := endsL 102 R') (R' := endsL 102 R) hT a2 fun i hi' => by
    rw [ends_getD (by have := hs.1; omega), ends_getD (by omega)]
    have := (hs.2 i (by omega)).2
    unfold hi at this
    simpa [sel] using this
  have n1 := Int.mul_le_mul_of_nonneg_right ha.1.1 hd
  have n2 := Int.mul_le_mul_of_nonneg_right ha.2 hd
  rw [e1, e2]
  unfold rte at *
  have s1 : ∀ p : Int × Int, sel 101 p = p.1 := fun _ => rfl
  have s2 : ∀ p : Int × Int, sel 102 p = p.2 := fun _ => rfl
  simp only [s1, s2] at *
  omega
structure Ck.Sub (c' c : Ck) : Prop where
  t : c'.T = c.T
  r : Go.Proofs.YtlegfejimphfbaaGreat.Sub c'.R c.R
  a : (c.a ≤ c'.a ∧ c'.a ≤ c'.b) ∧ c'.b ≤ c.b
  e : (c.e ≤ c'.e ∧ c'.e ≤ c'.g) ∧ c'.g ≤ c.g
theorem Ck.Sub.ok {c' c : Ck} (h : c'.Sub c) (hok : c.ok) : c'.ok := by
  obtain ⟨⟨h1, h2, h3, h4⟩, h5, h6⟩ := hok
  have ha := h.a
  have he := h.e
  have hr := h.r.1
  refine ⟨⟨?_, ?_, ?_, h.r.all h4⟩, by omega, by omega⟩
  · rw [h.t]; exact h1
  · rw [h.t]; exact h2
  · rw [h.t]; omega
theorem Ck.Sub.voy {c' c : Ck} (h : c'.Sub c) {D' D : List (Int × Int)} (hv : voy c D) (hs : Go.Proofs.YtlegfejimphfbaaGreat.Sub D' D) : voy c' D' := by
  have := hs.1
  have hv1 := hv.1
  refine ⟨by omega, ?_⟩
  rw [h.t]; exact hs.all hv.2
theorem Ck.Sub.con {c' c : Ck} (h : c'.Sub c) {D' D : List (Int × Int)} (hok : c.ok) (hv : Go.Proofs.YtlegfejimphfbaaGreat.voy c D) (hs : Go.Proofs.YtlegfejimphfbaaGreat.Sub D' D) : ∀ k, k ≤ D.length → conS c.T c.R c.a c.b c.e c.g 101 D k ≤ conS c'.T c'.R c'.a c'.b c'.e c'.g 101 D' k ∧ conS c'.T c'.R c'.a c'.b c'.e c'.g 102 D' k ≤ conS c.T c.R c.a c.b c.e c.g 102 D k
  | 0, _ => by
    have he := h.e
    have s1 : ∀ p : Int × Int, sel 101 p = p.1 := fun _ => rfl
    have s2 : ∀ p : Int × Int, sel 102 p = p.2 := fun _ => rfl
    simp only [conS, s1, s2]
    omega
  | k + 1, hk => by
    have ih := Ck.Sub.con h hok hv hs k (by omega)
    obtain ⟨d1, d2, d3⟩ := c.dat hv k (by omega)
    have g := gain_sub (d := k) (c.eo hok (w := 101) (.inl rfl)).tb d2 d3 (by have := hok.1.2.2.1; omega) h.r (hs.2 k (by omega)) h.a (by omega)
    rw [h.t] at ih ⊢
    simp only [conS]
    omega
def nrC (c : Ck) (bits : List Int) : Ck := ⟨c.T, nrw c.R bits 1 4 c.R.length, (prt c.a c.b bits 0).1, (prt c.a c.b bits 0).2, (prt c.e c.g bits 2).1, (prt c.e c.g bits 2).2⟩
theorem nrC_sub {c : Ck} {bits : List Int} (hok : c.ok) : (nrC c bits).Sub c :=
  ⟨rfl, nrw_sub fun i hi' => (all_get hok.1.2.2.2 hi').1.2, prt_in hok.2.1.1.2, prt_in hok.2.2.1.2⟩
def Fto : FC := fun args => match args with
  | [.int .i64 a, .int .i64 b] => some (True, .agg [.int .i64 a, .int .i64 b])
  | _ => none
theorem p34 : PureOk Tryz.prog 34 (fcC Fto) := by
  refine pure_of (T := []) trivial Tryz.func34 k34 ?_
  intro args K hC
  unfold fcC Fto at hC
  split at hC <;> first | (exact hC.elim) | skip
  rename_i h
  split at h <;> first | (cases h; done) | skip
  cases h
  simp only [↓reduceIte, e_reg, and_self, e_seq, e_ret, o_nil, o_cons, gd_none, putK_e, runK_e, vK_e, bldK_e, storeK3_e, storeK2_e, storeK_e, evh_v, evh_new, evh_bld, evh_store, seqK_n, ends_r, endK1_e, endK2_e, evp, gt, st, putf, X.get, getp, mkfr, rep, rdR, tupled, clV, clL, clS, clo, ld, tk, dr, sp, sp.spl, lay, ll, cs1, one, allOne, gb, sb, pb, ln, undef, Bool.and_true, Nat.reduceSub, Nat.reduceAdd, beq_self_eq_true, true_and, s34, r34]
  exact res hC.2 (by simp [leR, leR.leRs])
def F35 : FC := fun args => match args with
  | [.agg [.int .i64 a, .int .i64 b], .int .i64 n, .rp [.ints .i64 l] 0] => some ((l.length : Int) ≤ 9223372036854775807 ∧ (-1000000000 ≤ a ∧ a ≤ b ∧ b ≤ 1000000000) ∧ 0 ≤ n ∧ n ≤ 1000, .agg [.int .i64 (prt a b l n).1, .int .i64 (prt a b l n).2])
  | _ => none
theorem p35 : PureOk Tryz.prog 35 (fcC F35) := by
  refine pure_of (T := [(37, .fc Fpk), (36, .fc Fch), (34, .fc Fto)]) ⟨⟨p37, q37⟩, ⟨p36, q36⟩, ⟨p34, q34⟩, trivial⟩ Tryz.func35 k35 ?_
  intro args K hC
  unfold fcC F35 at hC
  split at hC <;> first | (exact hC.elim) | skip
  rename_i h
  split at h <;> first | (cases h; done) | skip
  cases h
  rename_i a b n l
  obtain ⟨⟨hl, ⟨h1, h2, h3⟩, h4, h5⟩, hK⟩ := hC
  have hb := chz_bnd (n := pk l n) h2
  simp only [inr64, e_reg, and_self, e_drw, e_seq, e_ret, o_nil, o_cons, gd_none, putK_e, runK_e, vK_e, boxK_e, storeK3_e, storeK2_e, storeK_e, conK_e, callK_e, evh_v, evh_new, evh_box, evh_store, evh_call, dX_e, dG_t, d_nil, d_cons, tlK_n, seqK_n, ends_r, endK1_e, endK2_e, gam_e, gamK_f, gamq_e, gamqK_f, pc_e, pcK_e, fcC_e, fcK_e, evp, bin, gt, gq, st, putf, X.get, gets, ap, mkfr, rep, rdR, tupled, clV, clL, clS, clo, clo.clos, ld, lda, tk, dr, sp, sp.spl, ll, cs1, one, allOne, gb, sb, pb, ln, lk, evq, gdl, Value.oneCell', undef, Bool.and_true, Nat.reduceSub, Nat.reduceAdd, Nat.reduceBEq, beq_self_eq_true, true_and, s35, r35, Fpk, Fch, Fto]
  exact ⟨hl, ⟨⟨by omega, by omega⟩, by omega, by omega⟩, ⟨by omega, by omega⟩, hl, ⟨⟨by omega, by omega⟩, by omega, by omega⟩, res hK (by simp [leR, leR.leRs, prt])⟩
def C9 : PC := fun args K => ∃ (c : Ck) (D : List (Int × Int)) (bits : List Int), args = [c.sv, .rd 2 D.length (rowsS D), .ints .i64 bits] ∧ (bits.length : Int) ≤ 9223372036854775807 ∧ K (.lit (.bool true))
theorem p9 (p21 : PureOk Tryz.prog 21 (fcC F21)) (q21 : Known Tryz.prog 21) : PureOk Tryz.prog 9 C9 := by
  refine pure_of (T := [(18, .pc C18), (31, .pc C31), (35, .fc F35), (21, .fc F21)]) ⟨⟨p18, q18⟩, ⟨p31, q31⟩, ⟨p35, q35⟩, ⟨p21, q21⟩, trivial⟩ Tryz.func9 k9 ?_
  rintro args K ⟨c, D, bits, rfl, hbl, hK⟩
  have hsv : c.sv = .agg [.ints .i64 c.T, .rd 2 c.R.length (rowsS c.R), .int .i64 c.a, .int .i64 c.b, .int .i64 c.e, .int .i64 c.g] := rfl
  have h70 : ((70 : Int) = 0) = False := by simp
  have h71 : ((71 : Int) = 0) = False := by simp
  rw [hsv]
  simp only [↓reduceIte, e_reg, e_seq, o_nil, o_cons, gd_none, putK_e, runK_e, vK_e, boxK_e, conK_e, callK_e, evh_v, evh_box, evh_call, seqK_n, gam_e, gamK_p, pc_e, pcK_e, evp, gt, st, putf, X.get, gets, ap, mkfr, rep, clV, clL, clS, clo, ld, lda, tk, dr, cs1, one, gb, pb, ln, lk, undef, Nat.reduceSub, Nat.reduceAdd, beq_self_eq_true, true_and, s9, r9, tn, o9_0, o9_1, o9_2, o9_3, o9_4, o9_5, o9_6, o9_7, o9_8, o9_9, o9_10, o9_11, o9_12]
  refine ⟨c, D, rfl, ?_⟩
  by_cases hcv : c.ok ∧ voy c D
  · obtain ⟨hok, hv⟩ := hcv
    have h1 : askE c D = 0 := by simp [askE, hok, hv]
    have h2 : cnR c D = cnP c D D.length := if_pos ⟨hok, hv⟩
    have hvl := hv.1
    simp only [gdK_bff, decide_true, e_reg, e_seq, o_nil, o_cons, gd_none, gd_some, gdK_ff, putK_e, runK_e, vK_e, conK_e, callK_e, evh_v, evh_call, seqK_n, gam_e, gamK_p, pc_e, pcK_e, evp, bin, gt, gq, st, putf, X.get, gets, ap, clV, clL, clS, clo, ld, lda, tk, dr, gb, lk, Bool.not_true, Nat.reduceBEq, beq_self_eq_true, true_and, h1, h2]
    refine ⟨c, rfl, ?_⟩
    have h3 : decide c.ok = true := decide_eq_true hok
    have h4 : (60 < (D.length : Int)) = False := by simp; omega
    have h5 := hok.2.1
    have h6 := hok.2.2
    have hRl := hok.1.2.2.1
    have hR := hok.1.1
    have hsub := nrC_sub (bits := bits) hok
    have hDs : ∀ i, i < D.length → lo D i ≤ hi D i := fun i hi' => (all_get hv.2 hi').1.2
    have hds := nrw_sub (L := D) (bits := bits) (m := 2) (o := 0) hDs
    have hdat := c.dat hv
    have hT0 := (c.eo hok (w := 101) (.inl rfl)).tb.b 0
    have hT1 := (c.eo hok (w := 101) (.inl rfl)).tb.b (c.T.length - 1)
    have hsv' : (nrC c bits).sv = .agg [.ints .i64 c.T, .rd 2 c.R.length (rowsS (nrw c.R bits 1 4 c.R.length)), .int .i64 (prt c.a c.b bits 0).1, .int .i64 (prt c.a c.b bits 0).2, .int .i64 (prt c.e c.g bits 2).1, .int .i64 (prt c.e c.g bits 2).2] := by simp [Ck.sv, nrC, nrw_len]
    simp only [gdK_bff, condK_bf, decide_false, ↓reduceIte, e_skip, e_reg, e_tre, t_leaf, t_stop, t_op, and_self, e_seq, e_cond, e_block, e_loop, o_nil, o_cons, gd_none, gd_some, gdK_ff, putK_e, runK_e, vK_e, bldK_e, storeK3_e, storeK2_e, storeK_e, conK_e, callK_e, evh_v, evh_new, evh_bld, evh_store, evh_call, seqK_n, gam_e, gamK_f, pc_e, pcK_e, fcC_e, fcK_e, evp, bin, gt, gq, st, putf, X.get, gets, getp, ap, clV, clL, clS, clo, clo.clos, ld, lda, lens, tk, dr, sp, sp.spl, lay, ll, cs1, one, allOne, gb, sb, pb, ln, lk, Value.oneCell', Bool.and_true, Bool.not_true, Nat.reduceAdd, Nat.reduceBEq, beq_self_eq_true, true_and, and_true, h3, h4, F35]
    refine ⟨⟨hbl, ⟨by omega, by omega, by omega⟩, by omega, by omega⟩, ⟨hbl, ⟨by omega, by omega, by omega⟩, by omega, by omega⟩, ?_⟩
    refine loop_cl 8 9 (x := .fn 35 [.rp [.ints .i64 bits] 0]) (by rfl) ?_
    simp only [st]
    refine loop_at2 (G := Nat) (fun i => [(11, .int .i64 i)]) (fun i => [.box 27 [.ints .i64 c.T, .rd 2 c.R.length (rowsS c.R), .int .i64 c.a, .int .i64 c.b, .int .i64 c.e, .int .i64 c.g], .fbox 22 [.ints .i64 bits], .box 27 [.ints .i64 c.T, .own 3, .int .i64 (prt c.a c.b bits 0).1, .int .i64 (prt c.a c.b bits 0).2, .int .i64 (prt c.e c.g bits 2).1, .int .i64 (prt c.e c.g bits 2).2], .orw 25 2 i (rowsS (nrw c.R bits 1 4 i))]) (fun i => i ≤ c.R.length) (fun i => c.R.length - i) 0 (Nat.zero_le _) ?_
    (intro fr1 hf1; simp only [forget, dstC, dstT, dstO, dst1, st] at hf1; subst hf1)
    refine ⟨?_, ?_⟩
    · refine Lw_re 3 [none] (Nat.zero_le _) (by simp [ln]) (by simp [ln]) rfl ?_ ?_
      · simp only [reL, reX, inb, inb.inbs, ln, sts, st, Bool.and_self, Nat.reduceLT, Nat.reduceAdd, decide_true, and_self, Int.natCast_zero, implies_true]
      · simp only [reL, reX, reH, reB, reN, newB, rn, List.getElem?_cons_zero, Nat.reduceSub, Nat.lt_irrefl, Nat.le_refl, reduceCtorEq, or_true, inb, ln, Nat.reduceLT, Nat.reduceAdd, and_self, implies_true]
    · intro i hii
      by_cases hlt : i < c.R.length
      · have n0 : ((i : Int) < (c.R.length : Int)) = True := by simp; omega
        have hb := all_get hok.1.2.2.2 hlt
        have hs := nrw_snoc (L := c.R) (bits := bits) (m := 1) (o := 4) (n := i)
        have hl := nrw_len (L := c.R) (bits := bits) (m := 1) (o := 4) (n := i)
        rw [Int.one_mul] at hs
        simp only [condK_bt, decide_true, inr64, ↓reduceIte, e_skip, e_reg, e_tre, t_leaf, t_stop, t_op, and_self, e_seq, e_cond, e_block, o_nil, o_cons, gd_none, putK_e, runK_e, vK_e, bslK_e, storeK3_e, storeK2_e, storeK_e, appK2_or, appK_e, conK_e, callK_e, evh_v, evh_bsl, evh_store, evh_app, evh_call, loopK_n, seqK_n, blockK_n, gam_e, gamK_f, pc_e, pcK_e, fcC_e, fcK_e, evp, bin, gt, gq, st, putf, X.get, gets, getp, ap, clV, clL, clS, clo, clo.clos, ld, lda, lens, ixs, tk, dr, sp, sp.spl, lay, ll, cs1, one, allOne, gb, sb, pb, ln, lk, Value.oneCell', Bool.and_true, Nat.reduceAdd, Nat.reduceBEq, beq_self_eq_true, true_and, and_true, sts, n0, Int.toNat_natCast, rowsS, F35]
        repeat' (first | exact hbl | omega | decide | refine And.intro ?_ ?_)
        refine Nx.mk (i + 1) (by omega) (by omega) (Lw_re 3 [some 5] (Nat.zero_le _) (by simp [ln]) (by simp [ln]) rfl ?_ ?_)
        · simp only [reL, reX, inb, inb.inbs, Bool.and_self, Nat.reduceLT, decide_true, and_self, Int.natCast_add, Int.natCast_one, implies_true]
        · simp only [reL, reX, reH, reB, reM, reN, rn, gb, List.getElem?_cons_zero, Nat.reduceSub, Nat.reduceLeDiff, Nat.lt_irrefl, Nat.le_refl, and_false, or_true, inb, ln, Nat.reduceLT, Nat.reduceAdd, true_and, and_true, and_self, implies_true, hs]
          intro j hj
          have := rowsS_snoc (nrw c.R bits 1 4 i) (prt (lo c.R i) (hi c.R i) bits (i + 4)) j (by rw [hl]; exact hj)
          rw [hl] at this
          exact this
      · have n0 : ((i : Int) < (c.R.length : Int)) = False := by simp; omega
        have ei : i = c.R.length := by omega
        subst ei
        simp only [condK_bf, decide_false, e_reg, e_seq, e_cond, e_block, e_loop, e_exit, o_nil, o_cons, gd_none, putK_e, runK_e, vK_e, evh_v, loopK_x, seqK_n, seqK_x, exitK_t, blockK_x, evp, bin, gt, gq, st, putf, X.get, ld, lda, lens, gb, Nat.reduceAdd, beq_self_eq_true, true_and, sts, n0]
        refine loop_at2 (G := Nat) (fun i => [(12, .own 4), (13, .int .i64 i)]) (fun i => [.box 27 [.ints .i64 c.T, .rd 2 c.R.length (rowsS c.R), .int .i64 c.a, .int .i64 c.b, .int .i64 c.e, .int .i64 c.g], .fbox 22 [.ints .i64 bits], .box 27 [.ints .i64 c.T, .own 3, .int .i64 (prt c.a c.b bits 0).1, .int .i64 (prt c.a c.b bits 0).2, .int .i64 (prt c.e c.g bits 2).1, .int .i64 (prt c.e c.g bits 2).2], .orw 25 2 c.R.length (rowsS (nrw c.R bits 1 4 c.R.length)), .orw 25 2 i (rowsS (nrw D bits 2 0 i))]) (fun i => i ≤ D.length) (fun i => D.length - i) 0 (Nat.zero_le _) ?_
        (intro fr1 hf1; simp only [forget, dstC, dstO, st] at hf1; subst hf1)
        refine ⟨?_, ?_⟩
        · refine Lw_re 4 [none] (Nat.zero_le _) (by simp [ln]) (by simp [ln]) rfl ?_ ?_
          · simp only [reL, reX, rn, List.getElem?_cons_zero, Nat.reduceSub, Nat.lt_irrefl, Nat.le_refl, reduceCtorEq, or_true, inb, inb.inbs, ln, sts, st, Bool.and_self, Nat.reduceLT, Nat.reduceAdd, decide_true, and_self, Int.natCast_zero, implies_true]
          · simp only [reL, reX, reH, reB, reN, newB, rn, List.getElem?_cons_zero, Nat.reduceSub, Nat.reduceLeDiff, or_false, reduceCtorEq, inb, ln, Nat.reduceLT, Nat.reduceAdd, and_true, and_self, implies_true]
        · intro i hii
          by_cases hlt : i < D.length
          · have n0 : ((i : Int) < (D.length : Int)) = True := by simp; omega
            obtain ⟨d1, d2, d3⟩ := hdat i hlt
            have d4 := d2.1
            have d5 := d3.2
            have hs := nrw_snoc (L := D) (bits := bits) (m := 2) (o := 0) (n := i)
            have hl := nrw_len (L := D) (bits := bits) (m := 2) (o := 0) (n := i)
            rw [Int.add_zero] at hs
            simp only [condK_bt, decide_true, inr64, e_skip, e_reg, e_seq, e_cond, e_block, o_nil, o_cons, gd_none, putK_e, runK_e, vK_e, bslK_e, appK2_or, appK_e, conK_e, callK_e, evh_v, evh_bsl, evh_app, evh_call, loopK_n, seqK_n, blockK_n, gam_e, gamK_f, pc_e, pcK_e, fcC_e, fcK_e, evp, bin, gt, st, putf, X.get, gets, getp, ap, clV, clL, clS, clo, clo.clos, ld, lda, lens, ixs, tk, dr, sp, sp.spl, lay, ll, cs1, one, allOne, gb, sb, pb, ln, lk, Value.oneCell', Bool.and_true, Nat.reduceAdd, Nat.reduceBEq, beq_self_eq_true, true_and, and_true, sts, n0, Int.toNat_natCast, rowsS, F35]
            repeat' (first | exact hbl | omega | decide | refine And.intro ?_ ?_)
            refine Nx.mk (i + 1) (by omega) (by omega) (Lw_re 4 [some 6] (Nat.zero_le _) (by simp [ln]) (by simp [ln]) rfl ?_ ?_)
            · simp only [reL, reX, rn, List.getElem?_cons_zero, Nat.reduceSub, Nat.lt_irrefl, Nat.le_refl, and_false, or_true, inb, inb.inbs, ln, Bool.and_self, Nat.reduceLT, Nat.reduceAdd, decide_true, and_self, Int.natCast_add, Int.natCast_one, implies_true]
            · simp only [reL, reX, reH, reB, reM, reN, rn, gb, List.getElem?_cons_zero, Nat.reduceSub, Nat.reduceLeDiff, false_and, or_false, inb, ln, Nat.reduceLT, Nat.reduceAdd, true_and, and_true, and_self, implies_true, hs]
              intro j hj
              have := rowsS_snoc (nrw D bits 2 0 i) (prt (lo D i) (hi D i) bits (2 * i)) j (by rw [hl]; exact hj)
              rw [hl] at this
              exact this
          · have n0 : ((i : Int) < (D.length : Int)) = False := by simp; omega
            have ei : i = D.length := by omega
            subst ei
            simp only [condK_bf, decide_false, e_reg, e_seq, e_cond, e_exit, o_nil, o_cons, gd_none, putK_e, runK_e, vK_e, conK_e, callK_e, evh_v, evh_call, loopK_x, seqK_n, seqK_x, exitK_t, blockK_x, gam_e, gamK_p, pc_e, pcK_e, evp, bin, gt, st, putf, X.get, gets, ap, clV, clL, clS, clo, ld, lda, lens, tk, dr, gb, sb, lk, beq_self_eq_true, true_and, sts, n0]
            refine ⟨nrC c bits, nrw D bits 2 0 D.length, by rw [hsv', nrw_len], ?_⟩
            have hok2 := hsub.ok hok
            have hv2 := hsub.voy hv hds
            have h7 : askE (nrC c bits) (nrw D bits 2 0 D.length) = 0 := by simp [askE, hok2, hv2]
            have h8 : cnR (nrC c bits) (nrw D bits 2 0 D.length) = cnP (nrC c bits) (nrw D bits 2 0 D.length) D.length := by
              have : cnR (nrC c bits) (nrw D bits 2 0 D.length) = cnP (nrC c bits) (nrw D bits 2 0 D.length) (nrw D bits 2 0 D.length).length := if_pos ⟨hok2, hv2⟩
              rw [this, nrw_len]
            have hcon := hsub.con hok hv hds
            simp only [gdK_bff, condK_bf, decide_true, e_skip, e_reg, e_seq, e_cond, e_block, e_loop, o_nil, o_cons, gd_none, gd_some, gdK_ff, putK_e, runK_e, vK_e, evh_v, seqK_n, evp, bin, gt, gq, st, putf, X.get, lens, Bool.not_true, true_and, h7, h8, cnP_len]
            refine loop_at2 (G := Nat) (fun i => [(15, .int .i64 i)]) (fun i => [.box 27 [.ints .i64 c.T, .rd 2 c.R.length (rowsS c.R), .int .i64 c.a, .int .i64 c.b, .int .i64 c.e, .int .i64 c.g], .fbox 22 [.ints .i64 bits], .box 27 [.ints .i64 c.T, .own 3, .int .i64 (prt c.a c.b bits 0).1, .int .i64 (prt c.a c.b bits 0).2, .int .i64 (prt c.e c.g bits 2).1, .int .i64 (prt c.e c.g bits 2).2], .fz (.rd 2 c.R.length (rowsS (nrw c.R bits 1 4 c.R.length))), .fz (.rd 2 D.length (rowsS (nrw D bits 2 0 D.length)))]) (fun i => i ≤ D.length) (fun i => D.length - i) 0 (Nat.zero_le _) ?_
            (intro fr1 hf1; simp only [forget, dstC, dstO, dstD, dst1, st] at hf1; subst hf1)
            refine ⟨?_, ?_⟩
            · refine Lw_re 5 [] (Nat.zero_le _) (by simp [ln]) (by simp [ln]) rfl ?_ ?_
              · simp only [reL, reX, rn, Nat.reduceSub, Nat.reduceLeDiff, false_and, or_false, reduceCtorEq, inb, inb.inbs, ln, sts, st, Bool.and_self, Nat.reduceLT, Nat.reduceAdd, decide_true, and_true, and_self, Int.natCast_zero, implies_true]
              · simp only [reL, reX, reH, reB, reN, rn, Nat.reduceSub, Nat.reduceLeDiff, false_and, or_false, reduceCtorEq, inb, ln, Nat.reduceLT, Nat.reduceAdd, and_true, and_self, implies_true]
            · intro i hii
              by_cases hlt : i < D.length
              · have n0 : ((i : Int) < (D.length : Int)) = True := by simp; omega
                obtain ⟨e1, e2⟩ := cnP_get (c := c) (D := D) hlt
                obtain ⟨e3, e4⟩ := cnP_get (c := nrC c bits) (D := nrw D bits 2 0 D.length) hlt
                have hc := hcon (i + 1) (by omega)
                have n1 : (conS (nrC c bits).T (nrC c bits).R (nrC c bits).a (nrC c bits).b (nrC c bits).e (nrC c bits).g 101 (nrw D bits 2 0 D.length) (i + 1) < conS c.T c.R c.a c.b c.e c.g 101 D (i + 1)) = False := by simp; omega
                have n2 : (conS c.T c.R c.a c.b c.e c.g 102 D (i + 1) < conS (nrC c bits).T (nrC c bits).R (nrC c bits).a (nrC c bits).b (nrC c bits).e (nrC c bits).g 102 (nrw D bits 2 0 D.length) (i + 1)) = False := by simp; omega
                simp only [dX_bf, condK_bt, condK_bf, decide_true, decide_false, inr64, e_skip, e_reg, e_drw, e_seq, e_cond, e_block, o_nil, o_cons, gd_none, gd_some, gdK_ff, putK_e, runK_e, vK_e, evh_v, dX_e, dG_t, d_nil, d_cons, tlK_n, loopK_n, seqK_n, blockK_n, evp, bin, gt, gq, st, putf, X.get, ld, lda, lens, ixs, evq, gdl, Bool.not_false, Nat.reduceAdd, true_and, and_true, sts, n0, Int.toNat_natCast, rowsS, e1, e2, e3, e4, n1, n2]
                repeat' (first | omega | decide | refine And.intro ?_ ?_)
                refine Nx.mk (i + 1) (by omega) (by omega) (Lw_re 5 [] (Nat.zero_le _) (by simp [ln]) (by simp [ln]) rfl ?_ ?_)
                · simp only [reL, reX, rn, Nat.reduceSub, Nat.reduceLeDiff, false_and, or_false, reduceCtorEq, inb, inb.inbs, ln, Bool.and_self, Nat.reduceLT, Nat.reduceAdd, decide_true, and_true, and_self, Int.natCast_add, Int.natCast_one, implies_true]
                · simp only [reL, reX, reH, reB, reN, rn, Nat.reduceSub, Nat.reduceLeDiff, false_and, or_false, reduceCtorEq, inb, ln, Nat.reduceLT, Nat.reduceAdd, and_true, and_self, implies_true]
              · have n0 : ((i : Int) < (D.length : Int)) = False := by simp; omega
                simp only [condK_bf, decide_false, e_reg, e_seq, e_cond, e_exit, e_ret, o_nil, o_cons, gd_none, putK_e, runK_e, vK_e, conK_e, callK_e, evh_v, evh_call, loopK_x, seqK_n, seqK_x, exitK_t, blockK_x, ends_r, endK1_e, endK2_e, gam_e, gamK_f, pc_e, pcK_e, fcC_e, fcK_e, evp, bin, gt, st, putf, X.get, gets, ap, rdR, tupled, clV, clL, clS, clo, lens, lk, Nat.reduceBEq, beq_self_eq_true, true_and, sts, n0, F21]
                exact res hK (by simp [leR])
  · have h1 : (askE c D = 0) = False := by
      simp only [eq_iff_iff, iff_false]
      unfold askE
      by_cases hok : c.ok
      · have hv : ¬ voy c D := fun h => hcv ⟨hok, h⟩
        rw [if_pos hok, if_neg hv]; omega
      · rw [if_neg hok]; omega
    have h2 : cnR c D = [] := if_neg hcv
    rw [h2]
    simp only [gdK_btt, gdK_bft, decide_true, decide_false, e_reg, e_seq, e_cond, e_ret, o_nil, o_cons, gd_none, gd_some, gdK_tt, gdK_tf, putK_e, runK_e, skipK_e, vK_e, conK_e, callK_e, evh_v, evh_call, seqK_n, seqK_r, condK_t, ends_r, endK1_e, endK2_e, gam_e, gamK_f, pc_e, pcK_e, fcC_e, fcK_e, evp, bin, gt, gq, st, putf, X.get, gets, ap, rdR, tupled, clV, clL, clS, clo, lens, lk, undef, Bool.not_false, Nat.reduceBEq, beq_self_eq_true, true_and, h1, List.length_nil, Int.natCast_zero, F21]
    exact res hK (by simp [leR])
end Go.Proofs.YtlegfejimphfbaaGreat
end
