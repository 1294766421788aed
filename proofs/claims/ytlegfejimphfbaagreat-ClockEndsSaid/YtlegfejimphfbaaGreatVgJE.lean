import Derived.Test.YtlegfejimphfbaaGreatVgHC
import Derived.Test.YtlegfejimphfbaaGreatVgCY
section
section
namespace Go.Proofs.YtlegfejimphfbaaGreat
open Go Go.Vg
set_option linter.unusedSimpArgs false
set_option linter.unusedVariables false
set_option maxRecDepth 10000
def s38 : SC :=
 (.seq (.reg [⟨(some 6), none, .v (.mov (.c (.lit (.bool false))))⟩])
 (.seq (.reg [⟨(some 7), none, .v (.mov (.t 0))⟩,
  ⟨(some 8), none, .v (.mov (.t 1))⟩,
  ⟨(some 9), none, .v (.bin .geq (.t 7) (.t 8))⟩,
  ⟨(some 10), none, .v (.mov (.t 9))⟩,
  ⟨(some 11), (some (10, true)), .v (.mov (.t 0))⟩,
  ⟨(some 12), (some (10, true)), .v (.mov (.t 2))⟩,
  ⟨(some 13), (some (10, true)), .v (.bin .leq (.t 11) (.t 12))⟩,
  ⟨(some 14), none, .v (.pick (.t 10) (.t 13) (.c (.lit (.bool false))))⟩,
  ⟨(some 6), none, .v (.mov (.t 14))⟩])
 .ret))
def r38 : List RV := [.t 6]
theorem k38 : (Tryz.f38.body.bind (cC Tryz.prog), cR Tryz.prog Tryz.f38.results.toList, Tryz.f38.ntmps) = (some s38, some r38, 15) := by kernel_rfl
theorem q38 : Known Tryz.prog 38 := ⟨_, Tryz.func38, by decide, by simp [Tryz.f38]⟩
def s31 : SC :=
 (.seq (.reg [⟨(some 1), none, .box 27 (.t 0)⟩,
  ⟨(some 2), none, .v (.mov (.c (.lit (.bool false))))⟩])
 (.seq (.reg [⟨(some 3), none, .v (.load (.t 1) (some 6))⟩,
  ⟨(some 4), none, .call (.c (.fn 16 [])) [(.t 3)]⟩,
  ⟨(some 5), none, .v (.bin .eql (.t 4) (.c (.int .i64 (0))))⟩,
  ⟨(some 6), none, .v (.mov (.t 5))⟩,
  ⟨(some 7), (some (6, true)), .v (.off (.t 1) 0)⟩,
  ⟨(some 8), (some (6, true)), .v (.load (.t 7) none)⟩,
  ⟨(some 9), (some (6, true)), .v (.len (.t 8))⟩,
  ⟨(some 10), (some (6, true)), .call (.c (.fn 38 [])) [(.t 9), (.c (.int .i64 (2))), (.c (.int .i64 (8)))]⟩,
  ⟨(some 11), none, .v (.pick (.t 6) (.t 10) (.c (.lit (.bool false))))⟩,
  ⟨(some 12), none, .v (.mov (.t 11))⟩,
  ⟨(some 13), (some (12, true)), .v (.off (.t 1) 1)⟩,
  ⟨(some 14), (some (12, true)), .v (.load (.t 13) none)⟩,
  ⟨(some 15), (some (12, true)), .v (.len (.t 14))⟩,
  ⟨(some 16), (some (12, true)), .v (.off (.t 1) 0)⟩,
  ⟨(some 17), (some (12, true)), .v (.load (.t 16) none)⟩,
  ⟨(some 18), (some (12, true)), .v (.len (.t 17))⟩,
  ⟨(some 19), (some (12, true)), .v (.bin .eql (.t 15) (.t 18))⟩,
  ⟨(some 20), none, .v (.pick (.t 12) (.t 19) (.c (.lit (.bool false))))⟩,
  ⟨(some 2), none, .v (.mov (.t 20))⟩])
 .ret))
def r31 : List RV := [.t 2]
theorem k31 : (Tryz.f31.body.bind (cC Tryz.prog), cR Tryz.prog Tryz.f31.results.toList, Tryz.f31.ntmps) = (some s31, some r31, 21) := by kernel_rfl
theorem q31 : Known Tryz.prog 31 := ⟨_, Tryz.func31, by decide, by simp [Tryz.f31]⟩
theorem p38 : PureOk Tryz.prog 38 (fcC Fin) := by
 refine pure_of (T := []) trivial Tryz.func38 k38 ?_
 intro args K hC
 unfold fcC Fin at hC
 split at hC <;> first | (exact hC.elim) | skip
 rename_i h
 split at h <;> first | (cases h; done) | skip
 cases h
 simp only [e_reg, e_seq, e_ret, o_nil, o_cons, gd_none, gd_some, gdK_tt, gdK_ft, gdK_bt, putK_e, runK_e, skipK_e, vK_e, evh_v, seqK_n, ends_r, endK1_e, endK2_e, evp, bin, gt, st, putf, X.get, mkfr, rep, rdR, tupled, clV, clS, clo, undef, Nat.reduceSub, true_and, decide_eq_true_eq, decide_eq_false_iff_not, s38, r38]
 exact ⟨fun h => res hC.2 (by simp [leR, h]), fun h => res hC.2 (by simp [leR, h])⟩
def C31 : PC := fun args K => ∃ c : Ck, args = [c.sv] ∧ K (.bool (decide c.ok))
theorem p31 : PureOk Tryz.prog 31 C31 := by
 refine pure_of (T := [(16, .pc C16), (38, .fc Fin)]) ⟨⟨p16, q16⟩, ⟨p38, q38⟩, trivial⟩ Tryz.func31 k31 ?_
 rintro args K ⟨c, rfl, hK⟩
 have hsv : c.sv = .agg [.ints .i64 c.T, .rd 2 c.R.length (rowsS c.R), .int .i64 c.a, .int .i64 c.b, .int .i64 c.e, .int .i64 c.g] := rfl
 rw [hsv]
 simp only [e_reg, e_seq, o_nil, o_cons, gd_none, putK_e, runK_e, vK_e, boxK_e, conK_e, callK_e, evh_v, evh_box, evh_call, seqK_n, gam_e, gamK_p, pc_e, pcK_e, evp, bin, gt, st, putf, X.get, gets, ap, mkfr, rep, clV, clL, clS, clo, ld, lda, tk, dr, cs1, gb, pb, ln, lk, undef, Nat.reduceSub, beq_self_eq_true, true_and, s31, r31]
 refine ⟨c, rfl, ?_⟩
 by_cases hok : c.ok
 ·have h1 : c.chk = 0 := by simp [Ck.chk, hok]
  have h2 : (2 ≤ (c.T.length : Int) ∧ (c.T.length : Int) ≤ 8) = True := eq_true hok.1.1
  have h3 : ((c.R.length : Int) = c.T.length) = True := eq_true hok.1.2.2.1
  simp only [gdK_btt, decide_true, e_ret, o_nil, o_cons, gd_none, gd_some, gdK_tt, putK_e, runK_e, vK_e, conK_e, callK_e, evh_v, evh_call, seqK_n, ends_r, endK1_e, endK2_e, gam_e, gamK_f, pc_e, pcK_e, fcC_e, fcK_e, evp, bin, gt, gq, st, putf, X.get, gets, ap, rdR, tupled, clV, clL, clS, clo, ld, lda, lens, gb, lk, Nat.reduceAdd, Nat.reduceBEq, beq_self_eq_true, true_and, h1, Fin, h2, h3]
  exact res hK (by simp [leR, hok])
 ·have h1 : c.chk = 70 := by simp [Ck.chk, hok]
  have h70 : ((70 : Int) = 0) = False := by simp
  simp only [gdK_btf, decide_false, e_ret, o_nil, o_cons, gd_none, gd_some, gdK_ft, putK_e, runK_e, skipK_e, vK_e, evh_v, seqK_n, ends_r, endK1_e, endK2_e, evp, gt, st, putf, X.get, rdR, tupled, clV, clS, clo, undef, true_and, h1, h70]
  exact res hK (by simp [leR, hok])
end Go.Proofs.YtlegfejimphfbaaGreat
end
section
namespace Go.Proofs.YtlegfejimphfbaaGreat
open Go Go.Vg
set_option linter.unusedVariables false
set_option maxRecDepth 10000
def F21 : FC := fun args => match args with
 | [] => some (True, .lit (.bool true))
 | _ => none
theorem mnF_le {h : Int → Int} {x : Int} : ∀ {n k : Nat}, k ≤ n → mnF h x n ≤ h (x + k) ∧ h (x + k) ≤ mxF h x n
 | 0, k, hk => by
  have : k = 0 := by omega
  subst this
  simp [mnF, mxF]
 | n + 1, k, hk => by
  simp only [mnF, mxF]
  by_cases hkn : k = n + 1
  ·subst hkn
   rw [show x + ((n + 1 : Nat) : Int) = x + 1 + n by omega]
   split <;> split <;> omega
  ·have := mnF_le (h := h) (x := x) (n := n) (k := k) (by omega)
   split <;> split <;> omega
theorem Ck.mid {c : Ck} {D : List (Int × Int)} {t : Tr} (hok : c.ok) (ht : truT c D t) {x d : Int} (hx : At c.T x) (hd : 0 ≤ d) :
  rte c.T c.R c.a c.b 101 x d ≤ itp c.T t.R x + t.a * d ∧ itp c.T t.R x + t.a * d ≤ rte c.T c.R c.a c.b 102 x d := by
 have hT := (c.eo hok (w := 101) (.inl rfl)).tb
 have hlen := hok.1.2.2.1
 obtain ⟨⟨t1, t2⟩, ⟨t3, t4⟩, _⟩ := ht
 have m1 := itp_mono (R := endsL 101 c.R) (R' := t.R) hT hx fun i hi' => by
  rw [ends_getD (by omega)]
  have := (t2 i (by omega)).1
  unfold lo at this
  simpa [sel] using this
 have m2 := itp_mono (R := t.R) (R' := endsL 102 c.R) hT hx fun i hi' => by
  rw [ends_getD (by omega)]
  have := (t2 i (by omega)).2
  unfold hi at this
  simpa [sel] using this
 have n1 := Int.mul_le_mul_of_nonneg_right t3 hd
 have n2 := Int.mul_le_mul_of_nonneg_right t4 hd
 unfold rte
 have s1 : sel 101 (c.a, c.b) = c.a := rfl
 have s2 : sel 102 (c.a, c.b) = c.b := rfl
 rw [s1, s2]
 omega
theorem gain_le {T : List Int} {R : List (Int × Int)} {a b d x y z : Int} (h1 : x ≤ z) (h2 : z ≤ y) : gain T R a b 101 d x y ≤ rte T R a b 101 z d ∧ rte T R a b 102 z d ≤ gain T R a b 102 d x y := by
 have hz : x + ((z - x).toNat : Int) = z := by omega
 have k1 := (mnF_le (h := fun z => itp T (endsL 101 R) z + sel 101 (a, b) * d) (x := x) (n := (y - x).toNat) (k := (z - x).toNat) (by omega)).1
 have k2 := (mnF_le (h := fun z => itp T (endsL 102 R) z + sel 102 (a, b) * d) (x := x) (n := (y - x).toNat) (k := (z - x).toNat) (by omega)).2
 rw [hz] at k1 k2
 exact ⟨k1, k2⟩
theorem Ck.in {c : Ck} {D : List (Int × Int)} {t : Tr} (hok : c.ok) (hv : voy c D) (ht : truT c D t) : ∀ k, k ≤ D.length → conS c.T c.R c.a c.b c.e c.g 101 D k ≤ errS c.T t k ∧ errS c.T t k ≤ conS c.T c.R c.a c.b c.e c.g 102 D k
 | 0, _ => by
  have := ht.2.2.1
  simp only [conS, errS, sel]
  simpa using this
 | k + 1, hk => by
  have ih := Ck.in hok hv ht k (by omega)
  have h1 := ht.2.2.2.2 k (by omega)
  obtain ⟨d1, d2, d3⟩ := c.dat hv k (by omega)
  have hx : At c.T (t.T.getD k 0) := ⟨by have := d2.1; omega, by have := d3.2; omega⟩
  have m := c.mid hok ht hx (show (0 : Int) ≤ k by omega)
  have g := gain_le (T := c.T) (R := c.R) (a := c.a) (b := c.b) (d := k) h1.1 h1.2
  simp only [conS, errS]
  omega
theorem cnP_get {c : Ck} {D : List (Int × Int)} {n i : Nat} (h : i < n) : lo (cnP c D n) i = conS c.T c.R c.a c.b c.e c.g 101 D (i + 1) ∧ hi (cnP c D n) i = conS c.T c.R c.a c.b c.e c.g 102 D (i + 1) := by
 unfold lo hi cnP; simp [List.getD, h]
theorem errL_get {T : List Int} {t : Tr} {n i : Nat} (h : i < n) : (errL T t n).getD i 0 = errS T t (i + 1) := by simp [errL, List.getD, h]
end Go.Proofs.YtlegfejimphfbaaGreat
end
section
namespace Go.Vg
open Go Go.RowKit Go.ChangeShapes Go.WideShapes
end Go.Vg
end
end
section
namespace Go.Proofs.YtlegfejimphfbaaGreat
open Go Go.Vg
set_option linter.unusedVariables false
set_option maxRecDepth 10000
def s34 : SC :=
 (.seq (.reg [⟨(some 4), none, .new 25 [(.int .i64 (0)), (.int .i64 (0))]⟩])
 (.seq (.reg [⟨(some 5), none, .v (.mov (.t 0))⟩,
  ⟨(some 6), none, .v (.mov (.t 1))⟩,
  ⟨(some 7), none, .bld [(.int .i64 (0)), (.int .i64 (0))] [(0, 1, (.t 5)), (1, 1, (.t 6))]⟩,
  ⟨none, none, .store 2 (.t 4) (.t 7)⟩])
 .ret))
def r34 : List RV := [.c 4 (some 2)]
theorem k34 : (Tryz.f34.body.bind (cC Tryz.prog), cR Tryz.prog Tryz.f34.results.toList, Tryz.f34.ntmps) = (some s34, some r34, 8) := by kernel_rfl
theorem q34 : Known Tryz.prog 34 := ⟨_, Tryz.func34, by decide, by simp [Tryz.f34]⟩
def o8_0 : Opr := ⟨(some 4), none, .v (.mov (.c (.lit (.bool false))))⟩
def o8_1 : Opr := ⟨(some 61), none, .v (.load (.t 60) none)⟩
def o8_2 : Opr := ⟨(some 64), none, .v (.load (.t 63) none)⟩
def o8_3 : Opr := ⟨(some 65), none, .bld [(.lit (.slice none 0 0)), (.int .i64 (0)), (.int .i64 (0)), (.lit (.slice none 0 0))] [(1, 1, (.t 61)), (2, 1, (.t 64))]⟩
def o8_4 : Opr := ⟨(some 7), none, .new 39 [(.lit (.slice none 0 0)), (.int .i64 (0)), (.int .i64 (0)), (.lit (.slice none 0 0))]⟩
def o8_5 : Opr := ⟨(some 8), none, .new 39 [(.lit (.slice none 0 0)), (.int .i64 (0)), (.int .i64 (0)), (.lit (.slice none 0 0))]⟩
def o8_6 : Opr := ⟨none, none, .store 4 (.t 7) (.t 58)⟩
def o8_7 : Opr := ⟨none, none, .store 4 (.t 8) (.t 65)⟩
def o8_8 : Opr := ⟨(some 81), none, .bsl 3 1 [(.int .i64 (0))] [(0, 1, (.t 80))]⟩
def o8_9 : Opr := ⟨(some 82), none, .app 3 1 8 (.t 74) (.t 81)⟩
def o8_10 : Opr := ⟨(some 93), none, .v (.off (.t 7) 0)⟩
def o8_11 : Opr := ⟨(some 84), none, .v (.load (.t 83) none)⟩
def o8_12 : Opr := ⟨(some 86), none, .v (.load (.t 85) none)⟩
def o8_13 : Opr := ⟨(some 88), none, .v (.ixa (.t 86) (.t 87) 2)⟩
def o8_14 : Opr := ⟨(some 89), none, .v (.off (.t 88) 1)⟩
def o8_15 : Opr := ⟨(some 90), none, .v (.load (.t 89) none)⟩
def o8_16 : Opr := ⟨(some 91), none, .bsl 3 1 [(.int .i64 (0))] [(0, 1, (.t 90))]⟩
def o8_17 : Opr := ⟨(some 92), none, .app 3 1 8 (.t 84) (.t 91)⟩
def o8_18 : Opr := ⟨none, none, .store 1 (.t 93) (.t 82)⟩
def o8_19 : Opr := ⟨(some 94), none, .v (.off (.t 8) 0)⟩
def o8_20 : Opr := ⟨none, none, .store 1 (.t 94) (.t 92)⟩
def o8_21 : Opr := ⟨(some 171), none, .bsl 3 1 [(.int .i64 (0))] [(0, 1, (.t 170))]⟩
def o8_22 : Opr := ⟨(some 172), none, .app 3 1 8 (.t 169) (.t 171)⟩
def o8_23 : Opr := ⟨(some 178), none, .v (.off (.t 7) 3)⟩
def o8_24 : Opr := ⟨(some 174), none, .v (.load (.t 173) none)⟩
def o8_25 : Opr := ⟨(some 176), none, .bsl 3 1 [(.int .i64 (0))] [(0, 1, (.t 175))]⟩
def o8_26 : Opr := ⟨(some 177), none, .app 3 1 8 (.t 174) (.t 176)⟩
def o8_27 : Opr := ⟨none, none, .store 1 (.t 178) (.t 172)⟩
def o8_28 : Opr := ⟨(some 179), none, .v (.off (.t 8) 3)⟩
def o8_29 : Opr := ⟨none, none, .store 1 (.t 179) (.t 177)⟩
def s8 : SC :=
 (.seq (.reg [⟨(some 2), none, .box 27 (.t 0)⟩,
  o8_0])
 (.seq (.reg [⟨(some 25), none, .v (.load (.t 2) (some 6))⟩,
  ⟨(some 26), none, .v (.mov (.t 1))⟩,
  ⟨(some 27), none, .call (.c (.fn 18 [])) [(.t 25), (.t 26)]⟩,
  ⟨(some 24), none, .v (.mov (.t 27))⟩,
  ⟨(some 28), none, .v (.ext (.t 24) 0)⟩,
  ⟨(some 29), none, .v (.ext (.t 24) 1)⟩,
  ⟨(some 5), none, .v (.mov (.t 28))⟩,
  ⟨(some 6), none, .v (.mov (.t 29))⟩])
 (.seq (.seq (.reg [⟨(some 30), none, .v (.mov (.t 6))⟩,
  ⟨(some 31), none, .v (.bin .neq (.t 30) (.c (.int .i64 (0))))⟩,
  ⟨(some 32), none, .v (.mov (.t 31))⟩,
  ⟨(some 33), (some (32, false)), .v (.load (.t 2) (some 6))⟩,
  ⟨(some 34), (some (32, false)), .call (.c (.fn 31 [])) [(.t 33)]⟩,
  ⟨(some 35), (some (32, false)), .v (.not (.t 34))⟩,
  ⟨(some 36), none, .v (.pick (.t 32) (.c (.lit (.bool true))) (.t 35))⟩,
  ⟨(some 37), none, .v (.mov (.t 36))⟩,
  ⟨(some 38), (some (37, false)), .v (.mov (.t 1))⟩,
  ⟨(some 39), (some (37, false)), .v (.len (.t 38))⟩,
  ⟨(some 40), (some (37, false)), .v (.bin .gtr (.t 39) (.c (.int .i64 (60))))⟩,
  ⟨(some 41), none, .v (.pick (.t 37) (.c (.lit (.bool true))) (.t 40))⟩])
 (.cond (.t 41)
  (.seq (.reg [⟨(some 42), none, .v (.mov (.t 6))⟩,
   ⟨(some 43), none, .v (.bin .neq (.t 42) (.c (.int .i64 (0))))⟩,
   ⟨(some 44), none, .v (.mov (.t 43))⟩,
   ⟨(some 45), (some (44, true)), .v (.mov (.t 5))⟩,
   ⟨(some 46), (some (44, true)), .v (.len (.t 45))⟩,
   ⟨(some 47), (some (44, true)), .v (.bin .eql (.t 46) (.c (.int .i64 (0))))⟩,
   ⟨(some 48), none, .v (.pick (.t 44) (.t 47) (.c (.lit (.bool false))))⟩,
   ⟨(some 49), none, .v (.mov (.t 48))⟩,
   ⟨(some 50), (some (49, true)), .call (.c (.fn 21 [])) []⟩,
   ⟨(some 51), none, .v (.pick (.t 49) (.t 50) (.c (.lit (.bool false))))⟩,
   ⟨(some 4), none, .v (.mov (.t 51))⟩])
  .ret)
  .skip))
 (.seq (.tre (tn ⟨(some 52), none, .v (.off (.t 2) 2)⟩ (tn ⟨(some 53), none, .v (.off (.t 52) 0)⟩ (tn ⟨(some 54), none, .v (.load (.t 53) none)⟩ (tn ⟨(some 55),
 none, .v (.off (.t 2) 4)⟩ (tn ⟨(some 56), none, .v (.off (.t 55) 0)⟩ (tn ⟨(some 57), none, .v (.load (.t 56) none)⟩ (tn ⟨(some 58), none, .bld [(.lit (.slice
 none 0 0)), (.int .i64 (0)), (.int .i64 (0)), (.lit (.slice none 0 0))] [(1, 1, (.t 54)), (2, 1, (.t 57))]⟩ (tn ⟨(some 59), none, .v (.off (.t 2) 2)⟩ (tn
 ⟨(some 60), none, .v (.off (.t 59) 1)⟩ (tn ⟨(some 62), none, .v (.off (.t 2) 4)⟩ (tn ⟨(some 63), none, .v (.off (.t 62) 1)⟩ (.op o8_1 (.op o8_2 (tn o8_3
 (.op o8_4 (tn o8_5 (tn o8_6 (tn o8_7 .leaf))) (tn o8_5 (tn o8_4 (tn o8_6 (tn o8_7 .leaf)))))) (.op o8_4 (.op o8_2 (tn o8_3 (tn o8_5 (tn o8_6 (tn o8_7 .leaf))))
 (tn o8_5 (.op o8_2 (tn o8_3 (tn o8_6 (tn o8_7 .leaf))) (tn o8_6 (tn o8_2 (tn o8_3 (tn o8_7 .leaf))))))) (tn o8_5 (.op o8_2 (tn o8_3 (tn o8_4 (tn o8_6 (tn
 o8_7 .leaf)))) (tn o8_4 (.op o8_2 (tn o8_3 (tn o8_6 (tn o8_7 .leaf))) (tn o8_6 (tn o8_2 (tn o8_3 (tn o8_7 .leaf)))))))))) (.op o8_2 (.op o8_1 (tn o8_3
 (.op o8_4 (tn o8_5 (tn o8_6 (tn o8_7 .leaf))) (tn o8_5 (tn o8_4 (tn o8_6 (tn o8_7 .leaf)))))) (.op o8_4 (.op o8_1 (tn o8_3 (tn o8_5 (tn o8_6 (tn o8_7 .leaf))))
 (tn o8_5 (.op o8_1 (tn o8_3 (tn o8_6 (tn o8_7 .leaf))) (tn o8_6 (tn o8_1 (tn o8_3 (tn o8_7 .leaf))))))) (tn o8_5 (.op o8_1 (tn o8_3 (tn o8_4 (tn o8_6 (tn
 o8_7 .leaf)))) (tn o8_4 (.op o8_1 (tn o8_3 (tn o8_6 (tn o8_7 .leaf))) (tn o8_6 (tn o8_1 (tn o8_3 (tn o8_7 .leaf)))))))))) (.op o8_4 (.op o8_1 (.op o8_2
 (tn o8_3 (tn o8_5 (tn o8_6 (tn o8_7 .leaf)))) (tn o8_5 (.op o8_2 (tn o8_3 (tn o8_6 (tn o8_7 .leaf))) (tn o8_6 (tn o8_2 (tn o8_3 (tn o8_7 .leaf))))))) (.op
 o8_2 (.op o8_1 (tn o8_3 (tn o8_5 (tn o8_6 (tn o8_7 .leaf)))) (tn o8_5 (.op o8_1 (tn o8_3 (tn o8_6 (tn o8_7 .leaf))) (tn o8_6 (tn o8_1 (tn o8_3 (tn o8_7
 .leaf))))))) (tn o8_5 (.op o8_1 (.op o8_2 (tn o8_3 (tn o8_6 (tn o8_7 .leaf))) (tn o8_6 (tn o8_2 (tn o8_3 (tn o8_7 .leaf))))) (.op o8_2 (.op o8_1 (tn o8_3
 (tn o8_6 (tn o8_7 .leaf))) (tn o8_6 (tn o8_1 (tn o8_3 (tn o8_7 .leaf))))) (tn o8_6 (.op o8_1 (tn o8_2 (tn o8_3 (tn o8_7 .leaf))) (tn o8_2 (tn o8_1 (tn
 o8_3 (tn o8_7 .leaf))))))))))) (tn o8_5 (.op o8_1 (.op o8_2 (tn o8_3 (tn o8_4 (tn o8_6 (tn o8_7 .leaf)))) (tn o8_4 (.op o8_2 (tn o8_3 (tn o8_6 (tn o8_7
 .leaf))) (tn o8_6 (tn o8_2 (tn o8_3 (tn o8_7 .leaf))))))) (.op o8_2 (.op o8_1 (tn o8_3 (tn o8_4 (tn o8_6 (tn o8_7 .leaf)))) (tn o8_4 (.op o8_1 (tn o8_3
 (tn o8_6 (tn o8_7 .leaf))) (tn o8_6 (tn o8_1 (tn o8_3 (tn o8_7 .leaf))))))) (tn o8_4 (.op o8_1 (.op o8_2 (tn o8_3 (tn o8_6 (tn o8_7 .leaf))) (tn o8_6 (tn
 o8_2 (tn o8_3 (tn o8_7 .leaf))))) (.op o8_2 (.op o8_1 (tn o8_3 (tn o8_6 (tn o8_7 .leaf))) (tn o8_6 (tn o8_1 (tn o8_3 (tn o8_7 .leaf))))) (tn o8_6 (.op
 o8_1 (tn o8_2 (tn o8_3 (tn o8_7 .leaf))) (tn o8_2 (tn o8_1 (tn o8_3 (tn o8_7 .leaf)))))))))))))))))))))))))))
 (.seq (.seq (.reg [⟨(some 9), none, .v (.mov (.c (.int .i64 (0))))⟩])
 (.block 0 (.loop
  (.seq (.seq (.reg [⟨(some 66), none, .v (.mov (.t 9))⟩,
   ⟨(some 67), none, .v (.off (.t 2) 1)⟩,
   ⟨(some 68), none, .v (.load (.t 67) none)⟩,
   ⟨(some 69), none, .v (.len (.t 68))⟩,
   ⟨(some 70), none, .v (.bin .lss (.t 66) (.t 69))⟩])
  (.cond (.t 70)
   .skip
   (.exit 0)))
  (.seq (.block 1 (.tre (tn ⟨(some 73), none, .v (.off (.t 7) 0)⟩ (tn ⟨(some 74), none, .v (.load (.t 73) none)⟩ (tn ⟨(some 75), none, .v (.off (.t 2) 1)⟩ (tn ⟨(some 76),
 none, .v (.load (.t 75) none)⟩ (tn ⟨(some 77), none, .v (.mov (.t 9))⟩ (tn ⟨(some 78), none, .v (.ixa (.t 76) (.t 77) 2)⟩ (tn ⟨(some 79), none, .v (.off
 (.t 78) 0)⟩ (tn ⟨(some 80), none, .v (.load (.t 79) none)⟩ (tn ⟨(some 83), none, .v (.off (.t 8) 0)⟩ (tn ⟨(some 85), none, .v (.off (.t 2) 1)⟩ (tn ⟨(some
 87), none, .v (.mov (.t 9))⟩ (.op o8_8 (.op o8_9 (tn o8_10 (.op o8_11 (tn o8_12 (tn o8_13 (tn o8_14 (tn o8_15 (tn o8_16 (tn o8_17 (tn o8_18 (tn o8_19 (tn
 o8_20 .leaf))))))))) (tn o8_12 (.op o8_11 (tn o8_13 (tn o8_14 (tn o8_15 (tn o8_16 (tn o8_17 (tn o8_18 (tn o8_19 (tn o8_20 .leaf)))))))) (tn o8_13 (tn o8_14
 (.op o8_11 (tn o8_15 (tn o8_16 (tn o8_17 (tn o8_18 (tn o8_19 (tn o8_20 .leaf)))))) (tn o8_15 (.op o8_11 (tn o8_16 (tn o8_17 (tn o8_18 (tn o8_19 (tn o8_20
 .leaf))))) (tn o8_16 (tn o8_11 (tn o8_17 (tn o8_18 (tn o8_19 (tn o8_20 .leaf))))))))))))))) (.op o8_11 (.op o8_9 (tn o8_10 (tn o8_12 (tn o8_13 (tn o8_14
 (tn o8_15 (tn o8_16 (tn o8_17 (tn o8_18 (tn o8_19 (tn o8_20 .leaf)))))))))) (tn o8_12 (.op o8_9 (tn o8_10 (tn o8_13 (tn o8_14 (tn o8_15 (tn o8_16 (tn o8_17
 (tn o8_18 (tn o8_19 (tn o8_20 .leaf))))))))) (tn o8_13 (tn o8_14 (.op o8_9 (tn o8_10 (tn o8_15 (tn o8_16 (tn o8_17 (tn o8_18 (tn o8_19 (tn o8_20 .leaf)))))))
 (tn o8_15 (.op o8_9 (tn o8_10 (tn o8_16 (tn o8_17 (tn o8_18 (tn o8_19 (tn o8_20 .leaf)))))) (tn o8_16 (tn o8_9 (tn o8_10 (tn o8_17 (tn o8_18 (tn o8_19
 (tn o8_20 .leaf))))))))))))))) (tn o8_12 (.op o8_9 (tn o8_10 (.op o8_11 (tn o8_13 (tn o8_14 (tn o8_15 (tn o8_16 (tn o8_17 (tn o8_18 (tn o8_19 (tn o8_20
 .leaf)))))))) (tn o8_13 (tn o8_14 (.op o8_11 (tn o8_15 (tn o8_16 (tn o8_17 (tn o8_18 (tn o8_19 (tn o8_20 .leaf)))))) (tn o8_15 (.op o8_11 (tn o8_16 (tn
 o8_17 (tn o8_18 (tn o8_19 (tn o8_20 .leaf))))) (tn o8_16 (tn o8_11 (tn o8_17 (tn o8_18 (tn o8_19 (tn o8_20 .leaf))))))))))))) (.op o8_11 (.op o8_9 (tn
 o8_10 (tn o8_13 (tn o8_14 (tn o8_15 (tn o8_16 (tn o8_17 (tn o8_18 (tn o8_19 (tn o8_20 .leaf))))))))) (tn o8_13 (tn o8_14 (.op o8_9 (tn o8_10 (tn o8_15
 (tn o8_16 (tn o8_17 (tn o8_18 (tn o8_19 (tn o8_20 .leaf))))))) (tn o8_15 (.op o8_9 (tn o8_10 (tn o8_16 (tn o8_17 (tn o8_18 (tn o8_19 (tn o8_20 .leaf))))))
 (tn o8_16 (tn o8_9 (tn o8_10 (tn o8_17 (tn o8_18 (tn o8_19 (tn o8_20 .leaf))))))))))))) (tn o8_13 (tn o8_14 (.op o8_9 (tn o8_10 (.op o8_11 (tn o8_15 (tn
 o8_16 (tn o8_17 (tn o8_18 (tn o8_19 (tn o8_20 .leaf)))))) (tn o8_15 (.op o8_11 (tn o8_16 (tn o8_17 (tn o8_18 (tn o8_19 (tn o8_20 .leaf))))) (tn o8_16 (tn
 o8_11 (tn o8_17 (tn o8_18 (tn o8_19 (tn o8_20 .leaf)))))))))) (.op o8_11 (.op o8_9 (tn o8_10 (tn o8_15 (tn o8_16 (tn o8_17 (tn o8_18 (tn o8_19 (tn o8_20
 .leaf))))))) (tn o8_15 (.op o8_9 (tn o8_10 (tn o8_16 (tn o8_17 (tn o8_18 (tn o8_19 (tn o8_20 .leaf)))))) (tn o8_16 (tn o8_9 (tn o8_10 (tn o8_17 (tn o8_18
 (tn o8_19 (tn o8_20 .leaf)))))))))) (tn o8_15 (.op o8_9 (tn o8_10 (.op o8_11 (tn o8_16 (tn o8_17 (tn o8_18 (tn o8_19 (tn o8_20 .leaf))))) (tn o8_16 (tn
 o8_11 (tn o8_17 (tn o8_18 (tn o8_19 (tn o8_20 .leaf)))))))) (.op o8_11 (.op o8_9 (tn o8_10 (tn o8_16 (tn o8_17 (tn o8_18 (tn o8_19 (tn o8_20 .leaf))))))
 (tn o8_16 (tn o8_9 (tn o8_10 (tn o8_17 (tn o8_18 (tn o8_19 (tn o8_20 .leaf)))))))) (tn o8_16 (.op o8_9 (tn o8_10 (tn o8_11 (tn o8_17 (tn o8_18 (tn o8_19
 (tn o8_20 .leaf)))))) (tn o8_11 (tn o8_9 (tn o8_10 (tn o8_17 (tn o8_18 (tn o8_19 (tn o8_20 .leaf))))))))))))))))))))) (.op o8_11 (.op o8_8 (.op o8_9 (tn
 o8_10 (tn o8_12 (tn o8_13 (tn o8_14 (tn o8_15 (tn o8_16 (tn o8_17 (tn o8_18 (tn o8_19 (tn o8_20 .leaf)))))))))) (tn o8_12 (.op o8_9 (tn o8_10 (tn o8_13
 (tn o8_14 (tn o8_15 (tn o8_16 (tn o8_17 (tn o8_18 (tn o8_19 (tn o8_20 .leaf))))))))) (tn o8_13 (tn o8_14 (.op o8_9 (tn o8_10 (tn o8_15 (tn o8_16 (tn o8_17
 (tn o8_18 (tn o8_19 (tn o8_20 .leaf))))))) (tn o8_15 (.op o8_9 (tn o8_10 (tn o8_16 (tn o8_17 (tn o8_18 (tn o8_19 (tn o8_20 .leaf)))))) (tn o8_16 (tn o8_9
 (tn o8_10 (tn o8_17 (tn o8_18 (tn o8_19 (tn o8_20 .leaf))))))))))))))) (tn o8_12 (.op o8_8 (.op o8_9 (tn o8_10 (tn o8_13 (tn o8_14 (tn o8_15 (tn o8_16
 (tn o8_17 (tn o8_18 (tn o8_19 (tn o8_20 .leaf))))))))) (tn o8_13 (tn o8_14 (.op o8_9 (tn o8_10 (tn o8_15 (tn o8_16 (tn o8_17 (tn o8_18 (tn o8_19 (tn o8_20
 .leaf))))))) (tn o8_15 (.op o8_9 (tn o8_10 (tn o8_16 (tn o8_17 (tn o8_18 (tn o8_19 (tn o8_20 .leaf)))))) (tn o8_16 (tn o8_9 (tn o8_10 (tn o8_17 (tn o8_18
 (tn o8_19 (tn o8_20 .leaf))))))))))))) (tn o8_13 (tn o8_14 (.op o8_8 (.op o8_9 (tn o8_10 (tn o8_15 (tn o8_16 (tn o8_17 (tn o8_18 (tn o8_19 (tn o8_20 .leaf)))))))
 (tn o8_15 (.op o8_9 (tn o8_10 (tn o8_16 (tn o8_17 (tn o8_18 (tn o8_19 (tn o8_20 .leaf)))))) (tn o8_16 (tn o8_9 (tn o8_10 (tn o8_17 (tn o8_18 (tn o8_19
 (tn o8_20 .leaf)))))))))) (tn o8_15 (.op o8_8 (.op o8_9 (tn o8_10 (tn o8_16 (tn o8_17 (tn o8_18 (tn o8_19 (tn o8_20 .leaf)))))) (tn o8_16 (tn o8_9 (tn
 o8_10 (tn o8_17 (tn o8_18 (tn o8_19 (tn o8_20 .leaf)))))))) (tn o8_16 (tn o8_8 (tn o8_9 (tn o8_10 (tn o8_17 (tn o8_18 (tn o8_19 (tn o8_20 .leaf))))))))))))))))
 (tn o8_12 (.op o8_8 (.op o8_9 (tn o8_10 (.op o8_11 (tn o8_13 (tn o8_14 (tn o8_15 (tn o8_16 (tn o8_17 (tn o8_18 (tn o8_19 (tn o8_20 .leaf)))))))) (tn o8_13
 (tn o8_14 (.op o8_11 (tn o8_15 (tn o8_16 (tn o8_17 (tn o8_18 (tn o8_19 (tn o8_20 .leaf)))))) (tn o8_15 (.op o8_11 (tn o8_16 (tn o8_17 (tn o8_18 (tn o8_19
 (tn o8_20 .leaf))))) (tn o8_16 (tn o8_11 (tn o8_17 (tn o8_18 (tn o8_19 (tn o8_20 .leaf))))))))))))) (.op o8_11 (.op o8_9 (tn o8_10 (tn o8_13 (tn o8_14
 (tn o8_15 (tn o8_16 (tn o8_17 (tn o8_18 (tn o8_19 (tn o8_20 .leaf))))))))) (tn o8_13 (tn o8_14 (.op o8_9 (tn o8_10 (tn o8_15 (tn o8_16 (tn o8_17 (tn o8_18
 (tn o8_19 (tn o8_20 .leaf))))))) (tn o8_15 (.op o8_9 (tn o8_10 (tn o8_16 (tn o8_17 (tn o8_18 (tn o8_19 (tn o8_20 .leaf)))))) (tn o8_16 (tn o8_9 (tn o8_10
 (tn o8_17 (tn o8_18 (tn o8_19 (tn o8_20 .leaf))))))))))))) (tn o8_13 (tn o8_14 (.op o8_9 (tn o8_10 (.op o8_11 (tn o8_15 (tn o8_16 (tn o8_17 (tn o8_18 (tn
 o8_19 (tn o8_20 .leaf)))))) (tn o8_15 (.op o8_11 (tn o8_16 (tn o8_17 (tn o8_18 (tn o8_19 (tn o8_20 .leaf))))) (tn o8_16 (tn o8_11 (tn o8_17 (tn o8_18 (tn
 o8_19 (tn o8_20 .leaf)))))))))) (.op o8_11 (.op o8_9 (tn o8_10 (tn o8_15 (tn o8_16 (tn o8_17 (tn o8_18 (tn o8_19 (tn o8_20 .leaf))))))) (tn o8_15 (.op
 o8_9 (tn o8_10 (tn o8_16 (tn o8_17 (tn o8_18 (tn o8_19 (tn o8_20 .leaf)))))) (tn o8_16 (tn o8_9 (tn o8_10 (tn o8_17 (tn o8_18 (tn o8_19 (tn o8_20 .leaf))))))))))
 (tn o8_15 (.op o8_9 (tn o8_10 (.op o8_11 (tn o8_16 (tn o8_17 (tn o8_18 (tn o8_19 (tn o8_20 .leaf))))) (tn o8_16 (tn o8_11 (tn o8_17 (tn o8_18 (tn o8_19
 (tn o8_20 .leaf)))))))) (.op o8_11 (.op o8_9 (tn o8_10 (tn o8_16 (tn o8_17 (tn o8_18 (tn o8_19 (tn o8_20 .leaf)))))) (tn o8_16 (tn o8_9 (tn o8_10 (tn o8_17
 (tn o8_18 (tn o8_19 (tn o8_20 .leaf)))))))) (tn o8_16 (.op o8_9 (tn o8_10 (tn o8_11 (tn o8_17 (tn o8_18 (tn o8_19 (tn o8_20 .leaf)))))) (tn o8_11 (tn o8_9
 (tn o8_10 (tn o8_17 (tn o8_18 (tn o8_19 (tn o8_20 .leaf)))))))))))))))))) (.op o8_11 (.op o8_8 (.op o8_9 (tn o8_10 (tn o8_13 (tn o8_14 (tn o8_15 (tn o8_16
 (tn o8_17 (tn o8_18 (tn o8_19 (tn o8_20 .leaf))))))))) (tn o8_13 (tn o8_14 (.op o8_9 (tn o8_10 (tn o8_15 (tn o8_16 (tn o8_17 (tn o8_18 (tn o8_19 (tn o8_20
 .leaf))))))) (tn o8_15 (.op o8_9 (tn o8_10 (tn o8_16 (tn o8_17 (tn o8_18 (tn o8_19 (tn o8_20 .leaf)))))) (tn o8_16 (tn o8_9 (tn o8_10 (tn o8_17 (tn o8_18
 (tn o8_19 (tn o8_20 .leaf))))))))))))) (tn o8_13 (tn o8_14 (.op o8_8 (.op o8_9 (tn o8_10 (tn o8_15 (tn o8_16 (tn o8_17 (tn o8_18 (tn o8_19 (tn o8_20 .leaf)))))))
 (tn o8_15 (.op o8_9 (tn o8_10 (tn o8_16 (tn o8_17 (tn o8_18 (tn o8_19 (tn o8_20 .leaf)))))) (tn o8_16 (tn o8_9 (tn o8_10 (tn o8_17 (tn o8_18 (tn o8_19
 (tn o8_20 .leaf)))))))))) (tn o8_15 (.op o8_8 (.op o8_9 (tn o8_10 (tn o8_16 (tn o8_17 (tn o8_18 (tn o8_19 (tn o8_20 .leaf)))))) (tn o8_16 (tn o8_9 (tn
 o8_10 (tn o8_17 (tn o8_18 (tn o8_19 (tn o8_20 .leaf)))))))) (tn o8_16 (tn o8_8 (tn o8_9 (tn o8_10 (tn o8_17 (tn o8_18 (tn o8_19 (tn o8_20 .leaf))))))))))))))
 (tn o8_13 (tn o8_14 (.op o8_8 (.op o8_9 (tn o8_10 (.op o8_11 (tn o8_15 (tn o8_16 (tn o8_17 (tn o8_18 (tn o8_19 (tn o8_20 .leaf)))))) (tn o8_15 (.op o8_11
 (tn o8_16 (tn o8_17 (tn o8_18 (tn o8_19 (tn o8_20 .leaf))))) (tn o8_16 (tn o8_11 (tn o8_17 (tn o8_18 (tn o8_19 (tn o8_20 .leaf)))))))))) (.op o8_11 (.op
 o8_9 (tn o8_10 (tn o8_15 (tn o8_16 (tn o8_17 (tn o8_18 (tn o8_19 (tn o8_20 .leaf))))))) (tn o8_15 (.op o8_9 (tn o8_10 (tn o8_16 (tn o8_17 (tn o8_18 (tn
 o8_19 (tn o8_20 .leaf)))))) (tn o8_16 (tn o8_9 (tn o8_10 (tn o8_17 (tn o8_18 (tn o8_19 (tn o8_20 .leaf)))))))))) (tn o8_15 (.op o8_9 (tn o8_10 (.op o8_11
 (tn o8_16 (tn o8_17 (tn o8_18 (tn o8_19 (tn o8_20 .leaf))))) (tn o8_16 (tn o8_11 (tn o8_17 (tn o8_18 (tn o8_19 (tn o8_20 .leaf)))))))) (.op o8_11 (.op
 o8_9 (tn o8_10 (tn o8_16 (tn o8_17 (tn o8_18 (tn o8_19 (tn o8_20 .leaf)))))) (tn o8_16 (tn o8_9 (tn o8_10 (tn o8_17 (tn o8_18 (tn o8_19 (tn o8_20 .leaf))))))))
 (tn o8_16 (.op o8_9 (tn o8_10 (tn o8_11 (tn o8_17 (tn o8_18 (tn o8_19 (tn o8_20 .leaf)))))) (tn o8_11 (tn o8_9 (tn o8_10 (tn o8_17 (tn o8_18 (tn o8_19
 (tn o8_20 .leaf)))))))))))))) (.op o8_11 (.op o8_8 (.op o8_9 (tn o8_10 (tn o8_15 (tn o8_16 (tn o8_17 (tn o8_18 (tn o8_19 (tn o8_20 .leaf))))))) (tn o8_15
 (.op o8_9 (tn o8_10 (tn o8_16 (tn o8_17 (tn o8_18 (tn o8_19 (tn o8_20 .leaf)))))) (tn o8_16 (tn o8_9 (tn o8_10 (tn o8_17 (tn o8_18 (tn o8_19 (tn o8_20
 .leaf)))))))))) (tn o8_15 (.op o8_8 (.op o8_9 (tn o8_10 (tn o8_16 (tn o8_17 (tn o8_18 (tn o8_19 (tn o8_20 .leaf)))))) (tn o8_16 (tn o8_9 (tn o8_10 (tn
 o8_17 (tn o8_18 (tn o8_19 (tn o8_20 .leaf)))))))) (tn o8_16 (tn o8_8 (tn o8_9 (tn o8_10 (tn o8_17 (tn o8_18 (tn o8_19 (tn o8_20 .leaf))))))))))) (tn o8_15
 (.op o8_8 (.op o8_9 (tn o8_10 (.op o8_11 (tn o8_16 (tn o8_17 (tn o8_18 (tn o8_19 (tn o8_20 .leaf))))) (tn o8_16 (tn o8_11 (tn o8_17 (tn o8_18 (tn o8_19
 (tn o8_20 .leaf)))))))) (.op o8_11 (.op o8_9 (tn o8_10 (tn o8_16 (tn o8_17 (tn o8_18 (tn o8_19 (tn o8_20 .leaf)))))) (tn o8_16 (tn o8_9 (tn o8_10 (tn o8_17
 (tn o8_18 (tn o8_19 (tn o8_20 .leaf)))))))) (tn o8_16 (.op o8_9 (tn o8_10 (tn o8_11 (tn o8_17 (tn o8_18 (tn o8_19 (tn o8_20 .leaf)))))) (tn o8_11 (tn o8_9
 (tn o8_10 (tn o8_17 (tn o8_18 (tn o8_19 (tn o8_20 .leaf))))))))))) (.op o8_11 (.op o8_8 (.op o8_9 (tn o8_10 (tn o8_16 (tn o8_17 (tn o8_18 (tn o8_19 (tn
 o8_20 .leaf)))))) (tn o8_16 (tn o8_9 (tn o8_10 (tn o8_17 (tn o8_18 (tn o8_19 (tn o8_20 .leaf)))))))) (tn o8_16 (tn o8_8 (tn o8_9 (tn o8_10 (tn o8_17 (tn
 o8_18 (tn o8_19 (tn o8_20 .leaf))))))))) (tn o8_16 (.op o8_8 (.op o8_9 (tn o8_10 (tn o8_11 (tn o8_17 (tn o8_18 (tn o8_19 (tn o8_20 .leaf)))))) (tn o8_11
 (tn o8_9 (tn o8_10 (tn o8_17 (tn o8_18 (tn o8_19 (tn o8_20 .leaf)))))))) (tn o8_11 (tn o8_8 (tn o8_9 (tn o8_10 (tn o8_17 (tn o8_18 (tn o8_19 (tn o8_20
 .leaf)))))))))))))))))))))))))))))))))))
  (.reg [⟨(some 71), none, .v (.mov (.t 9))⟩,
   ⟨(some 72), none, .v (.bin .add (.t 71) (.c (.int .i64 (1))))⟩,
   ⟨(some 9), none, .v (.mov (.t 72))⟩]))))))
 (.seq (.seq (.reg [⟨(some 10), none, .v (.mov (.c (.int .i64 (0))))⟩])
 (.block 2 (.loop
  (.seq (.seq (.reg [⟨(some 95), none, .v (.mov (.t 10))⟩,
   ⟨(some 96), none, .v (.mov (.t 1))⟩,
   ⟨(some 97), none, .v (.len (.t 96))⟩,
   ⟨(some 98), none, .v (.bin .lss (.t 95) (.t 97))⟩])
  (.cond (.t 98)
   .skip
   (.exit 2)))
  (.seq (.block 3 (.seq (.drw [(0, ⟨(some 101), none, .v (.mov (.t 1))⟩, false),
   (1, ⟨(some 102), none, .v (.mov (.t 10))⟩, false),
   (2, ⟨(some 103), none, .v (.ixa (.t 101) (.t 102) 2)⟩, false),
   (3, ⟨(some 104), none, .v (.off (.t 103) 0)⟩, false),
   (4, ⟨(some 105), none, .v (.load (.t 104) none)⟩, false),
   (5, ⟨(some 106), none, .v (.mov (.t 1))⟩, false),
   (6, ⟨(some 107), none, .v (.mov (.t 10))⟩, false),
   (7, ⟨(some 108), none, .v (.ixa (.t 106) (.t 107) 2)⟩, false),
   (8, ⟨(some 109), none, .v (.off (.t 108) 0)⟩, false),
   (9, ⟨(some 110), none, .v (.load (.t 109) none)⟩, false),
   (10, ⟨(some 11), none, .v (.mov (.t 105))⟩, false)]
   none
   [⟨(some 12), none, .v (.mov (.t 110))⟩])
  (.seq (.seq (.reg [⟨(some 111), none, .v (.mov (.t 1))⟩,
   ⟨(some 112), none, .v (.mov (.t 10))⟩,
   ⟨(some 113), none, .v (.ixa (.t 111) (.t 112) 2)⟩,
   ⟨(some 114), none, .v (.off (.t 113) 0)⟩,
   ⟨(some 115), none, .v (.load (.t 114) none)⟩,
   ⟨(some 13), none, .v (.mov (.t 115))⟩])
  (.block 4 (.loop
   (.seq (.seq (.reg [⟨(some 116), none, .v (.mov (.t 13))⟩,
    ⟨(some 117), none, .v (.mov (.t 1))⟩,
    ⟨(some 118), none, .v (.mov (.t 10))⟩,
    ⟨(some 119), none, .v (.ixa (.t 117) (.t 118) 2)⟩,
    ⟨(some 120), none, .v (.off (.t 119) 1)⟩,
    ⟨(some 121), none, .v (.load (.t 120) none)⟩,
    ⟨(some 122), none, .v (.bin .leq (.t 116) (.t 121))⟩])
   (.cond (.t 122)
    .skip
    (.exit 4)))
   (.seq (.block 5 (.seq (.reg [⟨(some 126), none, .v (.load (.t 2) (some 6))⟩,
    ⟨(some 127), none, .v (.mov (.t 13))⟩,
    ⟨(some 128), none, .v (.mov (.t 10))⟩,
    ⟨(some 129), none, .call (.c (.fn 14 [])) [(.t 126), (.t 127), (.t 128)]⟩,
    ⟨(some 125), none, .v (.mov (.t 129))⟩,
    ⟨(some 130), none, .v (.ext (.t 125) 0)⟩,
    ⟨(some 131), none, .v (.ext (.t 125) 1)⟩,
    ⟨(some 14), none, .new 25 [(.int .i64 (0)), (.int .i64 (0))]⟩,
    ⟨none, none, .store 2 (.t 14) (.t 130)⟩,
    ⟨(some 15), none, .v (.mov (.t 131))⟩])
   (.seq (.reg [⟨(some 133), none, .v (.load (.t 2) (some 6))⟩,
    ⟨(some 134), none, .v (.mov (.t 11))⟩,
    ⟨(some 135), none, .v (.mov (.t 10))⟩,
    ⟨(some 136), none, .call (.c (.fn 14 [])) [(.t 133), (.t 134), (.t 135)]⟩,
    ⟨(some 132), none, .v (.mov (.t 136))⟩,
    ⟨(some 137), none, .v (.ext (.t 132) 0)⟩,
    ⟨(some 138), none, .v (.ext (.t 132) 1)⟩,
    ⟨(some 16), none, .new 25 [(.int .i64 (0)), (.int .i64 (0))]⟩,
    ⟨none, none, .store 2 (.t 16) (.t 137)⟩,
    ⟨(some 17), none, .v (.mov (.t 138))⟩])
   (.seq (.reg [⟨(some 140), none, .v (.load (.t 2) (some 6))⟩,
    ⟨(some 141), none, .v (.mov (.t 12))⟩,
    ⟨(some 142), none, .v (.mov (.t 10))⟩,
    ⟨(some 143), none, .call (.c (.fn 14 [])) [(.t 140), (.t 141), (.t 142)]⟩,
    ⟨(some 139), none, .v (.mov (.t 143))⟩,
    ⟨(some 144), none, .v (.ext (.t 139) 0)⟩,
    ⟨(some 145), none, .v (.ext (.t 139) 1)⟩,
    ⟨(some 18), none, .new 25 [(.int .i64 (0)), (.int .i64 (0))]⟩,
    ⟨none, none, .store 2 (.t 18) (.t 144)⟩,
    ⟨(some 19), none, .v (.mov (.t 145))⟩])
   (.seq (.seq (.reg [⟨(some 146), none, .v (.mov (.t 15))⟩,
    ⟨(some 147), none, .v (.bin .neq (.t 146) (.c (.int .i64 (0))))⟩,
    ⟨(some 148), none, .v (.mov (.t 147))⟩,
    ⟨(some 149), (some (148, false)), .v (.mov (.t 17))⟩,
    ⟨(some 150), (some (148, false)), .v (.bin .neq (.t 149) (.c (.int .i64 (0))))⟩,
    ⟨(some 151), none, .v (.pick (.t 148) (.c (.lit (.bool true))) (.t 150))⟩,
    ⟨(some 152), none, .v (.mov (.t 151))⟩,
    ⟨(some 153), (some (152, false)), .v (.mov (.t 19))⟩,
    ⟨(some 154), (some (152, false)), .v (.bin .neq (.t 153) (.c (.int .i64 (0))))⟩,
    ⟨(some 155), none, .v (.pick (.t 152) (.c (.lit (.bool true))) (.t 154))⟩])
   (.cond (.t 155)
    (.seq (.reg [o8_0])
    .ret)
    .skip))
   (.seq (.seq (.reg [⟨(some 156), none, .v (.off (.t 14) 0)⟩,
    ⟨(some 157), none, .v (.load (.t 156) none)⟩,
    ⟨(some 158), none, .v (.off (.t 16) 0)⟩,
    ⟨(some 159), none, .v (.load (.t 158) none)⟩,
    ⟨(some 160), none, .v (.bin .lss (.t 157) (.t 159))⟩])
   (.cond (.t 160)
    (.reg [⟨(some 161), none, .v (.mov (.t 13))⟩,
     ⟨(some 11), none, .v (.mov (.t 161))⟩])
    .skip))
   (.seq (.reg [⟨(some 162), none, .v (.off (.t 14) 1)⟩,
    ⟨(some 163), none, .v (.load (.t 162) none)⟩,
    ⟨(some 164), none, .v (.off (.t 18) 1)⟩,
    ⟨(some 165), none, .v (.load (.t 164) none)⟩,
    ⟨(some 166), none, .v (.bin .gtr (.t 163) (.t 165))⟩])
   (.cond (.t 166)
    (.reg [⟨(some 167), none, .v (.mov (.t 13))⟩,
     ⟨(some 12), none, .v (.mov (.t 167))⟩])
    .skip))))))))
   (.reg [⟨(some 123), none, .v (.mov (.t 13))⟩,
    ⟨(some 124), none, .v (.bin .add (.t 123) (.c (.int .i64 (1))))⟩,
    ⟨(some 13), none, .v (.mov (.t 124))⟩]))))))
  (.tre (tn ⟨(some 168), none, .v (.off (.t 7) 3)⟩ (tn ⟨(some 169), none, .v (.load (.t 168) none)⟩ (tn ⟨(some 170), none, .v (.mov (.t 11))⟩ (tn ⟨(some
 173), none, .v (.off (.t 8) 3)⟩ (tn ⟨(some 175), none, .v (.mov (.t 12))⟩ (.op o8_21 (.op o8_22 (tn o8_23 (.op o8_24 (tn o8_25 (tn o8_26 (tn o8_27 (tn
 o8_28 (tn o8_29 .leaf))))) (tn o8_25 (tn o8_24 (tn o8_26 (tn o8_27 (tn o8_28 (tn o8_29 .leaf)))))))) (.op o8_24 (.op o8_22 (tn o8_23 (tn o8_25 (tn o8_26
 (tn o8_27 (tn o8_28 (tn o8_29 .leaf)))))) (tn o8_25 (tn o8_22 (tn o8_23 (tn o8_26 (tn o8_27 (tn o8_28 (tn o8_29 .leaf)))))))) (tn o8_25 (.op o8_22 (tn
 o8_23 (tn o8_24 (tn o8_26 (tn o8_27 (tn o8_28 (tn o8_29 .leaf)))))) (tn o8_24 (tn o8_22 (tn o8_23 (tn o8_26 (tn o8_27 (tn o8_28 (tn o8_29 .leaf)))))))))))
 (.op o8_24 (.op o8_21 (.op o8_22 (tn o8_23 (tn o8_25 (tn o8_26 (tn o8_27 (tn o8_28 (tn o8_29 .leaf)))))) (tn o8_25 (tn o8_22 (tn o8_23 (tn o8_26 (tn o8_27
 (tn o8_28 (tn o8_29 .leaf)))))))) (tn o8_25 (tn o8_21 (tn o8_22 (tn o8_23 (tn o8_26 (tn o8_27 (tn o8_28 (tn o8_29 .leaf))))))))) (tn o8_25 (.op o8_21 (.op
 o8_22 (tn o8_23 (tn o8_24 (tn o8_26 (tn o8_27 (tn o8_28 (tn o8_29 .leaf)))))) (tn o8_24 (tn o8_22 (tn o8_23 (tn o8_26 (tn o8_27 (tn o8_28 (tn o8_29 .leaf))))))))
 (tn o8_24 (tn o8_21 (tn o8_22 (tn o8_23 (tn o8_26 (tn o8_27 (tn o8_28 (tn o8_29 .leaf)))))))))))))))))))))
  (.reg [⟨(some 99), none, .v (.mov (.t 10))⟩,
   ⟨(some 100), none, .v (.bin .add (.t 99) (.c (.int .i64 (1))))⟩,
   ⟨(some 10), none, .v (.mov (.t 100))⟩]))))))
 (.seq (.reg [⟨(some 181), none, .v (.load (.t 2) (some 6))⟩,
  ⟨(some 182), none, .v (.mov (.t 1))⟩,
  ⟨(some 183), none, .v (.load (.t 7) (some 4))⟩,
  ⟨(some 184), none, .call (.c (.fn 22 [])) [(.t 181), (.t 182), (.t 183)]⟩,
  ⟨(some 180), none, .v (.mov (.t 184))⟩,
  ⟨(some 185), none, .v (.ext (.t 180) 0)⟩,
  ⟨(some 186), none, .v (.ext (.t 180) 1)⟩,
  ⟨(some 20), none, .v (.mov (.t 185))⟩,
  ⟨(some 6), none, .v (.mov (.t 186))⟩])
 (.seq (.reg [⟨(some 188), none, .v (.load (.t 2) (some 6))⟩,
  ⟨(some 189), none, .v (.mov (.t 1))⟩,
  ⟨(some 190), none, .v (.load (.t 8) (some 4))⟩,
  ⟨(some 191), none, .call (.c (.fn 22 [])) [(.t 188), (.t 189), (.t 190)]⟩,
  ⟨(some 187), none, .v (.mov (.t 191))⟩,
  ⟨(some 192), none, .v (.ext (.t 187) 0)⟩,
  ⟨(some 193), none, .v (.ext (.t 187) 1)⟩,
  ⟨(some 21), none, .v (.mov (.t 192))⟩,
  ⟨(some 22), none, .v (.mov (.t 193))⟩])
 (.seq (.seq (.reg [⟨(some 194), none, .v (.mov (.t 6))⟩,
  ⟨(some 195), none, .v (.bin .neq (.t 194) (.c (.int .i64 (0))))⟩,
  ⟨(some 196), none, .v (.mov (.t 195))⟩,
  ⟨(some 197), (some (196, false)), .v (.mov (.t 22))⟩,
  ⟨(some 198), (some (196, false)), .v (.bin .neq (.t 197) (.c (.int .i64 (0))))⟩,
  ⟨(some 199), none, .v (.pick (.t 196) (.c (.lit (.bool true))) (.t 198))⟩,
  ⟨(some 200), none, .v (.mov (.t 199))⟩,
  ⟨(some 201), (some (200, false)), .v (.mov (.t 20))⟩,
  ⟨(some 202), (some (200, false)), .v (.len (.t 201))⟩,
  ⟨(some 203), (some (200, false)), .v (.mov (.t 5))⟩,
  ⟨(some 204), (some (200, false)), .v (.len (.t 203))⟩,
  ⟨(some 205), (some (200, false)), .v (.bin .neq (.t 202) (.t 204))⟩,
  ⟨(some 206), none, .v (.pick (.t 200) (.c (.lit (.bool true))) (.t 205))⟩,
  ⟨(some 207), none, .v (.mov (.t 206))⟩,
  ⟨(some 208), (some (207, false)), .v (.mov (.t 21))⟩,
  ⟨(some 209), (some (207, false)), .v (.len (.t 208))⟩,
  ⟨(some 210), (some (207, false)), .v (.mov (.t 5))⟩,
  ⟨(some 211), (some (207, false)), .v (.len (.t 210))⟩,
  ⟨(some 212), (some (207, false)), .v (.bin .neq (.t 209) (.t 211))⟩,
  ⟨(some 213), none, .v (.pick (.t 207) (.c (.lit (.bool true))) (.t 212))⟩])
 (.cond (.t 213)
  (.seq (.reg [o8_0])
  .ret)
  .skip))
 (.seq (.seq (.reg [⟨(some 23), none, .v (.mov (.c (.int .i64 (0))))⟩])
 (.block 6 (.loop
  (.seq (.seq (.reg [⟨(some 214), none, .v (.mov (.t 23))⟩,
   ⟨(some 215), none, .v (.mov (.t 5))⟩,
   ⟨(some 216), none, .v (.len (.t 215))⟩,
   ⟨(some 217), none, .v (.bin .lss (.t 214) (.t 216))⟩])
  (.cond (.t 217)
   .skip
   (.exit 6)))
  (.seq (.block 7 (.seq (.drw [(0, ⟨(some 220), none, .v (.mov (.t 5))⟩, false),
   (1, ⟨(some 221), none, .v (.mov (.t 23))⟩, false),
   (2, ⟨(some 222), none, .v (.ixa (.t 220) (.t 221) 2)⟩, false),
   (3, ⟨(some 223), none, .v (.load (.t 222) (some 2))⟩, false),
   (4, ⟨(some 224), none, .v (.mov (.t 20))⟩, false),
   (5, ⟨(some 225), none, .v (.mov (.t 23))⟩, false),
   (6, ⟨(some 226), none, .v (.ixa (.t 224) (.t 225) 1)⟩, false),
   (7, ⟨(some 227), none, .v (.load (.t 226) none)⟩, false),
   (8, ⟨(some 228), none, .v (.mov (.t 21))⟩, false),
   (9, ⟨(some 229), none, .v (.mov (.t 23))⟩, false),
   (10, ⟨(some 230), none, .v (.ixa (.t 228) (.t 229) 1)⟩, false),
   (11, ⟨(some 231), none, .v (.load (.t 230) none)⟩, false),
   (12, ⟨(some 232), none, .call (.c (.fn 34 [])) [(.t 227), (.t 231)]⟩, false)]
   none
   [⟨(some 233), none, .v (.eqs [(some .i64), (some .i64)] true (.t 223) (.t 232))⟩])
  (.cond (.t 233)
   (.seq (.reg [o8_0])
   .ret)
   .skip)))
  (.reg [⟨(some 218), none, .v (.mov (.t 23))⟩,
   ⟨(some 219), none, .v (.bin .add (.t 218) (.c (.int .i64 (1))))⟩,
   ⟨(some 23), none, .v (.mov (.t 219))⟩]))))))
 (.seq (.reg [⟨(some 234), none, .call (.c (.fn 21 [])) []⟩,
  ⟨(some 4), none, .v (.mov (.t 234))⟩])
 .ret)))))))))))
def r8 : List RV := [.t 4]
theorem k8 : (Tryz.f8.body.bind (cC Tryz.prog), cR Tryz.prog Tryz.f8.results.toList, Tryz.f8.ntmps) = (some s8, some r8, 235) := by kernel_rfl
def cld (h : Int → Int) (x : Int) : Nat → Int
 | 0 => x
 | k + 1 => if h (x + k) < h (cld h x k) then x + k else cld h x k
def wrm (h : Int → Int) (x : Int) : Nat → Int
 | 0 => x
 | k + 1 => if h (wrm h x k) < h (x + k) then x + k else wrm h x k
theorem cld_in {h : Int → Int} {x : Int} : ∀ n : Nat, (x ≤ cld h x (n + 1) ∧ cld h x (n + 1) ≤ x + n) ∧ ∀ k : Nat, k < n + 1 → h (cld h x (n + 1)) ≤ h (x + k)
 | 0 => by
  have e : cld h x (0 + 1) = x := by simp [cld]
  rw [e]
  refine ⟨by omega, fun k hk => ?_⟩
  have : k = 0 := by omega
  subst this
  simp
 | n + 1 => by
  obtain ⟨h1, h2⟩ := cld_in (h := h) (x := x) n
  have e : cld h x (n + 1 + 1) = if h (x + (n + 1 : Nat)) < h (cld h x (n + 1)) then x + (n + 1 : Nat) else cld h x (n + 1) := rfl
  rw [e]
  by_cases hc : h (x + (n + 1 : Nat)) < h (cld h x (n + 1))
  ·rw [if_pos hc]
   refine ⟨by omega, fun k hk => ?_⟩
   by_cases hk2 : k < n + 1
   ·have := h2 k hk2; omega
   ·have : k = n + 1 := by omega
    subst this; omega
  ·rw [if_neg hc]
   refine ⟨by omega, fun k hk => ?_⟩
   by_cases hk2 : k < n + 1
   ·exact h2 k hk2
   ·have : k = n + 1 := by omega
    subst this; omega
theorem wrm_in {h : Int → Int} {x : Int} : ∀ n : Nat, (x ≤ wrm h x (n + 1) ∧ wrm h x (n + 1) ≤ x + n) ∧ ∀ k : Nat, k < n + 1 → h (x + k) ≤ h (wrm h x (n + 1))
 | 0 => by
  have e : wrm h x (0 + 1) = x := by simp [wrm]
  rw [e]
  refine ⟨by omega, fun k hk => ?_⟩
  have : k = 0 := by omega
  subst this
  simp
 | n + 1 => by
  obtain ⟨h1, h2⟩ := wrm_in (h := h) (x := x) n
  have e : wrm h x (n + 1 + 1) = if h (wrm h x (n + 1)) < h (x + (n + 1 : Nat)) then x + (n + 1 : Nat) else wrm h x (n + 1) := rfl
  rw [e]
  by_cases hc : h (wrm h x (n + 1)) < h (x + (n + 1 : Nat))
  ·rw [if_pos hc]
   refine ⟨by omega, fun k hk => ?_⟩
   by_cases hk2 : k < n + 1
   ·have := h2 k hk2; omega
   ·have : k = n + 1 := by omega
    subst this; omega
  ·rw [if_neg hc]
   refine ⟨by omega, fun k hk => ?_⟩
   by_cases hk2 : k < n + 1
   ·exact h2 k hk2
   ·have : k = n + 1 := by omega
    subst this; omega
theorem mnF_at {h : Int → Int} : ∀ (n : Nat) (x : Int), (∃ k : Nat, k ≤ n ∧ mnF h x n = h (x + k)) ∧ ∃ k : Nat, k ≤ n ∧ mxF h x n = h (x + k)
 | 0, x => ⟨⟨0, Nat.le_refl _, by simp [mnF]⟩, 0, Nat.le_refl _, by simp [mxF]⟩
 | n + 1, x => by
  obtain ⟨⟨k, hk, e⟩, j, hj, g⟩ := mnF_at n x
  simp only [mnF, mxF]
  refine ⟨?_, ?_⟩
  ·split
   ·exact ⟨n + 1, Nat.le_refl _, by congr 1; omega⟩
   ·exact ⟨k, by omega, e⟩
  ·split
   ·exact ⟨n + 1, Nat.le_refl _, by congr 1; omega⟩
   ·exact ⟨j, by omega, g⟩
def cdT (c : Ck) (D : List (Int × Int)) (i : Nat) : Int := cld (fun z => rte c.T c.R c.a c.b 101 z i) (lo D i) ((hi D i - lo D i).toNat + 1)
def wmT (c : Ck) (D : List (Int × Int)) (i : Nat) : Int := wrm (fun z => rte c.T c.R c.a c.b 102 z i) (lo D i) ((hi D i - lo D i).toNat + 1)
theorem cd_in {c : Ck} {D : List (Int × Int)} {i : Nat} (h : lo D i ≤ hi D i) : (lo D i ≤ cdT c D i ∧ cdT c D i ≤ hi D i) ∧ gain c.T c.R c.a c.b 101 i (lo D i) (hi D i) = rte c.T c.R c.a c.b 101 (cdT c D i) i := by
 obtain ⟨h1, h2⟩ := cld_in (h := fun z => rte c.T c.R c.a c.b 101 z i) (x := lo D i) (hi D i - lo D i).toNat
 have hb : lo D i ≤ cdT c D i ∧ cdT c D i ≤ hi D i := ⟨h1.1, by have := h1.2; unfold cdT; omega⟩
 refine ⟨hb, ?_⟩
 obtain ⟨⟨k, hk, e⟩, -⟩ := mnF_at (h := fun z => itp c.T (endsL 101 c.R) z + sel 101 (c.a, c.b) * i) (hi D i - lo D i).toNat (lo D i)
 have e1 : gain c.T c.R c.a c.b 101 i (lo D i) (hi D i) = rte c.T c.R c.a c.b 101 (lo D i + k) i := e
 have g := (gain_le (T := c.T) (R := c.R) (a := c.a) (b := c.b) (d := i) hb.1 hb.2).1
 have := h2 k (by omega)
 have e2 : cld (fun z => rte c.T c.R c.a c.b 101 z i) (lo D i) ((hi D i - lo D i).toNat + 1) = cdT c D i := rfl
 rw [e2] at this
 omega
theorem wm_in {c : Ck} {D : List (Int × Int)} {i : Nat} (h : lo D i ≤ hi D i) : (lo D i ≤ wmT c D i ∧ wmT c D i ≤ hi D i) ∧ gain c.T c.R c.a c.b 102 i (lo D i) (hi D i) = rte c.T c.R c.a c.b 102 (wmT c D i) i := by
 obtain ⟨h1, h2⟩ := wrm_in (h := fun z => rte c.T c.R c.a c.b 102 z i) (x := lo D i) (hi D i - lo D i).toNat
 have hb : lo D i ≤ wmT c D i ∧ wmT c D i ≤ hi D i := ⟨h1.1, by have := h1.2; unfold wmT; omega⟩
 refine ⟨hb, ?_⟩
 obtain ⟨-, k, hk, e⟩ := mnF_at (h := fun z => itp c.T (endsL 102 c.R) z + sel 102 (c.a, c.b) * i) (hi D i - lo D i).toNat (lo D i)
 have e1 : gain c.T c.R c.a c.b 102 i (lo D i) (hi D i) = rte c.T c.R c.a c.b 102 (lo D i + k) i := e
 have g := (gain_le (T := c.T) (R := c.R) (a := c.a) (b := c.b) (d := i) hb.1 hb.2).2
 have := h2 k (by omega)
 have e2 : wrm (fun z => rte c.T c.R c.a c.b 102 z i) (lo D i) ((hi D i - lo D i).toNat + 1) = wmT c D i := rfl
 rw [e2] at this
 omega
def cdL (c : Ck) (D : List (Int × Int)) (n : Nat) : List Int := (List.range n).map fun i => cdT c D i
def wmL (c : Ck) (D : List (Int × Int)) (n : Nat) : List Int := (List.range n).map fun i => wmT c D i
theorem cdL_len {c : Ck} {D : List (Int × Int)} {n : Nat} : (cdL c D n).length = n := by simp [cdL]
theorem wmL_len {c : Ck} {D : List (Int × Int)} {n : Nat} : (wmL c D n).length = n := by simp [wmL]
theorem cdL_snoc {c : Ck} {D : List (Int × Int)} {n : Nat} : cdL c D (n + 1) = cdL c D n ++ [cdT c D n] := by simp [cdL, List.range_succ]
theorem wmL_snoc {c : Ck} {D : List (Int × Int)} {n : Nat} : wmL c D (n + 1) = wmL c D n ++ [wmT c D n] := by simp [wmL, List.range_succ]
theorem cdL_get {c : Ck} {D : List (Int × Int)} {n i : Nat} (h : i < n) : (cdL c D n).getD i 0 = cdT c D i := by simp [cdL, List.getD, h]
theorem wmL_get {c : Ck} {D : List (Int × Int)} {n i : Nat} (h : i < n) : (wmL c D n).getD i 0 = wmT c D i := by simp [wmL, List.getD, h]
def lowT (c : Ck) (D : List (Int × Int)) : Tr := ⟨endsL 101 c.R, c.a, c.e, cdL c D D.length⟩
def higT (c : Ck) (D : List (Int × Int)) : Tr := ⟨endsL 102 c.R, c.b, c.g, wmL c D D.length⟩
theorem low_tru {c : Ck} {D : List (Int × Int)} (hok : c.ok) (hv : voy c D) : truT c D (lowT c D) ∧ truT c D (higT c D) := by
 have h1 := hok.2.1.1.2
 have h2 := hok.2.2.1.2
 refine ⟨⟨⟨ends_len, fun i hi' => ?_⟩, ⟨Int.le_refl _, h1⟩, ⟨Int.le_refl _, h2⟩, cdL_len, fun i hi' => ?_⟩, ⟨⟨ends_len, fun i hi' => ?_⟩, ⟨h1, Int.le_refl _⟩, ⟨h2, Int.le_refl _⟩, wmL_len, fun i hi' => ?_⟩⟩
 ·simp only [lowT]
  rw [ends_getD (by omega)]
  have := (all_get hok.1.2.2.2 hi').1.2
  unfold lo hi at *
  simp only [sel, ↓reduceIte]
  omega
 ·simp only [lowT]
  rw [cdL_get hi']
  exact (cd_in (all_get hv.2 hi').1.2).1
 ·simp only [higT]
  rw [ends_getD (by omega)]
  have := (all_get hok.1.2.2.2 hi').1.2
  unfold lo hi at *
  have s2 : ∀ p : Int × Int, sel 102 p = p.2 := fun _ => rfl
  rw [s2]
  omega
 ·simp only [higT]
  rw [wmL_get hi']
  exact (wm_in (all_get hv.2 hi').1.2).1
theorem low_con {c : Ck} {D : List (Int × Int)} (hv : voy c D) : ∀ k, k ≤ D.length → errS c.T (lowT c D) k = conS c.T c.R c.a c.b c.e c.g 101 D k ∧ errS c.T (higT c D) k = conS c.T c.R c.a c.b c.e c.g 102 D k
 | 0, _ => ⟨rfl, rfl⟩
 | k + 1, hk => by
  obtain ⟨h1, h2⟩ := low_con hv k (by omega)
  have hd := (all_get hv.2 (i := k) (by omega)).1.2
  have g1 := (cd_in (c := c) hd).2
  have g2 := (wm_in (c := c) hd).2
  simp only [errS, conS]
  rw [h1, h2, g1, g2]
  have e1 : (lowT c D).T.getD k 0 = cdT c D k := cdL_get (by omega)
  have e2 : (higT c D).T.getD k 0 = wmT c D k := wmL_get (by omega)
  rw [e1, e2]
  exact ⟨rfl, rfl⟩
theorem cld_rng {h : Int → Int} {x : Int} : ∀ m : Nat, x ≤ cld h x m ∧ (cld h x m ≤ x ∨ cld h x m < x + m)
 | 0 => ⟨Int.le_refl _, .inl (Int.le_refl _)⟩
 | m + 1 => by have := (cld_in (h := h) (x := x) m).1; exact ⟨this.1, .inr (by omega)⟩
theorem wrm_rng {h : Int → Int} {x : Int} : ∀ m : Nat, x ≤ wrm h x m ∧ (wrm h x m ≤ x ∨ wrm h x m < x + m)
 | 0 => ⟨Int.le_refl _, .inl (Int.le_refl _)⟩
 | m + 1 => by have := (wrm_in (h := h) (x := x) m).1; exact ⟨this.1, .inr (by omega)⟩
def Fto : FC := fun args => match args with
 | [.int .i64 a, .int .i64 b] => some (True, .agg [.int .i64 a, .int .i64 b])
 | _ => none
theorem p34 : PureOk Tryz.prog 34 (fcC Fto) := by
 refine pure_of (T := []) trivial Tryz.func34 k34 ?_
 intro args K hC
 unfold fcC Fto at hC
 split at hC <;> first | (exact hC.elim) | skip
 rename_i h
 split at h <;> first | (cases h; done) | skip
 cases h
 simp only [↓reduceIte, e_reg, and_self, e_seq, e_ret, o_nil, o_cons, gd_none, putK_e, runK_e, vK_e, bldK_e, storeK3_e, storeK2_e, storeK_e, evh_v, evh_new, evh_bld, evh_store, seqK_n, ends_r, endK1_e, endK2_e, evp, gt, st, putf, X.get, getp, mkfr, rep, rdR, tupled, clV, clL, clS, clo, ld, tk, dr, sp, sp.spl, lay, ll, cs1, one, allOne, gb, sb, pb, ln, undef, Bool.and_true, Nat.reduceSub, Nat.reduceAdd, beq_self_eq_true, true_and, s34, r34]
 exact res hC.2 (by simp [leR, leR.leRs])
def C8 : PC := fun args K => ∃ (c : Ck) (D : List (Int × Int)), args = [c.sv, .rd 2 D.length (rowsS D)] ∧ K (.lit (.bool true))
set_option maxHeartbeats 4000000 in
set_option pp.maxSteps 300000 in
set_option pp.deepTerms true in
theorem p8 (p21 : PureOk Tryz.prog 21 (fcC F21)) (q21 : Known Tryz.prog 21) : PureOk Tryz.prog 8 C8 := by
 refine pure_of (T := [(18, .pc C18), (31, .pc C31), (14, .pc C14), (22, .pc C22), (34, .fc Fto), (21, .fc F21)]) ⟨⟨p18, q18⟩, ⟨p31, q31⟩, ⟨p14, q14⟩, ⟨p22, q22⟩, ⟨p34, q34⟩, ⟨p21, q21⟩, trivial⟩ Tryz.func8 k8 ?_
 rintro args K ⟨c, D, rfl, hK⟩
 have hsv : c.sv = .agg [.ints .i64 c.T, .rd 2 c.R.length (rowsS c.R), .int .i64 c.a, .int .i64 c.b, .int .i64 c.e, .int .i64 c.g] := rfl
 have h70 : ((70 : Int) = 0) = False := by simp
 have h71 : ((71 : Int) = 0) = False := by simp
 rw [hsv]
 simp only [e_reg, e_seq, o_nil, o_cons, gd_none, putK_e, runK_e, vK_e, boxK_e, conK_e, callK_e, evh_v, evh_box, evh_call, seqK_n, gam_e, gamK_p, pc_e, pcK_e, evp, gt, st, putf, X.get, gets, ap, mkfr, rep, clV, clL, clS, clo, ld, lda, tk, dr, cs1, gb, pb, ln, lk, undef, Nat.reduceSub, beq_self_eq_true, true_and, s8, r8, tn, o8_0, o8_1, o8_2, o8_3, o8_4, o8_5, o8_6, o8_7, o8_8, o8_9, o8_10, o8_11, o8_12, o8_13, o8_14, o8_15, o8_16, o8_17, o8_18, o8_19, o8_20, o8_21, o8_22, o8_23, o8_24, o8_25, o8_26, o8_27, o8_28, o8_29]
 refine ⟨c, D, rfl, ?_⟩
 by_cases hcv : c.ok ∧ voy c D
 ·obtain ⟨hok, hv⟩ := hcv
  have h1 : askE c D = 0 := by simp [askE, hok, hv]
  have h2 : cnR c D = cnP c D D.length := if_pos ⟨hok, hv⟩
  have hvl := hv.1
  have h3 : decide c.ok = true := decide_eq_true hok
  have h4 : (60 < (D.length : Int)) = False := by simp; omega
  have h5 := hok.2.1
  have h6 := hok.2.2
  have hRl := hok.1.2.2.1
  have hR := hok.1.1
  have hdat := c.dat hv
  have hT0 := (c.eo hok (w := 101) (.inl rfl)).tb.b 0
  have hT1 := (c.eo hok (w := 101) (.inl rfl)).tb.b (c.T.length - 1)
  simp only [gdK_bff, decide_true, e_reg, e_seq, o_nil, o_cons, gd_none, gd_some, gdK_ff, putK_e, runK_e, vK_e, conK_e, callK_e, evh_v, evh_call, seqK_n, gam_e, gamK_p, pc_e, pcK_e, evp, bin, gt, gq, st, putf, X.get, gets, ap, clV, clL, clS, clo, ld, lda, tk, dr, gb, lk, Bool.not_true, Nat.reduceBEq, beq_self_eq_true, true_and, h1, h2]
  refine ⟨c, rfl, ?_⟩
  simp only [gdK_bff, condK_bf, decide_false, ↓reduceIte, e_skip, e_reg, e_tre, t_leaf, t_stop, t_op, and_self, e_seq, e_cond, e_block, e_loop, o_nil, o_cons, gd_none, gd_some, gdK_ff, putK_e, runK_e, vK_e, bldK_e, storeK3_e, storeK2_e, storeK_e, evh_v, evh_new, evh_bld, evh_store, seqK_n, evp, bin, gt, gq, st, putf, X.get, getp, ld, lda, lens, sp, sp.spl, lay, ll, cs1, one, allOne, gb, sb, pb, ln, Value.oneCell', Bool.and_true, Bool.not_true, Nat.reduceAdd, beq_self_eq_true, true_and, and_true, h3, h4]
  refine ⟨?_, ?_⟩
  all_goals
   first
   | (refine loop_at2 (G := Nat) (fun i => [(9, .int .i64 i)]) (fun i => [.box 27 [.ints .i64 c.T, .rd 2 c.R.length (rowsS c.R), .int .i64 c.a, .int .i64 c.b, .int .i64 c.e, .int .i64 c.g], .box 39 [.own 3, .int .i64 c.a, .int .i64 c.e, .lit (.slice none 0 0)], .box 39 [.own 4, .int .i64 c.b, .int .i64 c.g, .lit (.slice none 0 0)], .oi .i64 3 (endsL 101 (c.R.take i)), .oi .i64 3 (endsL 102 (c.R.take i))]) (fun i => i ≤ c.R.length) (fun i => c.R.length - i) 0 (Nat.zero_le _) ?_; (intro fr1 hf1; simp only [forget, dstC, dstT, dstO, dst1, st] at hf1; subst hf1); refine ⟨?_, ?_⟩; focus (refine Lw_re 3 [none, none] (Nat.zero_le _) (by simp [ln]) (by simp [ln]) rfl ?_ ?_ <;> (simp only [reL, reX, reH, reB, reN, newB, rn, List.getElem?_cons_zero, List.getElem?_cons_succ, Nat.reduceSub, Nat.reduceLeDiff, Nat.lt_irrefl, Nat.le_refl, reduceCtorEq, or_true, inb, inb.inbs, ln, sts, st, Bool.and_self, Nat.reduceLT, Nat.reduceAdd, decide_true, true_and, and_true, and_self, Int.natCast_zero, implies_true, List.take_zero, endsL, List.map_nil]; done)))
   | (refine loop_at2 (G := Nat) (fun i => [(9, .int .i64 i)]) (fun i => [.box 27 [.ints .i64 c.T, .rd 2 c.R.length (rowsS c.R), .int .i64 c.a, .int .i64 c.b, .int .i64 c.e, .int .i64 c.g], .box 39 [.own 4, .int .i64 c.b, .int .i64 c.g, .lit (.slice none 0 0)], .box 39 [.own 3, .int .i64 c.a, .int .i64 c.e, .lit (.slice none 0 0)], .oi .i64 3 (endsL 101 (c.R.take i)), .oi .i64 3 (endsL 102 (c.R.take i))]) (fun i => i ≤ c.R.length) (fun i => c.R.length - i) 0 (Nat.zero_le _) ?_; (intro fr1 hf1; simp only [forget, dstC, dstT, dstO, dst1, st] at hf1; subst hf1); refine ⟨?_, ?_⟩; focus (refine Lw_re 3 [none, none] (Nat.zero_le _) (by simp [ln]) (by simp [ln]) rfl ?_ ?_ <;> (simp only [reL, reX, reH, reB, reN, newB, rn, List.getElem?_cons_zero, List.getElem?_cons_succ, Nat.reduceSub, Nat.reduceLeDiff, Nat.lt_irrefl, Nat.le_refl, reduceCtorEq, or_true, inb, inb.inbs, ln, sts, st, Bool.and_self, Nat.reduceLT, Nat.reduceAdd, decide_true, and_self, Int.natCast_zero, implies_true, List.take_zero, endsL, List.map_nil]; done)))
   ·intro i hii
    by_cases hlt : i < c.R.length
    ·have n0 : ((i : Int) < (c.R.length : Int)) = True := by simp; omega
     have hs := ends_snoc (w := 101) hlt
     have hs2 := ends_snoc (w := 102) hlt
     have hl1 : (endsL 101 (c.R.take i)).length = i := by simp [endsL]; omega
     have hl2 : (endsL 102 (c.R.take i)).length = i := by simp [endsL]; omega
     have s1 : sel 101 (c.R.getD i (0, 0)) = lo c.R i := rfl
     have s2 : sel 102 (c.R.getD i (0, 0)) = hi c.R i := rfl
     rw [s1] at hs
     rw [s2] at hs2
     simp (maxSteps := 3000000) only [condK_bt, decide_true, inr64, ↓reduceIte, e_skip, e_reg, e_tre, t_leaf, t_stop, t_op, and_self, e_seq, e_cond, e_block, o_nil, o_cons, gd_none, putK_e, runK_e, vK_e, bslK_e, storeK3_e, storeK2_e, storeK_e, appK2_oi, appK_e, evh_v, evh_bsl, evh_store, evh_app, loopK_n, seqK_n, blockK_n, evp, bin, gt, gq, st, putf, X.get, getp, ld, lda, lens, ixs, sp, sp.spl, lay, ll, cs1, one, allOne, gb, sb, pb, ln, Bool.and_true, Nat.reduceAdd, beq_self_eq_true, true_and, and_true, sts, n0, Int.toNat_natCast, rowsS, hl1, hl2]
     repeat' apply And.intro
     all_goals first | omega | (refine Nx.mk (i + 1) (by omega) (by omega) (Lw_re 3 [some 6, some 8] (Nat.zero_le _) (by simp [ln]) (by simp [ln]) rfl ?_ ?_) <;> (simp only [reL, reX, reH, reB, reM, reN, rn, gb, List.getElem?_cons_zero, List.getElem?_cons_succ, Nat.reduceSub, Nat.reduceLeDiff, Nat.lt_irrefl, Nat.le_refl, false_or, and_false, reduceCtorEq, or_true, inb, inb.inbs, ln, Bool.and_self, Nat.reduceLT, Nat.reduceAdd, decide_true, true_and, and_true, and_self, Int.natCast_add, Int.natCast_one, implies_true, hs, hs2]; done)) | (refine Nx.mk (i + 1) (by omega) (by omega) (Lw_re 3 [some 7, some 8] (Nat.zero_le _) (by simp [ln]) (by simp [ln]) rfl ?_ ?_) <;> (simp only [reL, reX, reH, reB, reM, reN, rn, gb, List.getElem?_cons_zero, List.getElem?_cons_succ, Nat.reduceSub, Nat.reduceLeDiff, Nat.lt_irrefl, Nat.le_refl, and_false, or_true, inb, inb.inbs, ln, Bool.and_self, Nat.reduceLT, Nat.reduceAdd, decide_true, and_self, Int.natCast_add, Int.natCast_one, implies_true, hs, hs2]; done)) | (refine Nx.mk (i + 1) (by omega) (by omega) (Lw_re 3 [some 8, some 7] (Nat.zero_le _) (by simp [ln]) (by simp [ln]) rfl ?_ ?_) <;> (simp only [reL, reX, reH, reB, reM, reN, newB, rn, once, gb, List.getElem?_cons_zero, List.getElem?_cons_succ, Nat.reduceSub, Nat.reduceLeDiff, Nat.lt_irrefl, Nat.le_refl, false_and, or_false, false_or, and_false, reduceCtorEq, true_or, or_true, news, inb, inb.inbs, ln, sts, st, Bool.and_self, Bool.and_true, Bool.true_and, Nat.reduceLT, Nat.reduceAdd, decide_true, true_and, and_true, and_self, SV.agg.injEq, Int.natCast_add, Int.natCast_one, implies_true, hs, hs2]; done)) | (refine Nx.mk (i + 1) (by omega) (by omega) (Lw_re 3 [some 8, some 6] (Nat.zero_le _) (by simp [ln]) (by simp [ln]) rfl ?_ ?_) <;> (simp only [reL, reX, reH, reB, reM, reN, newB, rn, once, gb, List.getElem?_cons_zero, List.getElem?_cons_succ, Nat.reduceSub, Nat.reduceLeDiff, Nat.lt_irrefl, Nat.le_refl, false_and, or_false, false_or, and_false, reduceCtorEq, true_or, or_true, news, inb, inb.inbs, ln, sts, st, Bool.and_self, Bool.and_true, Bool.true_and, Nat.reduceLT, Nat.reduceAdd, decide_true, true_and, and_true, and_self, SV.agg.injEq, Int.natCast_add, Int.natCast_one, implies_true, hs, hs2]; done))
    ·have n0 : ((i : Int) < (c.R.length : Int)) = False := by simp; omega
     have ei : i = c.R.length := by omega
     subst ei
     simp only [condK_bf, decide_false, e_reg, e_seq, e_cond, e_block, e_loop, e_exit, o_nil, o_cons, gd_none, putK_e, runK_e, vK_e, evh_v, loopK_x, seqK_n, seqK_x, exitK_t, blockK_x, evp, bin, gt, gq, st, putf, X.get, ld, lda, lens, gb, Nat.reduceAdd, beq_self_eq_true, true_and, sts, n0, List.take_length]
     first
     | (refine loop_at2 (G := Nat) (fun i => [(10, .int .i64 i)]) (fun i => [.box 27 [.ints .i64 c.T, .rd 2 c.R.length (rowsS c.R), .int .i64 c.a, .int .i64 c.b, .int .i64 c.e, .int .i64 c.g], .box 39 [.own 3, .int .i64 c.a, .int .i64 c.e, .own 5], .box 39 [.own 4, .int .i64 c.b, .int .i64 c.g, .own 6], .oi .i64 3 (endsL 101 c.R), .oi .i64 3 (endsL 102 c.R), .oi .i64 3 (cdL c D i), .oi .i64 3 (wmL c D i)]) (fun i => i ≤ D.length) (fun i => D.length - i) 0 (Nat.zero_le _) ?_; (intro fr1 hf1; simp only [forget, dstC, dstT, dstO, dstD, dst1, st] at hf1; subst hf1); refine ⟨?_, ?_⟩; focus (refine Lw_re 5 [none, none] (Nat.zero_le _) (by simp [ln]) (by simp [ln]) rfl ?_ ?_ <;> (simp only [reL, reX, reH, reB, reN, newB, rn, List.getElem?_cons_zero, List.getElem?_cons_succ, Nat.reduceSub, Nat.reduceLeDiff, Nat.lt_irrefl, Nat.le_refl, or_false, reduceCtorEq, or_true, inb, inb.inbs, ln, sts, st, Bool.and_self, Nat.reduceLT, Nat.reduceAdd, decide_true, true_and, and_true, and_self, Int.natCast_zero, implies_true, cdL, wmL, List.range_zero, List.map_nil]; done)))
     | (refine loop_at2 (G := Nat) (fun i => [(10, .int .i64 i)]) (fun i => [.box 27 [.ints .i64 c.T, .rd 2 c.R.length (rowsS c.R), .int .i64 c.a, .int .i64 c.b, .int .i64 c.e, .int .i64 c.g], .box 39 [.own 4, .int .i64 c.b, .int .i64 c.g, .own 6], .box 39 [.own 3, .int .i64 c.a, .int .i64 c.e, .own 5], .oi .i64 3 (endsL 101 c.R), .oi .i64 3 (endsL 102 c.R), .oi .i64 3 (cdL c D i), .oi .i64 3 (wmL c D i)]) (fun i => i ≤ D.length) (fun i => D.length - i) 0 (Nat.zero_le _) ?_; (intro fr1 hf1; simp only [forget, dstC, dstT, dstO, dstD, dst1, st] at hf1; subst hf1); refine ⟨?_, ?_⟩; focus (refine Lw_re 5 [none, none] (Nat.zero_le _) (by simp [ln]) (by simp [ln]) rfl ?_ ?_ <;> (simp only [reL, reX, reH, reB, reN, newB, rn, List.getElem?_cons_zero, List.getElem?_cons_succ, Nat.reduceSub, Nat.reduceLeDiff, Nat.lt_irrefl, Nat.le_refl, or_false, reduceCtorEq, or_true, inb, inb.inbs, ln, sts, st, Bool.and_self, Nat.reduceLT, Nat.reduceAdd, decide_true, and_true, and_self, Int.natCast_zero, implies_true, cdL, wmL, List.range_zero, List.map_nil]; done)))
     ·intro i hii
      by_cases hlt : i < D.length
      ·have n0 : ((i : Int) < (D.length : Int)) = True := by simp; omega
       obtain ⟨d1, d2, d3⟩ := hdat i hlt
       have b1 := d2.1
       have b2 := d3.2
       have rate : ∀ z, At c.T z → ∀ K' : SV → Prop, K' (.tup [.agg [.int .i64 (rte c.T c.R c.a c.b 101 z i), .int .i64 (rte c.T c.R c.a c.b 102 z i)], .int .i64 0]) → C14 [.agg [.ints .i64 c.T, .rd 2 c.R.length (rowsS c.R), .int .i64 c.a, .int .i64 c.b, .int .i64 c.e, .int .i64 c.g], .int .i64 z, .int .i64 i] K' := fun z hz K' hK' => ⟨c, z, i, rfl, by
        have r1 : rtR c z i = (rte c.T c.R c.a c.b 101 z i, rte c.T c.R c.a c.b 102 z i) := if_pos ⟨hok, hz, by omega⟩
        have r2 : rtE c z i = 0 := by unfold rtE; rw [if_pos hok, if_pos ⟨hz, by omega⟩]
        rw [r1, r2]; exact hK'⟩
       simp only [condK_bt, decide_true, e_skip, e_reg, e_drw, e_seq, e_cond, e_block, e_loop, o_nil, o_cons, gd_none, putK_e, runK_e, vK_e, evh_v, dX_e, dG_t, d_nil, d_cons, tlK_n, seqK_n, evp, bin, gt, gq, st, putf, X.get, ld, lda, lens, ixs, evq, gdl, Nat.reduceAdd, true_and, and_true, sts, n0, Int.toNat_natCast, rowsS]
       repeat' (first | omega | refine And.intro (by first | omega | decide) ?_)
       first
       | (refine loop_at2 (G := Nat) (fun m => [(13, .int .i64 (lo D i + m)), (11, .int .i64 (cld (fun z => rte c.T c.R c.a c.b 101 z i) (lo D i) m)), (12, .int .i64 (wrm (fun z => rte c.T c.R c.a c.b 102 z i) (lo D i) m))]) (fun _ => [.box 27 [.ints .i64 c.T, .rd 2 c.R.length (rowsS c.R), .int .i64 c.a, .int .i64 c.b, .int .i64 c.e, .int .i64 c.g], .box 39 [.own 3, .int .i64 c.a, .int .i64 c.e, .own 5], .box 39 [.own 4, .int .i64 c.b, .int .i64 c.g, .own 6], .oi .i64 3 (endsL 101 c.R), .oi .i64 3 (endsL 102 c.R), .oi .i64 3 (cdL c D i), .oi .i64 3 (wmL c D i)]) (fun m => lo D i + m ≤ hi D i + 1) (fun m => (hi D i + 1 - lo D i - m).toNat) 0 (by omega) ?_; (intro fr1 hf1; simp only [forget, dstC, dstO, st] at hf1; subst hf1); refine ⟨?_, ?_⟩; focus (refine Lw_re 7 [] (Nat.zero_le _) (by simp [ln]) (by simp [ln]) rfl ?_ ?_ <;> (simp only [reL, reX, reH, reB, reN, rn, Nat.reduceSub, Nat.reduceLeDiff, false_and, or_false, reduceCtorEq, inb, inb.inbs, ln, sts, st, Bool.and_self, Nat.reduceLT, Nat.reduceAdd, decide_true, true_and, and_true, and_self, Int.natCast_zero, Int.add_zero, cld, wrm, implies_true]; done)))
       | (refine loop_at2 (G := Nat) (fun m => [(13, .int .i64 (lo D i + m)), (11, .int .i64 (cld (fun z => rte c.T c.R c.a c.b 101 z i) (lo D i) m)), (12, .int .i64 (wrm (fun z => rte c.T c.R c.a c.b 102 z i) (lo D i) m))]) (fun _ => [.box 27 [.ints .i64 c.T, .rd 2 c.R.length (rowsS c.R), .int .i64 c.a, .int .i64 c.b, .int .i64 c.e, .int .i64 c.g], .box 39 [.own 4, .int .i64 c.b, .int .i64 c.g, .own 6], .box 39 [.own 3, .int .i64 c.a, .int .i64 c.e, .own 5], .oi .i64 3 (endsL 101 c.R), .oi .i64 3 (endsL 102 c.R), .oi .i64 3 (cdL c D i), .oi .i64 3 (wmL c D i)]) (fun m => lo D i + m ≤ hi D i + 1) (fun m => (hi D i + 1 - lo D i - m).toNat) 0 (by omega) ?_; (intro fr1 hf1; simp only [forget, dstC, dstO, st] at hf1; subst hf1); refine ⟨?_, ?_⟩; focus (refine Lw_re 7 [] (Nat.zero_le _) (by simp [ln]) (by simp [ln]) rfl ?_ ?_ <;> (simp only [reL, reX, reH, reB, reN, rn, Nat.reduceSub, Nat.reduceLeDiff, false_and, or_false, reduceCtorEq, inb, inb.inbs, ln, sts, st, Bool.and_self, Nat.reduceLT, Nat.reduceAdd, decide_true, and_true, and_self, Int.natCast_zero, Int.add_zero, cld, wrm, implies_true]; done)))
       ·intro m hm
        by_cases hb : lo D i + m ≤ hi D i
        ·have n1 := eq_true hb
         have c1 := cld_rng (h := fun z => rte c.T c.R c.a c.b 101 z i) (x := lo D i) m
         have c2 := wrm_rng (h := fun z => rte c.T c.R c.a c.b 102 z i) (x := lo D i) m
         have a0 : At c.T (lo D i + m) := ⟨by omega, by omega⟩
         have a1 : At c.T (cld (fun z => rte c.T c.R c.a c.b 101 z i) (lo D i) m) := ⟨by omega, by omega⟩
         have a2 : At c.T (wrm (fun z => rte c.T c.R c.a c.b 102 z i) (lo D i) m) := ⟨by omega, by omega⟩
         simp only [condK_bt, decide_true, e_skip, e_reg, e_seq, e_cond, e_block, o_nil, o_cons, gd_none, putK_e, runK_e, vK_e, conK_e, callK_e, evh_v, evh_call, seqK_n, gam_e, gamK_p, pc_e, pcK_e, evp, bin, gt, gq, st, putf, X.get, gets, ap, clV, clL, clS, clo, ld, lda, ixs, tk, dr, gb, lk, Nat.reduceAdd, Nat.reduceBEq, beq_self_eq_true, true_and, and_true, sts, n0, n1, Int.toNat_natCast, rowsS]
         repeat' (first | omega | refine And.intro (by first | omega | decide) ?_)
         refine rate _ a0 _ ?_
         simp only [e_reg, and_self, e_seq, o_nil, o_cons, gd_none, putK_e, runK_e, vK_e, storeK3_e, storeK2_e, storeK_e, conK_e, callK_e, evh_v, evh_new, evh_store, evh_call, seqK_n, gam_e, gamK_p, pc_e, pcK_e, evp, gt, gq, st, putf, X.get, gets, ap, clV, clL, clS, clo, ld, lda, tk, dr, sp, sp.spl, ll, cs1, one, allOne, gb, sb, pb, ln, lk, Bool.and_true, Nat.reduceAdd, Nat.reduceBEq, beq_self_eq_true, true_and]
         refine rate _ a1 _ ?_
         simp only [e_reg, and_self, e_seq, o_nil, o_cons, gd_none, putK_e, runK_e, vK_e, storeK3_e, storeK2_e, storeK_e, conK_e, callK_e, evh_v, evh_new, evh_store, evh_call, seqK_n, gam_e, gamK_p, pc_e, pcK_e, evp, gt, gq, st, putf, X.get, gets, ap, clV, clL, clS, clo, ld, lda, tk, dr, sp, sp.spl, ll, cs1, one, allOne, gb, sb, pb, ln, lk, Bool.and_true, Nat.reduceAdd, Nat.reduceBEq, beq_self_eq_true, true_and]
         refine rate _ a2 _ ?_
         by_cases q1 : rte c.T c.R c.a c.b 101 (lo D i + m) i < rte c.T c.R c.a c.b 101 (cld (fun z => rte c.T c.R c.a c.b 101 z i) (lo D i) m) i <;> by_cases q2 : rte c.T c.R c.a c.b 102 (wrm (fun z => rte c.T c.R c.a c.b 102 z i) (lo D i) m) i < rte c.T c.R c.a c.b 102 (lo D i + m) i
         ·have t1 := eq_true q1
          have t2 := eq_true q2
          have u1 : cld (fun z => rte c.T c.R c.a c.b 101 z i) (lo D i) (m + 1) = lo D i + m := if_pos q1
          have u2 : wrm (fun z => rte c.T c.R c.a c.b 102 z i) (lo D i) (m + 1) = lo D i + m := if_pos q2
          simp only [gdK_bff, condK_bt, condK_bf, decide_true, inr64, e_skip, e_reg, and_self, e_seq, e_cond, o_nil, o_cons, gd_none, gd_some, gdK_ff, putK_e, runK_e, vK_e, storeK3_e, storeK2_e, storeK_e, evh_v, evh_new, evh_store, loopK_n, seqK_n, blockK_n, evp, bin, gt, gq, st, putf, X.get, ld, lda, sp, sp.spl, ll, cs1, one, allOne, gb, sb, pb, ln, Bool.and_true, Bool.not_true, Nat.reduceAdd, true_and, t1, t2]
          refine ⟨⟨by omega, by omega⟩, Nx.mk (m + 1) (by omega) (by omega) (Lw_re 7 [] (Nat.zero_le _) (by simp [ln]) (by simp [ln]) rfl ?_ ?_)⟩
          ·simp only [reL, reX, inb, inb.inbs, Bool.and_self, Nat.reduceLT, decide_true, and_self, Int.natCast_add, Int.natCast_one, Int.add_assoc, implies_true, u1, u2]
          ·simp only [reL, reX, reH, reB, reN, rn, Nat.reduceSub, Nat.reduceLeDiff, false_and, or_false, reduceCtorEq, inb, ln, Nat.reduceLT, Nat.reduceAdd, and_true, and_self, implies_true]
         ·have t1 := eq_true q1
          have t2 := eq_false q2
          have u1 : cld (fun z => rte c.T c.R c.a c.b 101 z i) (lo D i) (m + 1) = lo D i + m := if_pos q1
          have u2 : wrm (fun z => rte c.T c.R c.a c.b 102 z i) (lo D i) (m + 1) = wrm (fun z => rte c.T c.R c.a c.b 102 z i) (lo D i) m := if_neg q2
          simp only [gdK_bff, condK_bt, condK_bf, decide_true, decide_false, inr64, e_skip, e_reg, and_self, e_seq, e_cond, o_nil, o_cons, gd_none, gd_some, gdK_ff, putK_e, runK_e, vK_e, storeK3_e, storeK2_e, storeK_e, evh_v, evh_new, evh_store, loopK_n, seqK_n, blockK_n, evp, bin, gt, gq, st, putf, X.get, ld, lda, sp, sp.spl, ll, cs1, one, allOne, gb, sb, pb, ln, Bool.and_true, Bool.not_true, Nat.reduceAdd, true_and, t1, t2]
          refine ⟨⟨by omega, by omega⟩, Nx.mk (m + 1) (by omega) (by omega) (Lw_re 7 [] (Nat.zero_le _) (by simp [ln]) (by simp [ln]) rfl ?_ ?_)⟩
          ·simp only [reL, reX, inb, inb.inbs, Bool.and_self, Nat.reduceLT, decide_true, and_self, Int.natCast_add, Int.natCast_one, Int.add_assoc, implies_true, u1, u2]
          ·simp only [reL, reX, reH, reB, reN, rn, Nat.reduceSub, Nat.reduceLeDiff, false_and, or_false, reduceCtorEq, inb, ln, Nat.reduceLT, Nat.reduceAdd, and_true, and_self, implies_true]
         ·have t1 := eq_false q1
          have t2 := eq_true q2
          have u1 : cld (fun z => rte c.T c.R c.a c.b 101 z i) (lo D i) (m + 1) = cld (fun z => rte c.T c.R c.a c.b 101 z i) (lo D i) m := if_neg q1
          have u2 : wrm (fun z => rte c.T c.R c.a c.b 102 z i) (lo D i) (m + 1) = lo D i + m := if_pos q2
          simp only [gdK_bff, condK_bt, condK_bf, decide_true, decide_false, inr64, e_skip, e_reg, and_self, e_seq, e_cond, o_nil, o_cons, gd_none, gd_some, gdK_ff, putK_e, runK_e, vK_e, storeK3_e, storeK2_e, storeK_e, evh_v, evh_new, evh_store, loopK_n, seqK_n, blockK_n, evp, bin, gt, gq, st, putf, X.get, ld, lda, sp, sp.spl, ll, cs1, one, allOne, gb, sb, pb, ln, Bool.and_true, Bool.not_true, Nat.reduceAdd, true_and, t1, t2]
          refine ⟨⟨by omega, by omega⟩, Nx.mk (m + 1) (by omega) (by omega) (Lw_re 7 [] (Nat.zero_le _) (by simp [ln]) (by simp [ln]) rfl ?_ ?_)⟩
          ·simp only [reL, reX, inb, inb.inbs, Bool.and_self, Nat.reduceLT, decide_true, and_self, Int.natCast_add, Int.natCast_one, Int.add_assoc, implies_true, u1, u2]
          ·simp only [reL, reX, reH, reB, reN, rn, Nat.reduceSub, Nat.reduceLeDiff, false_and, or_false, reduceCtorEq, inb, ln, Nat.reduceLT, Nat.reduceAdd, and_true, and_self, implies_true]
         ·have t1 := eq_false q1
          have t2 := eq_false q2
          have u1 : cld (fun z => rte c.T c.R c.a c.b 101 z i) (lo D i) (m + 1) = cld (fun z => rte c.T c.R c.a c.b 101 z i) (lo D i) m := if_neg q1
          have u2 : wrm (fun z => rte c.T c.R c.a c.b 102 z i) (lo D i) (m + 1) = wrm (fun z => rte c.T c.R c.a c.b 102 z i) (lo D i) m := if_neg q2
          simp only [gdK_bff, condK_bf, decide_true, decide_false, inr64, e_skip, e_reg, and_self, e_seq, e_cond, o_nil, o_cons, gd_none, gd_some, gdK_ff, putK_e, runK_e, vK_e, storeK3_e, storeK2_e, storeK_e, evh_v, evh_new, evh_store, loopK_n, seqK_n, blockK_n, evp, bin, gt, gq, st, putf, X.get, ld, lda, sp, sp.spl, ll, cs1, one, allOne, gb, sb, pb, ln, Bool.and_true, Bool.not_true, Nat.reduceAdd, true_and, t1, t2]
          refine ⟨⟨by omega, by omega⟩, Nx.mk (m + 1) (by omega) (by omega) (Lw_re 7 [] (Nat.zero_le _) (by simp [ln]) (by simp [ln]) rfl ?_ ?_)⟩
          ·simp only [reL, reX, inb, inb.inbs, Bool.and_self, Nat.reduceLT, decide_true, and_self, Int.natCast_add, Int.natCast_one, Int.add_assoc, implies_true, u1, u2]
          ·simp only [reL, reX, reH, reB, reN, rn, Nat.reduceSub, Nat.reduceLeDiff, false_and, or_false, reduceCtorEq, inb, ln, Nat.reduceLT, Nat.reduceAdd, and_true, and_self, implies_true]
        ·have n1 := eq_false hb
         have em : m = (hi D i - lo D i).toNat + 1 := by omega
         have v1 : cld (fun z => rte c.T c.R c.a c.b 101 z i) (lo D i) m = cdT c D i := by rw [em]; rfl
         have v2 : wrm (fun z => rte c.T c.R c.a c.b 102 z i) (lo D i) m = wmT c D i := by rw [em]; rfl
         have hs := cdL_snoc (c := c) (D := D) (n := i)
         have hs2 := wmL_snoc (c := c) (D := D) (n := i)
         have hl1 := cdL_len (c := c) (D := D) (n := i)
         have hl2 := wmL_len (c := c) (D := D) (n := i)
         have hl3 := ends_len (w := 101) (L := c.R)
         have hl4 := ends_len (w := 102) (L := c.R)
         simp (maxSteps := 3000000) only [condK_bf, decide_false, inr64, ↓reduceIte, e_reg, e_tre, t_leaf, t_stop, t_op, and_self, e_seq, e_cond, e_exit, o_nil, o_cons, gd_none, putK_e, runK_e, vK_e, bslK_e, storeK3_e, storeK2_e, storeK_e, appK2_oi, appK_e, evh_v, evh_bsl, evh_store, evh_app, loopK_n, loopK_x, seqK_n, seqK_x, exitK_t, blockK_x, blockK_n, evp, bin, gt, gq, st, putf, X.get, getp, ld, lda, ixs, sp, sp.spl, lay, ll, cs1, one, allOne, gb, sb, pb, ln, Bool.and_true, Nat.reduceAdd, beq_self_eq_true, true_and, and_true, sts, n1, Int.toNat_natCast, rowsS, v1, v2, hl1, hl2]
         repeat' apply And.intro
         all_goals first | omega | (refine Nx.mk (i + 1) (by omega) (by omega) (Lw_re 5 [some 8, some 10] (Nat.zero_le _) (by simp [ln]) (by simp [ln]) rfl ?_ ?_) <;> (simp only [reL, reX, reH, reB, reM, reN, rn, gb, List.getElem?_cons_zero, List.getElem?_cons_succ, Nat.reduceSub, Nat.reduceLeDiff, Nat.lt_irrefl, Nat.le_refl, false_and, or_false, false_or, and_false, reduceCtorEq, or_true, inb, inb.inbs, ln, Bool.and_self, Nat.reduceLT, Nat.reduceAdd, decide_true, true_and, and_true, and_self, Int.natCast_add, Int.natCast_one, implies_true, hs, hs2]; done)) | (refine Nx.mk (i + 1) (by omega) (by omega) (Lw_re 5 [some 9, some 10] (Nat.zero_le _) (by simp [ln]) (by simp [ln]) rfl ?_ ?_) <;> (simp only [reL, reX, reH, reB, reM, reN, rn, gb, List.getElem?_cons_zero, List.getElem?_cons_succ, Nat.reduceSub, Nat.reduceLeDiff, Nat.lt_irrefl, Nat.le_refl, false_and, or_false, and_false, or_true, inb, inb.inbs, ln, Bool.and_self, Nat.reduceLT, Nat.reduceAdd, decide_true, and_true, and_self, Int.natCast_add, Int.natCast_one, implies_true, hs, hs2]; done)) | (refine Nx.mk (i + 1) (by omega) (by omega) (Lw_re 5 [some 10, some 9] (Nat.zero_le _) (by simp [ln]) (by simp [ln]) rfl ?_ ?_) <;> (simp only [reL, reX, reH, reB, reM, reN, newB, rn, once, gb, List.getElem?_cons_zero, List.getElem?_cons_succ, Nat.reduceSub, Nat.reduceLeDiff, Nat.lt_irrefl, Nat.le_refl, false_and, or_false, false_or, and_false, reduceCtorEq, true_or, or_true, news, inb, inb.inbs, ln, sts, st, Bool.and_self, Bool.and_true, Bool.true_and, Nat.reduceLT, Nat.reduceAdd, decide_true, true_and, and_true, and_self, SV.agg.injEq, Int.natCast_add, Int.natCast_one, implies_true, hs, hs2]; done)) | (refine Nx.mk (i + 1) (by omega) (by omega) (Lw_re 5 [some 10, some 8] (Nat.zero_le _) (by simp [ln]) (by simp [ln]) rfl ?_ ?_) <;> (simp only [reL, reX, reH, reB, reM, reN, newB, rn, once, gb, List.getElem?_cons_zero, List.getElem?_cons_succ, Nat.reduceSub, Nat.reduceLeDiff, Nat.lt_irrefl, Nat.le_refl, false_and, or_false, false_or, and_false, reduceCtorEq, true_or, or_true, news, inb, inb.inbs, ln, sts, st, Bool.and_self, Bool.and_true, Bool.true_and, Nat.reduceLT, Nat.reduceAdd, decide_true, true_and, and_true, and_self, SV.agg.injEq, Int.natCast_add, Int.natCast_one, implies_true, hs, hs2]; done))
      ·have n0 : ((i : Int) < (D.length : Int)) = False := by simp; omega
       have ei : i = D.length := by omega
       subst ei
       simp only [condK_bf, decide_false, e_reg, e_seq, e_cond, e_exit, o_nil, o_cons, gd_none, putK_e, runK_e, vK_e, conK_e, callK_e, evh_v, evh_call, loopK_x, seqK_n, seqK_x, exitK_t, blockK_x, gam_e, gamK_p, pc_e, pcK_e, evp, bin, gt, st, putf, X.get, gets, ap, clV, clL, clS, clo, ld, lda, lens, tk, dr, gb, sb, lk, Nat.reduceBEq, beq_self_eq_true, true_and, sts, n0]
       obtain ⟨tl, th⟩ := low_tru hok hv
       have x1 : erE c D (lowT c D) = 0 := by unfold erE; rw [if_pos hok, if_pos hv, if_pos tl]
       have x2 : erE c D (higT c D) = 0 := by unfold erE; rw [if_pos hok, if_pos hv, if_pos th]
       have y1 : erL c D (lowT c D) = errL c.T (lowT c D) D.length := by
        have : erL c D (lowT c D) = errL c.T (lowT c D) (lowT c D).T.length := if_pos ⟨hok, hv, tl⟩
        rw [this]; congr 1; exact cdL_len
       have y2 : erL c D (higT c D) = errL c.T (higT c D) D.length := by
        have : erL c D (higT c D) = errL c.T (higT c D) (higT c D).T.length := if_pos ⟨hok, hv, th⟩
        rw [this]; congr 1; exact wmL_len
       refine ⟨c, D, lowT c D, rfl, ?_⟩
       simp only [e_reg, e_seq, o_nil, o_cons, gd_none, putK_e, runK_e, vK_e, conK_e, callK_e, evh_v, evh_call, seqK_n, gam_e, gamK_p, pc_e, pcK_e, evp, gt, gq, st, putf, X.get, gets, ap, clV, clL, clS, clo, ld, lda, tk, dr, gb, sb, lk, Nat.reduceBEq, beq_self_eq_true, true_and, x1, y1]
       refine ⟨c, D, higT c D, rfl, ?_⟩
       simp only [gdK_bff, condK_bf, decide_true, e_skip, e_reg, e_seq, e_cond, e_block, e_loop, o_nil, o_cons, gd_none, gd_some, gdK_ff, putK_e, runK_e, vK_e, evh_v, seqK_n, evp, bin, gt, gq, st, putf, X.get, lens, Bool.not_true, true_and, x2, y2, errL_len, cnP_len]
       first
       | (refine loop_at2 (G := Nat) (fun i => [(23, .int .i64 i)]) (fun i => [.box 27 [.ints .i64 c.T, .rd 2 c.R.length (rowsS c.R), .int .i64 c.a, .int .i64 c.b, .int .i64 c.e, .int .i64 c.g], .box 39 [.own 3, .int .i64 c.a, .int .i64 c.e, .own 5], .box 39 [.own 4, .int .i64 c.b, .int .i64 c.g, .own 6], .fz (.ints .i64 (endsL 101 c.R)), .fz (.ints .i64 (endsL 102 c.R)), .fz (.ints .i64 (cdL c D D.length)), .fz (.ints .i64 (wmL c D D.length))]) (fun i => i ≤ D.length) (fun i => D.length - i) 0 (Nat.zero_le _) ?_; (intro fr1 hf1; simp only [forget, dstC, dstO, dstD, dst1, st] at hf1; subst hf1); refine ⟨?_, ?_⟩; focus (refine Lw_re 7 [] (Nat.zero_le _) (by simp [ln]) (by simp [ln]) rfl ?_ ?_ <;> (simp only [reL, reX, reH, reB, reN, rn, Nat.reduceSub, Nat.reduceLeDiff, false_and, or_false, reduceCtorEq, inb, inb.inbs, ln, sts, st, Bool.and_self, Nat.reduceLT, Nat.reduceAdd, decide_true, true_and, and_true, and_self, Int.natCast_zero, implies_true]; done)))
       | (refine loop_at2 (G := Nat) (fun i => [(23, .int .i64 i)]) (fun i => [.box 27 [.ints .i64 c.T, .rd 2 c.R.length (rowsS c.R), .int .i64 c.a, .int .i64 c.b, .int .i64 c.e, .int .i64 c.g], .box 39 [.own 4, .int .i64 c.b, .int .i64 c.g, .own 6], .box 39 [.own 3, .int .i64 c.a, .int .i64 c.e, .own 5], .fz (.ints .i64 (endsL 101 c.R)), .fz (.ints .i64 (endsL 102 c.R)), .fz (.ints .i64 (cdL c D D.length)), .fz (.ints .i64 (wmL c D D.length))]) (fun i => i ≤ D.length) (fun i => D.length - i) 0 (Nat.zero_le _) ?_; (intro fr1 hf1; simp only [forget, dstC, dstO, dstD, dst1, st] at hf1; subst hf1); refine ⟨?_, ?_⟩; focus (refine Lw_re 7 [] (Nat.zero_le _) (by simp [ln]) (by simp [ln]) rfl ?_ ?_ <;> (simp only [reL, reX, reH, reB, reN, rn, Nat.reduceSub, Nat.reduceLeDiff, false_and, or_false, reduceCtorEq, inb, inb.inbs, ln, sts, st, Bool.and_self, Nat.reduceLT, Nat.reduceAdd, decide_true, and_true, and_self, Int.natCast_zero, implies_true]; done)))
       ·intro i hii
        by_cases hlt : i < D.length
        ·have n0 : ((i : Int) < (D.length : Int)) = True := by simp; omega
         obtain ⟨e1, e2⟩ := cnP_get (c := c) (D := D) hlt
         obtain ⟨w1, w2⟩ := low_con (c := c) hv (i + 1) (by omega)
         have e3 := errL_get (T := c.T) (t := lowT c D) hlt
         have e4 := errL_get (T := c.T) (t := higT c D) hlt
         rw [w1] at e3
         rw [w2] at e4
         have hB1 := (c.eo hok (w := 101) (.inl rfl)).conB (e := c.e) (g := c.g) (D := D) (by omega) hdat (by omega) (i + 1) (by omega)
         have hB2 := (c.eo hok (w := 102) (.inr rfl)).conB (e := c.e) (g := c.g) (D := D) (by omega) hdat (by omega) (i + 1) (by omega)
         simp only [condK_bt, condK_bf, decide_true, inr64, e_skip, e_reg, and_self, e_drw, e_seq, e_cond, e_block, o_nil, o_cons, gd_none, putK_e, runK_e, vK_e, evh_v, dX_e, dG_t, d_nil, d_cons, tlK_n, loopK_n, seqK_n, blockK_n, gamq_e, gamqK_f, evp, fit, InQ, bin, gt, gq, st, putf, X.get, gets, ap, clo, clo.clos, ld, lda, lens, ixs, tk, dr, lk, evq, gdl, Bool.and_true, Bool.not_true, cond_true, Nat.reduceBEq, beq_self_eq_true, true_and, and_true, sts, n0, Int.toNat_natCast, rowsS, e1, e2, e3, e4, errL_len, Fto]
         repeat' (first | omega | refine And.intro ?_ ?_)
         refine Nx.mk (i + 1) (by omega) (by omega) (Lw_re 7 [] (Nat.zero_le _) (by simp [ln]) (by simp [ln]) rfl ?_ ?_)
         ·simp only [reL, reX, inb, inb.inbs, Bool.and_self, Nat.reduceLT, decide_true, and_self, Int.natCast_add, Int.natCast_one, implies_true]
         ·simp only [reL, reX, reH, reB, reN, rn, Nat.reduceSub, Nat.reduceLeDiff, false_and, or_false, reduceCtorEq, inb, ln, Nat.reduceLT, Nat.reduceAdd, and_true, and_self, implies_true]
        ·have n0 : ((i : Int) < (D.length : Int)) = False := by simp; omega
         simp only [condK_bf, decide_false, e_reg, e_seq, e_cond, e_exit, e_ret, o_nil, o_cons, gd_none, putK_e, runK_e, vK_e, conK_e, callK_e, evh_v, evh_call, loopK_x, seqK_n, seqK_x, exitK_t, blockK_x, ends_r, endK1_e, endK2_e, gam_e, gamK_f, pc_e, pcK_e, fcC_e, fcK_e, evp, bin, gt, st, putf, X.get, gets, ap, rdR, tupled, clV, clL, clS, clo, lens, lk, Nat.reduceBEq, beq_self_eq_true, true_and, sts, n0, F21]
         exact res hK (by simp [leR])
 ·have h1 : (askE c D = 0) = False := by
   simp only [eq_iff_iff, iff_false]
   unfold askE
   by_cases hok : c.ok
   ·have hv : ¬ voy c D := fun h => hcv ⟨hok, h⟩
    rw [if_pos hok, if_neg hv]; omega
   ·rw [if_neg hok]; omega
  have h2 : cnR c D = [] := if_neg hcv
  rw [h2]
  simp only [gdK_btt, gdK_bft, decide_true, decide_false, e_reg, e_seq, e_cond, e_ret, o_nil, o_cons, gd_none, gd_some, gdK_tt, gdK_tf, putK_e, runK_e, skipK_e, vK_e, conK_e, callK_e, evh_v, evh_call, seqK_n, seqK_r, condK_t, ends_r, endK1_e, endK2_e, gam_e, gamK_f, pc_e, pcK_e, fcC_e, fcK_e, evp, bin, gt, gq, st, putf, X.get, gets, ap, rdR, tupled, clV, clL, clS, clo, lens, lk, undef, Bool.not_false, Nat.reduceBEq, beq_self_eq_true, true_and, h1, List.length_nil, Int.natCast_zero, F21]
  exact res hK (by simp [leR])
end Go.Proofs.YtlegfejimphfbaaGreat
end
