import Derived.Test.YtdcjlllnfklncaaVgTM7
namespace Go.Proofs.Ytdcjlllnfklncaa
open Go Go.Vg
set_option linter.unusedSimpArgs false
set_option linter.unusedVariables false
set_option maxRecDepth 10000
def s16 : SC :=
 (.seq (.reg [⟨(some 1), none, .box 63 (.t 0)⟩,
  ⟨(some 2), none, .v (.mov (.c (.lit (.bool false))))⟩])
 (.seq (.reg [⟨(some 3), none, .v (.off (.t 1) 0)⟩,
  ⟨(some 4), none, .v (.off (.t 3) 0)⟩,
  ⟨(some 5), none, .v (.load (.t 4) none)⟩,
  ⟨(some 6), none, .call (.c (.fn 30 [])) [(.t 5)]⟩,
  ⟨(some 7), none, .v (.mov (.t 6))⟩,
  ⟨(some 8), (some (7, true)), .v (.off (.t 1) 0)⟩,
  ⟨(some 9), (some (7, true)), .v (.off (.t 8) 1)⟩,
  ⟨(some 10), (some (7, true)), .v (.load (.t 9) none)⟩,
  ⟨(some 11), (some (7, true)), .call (.c (.fn 30 [])) [(.t 10)]⟩,
  ⟨(some 12), none, .v (.pick (.t 7) (.t 11) (.c (.lit (.bool false))))⟩,
  ⟨(some 13), none, .v (.mov (.t 12))⟩,
  ⟨(some 14), (some (13, true)), .v (.off (.t 1) 0)⟩,
  ⟨(some 15), (some (13, true)), .v (.off (.t 14) 2)⟩,
  ⟨(some 16), (some (13, true)), .v (.load (.t 15) none)⟩,
  ⟨(some 17), (some (13, true)), .call (.c (.fn 31 [])) [(.t 16), (.c (.int .i64 (1))), (.c (.int .i64 (100)))]⟩,
  ⟨(some 18), none, .v (.pick (.t 13) (.t 17) (.c (.lit (.bool false))))⟩,
  ⟨(some 19), none, .v (.mov (.t 18))⟩,
  ⟨(some 20), (some (19, true)), .v (.off (.t 1) 0)⟩,
  ⟨(some 21), (some (19, true)), .v (.off (.t 20) 3)⟩,
  ⟨(some 22), (some (19, true)), .v (.load (.t 21) (some 2))⟩,
  ⟨(some 23), (some (19, true)), .call (.c (.fn 32 [])) [(.t 22), (.c (.int .i64 (0))), (.c (.int .i64 (1295999)))]⟩,
  ⟨(some 24), none, .v (.pick (.t 19) (.t 23) (.c (.lit (.bool false))))⟩,
  ⟨(some 25), none, .v (.mov (.t 24))⟩,
  ⟨(some 26), (some (25, true)), .v (.off (.t 1) 0)⟩,
  ⟨(some 27), (some (25, true)), .v (.off (.t 26) 5)⟩,
  ⟨(some 28), (some (25, true)), .v (.load (.t 27) none)⟩,
  ⟨(some 29), (some (25, true)), .call (.c (.fn 31 [])) [(.t 28), (.c (.int .i64 (0))), (.c (.int .i64 (10000)))]⟩,
  ⟨(some 30), none, .v (.pick (.t 25) (.t 29) (.c (.lit (.bool false))))⟩,
  ⟨(some 2), none, .v (.mov (.t 30))⟩])
 .ret))
def r16 : List RV := [.t 2]
theorem k16 : (Try.f16.body.bind (cC Try.prog), cR Try.prog Try.f16.results.toList, Try.f16.ntmps) = (some s16, some r16, 31) := by kernel_rfl
theorem q16 : Known Try.prog 16 := ⟨_, Try.func16, by decide, by simp [Try.f16]⟩
def s17 : SC :=
 (.seq (.reg [⟨(some 1), none, .box 63 (.t 0)⟩,
  ⟨(some 2), none, .v (.mov (.c (.lit (.slice none 0 0))))⟩])
 (.seq (.reg [⟨(some 3), none, .v (.mov (.c (.lit (.slice none 0 0))))⟩])
 (.seq (.reg [⟨(some 8), none, .v (.off (.t 1) 0)⟩,
  ⟨(some 9), none, .v (.off (.t 8) 1)⟩,
  ⟨(some 10), none, .v (.load (.t 9) none)⟩,
  ⟨(some 11), none, .v (.off (.t 1) 0)⟩,
  ⟨(some 12), none, .v (.off (.t 11) 0)⟩,
  ⟨(some 13), none, .v (.load (.t 12) none)⟩,
  ⟨(some 14), none, .v (.bin .sub (.t 10) (.t 13))⟩,
  ⟨(some 15), none, .call (.c (.fn 33 [])) [(.t 14)]⟩,
  ⟨(some 4), none, .v (.mov (.t 15))⟩])
 (.seq (.seq (.reg [⟨(some 16), none, .v (.off (.t 1) 0)⟩,
  ⟨(some 17), none, .v (.off (.t 16) 2)⟩,
  ⟨(some 18), none, .v (.load (.t 17) none)⟩,
  ⟨(some 19), none, .v (.bin .add (.t 18) (.c (.int .i64 (2))))⟩,
  ⟨(some 20), none, .v (.mov (.c (.int .i64 (0))))⟩])
 (.block 0 (.loop
  (.seq (.reg [⟨(some 21), none, .v (.bin .lss (.t 20) (.t 19))⟩])
  (.seq (.cond (.t 21)
   .skip
   (.exit 0))
  (.seq (.block 1 (.seq (.reg [⟨(some 22), none, .v (.mov (.t 20))⟩,
   ⟨(some 5), none, .v (.mov (.t 22))⟩])
  (.seq (.reg [⟨(some 23), none, .v (.mov (.t 4))⟩,
   ⟨(some 24), none, .v (.mov (.t 5))⟩,
   ⟨(some 25), none, .v (.bin .sub (.t 24) (.c (.int .i64 (1))))⟩,
   ⟨(some 26), none, .v (.bin .mul (.t 25) (.c (.int .i64 (1296000))))⟩,
   ⟨(some 27), none, .v (.bin .add (.t 23) (.t 26))⟩,
   ⟨(some 6), none, .v (.mov (.t 27))⟩])
  (.seq (.drw [(0, ⟨(some 28), none, .v (.off (.t 1) 0)⟩, false),
   (1, ⟨(some 29), none, .v (.off (.t 28) 3)⟩, false),
   (2, ⟨(some 30), none, .v (.load (.t 29) (some 2))⟩, false),
   (3, ⟨(some 31), none, .v (.mov (.t 6))⟩, false),
   (4, ⟨(some 32), none, .v (.off (.t 1) 0)⟩, false),
   (5, ⟨(some 33), none, .v (.off (.t 32) 5)⟩, false),
   (6, ⟨(some 34), none, .v (.load (.t 33) none)⟩, false),
   (7, ⟨(some 35), none, .v (.bin .mul (.c (.int .i64 (2))) (.t 34))⟩, false),
   (8, ⟨(some 36), none, .v (.bin .sub (.t 31) (.t 35))⟩, false),
   (9, ⟨(some 37), none, .v (.off (.t 1) 0)⟩, false),
   (10, ⟨(some 38), none, .v (.off (.t 37) 2)⟩, false),
   (11, ⟨(some 39), none, .v (.load (.t 38) none)⟩, false),
   (12, ⟨(some 40), none, .call (.c (.fn 35 [])) [(.t 36), (.t 39)]⟩, false),
   (13, ⟨(some 41), none, .v (.mov (.t 6))⟩, false),
   (14, ⟨(some 42), none, .v (.off (.t 1) 0)⟩, false),
   (15, ⟨(some 43), none, .v (.off (.t 42) 5)⟩, false),
   (16, ⟨(some 44), none, .v (.load (.t 43) none)⟩, false),
   (17, ⟨(some 45), none, .v (.bin .mul (.c (.int .i64 (2))) (.t 44))⟩, false),
   (18, ⟨(some 46), none, .v (.bin .add (.t 41) (.t 45))⟩, false),
   (19, ⟨(some 47), none, .v (.off (.t 1) 0)⟩, false),
   (20, ⟨(some 48), none, .v (.off (.t 47) 2)⟩, false),
   (21, ⟨(some 49), none, .v (.load (.t 48) none)⟩, false),
   (22, ⟨(some 50), none, .call (.c (.fn 36 [])) [(.t 46), (.t 49)]⟩, false),
   (23, ⟨(some 51), none, .bld [(.int .i64 (0)), (.int .i64 (0))] [(0, 1, (.t 40)), (1, 1, (.t 50))]⟩, false),
   (24, ⟨(some 52), none, .call (.c (.fn 34 [])) [(.t 30), (.t 51)]⟩, false)]
   (some ⟨(some 7), none, .new 30 [(.int .i64 (0)), (.int .i64 (0))]⟩)
   [⟨none, none, .store 2 (.t 7) (.t 52)⟩])
  (.seq (.drw [(0, ⟨(some 53), none, .v (.load (.t 7) (some 2))⟩, false),
   (1, ⟨(some 54), none, .call (.c (.fn 37 [])) []⟩, false)]
   none
   [⟨(some 55), none, .v (.eqs [(some .i64), (some .i64)] true (.t 53) (.t 54))⟩])
  (.cond (.t 55)
   (.reg [⟨(some 56), none, .v (.mov (.t 3))⟩,
    ⟨(some 57), none, .v (.load (.t 7) (some 2))⟩,
    ⟨(some 58), none, .bsl 30 1 [(.int .i64 (0)), (.int .i64 (0))] [(0, 2, (.t 57))]⟩,
    ⟨(some 59), none, .app 30 2 16 (.t 56) (.t 58)⟩,
    ⟨(some 3), none, .v (.mov (.t 59))⟩])
   .skip))))))
  (.reg [⟨(some 60), none, .v (.bin .add (.t 20) (.c (.int .i64 (1))))⟩,
   ⟨(some 20), none, .v (.mov (.t 60))⟩])))))))
 (.seq (.reg [⟨(some 61), none, .v (.mov (.t 3))⟩,
  ⟨(some 2), none, .v (.mov (.t 61))⟩])
 .ret)))))
def r17 : List RV := [.t 2]
theorem k17 : (Try.f17.body.bind (cC Try.prog), cR Try.prog Try.f17.results.toList, Try.f17.ntmps) = (some s17, some r17, 62) := by kernel_rfl
theorem q17 : Known Try.prog 17 := ⟨_, Try.func17, by decide, by simp [Try.f17]⟩
def s9 : SC :=
 (.seq (.reg [⟨(some 1), none, .box 32 (.t 0)⟩,
  ⟨(some 2), none, .v (.mov (.c (.lit (.slice none 0 0))))⟩,
  ⟨(some 3), none, .v (.mov (.c (.int .i64 (0))))⟩])
 (.seq (.reg [⟨(some 6), none, .v (.load (.t 1) (some 6))⟩,
  ⟨(some 7), none, .bld [(.int .i64 (0)), (.int .i64 (0)), (.int .i64 (0)), (.int .i64 (0)), (.int .i64 (0)), (.int .i64 (0))] [(0, 6, (.t 6))]⟩,
  ⟨(some 4), none, .new 63 [(.int .i64 (0)), (.int .i64 (0)), (.int .i64 (0)), (.int .i64 (0)), (.int .i64 (0)), (.int .i64 (0))]⟩,
  ⟨none, none, .store 6 (.t 4) (.t 7)⟩])
 (.seq (.seq (.reg [⟨(some 8), none, .v (.load (.t 4) (some 6))⟩,
  ⟨(some 9), none, .call (.c (.fn 16 [])) [(.t 8)]⟩,
  ⟨(some 10), none, .v (.not (.t 9))⟩])
 (.cond (.t 10)
  (.seq (.reg [⟨(some 2), none, .v (.mov (.c (.lit (.slice none 0 0))))⟩,
   ⟨(some 3), none, .v (.mov (.c (.int .i64 (62))))⟩])
  .ret)
  .skip))
 (.seq (.reg [⟨(some 11), none, .v (.load (.t 4) (some 6))⟩,
  ⟨(some 12), none, .call (.c (.fn 17 [])) [(.t 11)]⟩,
  ⟨(some 5), none, .v (.mov (.t 12))⟩])
 (.seq (.seq (.reg [⟨(some 13), none, .v (.mov (.t 5))⟩,
  ⟨(some 14), none, .v (.len (.t 13))⟩,
  ⟨(some 15), none, .v (.bin .eql (.t 14) (.c (.int .i64 (0))))⟩])
 (.cond (.t 15)
  (.seq (.reg [⟨(some 2), none, .v (.mov (.c (.lit (.slice none 0 0))))⟩,
   ⟨(some 3), none, .v (.mov (.c (.int .i64 (4))))⟩])
  .ret)
  .skip))
 (.seq (.reg [⟨(some 16), none, .v (.mov (.t 5))⟩,
  ⟨(some 2), none, .v (.mov (.t 16))⟩,
  ⟨(some 3), none, .v (.mov (.c (.int .i64 (0))))⟩])
 .ret))))))
def r9 : List RV := [.t 2, .t 3]
theorem k9 : (Try.f9.body.bind (cC Try.prog), cR Try.prog Try.f9.results.toList, Try.f9.ntmps) = (some s9, some r9, 17) := by kernel_rfl
theorem q9 : Known Try.prog 9 := ⟨_, Try.func9, by decide, by simp [Try.f9]⟩
def lo (L : List (Int × Int)) (i : Nat) : Int := (L.getD i (0, 0)).1
def hi (L : List (Int × Int)) (i : Nat) : Int := (L.getD i (0, 0)).2
def rowsS (L : List (Int × Int)) (i : Nat) : List SV := [.int .i64 (lo L i), .int .i64 (hi L i)]
theorem rowsS_snoc (L : List (Int × Int)) (p : Int × Int) (i : Nat) (h : i < L.length + 1) : (if i < L.length then rowsS L i else [.int .i64 p.1, .int .i64 p.2]) = rowsS (L ++ [p]) i := by
 unfold rowsS lo hi
 by_cases hi : i < L.length
 ·rw [if_pos hi]; simp [List.getD, hi, List.getElem?_append_left]
 ·have : i = L.length := by omega
  subst this
  simp [List.getD]
def acc (w : Nat → Int × Int) : Nat → List (Int × Int)
 | 0 => []
 | n + 1 => if (w n).1 ≤ (w n).2 then acc w n ++ [w n] else acc w n
theorem acc_len (w : Nat → Int × Int) : ∀ n, (acc w n).length ≤ n
 | 0 => Nat.le_refl _
 | n + 1 => by
  have := acc_len w n
  unfold acc
  split
  ·simp; omega
  ·omega
structure Rp where
 (f l t a b w : Int)
def Rp.sv (v : Rp) : SV := .agg [.int .i64 v.f, .int .i64 v.l, .int .i64 v.t, .int .i64 v.a, .int .i64 v.b, .int .i64 v.w]
def Rp.ok (v : Rp) : Prop := (0 ≤ v.f ∧ v.f ≤ 1295999) ∧ (0 ≤ v.l ∧ v.l ≤ 1295999) ∧ (1 ≤ v.t ∧ v.t ≤ 100) ∧ ((0 ≤ v.a ∧ v.a ≤ v.b) ∧ v.b ≤ 1295999) ∧ (0 ≤ v.w ∧ v.w ≤ 10000)
instance (v : Rp) : Decidable v.ok := by unfold Rp.ok; infer_instance
def F16 : FC := fun args => match args with
 | [.agg [.int .i64 f, .int .i64 l, .int .i64 t, .int .i64 a, .int .i64 b, .int .i64 w]] => some (True, .bool (decide (Rp.ok ⟨f, l, t, a, b, w⟩)))
 | _ => none
theorem p16 : PureOk Try.prog 16 (fcC F16) := by
 refine pure_of (T := [(30, .fc Fdir), (31, .fc Fin), (32, .fc Fsp)]) ⟨⟨p30, q30⟩, ⟨p31, q31⟩, ⟨p32, q32⟩, trivial⟩ Try.func16 k16 ?_
 intro args K hC
 unfold fcC F16 at hC
 split at hC <;> first | (exact hC.elim) | skip
 rename_i h
 split at h <;> first | (cases h; done) | skip
 cases h
 obtain ⟨-, hK⟩ := hC
 unfold Rp.ok at hK
 simp only [e_reg, e_seq, e_ret, o_nil, o_cons, gd_none, gd_some, gdK_tt, gdK_ft, gdK_bt, putK_e, runK_e, skipK_e, vK_e, boxK_e, conK_e, callK_e, evh_v, evh_box, evh_call, seqK_n, ends_r, endK1_e, endK2_e, gam_e, gamK_f, pc_e, pcK_e, fcC_e, fcK_e, evp, gt, gq, st, putf, X.get, gets, ap, mkfr, rep, rdR, tupled, clV, clL, clS, clo, ld, lda, tk, dr, cs1, gb, pb, ln, lk, undef, Nat.reduceSub, Nat.reduceAdd, Nat.reduceBEq, beq_self_eq_true, true_and, decide_eq_true_eq, decide_eq_false_iff_not, s16, r16, Fdir, Fin, Fsp]
 exact ⟨fun h1 => ⟨fun h2 => ⟨fun h3 => ⟨fun h4 => res hK (by simp [leR, h1, h2, h3, h4]), fun h4 => res hK (by simp [leR, h4])⟩, fun h3 => res hK (by simp [leR, h3])⟩, fun h2 => res hK (by simp [leR, h2])⟩, fun h1 => res hK (by simp [leR, h1])⟩
def Rp.win (v : Rp) (all : Int) : Int × Int := (max v.a (-(-(all - 2 * v.w) / v.t)), min v.b ((all + 2 * v.w) / v.t))
def Rp.d (v : Rp) : Int := (v.l - v.f) % 1296000
def Rp.pw (v : Rp) (c : Nat) : Int × Int := v.win (v.d + ((c : Int) - 1) * 1296000)
def Rp.pl (v : Rp) : List (Int × Int) := acc v.pw (v.t + 2).toNat
theorem Rp.dB (v : Rp) : 0 ≤ v.d ∧ v.d ≤ 1295999 := by
 have h1 := Int.emod_nonneg (v.l - v.f) (show (1296000 : Int) ≠ 0 by omega)
 have h2 := Int.emod_lt_of_pos (v.l - v.f) (show (0 : Int) < 1296000 by omega)
 unfold Rp.d; omega
theorem com_win {v : Rp} {all : Int} : com v.a v.b (-(-(all - 2 * v.w) / v.t)) ((all + 2 * v.w) / v.t) = if (v.win all).1 ≤ (v.win all).2 then v.win all else (1, 0) := rfl
def C17 : PC := fun args K => ∃ v : Rp, args = [v.sv] ∧ v.ok ∧ K (.rd 2 v.pl.length (rowsS v.pl))
theorem p17 : PureOk Try.prog 17 C17 := by
 refine pure_of (T := [(33, .fc Fcir), (35, .fc Fup), (36, .fc Fdwn), (34, .fc Fcom), (37, .fc Fno)]) ⟨⟨p33, q33⟩, ⟨p35, q35⟩, ⟨p36, q36⟩, ⟨p34, q34⟩, ⟨p37, q37⟩, trivial⟩ Try.func17 k17 ?_
 rintro args K ⟨v, rfl, hok, hK⟩
 have hd := v.dB
 have hdd : (v.l - v.f) % 1296000 = v.d := rfl
 have h0 := hok
 unfold Rp.ok at h0
 simp only [Rp.sv]
 simp only [inr64, e_reg, e_seq, e_block, e_loop, o_nil, o_cons, gd_none, putK_e, runK_e, vK_e, boxK_e, conK_e, callK_e, evh_v, evh_box, evh_call, seqK_n, gam_e, gamK_f, pc_e, pcK_e, fcC_e, fcK_e, evp, bin, gt, gq, st, putf, X.get, gets, ap, mkfr, rep, clV, clL, clS, clo, ld, lda, cs1, gb, pb, ln, lk, undef, Nat.reduceSub, Nat.reduceAdd, beq_self_eq_true, true_and, s17, r17, Fcir, hdd]
 refine ⟨by omega, by omega, by omega, ?_⟩
 refine loop_at2 (G := Nat) (fun c => [(20, .int .i64 c), (3, .own 1)]) (fun c => [.box 63 [.int .i64 v.f, .int .i64 v.l, .int .i64 v.t, .int .i64 v.a, .int .i64 v.b, .int .i64 v.w], .orw 30 2 (acc v.pw c).length (rowsS (acc v.pw c))]) (fun c => c ≤ (v.t + 2).toNat) (fun c => (v.t + 2).toNat - c) 0 (Nat.zero_le _) ?_
 (intro fr1 hf1; simp only [forget, dstC, dstO, dstD, dst1, st] at hf1; subst hf1)
 refine ⟨?_, ?_⟩
 ·refine Lw_re 1 [none] (Nat.zero_le _) (by simp [ln]) (by simp [ln]) rfl ?_ ?_
  ·simp only [reL, reX, rn, List.getElem?_cons_zero, Nat.reduceSub, Nat.lt_irrefl, Nat.le_refl, reduceCtorEq, or_true, inb, inb.inbs, ln, sts, st, Bool.and_self, Nat.reduceLT, Nat.reduceAdd, decide_true, and_self, Int.natCast_zero]
  ·simp only [reL, reX, reH, reB, reN, newB, inb, and_self, acc, List.length_nil]
 ·intro c hc
  have hpw : v.win (v.d + ((c : Int) - 1) * 1296000) = v.pw c := rfl
  have hal := acc_len v.pw c
  by_cases hq : (v.pw c).1 ≤ (v.pw c).2
  ·have hb : 0 ≤ (v.pw c).1 ∧ (v.pw c).2 ≤ 1295999 := by
    unfold Rp.pw Rp.win; simp only; omega
   have ha : acc v.pw (c + 1) = acc v.pw c ++ [v.pw c] := by simp only [acc, if_pos hq]
   simp only [inr64, ↓reduceIte, List.cons.injEq, e_skip, e_reg, and_self, e_drw, e_seq, e_cond, e_block, e_exit, e_ret, o_nil, o_cons, gd_none, putK_e, runK_e, vK_e, bslK_e, storeK3_e, storeK2_e, storeK_e, appK2_or, appK_e, evh_v, evh_bsl, evh_store, evh_app, dX_e, dG_t, d_nil, d_cons, creK_e, tlK_n, tlK_s, evc_e, loopK_n, loopK_x, seqK_n, seqK_x, condK_b, exitK_t, blockK_x, blockK_n, ends_r, endK1_e, endK2_e, gamq_e, gamqK_f, evp, fit, InQ, bin, gt, gq, st, putf, X.get, gets, getp, ap, rdR, tupled, clV, clo, clo.clos, ld, lda, tk, dr, sp, sp.spl, lay, ll, cs1, one, allOne, gb, sb, pb, ln, lk, evq, gdl, crv, Bool.and_true, Bool.not_true, Bool.not_false, cond_true, Nat.reduceAdd, Nat.reduceBEq, beq_self_eq_true, true_and, and_true, decide_eq_true_eq, decide_eq_false_iff_not, Bool.not_eq_eq_eq_not, sts, Fup, Fdwn, Fcom, Fno, com_win, hpw, hq]
   refine ⟨fun h => ⟨by omega, by omega, by omega, by omega, by omega, by omega, by omega, by omega, by omega, by omega, fun h2 => ⟨by omega, by omega, ?_⟩, fun h2 => by exfalso; omega⟩, fun h => ?_⟩
   ·refine Nx.mk (c + 1) (by omega) (by omega) (Lw_re 1 [some 4] (Nat.zero_le _) (by simp [ln]) (by simp [ln]) rfl ?_ ?_)
    ·simp only [reL, reX, rn, List.getElem?_cons_zero, Nat.reduceSub, Nat.lt_irrefl, Nat.le_refl, and_false, or_true, inb, inb.inbs, ln, Bool.and_self, Nat.reduceLT, Nat.reduceAdd, decide_true, and_self, Int.natCast_add, Int.natCast_one]
    ·simp only [reL, reX, reH, reB, reM, reN, gb, Nat.reduceLeDiff, inb, ln, Nat.reduceLT, Nat.reduceAdd, true_and, and_true, and_self, ha, List.length_append, List.length_cons, List.length_nil]
     exact fun i hi => rowsS_snoc _ _ _ hi
   ·have e : c = (v.t + 2).toNat := by omega
    refine ⟨_, hK, ?_⟩
    subst e
    simp [leR, Rp.pl]
  ·have ha : acc v.pw (c + 1) = acc v.pw c := by simp only [acc, if_neg hq]
   simp only [inr64, ↓reduceIte, not_true_eq_false, e_skip, e_reg, and_self, e_drw, e_seq, e_cond, e_block, e_exit, e_ret, o_nil, o_cons, gd_none, putK_e, runK_e, vK_e, bslK_e, storeK3_e, storeK2_e, storeK_e, appK2_or, appK_e, evh_v, evh_bsl, evh_store, evh_app, dX_e, dG_t, d_nil, d_cons, creK_e, tlK_n, tlK_s, evc_e, loopK_n, loopK_x, seqK_n, seqK_x, condK_b, exitK_t, blockK_x, blockK_n, ends_r, endK1_e, endK2_e, gamq_e, gamqK_f, evp, fit, InQ, bin, gt, gq, st, putf, X.get, gets, getp, ap, rdR, tupled, clV, clo, clo.clos, ld, lda, tk, dr, sp, sp.spl, lay, ll, cs1, one, allOne, gb, sb, pb, ln, lk, evq, gdl, crv, Bool.and_true, Bool.not_true, Bool.not_false, cond_true, Nat.reduceAdd, Nat.reduceBEq, beq_self_eq_true, true_and, and_true, decide_eq_true_eq, decide_eq_false_iff_not, Bool.not_eq_eq_eq_not, sts, Fup, Fdwn, Fcom, Fno, com_win, hpw, hq]
   refine ⟨fun h => ⟨by omega, by omega, by omega, by omega, by omega, by omega, by omega, by omega, by omega, by omega, ?_⟩, fun h => ?_⟩
   ·refine ⟨fun h => h.elim, fun _ => ⟨by omega, ?_⟩⟩
    refine Nx.mk (c + 1) (by omega) (by omega) (Lw_re 2 [] (Nat.zero_le _) (by simp [ln]) (by simp [ln]) rfl ?_ ?_)
    ·simp only [reL, reX, rn, Nat.reduceSub, Nat.reduceLeDiff, false_and, or_false, reduceCtorEq, inb, inb.inbs, ln, Bool.and_self, Nat.reduceLT, Nat.reduceAdd, decide_true, and_true, and_self, Int.natCast_add, Int.natCast_one]
    ·simp only [reL, reX, reH, reB, reN, inb, and_self, ha, implies_true]
   ·have e : c = (v.t + 2).toNat := by omega
    refine ⟨_, hK, ?_⟩
    subst e
    simp [leR, Rp.pl]
def Rp.R (v : Rp) : List (Int × Int) := if v.ok then v.pl else []
def Rp.e (v : Rp) : Int := if v.ok then (if v.pl.length = 0 then 4 else 0) else 62
def C9 : PC := fun args K => ∃ v : Rp, args = [v.sv] ∧ K (.tup [.rd 2 v.R.length (rowsS v.R), .int .i64 v.e])
theorem p9 : PureOk Try.prog 9 C9 := by
 refine pure_of (T := [(16, .fc F16), (17, .pc C17)]) ⟨⟨p16, q16⟩, ⟨p17, q17⟩, trivial⟩ Try.func9 k9 ?_
 rintro args K ⟨v, rfl, hK⟩
 have hv : (⟨v.f, v.l, v.t, v.a, v.b, v.w⟩ : Rp) = v := rfl
 simp only [Rp.sv]
 simp only [e_skip, e_reg, and_self, e_seq, e_cond, e_ret, o_nil, o_cons, gd_none, putK_e, runK_e, vK_e, boxK_e, bldK_e, storeK3_e, storeK2_e, storeK_e, conK_e, callK_e, evh_v, evh_new, evh_box, evh_bld, evh_store, evh_call, seqK_n, seqK_r, condK_b, ends_r, endK1_e, endK2_e, gam_e, gamK_f, gamK_p, pc_e, pcK_e, fcC_e, fcK_e, evp, gt, st, putf, X.get, gets, getp, ap, mkfr, rep, rdR, tupled, clV, clL, clS, clo, ld, lda, lens, tk, dr, sp, sp.spl, lay, ll, cs1, one, allOne, gb, sb, pb, ln, lk, undef, Bool.and_true, Bool.not_true, Bool.not_false, Nat.reduceSub, Nat.reduceAdd, Nat.reduceBEq, beq_self_eq_true, true_and, decide_eq_true_eq, decide_eq_false_iff_not, Bool.not_eq_eq_eq_not, s9, r9, F16, hv]
 refine ⟨fun h => res hK ?_, fun h => ⟨v, rfl, h, ?_⟩⟩
 ·unfold Rp.R Rp.e
  simp [leR, leR.leRs, h]
 ·simp only [e_skip, e_reg, e_seq, e_cond, e_ret, o_nil, o_cons, gd_none, putK_e, runK_e, vK_e, evh_v, seqK_n, seqK_r, condK_b, ends_r, endK1_e, endK2_e, evp, bin, gt, st, putf, X.get, rdR, tupled, clV, clL, clS, clo, true_and, decide_eq_true_eq, decide_eq_false_iff_not]
  refine ⟨fun h2 => res hK ?_, fun h2 => res hK ?_⟩
  ·have h2 : v.pl.length = 0 := by omega
   have h3 : v.pl = [] := List.eq_nil_of_length_eq_zero h2
   unfold Rp.R Rp.e
   simp [leR, leR.leRs, h, h3]
  ·have h2 : ¬ v.pl.length = 0 := by omega
   unfold Rp.R Rp.e
   simp only [if_pos h, if_neg h2]
   simp [leR, leR.leRs]
def Rp.rw (v : Rp) (j : Nat) : Int × Int := v.win ((v.l - v.f) + 1296000 * ((j : Int) - 1))
theorem Rp.win_hi (v : Rp) (hv : v.ok) (all : Int) : (v.win all).2 * v.t ≤ all + 2 * v.w := by
 unfold Rp.ok at hv
 have h1 : (all + 2 * v.w) / v.t * v.t ≤ all + 2 * v.w := Int.ediv_mul_le _ (by omega)
 have h2 : (v.win all).2 ≤ (all + 2 * v.w) / v.t := by unfold Rp.win; simp only; omega
 exact Int.le_trans (Int.mul_le_mul_of_nonneg_right h2 (by omega)) h1
theorem Rp.win_lo (v : Rp) (hv : v.ok) (all : Int) : all - 2 * v.w ≤ (v.win all).1 * v.t := by
 unfold Rp.ok at hv
 have h1 : -(all - 2 * v.w) / v.t * v.t ≤ -(all - 2 * v.w) := Int.ediv_mul_le _ (by omega)
 have h2 : -(-(all - 2 * v.w) / v.t) ≤ (v.win all).1 := by unfold Rp.win; simp only; omega
 have h3 := Int.mul_le_mul_of_nonneg_right h2 (show 0 ≤ v.t by omega)
 rw [Int.neg_mul] at h3
 omega
theorem Rp.win_b (v : Rp) (all : Int) : v.a ≤ (v.win all).1 ∧ (v.win all).2 ≤ v.b := by unfold Rp.win; simp only; omega
theorem acc_mem {w : Nat → Int × Int} {e : Int × Int} : ∀ {n : Nat}, e ∈ acc w n → ∃ i, i < n ∧ e = w i
 | 0, h => by simp [acc] at h
 | n + 1, h => by
  unfold acc at h
  split at h
  ·rcases List.mem_append.1 h with h | h
   ·obtain ⟨i, h1, h2⟩ := acc_mem h; exact ⟨i, by omega, h2⟩
   ·exact ⟨n, by omega, by simpa using h⟩
  ·obtain ⟨i, h1, h2⟩ := acc_mem h; exact ⟨i, by omega, h2⟩
theorem acc_lt {w : Nat → Int × Int} : ∀ {n : Nat} {e : Int × Int}, e ∈ acc w n → e.1 ≤ e.2
 | 0, e, h => by simp [acc] at h
 | n + 1, e, h => by
  unfold acc at h
  split at h
  ·rcases List.mem_append.1 h with h | h
   ·exact acc_lt h
   ·rename_i h1 _; have : e = w n := by simpa using h
    subst this; exact h1
  ·exact acc_lt h
theorem Rp.gap (v : Rp) (hv : v.ok) (x y : Int) (h : x + 1296000 ≤ y) : (v.win x).2 + 12560 ≤ (v.win y).1 := by
 have h1 := v.win_hi hv x
 have h2 := v.win_lo hv y
 unfold Rp.ok at hv
 refine Classical.byContradiction fun h3 => ?_
 have h4 : (v.win y).1 - (v.win x).2 ≤ 12559 := by omega
 have h5 := Int.mul_le_mul_of_nonneg_right h4 (show 0 ≤ v.t by omega)
 rw [Int.sub_mul] at h5
 omega
theorem acc_shift {w w' : Nat → Int × Int} (h0 : ¬ (w 0).1 ≤ (w 0).2) (h : ∀ c, w (c + 1) = w' c) : ∀ c, acc w (c + 1) = acc w' c
 | 0 => by simp only [acc, if_neg h0]
 | c + 1 => by
  have ih := acc_shift h0 h c
  show (if (w (c + 1)).1 ≤ (w (c + 1)).2 then acc w (c + 1) ++ [w (c + 1)] else acc w (c + 1)) = _
  rw [h c, ih]
  rfl
theorem Rp.rl (v : Rp) (hv : v.ok) : acc v.rw ((v.t + 2).toNat + 1) = v.pl := by
 have h0 := hv
 unfold Rp.ok at h0
 by_cases hd : 0 ≤ v.l - v.f
 ·have e : v.d = v.l - v.f := by unfold Rp.d; omega
  have e2 : v.rw = v.pw := by funext c; unfold Rp.rw Rp.pw; rw [e, Int.mul_comm]
  have h1 := v.win_lo hv ((v.l - v.f) + 1296000 * (((v.t + 2).toNat : Int) - 1))
  have h2 := v.win_b ((v.l - v.f) + 1296000 * (((v.t + 2).toNat : Int) - 1))
  have h3 : ¬ (v.rw (v.t + 2).toNat).1 ≤ (v.rw (v.t + 2).toNat).2 := by
   intro h4
   have h4 : (v.win ((v.l - v.f) + 1296000 * (((v.t + 2).toNat : Int) - 1))).1 ≤ 1295999 := by unfold Rp.rw at h4; omega
   have h5 := Int.mul_le_mul_of_nonneg_right h4 (show 0 ≤ v.t by omega)
   omega
  show (if (v.rw (v.t + 2).toNat).1 ≤ (v.rw (v.t + 2).toNat).2 then _ else acc v.rw (v.t + 2).toNat) = _
  rw [if_neg h3, e2]
  rfl
 ·have e : v.d = v.l - v.f + 1296000 := by unfold Rp.d; omega
  refine acc_shift (w := v.rw) (w' := v.pw) ?_ (fun c => ?_) _
  ·have h1 := v.win_hi hv ((v.l - v.f) + 1296000 * (((0 : Nat) : Int) - 1))
   have h2 := v.win_b ((v.l - v.f) + 1296000 * (((0 : Nat) : Int) - 1))
   intro h4
   have h4 : 0 ≤ (v.win ((v.l - v.f) + 1296000 * (((0 : Nat) : Int) - 1))).2 := by unfold Rp.rw at h4; omega
   have h5 := Int.mul_nonneg h4 (show 0 ≤ v.t by omega)
   omega
  ·unfold Rp.rw Rp.pw
   rw [e]
   congr 1
   push_cast
   omega
end Go.Proofs.Ytdcjlllnfklncaa
