import Derived.Test.YtjagiieconpgbaaVgV9
import Derived.Test.YtjagiieconpgbaaProg
import Derived.KernelRfl
import Derived.Test.YtjagiieconpgbaaVgV10
section
namespace Go.Proofs.Ytjagiieconpgbaa
open Go Go.Vg
set_option linter.unusedSimpArgs false
set_option linter.unusedVariables false
set_option maxRecDepth 10000
section
def s33 : SC :=
 (.seq (.reg [⟨(some 6), none, .v (.mov (.c (.lit (.bool false))))⟩])
 (.seq (.reg [⟨(some 7), none, .v (.mov (.t 0))⟩,
  ⟨(some 8), none, .v (.mov (.t 1))⟩,
  ⟨(some 9), none, .v (.bin .geq (.t 7) (.t 8))⟩,
  ⟨(some 10), none, .v (.mov (.t 9))⟩,
  ⟨(some 11), (some (10, true)), .v (.mov (.t 0))⟩,
  ⟨(some 12), (some (10, true)), .v (.mov (.t 2))⟩,
  ⟨(some 13), (some (10, true)), .v (.bin .leq (.t 11) (.t 12))⟩,
  ⟨(some 14), none, .v (.pick (.t 10) (.t 13) (.c (.lit (.bool false))))⟩,
  ⟨(some 6), none, .v (.mov (.t 14))⟩])
 .ret))
def r33 : List RV := [.t 6]
theorem k33 : (Try.f33.body.bind (cC Try.prog), cR Try.prog Try.f33.results.toList, Try.f33.ntmps) = (some s33, some r33, 15) := by kernel_rfl
theorem q33 : Known Try.prog 33 := ⟨_, Try.func33, by decide, by simp [Try.f33]⟩
def s78 : SC :=
 (.seq (.reg [⟨(some 6), none, .v (.mov (.c (.lit (.bool false))))⟩])
 (.seq (.reg [⟨(some 7), none, .v (.mov (.t 1))⟩,
  ⟨(some 8), none, .v (.mov (.t 0))⟩,
  ⟨(some 9), none, .v (.bin .leq (.t 7) (.t 8))⟩,
  ⟨(some 10), none, .v (.mov (.t 9))⟩,
  ⟨(some 11), (some (10, true)), .v (.mov (.t 0))⟩,
  ⟨(some 12), (some (10, true)), .v (.mov (.t 2))⟩,
  ⟨(some 13), (some (10, true)), .v (.bin .leq (.t 11) (.t 12))⟩,
  ⟨(some 14), none, .v (.pick (.t 10) (.t 13) (.c (.lit (.bool false))))⟩,
  ⟨(some 6), none, .v (.mov (.t 14))⟩])
 .ret))
def r78 : List RV := [.t 6]
theorem k78 : (Try.f78.body.bind (cC Try.prog), cR Try.prog Try.f78.results.toList, Try.f78.ntmps) = (some s78, some r78, 15) := by kernel_rfl
theorem q78 : Known Try.prog 78 := ⟨_, Try.func78, by decide, by simp [Try.f78]⟩
def s65 : SC :=
 (.seq (.reg [⟨(some 3), none, .box 24 (.t 0)⟩,
  ⟨(some 6), none, .v (.mov (.c (.lit (.bool false))))⟩])
 (.seq (.reg [⟨(some 7), none, .v (.mov (.t 1))⟩,
  ⟨(some 8), none, .v (.off (.t 3) 0)⟩,
  ⟨(some 9), none, .v (.load (.t 8) none)⟩,
  ⟨(some 10), none, .v (.bin .leq (.t 7) (.t 9))⟩,
  ⟨(some 11), none, .v (.mov (.t 10))⟩,
  ⟨(some 12), (some (11, true)), .v (.off (.t 3) 0)⟩,
  ⟨(some 13), (some (11, true)), .v (.load (.t 12) none)⟩,
  ⟨(some 14), (some (11, true)), .v (.off (.t 3) 1)⟩,
  ⟨(some 15), (some (11, true)), .v (.load (.t 14) none)⟩,
  ⟨(some 16), (some (11, true)), .v (.bin .leq (.t 13) (.t 15))⟩,
  ⟨(some 17), none, .v (.pick (.t 11) (.t 16) (.c (.lit (.bool false))))⟩,
  ⟨(some 18), none, .v (.mov (.t 17))⟩,
  ⟨(some 19), (some (18, true)), .v (.off (.t 3) 1)⟩,
  ⟨(some 20), (some (18, true)), .v (.load (.t 19) none)⟩,
  ⟨(some 21), (some (18, true)), .v (.mov (.t 2))⟩,
  ⟨(some 22), (some (18, true)), .v (.bin .leq (.t 20) (.t 21))⟩,
  ⟨(some 23), none, .v (.pick (.t 18) (.t 22) (.c (.lit (.bool false))))⟩,
  ⟨(some 6), none, .v (.mov (.t 23))⟩])
 .ret))
def r65 : List RV := [.t 6]
theorem k65 : (Try.f65.body.bind (cC Try.prog), cR Try.prog Try.f65.results.toList, Try.f65.ntmps) = (some s65, some r65, 24) := by kernel_rfl
theorem q65 : Known Try.prog 65 := ⟨_, Try.func65, by decide, by simp [Try.f65]⟩
def s41 : SC :=
 (.seq (.reg [⟨(some 3), none, .box 24 (.t 0)⟩,
  ⟨(some 6), none, .v (.mov (.c (.lit (.bool false))))⟩])
 (.seq (.reg [⟨(some 7), none, .v (.mov (.t 1))⟩,
  ⟨(some 8), none, .v (.off (.t 3) 0)⟩,
  ⟨(some 9), none, .v (.load (.t 8) none)⟩,
  ⟨(some 10), none, .v (.bin .leq (.t 7) (.t 9))⟩,
  ⟨(some 11), none, .v (.mov (.t 10))⟩,
  ⟨(some 12), (some (11, true)), .v (.off (.t 3) 0)⟩,
  ⟨(some 13), (some (11, true)), .v (.load (.t 12) none)⟩,
  ⟨(some 14), (some (11, true)), .v (.off (.t 3) 1)⟩,
  ⟨(some 15), (some (11, true)), .v (.load (.t 14) none)⟩,
  ⟨(some 16), (some (11, true)), .v (.bin .leq (.t 13) (.t 15))⟩,
  ⟨(some 17), none, .v (.pick (.t 11) (.t 16) (.c (.lit (.bool false))))⟩,
  ⟨(some 18), none, .v (.mov (.t 17))⟩,
  ⟨(some 19), (some (18, true)), .v (.off (.t 3) 1)⟩,
  ⟨(some 20), (some (18, true)), .v (.load (.t 19) none)⟩,
  ⟨(some 21), (some (18, true)), .v (.mov (.t 2))⟩,
  ⟨(some 22), (some (18, true)), .v (.bin .leq (.t 20) (.t 21))⟩,
  ⟨(some 23), none, .v (.pick (.t 18) (.t 22) (.c (.lit (.bool false))))⟩,
  ⟨(some 6), none, .v (.mov (.t 23))⟩])
 .ret))
def r41 : List RV := [.t 6]
theorem k41 : (Try.f41.body.bind (cC Try.prog), cR Try.prog Try.f41.results.toList, Try.f41.ntmps) = (some s41, some r41, 24) := by kernel_rfl
theorem q41 : Known Try.prog 41 := ⟨_, Try.func41, by decide, by simp [Try.f41]⟩
theorem res {K : SV → Prop} {x y : SV} (h : K y) (e : leR 4 x y) : ∃ r', K r' ∧ leR 4 x r' := ⟨y, h, e⟩
def Fin : FC := fun args => match args with
 | [.int .i64 x, .int .i64 lo, .int .i64 hi] => some (True, .bool (decide (lo ≤ x ∧ x ≤ hi)))
 | _ => none
theorem p78 : PureOk Try.prog 78 (fcC Fin) := by
 refine pure_of (T := []) trivial Try.func78 k78 ?_
 intro args K hC
 unfold fcC Fin at hC
 split at hC <;> first | (exact hC.elim) | skip
 rename_i h
 split at h <;> first | (cases h; done) | skip
 cases h
 simp only [e_reg, e_seq, e_ret, o_nil, o_cons, gd_none, gd_some, gdK_tt, gdK_ft, gdK_bt, putK_e, runK_e, skipK_e, vK_e, evh_v, seqK_n, ends_r, endK1_e, endK2_e, evp, bin, gt, st, putf, X.get, mkfr, rep, rdR, tupled, clV, clS, clo, undef, Nat.reduceSub, true_and, decide_eq_true_eq, decide_eq_false_iff_not, s78, r78]
 exact ⟨fun h => res hC.2 (by simp [leR, h]), fun h => res hC.2 (by simp [leR, h])⟩
theorem p33 : PureOk Try.prog 33 (fcC Fin) := by
 refine pure_of (T := []) trivial Try.func33 k33 ?_
 intro args K hC
 unfold fcC Fin at hC
 split at hC <;> first | (exact hC.elim) | skip
 rename_i h
 split at h <;> first | (cases h; done) | skip
 cases h
 simp only [e_reg, e_seq, e_ret, o_nil, o_cons, gd_none, gd_some, gdK_tt, gdK_ft, gdK_bt, putK_e, runK_e, skipK_e, vK_e, evh_v, seqK_n, ends_r, endK1_e, endK2_e, evp, bin, gt, st, putf, X.get, mkfr, rep, rdR, tupled, clV, clS, clo, undef, Nat.reduceSub, true_and, decide_eq_true_eq, decide_eq_false_iff_not, s33, r33]
 exact ⟨fun h => res hC.2 (by simp [leR, h]), fun h => res hC.2 (by simp [leR, h])⟩
def Fsp : FC := fun args => match args with
 | [.agg [.int .i64 a, .int .i64 b], .int .i64 lo, .int .i64 hi] => some (True, .bool (decide ((lo ≤ a ∧ a ≤ b) ∧ b ≤ hi)))
 | _ => none
theorem p65 : PureOk Try.prog 65 (fcC Fsp) := by
 refine pure_of (T := []) trivial Try.func65 k65 ?_
 intro args K hC
 unfold fcC Fsp at hC
 split at hC <;> first | (exact hC.elim) | skip
 rename_i h
 split at h <;> first | (cases h; done) | skip
 cases h
 obtain ⟨-, hK⟩ := hC
 simp only [e_reg, e_seq, e_ret, o_nil, o_cons, gd_none, gd_some, gdK_tt, gdK_ft, gdK_bt, putK_e, runK_e, skipK_e, vK_e, boxK_e, evh_v, evh_box, seqK_n, ends_r, endK1_e, endK2_e, evp, bin, gt, gq, st, putf, X.get, mkfr, rep, rdR, tupled, clV, clS, clo, ld, lda, cs1, gb, pb, ln, undef, Nat.reduceSub, Nat.reduceAdd, true_and, decide_eq_true_eq, decide_eq_false_iff_not, s65, r65]
 exact ⟨fun h1 => ⟨fun h2 => res hK (by simp [leR, h1, h2]), fun h2 => res hK (by simp [leR, h1, h2])⟩, fun h1 => res hK (by simp [leR, h1])⟩
theorem p41 : PureOk Try.prog 41 (fcC Fsp) := by
 refine pure_of (T := []) trivial Try.func41 k41 ?_
 intro args K hC
 unfold fcC Fsp at hC
 split at hC <;> first | (exact hC.elim) | skip
 rename_i h
 split at h <;> first | (cases h; done) | skip
 cases h
 obtain ⟨-, hK⟩ := hC
 simp only [e_reg, e_seq, e_ret, o_nil, o_cons, gd_none, gd_some, gdK_tt, gdK_ft, gdK_bt, putK_e, runK_e, skipK_e, vK_e, boxK_e, evh_v, evh_box, seqK_n, ends_r, endK1_e, endK2_e, evp, bin, gt, gq, st, putf, X.get, mkfr, rep, rdR, tupled, clV, clS, clo, ld, lda, cs1, gb, pb, ln, undef, Nat.reduceSub, Nat.reduceAdd, true_and, decide_eq_true_eq, decide_eq_false_iff_not, s41, r41]
 exact ⟨fun h1 => ⟨fun h2 => res hK (by simp [leR, h1, h2]), fun h2 => res hK (by simp [leR, h1, h2])⟩, fun h1 => res hK (by simp [leR, h1])⟩
def lo (L : List (Int × Int)) (i : Nat) : Int := (L.getD i (0, 0)).1
def hi (L : List (Int × Int)) (i : Nat) : Int := (L.getD i (0, 0)).2
def rowsS (L : List (Int × Int)) (i : Nat) : List SV := [.int .i64 (lo L i), .int .i64 (hi L i)]
structure Sx where
 (step : Int) (T : List (Int × Int)) (a b w : Int) (S : List (Int × Int))
end
section
def s94 : SC :=
 (.seq (.reg [⟨(some 4), none, .v (.mov (.c (.lit (.bool false))))⟩])
 (.seq (.seq (.reg [⟨(some 7), none, .v (.mov (.t 0))⟩,
  ⟨(some 8), none, .v (.len (.t 7))⟩,
  ⟨(some 9), none, .v (.mov (.c (.int .i64 (0))))⟩])
 (.block 0 (.loop
  (.seq (.reg [⟨(some 10), none, .v (.bin .lss (.t 9) (.t 8))⟩])
  (.seq (.cond (.t 10)
   .skip
   (.exit 0))
  (.seq (.block 1 (.seq (.reg [⟨(some 11), none, .v (.ixa (.t 7) (.t 9) 2)⟩,
   ⟨(some 12), none, .v (.load (.t 11) (some 2))⟩,
   ⟨(some 6), none, .new 24 [(.int .i64 (0)), (.int .i64 (0))]⟩,
   ⟨none, none, .store 2 (.t 6) (.t 12)⟩])
  (.seq (.reg [⟨(some 13), none, .v (.load (.t 6) (some 2))⟩,
   ⟨(some 14), none, .v (.mov (.t 1))⟩,
   ⟨(some 15), none, .v (.neg (.t 14))⟩,
   ⟨(some 16), none, .v (.mov (.t 1))⟩,
   ⟨(some 17), none, .call (.c (.fn 65 [])) [(.t 13), (.t 15), (.t 16)]⟩,
   ⟨(some 18), none, .v (.not (.t 17))⟩])
  (.cond (.t 18)
   (.seq (.reg [⟨(some 4), none, .v (.mov (.c (.lit (.bool false))))⟩])
   .ret)
   .skip))))
  (.reg [⟨(some 19), none, .v (.bin .add (.t 9) (.c (.int .i64 (1))))⟩,
   ⟨(some 9), none, .v (.mov (.t 19))⟩])))))))
 (.seq (.reg [⟨(some 4), none, .v (.mov (.c (.lit (.bool true))))⟩])
 .ret)))
def r94 : List RV := [.t 4]
theorem k94 : (Try.f94.body.bind (cC Try.prog), cR Try.prog Try.f94.results.toList, Try.f94.ntmps) = (some s94, some r94, 20) := by kernel_rfl
theorem q94 : Known Try.prog 94 := ⟨_, Try.func94, by decide, by simp [Try.f94]⟩
def spE (m : Int) (x : Int × Int) : Bool := decide ((-m ≤ x.1 ∧ x.1 ≤ x.2) ∧ x.2 ≤ m)
theorem getD_memS {L : List (Int × Int)} {i : Nat} (h : i < L.length) : L.getD i (0, 0) ∈ L := by simp [List.getD, h]
theorem allS_snoc {m : Int} {L : List (Int × Int)} {i : Nat} (h : i < L.length) : (L.take (i + 1)).all (spE m) = ((L.take i).all (spE m) && spE m (L.getD i (0, 0))) := by
 rw [List.take_add_one, List.getElem?_eq_getElem h, List.all_append]; simp [List.getD, h]
def C94 : PC := fun args K => ∃ (L : List (Int × Int)) (m : Int), args = [.rd 2 L.length (rowsS L), .int .i64 m] ∧ (0 ≤ m ∧ m ≤ 1000000 ∧ L.length ≤ 12) ∧ K (.bool (L.all (spE m)))
theorem p94 : PureOk Try.prog 94 C94 := by
 refine pure_of (T := [(65, .fc Fsp)]) ⟨⟨p65, q65⟩, trivial⟩ Try.func94 k94 ?_
 rintro args K ⟨L, m, rfl, ⟨hm1, hm2, hl⟩, hK⟩
 simp only [e_reg, e_seq, e_block, e_loop, o_nil, o_cons, gd_none, putK_e, runK_e, vK_e, evh_v, seqK_n, evp, gt, st, putf, X.get, mkfr, rep, lens, undef, Nat.reduceSub, true_and, s94, r94]
 refine loop_at2 (G := Nat) (fun i => [(9, .int .i64 i)]) (fun i => []) (fun i => i ≤ L.length ∧ (L.take i).all (spE m) = true) (fun i => L.length - i) 0 ⟨Nat.zero_le _, by simp⟩ ?_
 (intro fr1 hf1; simp only [forget, dstC, dstO, st] at hf1; subst hf1)
 refine ⟨?_, ?_⟩
 ·refine Lw_re 0 [] (Nat.zero_le _) (by simp [ln]) (by simp [ln]) rfl ?_ ?_
  ·simp only [reL, reX, inb, ln, sts, st, and_self, Int.natCast_zero, implies_true]
  ·simp only [reH, reN]
 ·rintro i ⟨hi1, hp⟩
  simp only [inr64, e_skip, e_reg, and_self, e_seq, e_cond, e_block, e_exit, e_ret, o_nil, o_cons, gd_none, putK_e, runK_e, vK_e, storeK3_e, storeK2_e, storeK_e, conK_e, callK_e, evh_v, evh_new, evh_store, evh_call, loopK_n, loopK_x, loopK_r, seqK_n, seqK_x, seqK_r, condK_b, exitK_t, blockK_x, blockK_n, blockK_r, ends_r, endK1_e, endK2_e, gam_e, gamK_f, pc_e, pcK_e, fcC_e, fcK_e, evp, bin, gt, st, putf, X.get, gets, ap, rdR, tupled, clV, clL, clS, clo, ld, lda, ixs, tk, dr, sp, sp.spl, ll, cs1, one, allOne, gb, sb, pb, ln, lk, Bool.and_true, Bool.not_true, Bool.not_false, Nat.reduceAdd, beq_self_eq_true, true_and, decide_eq_true_eq, decide_eq_false_iff_not, Bool.not_eq_eq_eq_not, sts, Int.toNat_natCast, rowsS, Fsp]
  have hsp : spE m (L.getD i (0, 0)) = decide ((-m ≤ lo L i ∧ lo L i ≤ hi L i) ∧ hi L i ≤ m) := rfl
  refine ⟨fun h => ⟨by omega, by omega, fun h1 => res hK ?_, fun h1 => ⟨by omega, ?_⟩⟩, fun h => res hK ?_⟩
  ·have ha : i < L.length := by omega
   have : L.all (spE m) = false := by
    rw [Bool.eq_false_iff]; intro h2
    rw [List.all_eq_true] at h2
    have := h2 _ (getD_memS ha)
    rw [hsp, decide_eq_true_eq] at this
    exact h1 this
   simp [leR, this]
  ·have ha : i < L.length := by omega
   refine Nx.mk (i + 1) ⟨by omega, ?_⟩ (by show L.length - (i + 1) < L.length - i; omega) (Lw_re 0 [] (Nat.zero_le _) (by simp [ln]) (by simp [ln]) rfl ?_ ?_)
   ·rw [allS_snoc ha, hp, hsp, decide_eq_true h1]; rfl
   ·simp only [reL, reX, inb, and_self, Int.natCast_add, Int.natCast_one, implies_true]
   ·simp only [reH, reN]
  ·have : i = L.length := by omega
   subst this
   rw [List.take_length] at hp
   simp [leR, hp]
def Sx.ok (v : Sx) : Prop := ((1 ≤ v.step ∧ v.step ≤ 72000) ∧ (2 ≤ (v.T.length : Int) ∧ (v.T.length : Int) ≤ 12) ∧ v.T.all (spE 600) = true ∧ v.step * ((v.T.length : Int) - 1) ≤ 504000) ∧
 ((-1800 ≤ v.a ∧ v.a ≤ v.b) ∧ v.b ≤ 1800) ∧ (0 ≤ v.w ∧ v.w ≤ 60) ∧ (v.S.length : Int) ≤ 6 ∧ v.S.all (spE 120) = true
instance (v : Sx) : Decidable v.ok := by unfold Sx.ok; infer_instance
def Sx.chk (v : Sx) : Int := if v.ok then 0 else 50
end
section
theorem loop_once {N : Nat} {body : (Exit → St → Prop) → St → Prop} {K : Exit → St → Prop} {s : St} (h : body (loopK K fun _ => False) s) : LoopP N body K s := by
 refine ⟨fun n s' => n = 0 ∧ s' = s, ⟨0, s, fun E a _ hn hr => ⟨E, Env.Le.xt (.refl E) hn, rfl, hr⟩, rfl, rfl⟩, ?_⟩
 rintro n s' ⟨rfl, rfl⟩
 have e : (fun s'' : St => ∃ m s3, m < 0 ∧ Lw N s'' s3 ∧ (m = 0 ∧ s3 = s')) = fun _ => False := by
  funext x
  exact propext ⟨fun ⟨m, _, h, _⟩ => by omega, fun h => h.elim⟩
 rw [e]; exact h
end
section
theorem pweak {P : Program} {f : FuncId} {C C' : PC} (h : PureOk P f C) (hc : ∀ args K, C' args K → C args K) : PureOk P f C' :=
 fun w im args vs K hi ha hC => h w im args vs K hi ha (hc args K hC)
end
section
def s89 : SC :=
 (.seq (.reg [⟨(some 2), none, .new 24 [(.int .i64 (0)), (.int .i64 (0))]⟩])
 (.seq (.reg [⟨(some 3), none, .new 24 [(.int .i64 (0)), (.int .i64 (0))]⟩])
 (.seq (.seq (.reg [⟨(some 6), none, .v (.mov (.t 0))⟩,
  ⟨(some 7), none, .v (.len (.t 6))⟩,
  ⟨(some 8), none, .v (.mov (.c (.int .i64 (0))))⟩])
 (.block 0 (.loop
  (.seq (.reg [⟨(some 9), none, .v (.bin .lss (.t 8) (.t 7))⟩])
  (.seq (.cond (.t 9)
   .skip
   (.exit 0))
  (.seq (.block 1 (.seq (.reg [⟨(some 10), none, .v (.ixa (.t 6) (.t 8) 2)⟩,
   ⟨(some 11), none, .v (.load (.t 10) (some 2))⟩,
   ⟨(some 5), none, .new 24 [(.int .i64 (0)), (.int .i64 (0))]⟩,
   ⟨none, none, .store 2 (.t 5) (.t 11)⟩])
  (.seq (.reg [⟨(some 12), none, .v (.off (.t 3) 0)⟩,
   ⟨(some 13), none, .v (.load (.t 12) none)⟩,
   ⟨(some 14), none, .v (.off (.t 5) 0)⟩,
   ⟨(some 15), none, .v (.load (.t 14) none)⟩,
   ⟨(some 16), none, .v (.bin .add (.t 13) (.t 15))⟩,
   ⟨(some 17), none, .v (.off (.t 3) 0)⟩,
   ⟨none, none, .store 1 (.t 17) (.t 16)⟩])
  (.reg [⟨(some 18), none, .v (.off (.t 3) 1)⟩,
   ⟨(some 19), none, .v (.load (.t 18) none)⟩,
   ⟨(some 20), none, .v (.off (.t 5) 1)⟩,
   ⟨(some 21), none, .v (.load (.t 20) none)⟩,
   ⟨(some 22), none, .v (.bin .add (.t 19) (.t 21))⟩,
   ⟨(some 23), none, .v (.off (.t 3) 1)⟩,
   ⟨none, none, .store 1 (.t 23) (.t 22)⟩]))))
  (.reg [⟨(some 24), none, .v (.bin .add (.t 8) (.c (.int .i64 (1))))⟩,
   ⟨(some 8), none, .v (.mov (.t 24))⟩])))))))
 (.seq (.reg [⟨(some 25), none, .v (.load (.t 3) (some 2))⟩,
  ⟨none, none, .store 2 (.t 2) (.t 25)⟩])
 .ret))))
def r89 : List RV := [.c 2 (some 2)]
theorem k89 : (Try.f89.body.bind (cC Try.prog), cR Try.prog Try.f89.results.toList, Try.f89.ntmps) = (some s89, some r89, 26) := by kernel_rfl
theorem q89 : Known Try.prog 89 := ⟨_, Try.func89, by decide, by simp [Try.f89]⟩
end
end Go.Proofs.Ytjagiieconpgbaa
end
section
namespace Go.Proofs.Ytjagiieconpgbaa
open Go Go.Vg
set_option linter.unusedSimpArgs false
set_option linter.unusedVariables false
set_option maxRecDepth 10000
section
def sumT (L : List (Int × Int)) : Nat → Int × Int
 | 0 => (0, 0)
 | i + 1 => ((sumT L i).1 + lo L i, (sumT L i).2 + hi L i)
def bnd9 (L : List (Int × Int)) : Prop := ∀ i, (-1000000000 ≤ lo L i ∧ lo L i ≤ 1000000000) ∧ (-1000000000 ≤ hi L i ∧ hi L i ≤ 1000000000)
theorem sumT_bnd {L : List (Int × Int)} (h : bnd9 L) : ∀ i : Nat, (-1000000000 * (i : Int) ≤ (sumT L i).1 ∧ (sumT L i).1 ≤ 1000000000 * (i : Int)) ∧ (-1000000000 * (i : Int) ≤ (sumT L i).2 ∧ (sumT L i).2 ≤ 1000000000 * (i : Int))
 | 0 => by simp [sumT]
 | i + 1 => by
  have := sumT_bnd h i
  have := h i
  simp only [sumT]
  omega
def C89 : PC := fun args K => ∃ (L : List (Int × Int)) (f : Nat → List SV), args = [.rd 2 L.length f] ∧ (∀ i, i < L.length → f i = rowsS L i) ∧ bnd9 L ∧ L.length ≤ 20 ∧ K (.agg [.int .i64 (sumT L L.length).1, .int .i64 (sumT L L.length).2])
theorem p89 : PureOk Try.prog 89 C89 := by
 refine pure_of (T := []) trivial Try.func89 k89 ?_
 rintro args K ⟨L, f, rfl, hf, hb, hl, hK⟩
 simp only [e_reg, e_seq, e_block, e_loop, o_nil, o_cons, gd_none, putK_e, runK_e, vK_e, evh_v, evh_new, seqK_n, evp, gt, st, putf, X.get, mkfr, rep, lens, pb, ln, undef, Nat.reduceSub, Nat.reduceAdd, true_and, s89, r89]
 refine loop_at2 (G := Nat) (fun i => [(8, .int .i64 i)]) (fun i => [.box 24 [.int .i64 0, .int .i64 0], .box 24 [.int .i64 (sumT L i).1, .int .i64 (sumT L i).2]]) (fun i => i ≤ L.length) (fun i => L.length - i) 0 (Nat.zero_le _) ?_
 (intro fr1 hf1; simp only [forget, dstC, dstO, st] at hf1; subst hf1)
 refine ⟨?_, ?_⟩
 ·refine Lw_re 2 [] (Nat.zero_le _) (by simp [ln]) (by simp [ln]) rfl ?_ ?_
  ·simp only [reL, reX, inb, ln, sts, st, Nat.reduceLT, Nat.reduceAdd, decide_true, and_self, Int.natCast_zero, implies_true]
  ·simp only [reL, reX, reH, reB, reN, inb, and_self, sumT]
 ·intro i hi1
  by_cases ha : i < L.length
  ·have f0 := hf i ha
   simp only [inr64, ↓reduceIte, e_skip, e_reg, and_self, e_seq, e_cond, e_block, e_exit, e_ret, o_nil, o_cons, gd_none, putK_e, runK_e, vK_e, storeK3_e, storeK2_e, storeK_e, evh_v, evh_new, evh_store, loopK_n, loopK_x, seqK_n, seqK_x, condK_b, exitK_t, blockK_x, blockK_n, ends_r, endK1_e, endK2_e, evp, bin, gt, gq, st, putf, X.get, rdR, tupled, clV, clL, clS, clo, ld, lda, ixs, tk, dr, sp, sp.spl, ll, cs1, one, allOne, gb, sb, pb, ln, Bool.and_true, Nat.reduceAdd, beq_self_eq_true, true_and, decide_eq_true_eq, decide_eq_false_iff_not, sts, Int.toNat_natCast, f0, rowsS]
   have h1 := sumT_bnd hb i
   have h2 := hb i
   refine ⟨fun h => ⟨by omega, by omega, by omega, by omega, ?_⟩, fun h => by omega⟩
   refine Nx.mk (i + 1) (by show i + 1 ≤ L.length; omega) (by show L.length - (i + 1) < L.length - i; omega) (Lw_re 2 [] (Nat.zero_le _) (by simp [ln]) (by simp [ln]) rfl ?_ ?_)
   ·simp only [reL, reX, inb, Nat.reduceLT, decide_true, and_self, Int.natCast_add, Int.natCast_one, implies_true]
   ·simp only [reL, reX, reH, reB, reN, inb, and_self, sumT]
  ·have : i = L.length := by omega
   subst this
   simp only [e_skip, e_reg, and_self, e_seq, e_cond, e_block, e_exit, e_ret, o_nil, o_cons, gd_none, putK_e, runK_e, vK_e, storeK3_e, storeK2_e, storeK_e, evh_v, evh_store, loopK_x, seqK_n, seqK_x, condK_b, exitK_t, blockK_x, ends_r, endK1_e, endK2_e, evp, bin, gt, st, putf, X.get, rdR, tupled, clV, clL, clS, clo, ld, lda, ixs, tk, dr, sp, sp.spl, ll, cs1, one, allOne, gb, sb, Bool.and_true, Nat.reduceAdd, beq_self_eq_true, true_and, decide_eq_true_eq, decide_eq_false_iff_not, sts, Int.toNat_natCast]
   refine ⟨fun h => by omega, fun h => res hK (by simp [leR, leR.leRs])⟩
end
section
end
section
end
section
end
section
def Sx.all (v : Sx) : Int := ((2 ^ v.S.length : Nat) : Int) - 1
end
section
end
section
end
section
def s3 : SC :=
 (.seq (.reg [⟨(some 2), none, .box 26 (.t 0)⟩,
  ⟨(some 3), none, .box 28 (.t 1)⟩,
  ⟨(some 4), none, .v (.mov (.c (.lit (.bool false))))⟩])
 (.seq (.reg [⟨(some 14), none, .v (.load (.t 2) (some 6))⟩,
  ⟨(some 15), none, .v (.load (.t 3) (some 2))⟩,
  ⟨(some 16), none, .call (.c (.fn 15 [])) [(.t 14), (.t 15)]⟩,
  ⟨(some 13), none, .v (.mov (.t 16))⟩,
  ⟨(some 17), none, .v (.ext (.t 13) 0)⟩,
  ⟨(some 18), none, .v (.ext (.t 13) 1)⟩,
  ⟨(some 5), none, .new 24 [(.int .i64 (0)), (.int .i64 (0))]⟩,
  ⟨none, none, .store 2 (.t 5) (.t 17)⟩,
  ⟨(some 6), none, .v (.mov (.t 18))⟩])
 (.seq (.reg [⟨(some 20), none, .v (.load (.t 2) (some 6))⟩,
  ⟨(some 21), none, .v (.load (.t 3) (some 2))⟩,
  ⟨(some 22), none, .call (.c (.fn 16 [])) [(.t 20), (.t 21)]⟩,
  ⟨(some 19), none, .v (.mov (.t 22))⟩,
  ⟨(some 23), none, .v (.ext (.t 19) 0)⟩,
  ⟨(some 24), none, .v (.ext (.t 19) 1)⟩,
  ⟨(some 7), none, .new 24 [(.int .i64 (0)), (.int .i64 (0))]⟩,
  ⟨none, none, .store 2 (.t 7) (.t 23)⟩,
  ⟨(some 8), none, .v (.mov (.t 24))⟩])
 (.seq (.seq (.drw [(0, ⟨(some 25), none, .v (.load (.t 5) (some 2))⟩, false),
  (1, ⟨(some 26), none, .v (.load (.t 7) (some 2))⟩, false),
  (2, ⟨(some 27), none, .v (.eqs [(some .i64), (some .i64)] true (.t 25) (.t 26))⟩, false),
  (3, ⟨(some 28), none, .v (.mov (.t 27))⟩, true),
  (4, ⟨(some 29), (some (28, false)), .v (.mov (.t 6))⟩, false),
  (5, ⟨(some 30), (some (28, false)), .v (.mov (.t 8))⟩, false),
  (6, ⟨(some 31), (some (28, false)), .v (.bin .neq (.t 29) (.t 30))⟩, false),
  (7, ⟨(some 32), none, .v (.pick (.t 28) (.c (.lit (.bool true))) (.t 31))⟩, false),
  (8, ⟨(some 33), none, .v (.mov (.t 32))⟩, true),
  (9, ⟨(some 34), (some (33, false)), .v (.load (.t 2) (some 6))⟩, false),
  (10, ⟨(some 35), (some (33, false)), .call (.c (.fn 17 [])) [(.t 34)]⟩, false),
  (11, ⟨(some 36), (some (33, false)), .v (.load (.t 2) (some 6))⟩, false)]
  none
  [⟨(some 37), (some (33, false)), .call (.c (.fn 18 [])) [(.t 36)]⟩,
  ⟨(some 38), (some (33, false)), .v (.bin .neq (.t 35) (.t 37))⟩,
  ⟨(some 39), none, .v (.pick (.t 33) (.c (.lit (.bool true))) (.t 38))⟩])
 (.cond (.t 39)
  (.seq (.reg [⟨(some 4), none, .v (.mov (.c (.lit (.bool false))))⟩])
  .ret)
  .skip))
 (.seq (.reg [⟨(some 41), none, .v (.load (.t 2) (some 6))⟩,
  ⟨(some 42), none, .call (.c (.fn 19 [])) [(.t 41)]⟩,
  ⟨(some 40), none, .v (.mov (.t 42))⟩,
  ⟨(some 43), none, .v (.ext (.t 40) 0)⟩,
  ⟨(some 44), none, .v (.ext (.t 40) 1)⟩,
  ⟨(some 45), none, .v (.ext (.t 40) 2)⟩,
  ⟨(some 9), none, .v (.mov (.t 43))⟩,
  ⟨(some 10), none, .v (.mov (.t 44))⟩,
  ⟨(some 6), none, .v (.mov (.t 45))⟩])
 (.seq (.reg [⟨(some 47), none, .v (.load (.t 2) (some 6))⟩,
  ⟨(some 48), none, .call (.c (.fn 20 [])) [(.t 47)]⟩,
  ⟨(some 46), none, .v (.mov (.t 48))⟩,
  ⟨(some 49), none, .v (.ext (.t 46) 0)⟩,
  ⟨(some 50), none, .v (.ext (.t 46) 1)⟩,
  ⟨(some 51), none, .v (.ext (.t 46) 2)⟩,
  ⟨(some 11), none, .v (.mov (.t 49))⟩,
  ⟨(some 12), none, .v (.mov (.t 50))⟩,
  ⟨(some 8), none, .v (.mov (.t 51))⟩])
 (.seq (.reg [⟨(some 52), none, .v (.mov (.t 9))⟩,
  ⟨(some 53), none, .v (.mov (.t 11))⟩,
  ⟨(some 54), none, .v (.bin .eql (.t 52) (.t 53))⟩,
  ⟨(some 55), none, .v (.mov (.t 54))⟩,
  ⟨(some 56), (some (55, true)), .v (.mov (.t 10))⟩,
  ⟨(some 57), (some (55, true)), .v (.mov (.t 12))⟩,
  ⟨(some 58), (some (55, true)), .v (.bin .eql (.t 56) (.t 57))⟩,
  ⟨(some 59), none, .v (.pick (.t 55) (.t 58) (.c (.lit (.bool false))))⟩,
  ⟨(some 60), none, .v (.mov (.t 59))⟩,
  ⟨(some 61), (some (60, true)), .v (.mov (.t 6))⟩,
  ⟨(some 62), (some (60, true)), .v (.mov (.t 8))⟩,
  ⟨(some 63), (some (60, true)), .v (.bin .eql (.t 61) (.t 62))⟩,
  ⟨(some 64), none, .v (.pick (.t 60) (.t 63) (.c (.lit (.bool false))))⟩,
  ⟨(some 65), none, .v (.mov (.t 64))⟩,
  ⟨(some 66), (some (65, true)), .call (.c (.fn 21 [])) []⟩,
  ⟨(some 67), none, .v (.pick (.t 65) (.t 66) (.c (.lit (.bool false))))⟩,
  ⟨(some 4), none, .v (.mov (.t 67))⟩])
 .ret)))))))
theorem q3 : Known Try.prog 3 := ⟨_, Try.func3, by decide, by simp [Try.f3]⟩
def F21 : FC := fun args => match args with
 | [] => some (True, .lit (.bool true))
 | _ => none
end
end Go.Proofs.Ytjagiieconpgbaa
end
section
namespace Go.Proofs.Ytjagiieconpgbaa
open Go Go.Vg
set_option linter.unusedSimpArgs false
set_option linter.unusedVariables false
set_option maxRecDepth 10000
end Go.Proofs.Ytjagiieconpgbaa
end
