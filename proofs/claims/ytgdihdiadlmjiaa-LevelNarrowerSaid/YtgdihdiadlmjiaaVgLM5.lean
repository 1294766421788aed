import Derived.Test.YtgdihdiadlmjiaaVgLM4
set_option linter.all false
namespace Go.Proofs.Ytgdihdiadlmjiaa
open Go Go.Vg
set_option maxRecDepth 10000
def s20 : SC :=
 (.seq (.reg [⟨(some 2),none,.box 25 (.t 0)⟩,.w4 4,.w4 5,.u1 6 (0)]) (.seq (.seq (.reg [.u4 10 2 8,.u0 11 1,(.w1 12 47 [(.t 10),(.t 11)]),.u0 7 12]) (.seq (.reg [.u0 13 7,.u7 14 .neq 13 (0)]) (.cond (.t 14) (.seq (.reg [⟨(some 15),none,.bld [(.int .i64 (0)),(.int .i64 (0))] []⟩,⟨(some 16),none,.bld [(.int .i64 (0)),(.int .i64 (0))] []⟩,.u0 17 7,.w3 2 4 15,.w3 2 5 16,.u0 6 17]) .ret) .skip))) (.seq (.reg [.u4 18 2 8,⟨(some 19),none,.bld [(.int .i64 (0)),(.int .i64 (0)),(.int .i64 (0)),(.int .i64 (0)),(.int .i64 (0)),(.int .i64 (0)),(.int .i64 (0)),(.int .i64 (0))] [(0,8,(.t 18))]⟩,⟨(some 8),none,.new 78 [(.int .i64 (0)),(.int .i64 (0)),(.int .i64 (0)),(.int .i64 (0)),(.int .i64 (0)),(.int .i64 (0)),(.int .i64 (0)),(.int .i64 (0))]⟩,.w3 8 8 19]) (.seq (.drw [(0,.u4 20 8 8,false),(1,.u4 21 8 8,false),(2,.u0 22 1,false),(3,(.w1 23 49 [(.t 21),(.t 22)]),false),(4,(.w1 24 56 [(.t 20),(.t 23)]),false)] (some ⟨(some 9),none,.new 88 [(.int .i64 (0)),(.int .i64 (0)),(.int .i64 (0)),(.int .i64 (0))]⟩) [.w3 4 9 24]) (.seq (.seq (.drw [(0,.u4 25 9 4,false),(1,(.w1 26 57 []),false)] none [(.w6 27 (.eqs [(some .i64),(some .i64),(some .i64),(some .i64)] false (.t 25) (.t 26)))]) (.cond (.t 27) (.seq (.reg [⟨(some 28),none,.bld [(.int .i64 (0)),(.int .i64 (0))] []⟩,⟨(some 29),none,.bld [(.int .i64 (0)),(.int .i64 (0))] []⟩,.w3 2 4 28,.w3 2 5 29,.u1 6 (33)]) .ret) .skip)) (.seq (.tre (.op (.u2 30 9 0) (.op (.u4 31 30 2) (.op (.u2 32 9 2) (.op (.u4 33 32 2) (.op (.w3 2 4 31) (.op (.w3 2 5 33) (.op (.u1 6 (0)) .leaf .stop) .stop) .stop) (.op (.w3 2 4 31) (.op (.u4 33 32 2) (.op (.w3 2 5 33) (.op (.u1 6 (0)) .leaf .stop) .stop) .stop) .stop)) (.op (.w3 2 4 31) (.op (.u2 32 9 2) (.op (.u4 33 32 2) (.op (.w3 2 5 33) (.op (.u1 6 (0)) .leaf .stop) .stop) .stop) .stop) .stop)) (.op (.u2 32 9 2) (.op (.u4 31 30 2) (.op (.u4 33 32 2) (.op (.w3 2 4 31) (.op (.w3 2 5 33) (.op (.u1 6 (0)) .leaf .stop) .stop) .stop) (.op (.w3 2 4 31) (.op (.u4 33 32 2) (.op (.w3 2 5 33) (.op (.u1 6 (0)) .leaf .stop) .stop) .stop) .stop)) (.op (.u4 33 32 2) (.op (.u4 31 30 2) (.op (.w3 2 4 31) (.op (.w3 2 5 33) (.op (.u1 6 (0)) .leaf .stop) .stop) .stop) .stop) .stop)) .stop)) (.op (.u2 32 9 2) (.op (.u2 30 9 0) (.op (.u4 31 30 2) (.op (.u4 33 32 2) (.op (.w3 2 4 31) (.op (.w3 2 5 33) (.op (.u1 6 (0)) .leaf .stop) .stop) .stop) (.op (.w3 2 4 31) (.op (.u4 33 32 2) (.op (.w3 2 5 33) (.op (.u1 6 (0)) .leaf .stop) .stop) .stop) .stop)) (.op (.u4 33 32 2) (.op (.u4 31 30 2) (.op (.w3 2 4 31) (.op (.w3 2 5 33) (.op (.u1 6 (0)) .leaf .stop) .stop) .stop) .stop) .stop)) (.op (.u4 33 32 2) (.op (.u2 30 9 0) (.op (.u4 31 30 2) (.op (.w3 2 4 31) (.op (.w3 2 5 33) (.op (.u1 6 (0)) .leaf .stop) .stop) .stop) .stop) .stop) .stop)) .stop))) .ret))))))
def r20 : List RV := [.c 4 (some 2), .c 5 (some 2), .t 6]
theorem k20 : (Try.f20.body.bind (cC Try.prog), cR Try.prog Try.f20.results.toList, Try.f20.ntmps) = (some s20, some r20, 34) := by kernel_rfl
theorem q20 : Known Try.prog 20 := ⟨_, Try.func20, by decide, by simp [Try.f20]⟩
def agrJ (L : Evs) (a z t : Int) (j : Nat) : Prop := a * (mvE (ev0 L j) z).1 <= t /\ t <= a * (mvE (ev0 L j) z).2
instance (L : Evs) (a z t : Int) (j : Nat) : Decidable (agrJ L a z t j) := by unfold agrJ; infer_instance
def decMp : SV -> Mp
 | .cm [.lit (.bool false)] [.agg [.int .i64 a, .int .i64 b]] => .d1 a b
 | .cm [.lit (.bool true)] [.agg [.int .i64 a, .int .i64 b]] => .t1 a b
 | .cm [.lit (.bool false), .lit (.bool true)] [.agg [.int .i64 a, .int .i64 b], .agg [.int .i64 c, .int .i64 e]] => .dt a b c e
 | .cm [.lit (.bool true), .lit (.bool false)] [.agg [.int .i64 c, .int .i64 e], .agg [.int .i64 a, .int .i64 b]] => .td a b c e
 | _ => .e0
theorem decMp_ks (M : Mp) : decMp (.cm M.ks M.vs) = M := by cases M <;> rfl
def F56 : FC := fun args => match args with
 | [.agg [.int .i64 m, .int .i64 l1, .int .i64 l2, .int .i64 v1, .int .i64 v2, .int .i64 z1, .int .i64 z2, .int .i64 w], .cm ks vs] => some ((Vl.ok ⟨m, l1, l2, v1, v2, z1, z2, w⟩ /\ (decMp (.cm ks vs)).ok) /\ SV.cm ks vs = (decMp (.cm ks vs)).sv,
   .agg [.int .i64 (trA ⟨m, l1, l2, v1, v2, z1, z2, w⟩ (decMp (.cm ks vs)).ev).1.1, .int .i64 (trA ⟨m, l1, l2, v1, v2, z1, z2, w⟩ (decMp (.cm ks vs)).ev).1.2, .int .i64 (trA ⟨m, l1, l2, v1, v2, z1, z2, w⟩ (decMp (.cm ks vs)).ev).2.1, .int .i64 (trA ⟨m, l1, l2, v1, v2, z1, z2, w⟩ (decMp (.cm ks vs)).ev).2.2])
 | _ => none
theorem p56f : PureOk Try.prog 56 (fcC F56) := by
 intro w im args vs K him ha hC
 unfold fcC F56 at hC
 split at hC <;> first | (exact hC.elim) | skip
 rename_i h
 split at h <;> first | (cases h; done) | skip
 cases h
 refine p56 w im _ vs K him ha ⟨⟨_, _, _, _, _, _, _, _⟩, _, ?_, hC.1.1, hC.2⟩
 rw [<- hC.1.2]; rfl
def F49 : FC := fun args => match args with
 | [.agg [.int .i64 m, .int .i64 l1, .int .i64 l2, .int .i64 v1, .int .i64 v2, .int .i64 z1, .int .i64 z2, .int .i64 w], .rd 3 n f] => some ((Vl.ok ⟨m, l1, l2, v1, v2, z1, z2, w⟩ /\ okRs ⟨m, l1, l2, v1, v2, z1, z2, w⟩ (decR n f)) /\ ∀ j, j < n -> f j = rowR (decR n f) j, .cm (Mp.mid w (decR n f)).ks (Mp.mid w (decR n f)).vs)
 | _ => none
theorem p49f : PureOk Try.prog 49 (fcC F49) := by
 intro w im args vs K hb hv hC
 refine p49.le w im args vs K hb hv ?_
 unfold fcC F49 at hC
 split at hC <;> first | (exact hC.elim) | skip
 rename_i h
 split at h <;> first | (cases h; done) | skip
 rename_i m l1 l2 v1 v2 z1 z2 w n f
 cases h
 refine ⟨[Vl.sv ⟨m, l1, l2, v1, v2, z1, z2, w⟩, .rd 3 (decR n f).length (rowR (decR n f))], ⟨.inl (by simp [Vl.sv, leR, leR.leRs]), .inl ?_, trivial⟩, ⟨m, l1, l2, v1, v2, z1, z2, w⟩, _, rfl, hC.1.1, hC.2⟩
 rw [decR_len]
 exact ⟨rfl, rfl, hC.1.2⟩
def sm4 (x : Int) : Prop := -10000 <= x /\ x <= 10000
def Mp.bd : Mp -> Prop
 | .e0 => True
 | .d1 a b => sm4 a /\ sm4 b
 | .t1 a b => sm4 a /\ sm4 b
 | .dt a b c e => (sm4 a /\ sm4 b) /\ sm4 c /\ sm4 e
 | .td a b c e => (sm4 a /\ sm4 b) /\ sm4 c /\ sm4 e
theorem cm_4 {a b c d : Int} (hc : sm4 c) (hd : sm4 d) (ha : sm4 a) (hb : sm4 b) : sm4 (cmL a b c d) /\ sm4 (cmH a b c d) := by
 unfold sm4 at *
 unfold cmL cmH
 by_cases h : max a c <= min b d
 ·rw [if_pos h, if_pos h]; omega
 ·rw [if_neg h, if_neg h]; omega
theorem bd_wth {M : Mp} (h : M.bd) {t : Bool} {x y : Int} (hx : sm4 x) (hy : sm4 y) : (M.wth t x y).bd := by
 cases M <;> cases t <;> simp only [Mp.wth, Mp.bd] at h ⊢
 ·exact ⟨hx, hy⟩
 ·exact ⟨hx, hy⟩
 ·exact cm_4 hx hy h.1 h.2
 ·exact ⟨h, hx, hy⟩
 ·exact ⟨⟨hx, hy⟩, h⟩
 ·exact cm_4 hx hy h.1 h.2
 ·exact ⟨cm_4 hx hy h.1.1 h.1.2, h.2⟩
 ·exact ⟨h.1, cm_4 hx hy h.2.1 h.2.2⟩
 ·exact ⟨cm_4 hx hy h.1.1 h.1.2, h.2⟩
 ·exact ⟨h.1, cm_4 hx hy h.2.1 h.2.2⟩
theorem wth_ne {M : Mp} {t : Bool} {x y : Int} : M.wth t x y ≠ .e0 := by
 cases M <;> cases t <;> simp [Mp.wth]
theorem mid_bd {v : Vl} (hv : v.ok) {R : List Rg} (hR : ∀ e ∈ R, okR v e) : (Mp.mid v.w R).bd := by
 suffices h : ∀ M : Mp, M.bd -> (R.foldl (fun M e => M.rd v.w e) M).bd from h .e0 trivial
 induction R with
 | nil => exact fun M h => h
 | cons e R ih =>
  intro M h
  refine ih (fun e he => hR e (List.mem_cons_of_mem _ he)) _ ?_
  have h1 := hR e List.mem_cons_self
  unfold okR at h1
  unfold Vl.ok at hv
  exact bd_wth h (by unfold sm4; omega) (by unfold sm4; omega)
theorem fold_ne {w : Int} {R : List Rg} : ∀ M : Mp, M ≠ .e0 -> R.foldl (fun M e => M.rd w e) M ≠ .e0 := by
 induction R with
 | nil => exact fun M h => h
 | cons e R ih => exact fun M h => ih _ wth_ne
theorem mid_ne {w : Int} {R : List Rg} (h : R ≠ []) : Mp.mid w R ≠ .e0 := by
 cases R with
 | nil => exact absurd rfl h
 | cons e R => exact fold_ne (w := w) (R := R) (Mp.e0.rd w e) wth_ne
theorem ok_of {M : Mp} (h : M.bd) (h0 : M ≠ .e0) : M.ok := by
 cases M
 ·exact absurd rfl h0
 all_goals
  unfold Mp.ok okE Mp.ev ev0
  simp only [Mp.bd, sm4] at h
  refine ⟨by simp, fun k hk => ?_⟩
  simp only [List.length_cons, List.length_nil] at hk
 ·obtain rfl : k = 0 := by omega
  exact ⟨.inl rfl, h⟩
 ·obtain rfl : k = 0 := by omega
  exact ⟨.inr rfl, h⟩
 ·rcases (show k = 0 \/ k = 1 by omega) with rfl | rfl
  ·exact ⟨.inl rfl, h.1⟩
  ·exact ⟨.inr rfl, h.2⟩
 ·rcases (show k = 0 \/ k = 1 by omega) with rfl | rfl
  ·exact ⟨.inl rfl, h.1⟩
  ·exact ⟨.inr rfl, h.2⟩
theorem mid_ok {v : Vl} (hv : v.ok) {R : List Rg} (hR : okRs v R) : (Mp.mid v.w R).ok :=
 ok_of (mid_bd hv hR.2) (mid_ne fun h => by have := hR.1; rw [h] at this; simp at this)
def trM (v : Vl) (R : List Rg) : (Int × Int) × (Int × Int) := trA v (Mp.mid v.w R).ev
theorem trM_bnd {v : Vl} (hv : v.ok) {R : List Rg} (hR : okRs v R) : ((-20000000 <= (trM v R).1.1 /\ (trM v R).1.1 <= 20000000) /\ (-20000000 <= (trM v R).1.2 /\ (trM v R).1.2 <= 20000000)) /\ ((-20000000 <= (trM v R).2.1 /\ (trM v R).2.1 <= 20000000) /\ (-20000000 <= (trM v R).2.2 /\ (trM v R).2.2 <= 20000000)) :=
 accM_bnd hv (mid_ok hv hR) (n := nzV v) (by unfold Vl.ok at hv; unfold nzV; omega)
def noT : (Int × Int) × (Int × Int) := ((1, 0), (1, 0))
def C20 : PC := fun args K => ∃ (v : Vl) (R : List Rg), args = [v.sv, .rd 3 R.length (rowR R)] /\
 (askI v R ≠ 0 -> K (.tup [.agg [.int .i64 0, .int .i64 0], .agg [.int .i64 0, .int .i64 0], .int .i64 (askI v R)])) /\
 (askI v R = 0 -> trM v R = noT -> K (.tup [.agg [.int .i64 0, .int .i64 0], .agg [.int .i64 0, .int .i64 0], .int .i64 33])) /\
 (askI v R = 0 -> trM v R ≠ noT -> K (.tup [.agg [.int .i64 (trM v R).1.1, .int .i64 (trM v R).1.2], .agg [.int .i64 (trM v R).2.1, .int .i64 (trM v R).2.2], .int .i64 0]))
theorem p20 : PureOk Try.prog 20 C20 := by
 refine pure_of (T := [(47, .pc C47), (49, .fc F49), (56, .fc F56), (57, .fc F57)]) ⟨⟨p47, q47⟩, ⟨p49f, q49⟩, ⟨p56f, q56⟩, ⟨p57, q57⟩, trivial⟩ Try.func20 k20 ?_
 rintro args K ⟨v, R, rfl, hK1, hK2, hK3⟩
 simp only [Vl.sv]
 simp only [e_reg, e_seq, o_nil, o_cons, gd_none, putK_e, runK_e, vK_e, boxK_e, conK_e, callK_e, evh_v, evh_new, evh_box, evh_call, seqK_n, gam_e, gamK_p, pc_e, pcK_e, evp, bin, gt, st, putf, X.get, gets, ap, mkfr, rep, clV, clL, clS, clo, ld, lda, tk, dr, cs1, gb, pb, ln, lk, undef, Nat.reduceSub, Nat.reduceAdd, beq_self_eq_true, true_and, s20, r20]
 refine ⟨v, R, rfl, ?_⟩
 by_cases h : askI v R = 0
 ·have hF : (askI v R = 0) = True := eq_true h
  obtain ⟨hv, hR⟩ := ask0 h
  have hok := mid_ok hv hR
  by_cases hn : trM v R = noT
  ·have hK := hK2 h hn
   have hn1 : trA v (Mp.mid v.w R).ev = noT := hn
   simp only [condK_bt, condK_bf, decide_true, e_skip, e_reg, and_self, e_drw, e_seq, e_cond, e_ret, o_nil, o_cons, gd_none, putK_e, runK_e, vK_e, bldK_e, storeK3_e, storeK2_e, storeK_e, evh_v, evh_new, evh_bld, evh_store, dX_e, dG_t, d_nil, d_cons, creK_e, tlK_n, tlK_s, evc_e, seqK_n, seqK_r, ends_r, endK1_e, endK2_e, gamq_e, gamqK_f, evp, fit, InQ, gt, st, putf, X.get, gets, getp, ap, rdR, tupled, clV, clL, clS, clo, clo.clos, ld, lda, tk, dr, sp, sp.spl, lay, ll, cs1, one, allOne, gb, sb, pb, ln, lk, evq, gdl, crv, Bool.and_true, Bool.not_true, cond_false, Nat.reduceAdd, Nat.reduceBEq, beq_self_eq_true, true_and, and_true, hF, F49, F56, F57, decR_row, decMp_ks, hn1, noT]
   exact ⟨⟨⟨hv, hR⟩, fun _ _ => trivial⟩, ⟨⟨hv, hok⟩, rfl⟩, by omega, res hK (by simp [leR, leR.leRs])⟩
  ·have hK := hK3 h hn
   have hT : trA ⟨v.m, v.l1, v.l2, v.v1, v.v2, v.z1, v.z2, v.w⟩ (Mp.mid v.w R).ev = trM v R := rfl
   have hb := trM_bnd hv hR
   have he1 : ((trM v R).1.1 = 1 /\ (trM v R).1.2 = 0 /\ (trM v R).2.1 = 1 /\ (trM v R).2.2 = 0) = False := by
    simp only [eq_iff_iff, iff_false]
    intro h2
    exact hn (Prod.ext (Prod.ext h2.1 h2.2.1) (Prod.ext h2.2.2.1 h2.2.2.2))
   simp only [condK_bf, decide_true, decide_false, List.cons.injEq, e_skip, e_reg, e_tre, t_leaf, t_stop, t_op, and_self, e_drw, e_seq, e_cond, e_ret, o_nil, o_cons, gd_none, putK_e, runK_e, vK_e, bldK_e, storeK3_e, storeK2_e, storeK_e, evh_v, evh_new, evh_bld, evh_store, dX_e, dG_t, d_nil, d_cons, creK_e, tlK_n, tlK_s, evc_e, seqK_n, ends_r, endK1_e, endK2_e, gamq_e, gamqK_f, evp, fit, InQ, gt, st, putf, X.get, gets, getp, ap, rdR, tupled, clV, clL, clS, clo, clo.clos, ld, lda, tk, dr, sp, sp.spl, lay, ll, cs1, one, allOne, gb, sb, pb, ln, lk, evq, gdl, crv, Bool.and_true, Bool.not_true, Bool.not_false, cond_false, Nat.reduceAdd, Nat.reduceBEq, beq_self_eq_true, true_and, and_true, hF, F49, F56, F57, decR_row, decMp_ks, hT, he1]
   exact ⟨⟨⟨hv, hR⟩, fun _ _ => trivial⟩, ⟨⟨hv, hok⟩, rfl⟩, by omega, res hK (by simp [leR, leR.leRs])⟩
 ·have hF : (askI v R = 0) = False := eq_false h
  have hK := hK1 h
  simp only [condK_bt, decide_false, e_reg, and_self, e_seq, e_cond, e_ret, o_nil, o_cons, gd_none, putK_e, runK_e, vK_e, bldK_e, storeK3_e, storeK2_e, storeK_e, evh_v, evh_bld, evh_store, seqK_n, seqK_r, ends_r, endK1_e, endK2_e, evp, gt, st, putf, X.get, getp, rdR, tupled, clV, clL, clS, clo, ld, tk, dr, sp, sp.spl, lay, ll, cs1, one, allOne, gb, sb, Bool.and_true, Bool.not_false, Nat.reduceAdd, true_and, hF]
  exact res hK (by simp [leR, leR.leRs])
end Go.Proofs.Ytgdihdiadlmjiaa
