import Derived.Test.YtbbbpdajikblbaaVgSGM
namespace Go.Proofs.Ytbbbpdajikblbaa
open Go Go.Vg
set_option linter.unusedSimpArgs false
set_option linter.unusedVariables false
set_option maxRecDepth 10000
def s77 : SC :=
 (.seq (.reg [⟨(some 4), none, .v (.mov (.c (.lit (.bool false))))⟩])
 (.seq (.seq (.reg [⟨(some 6), none, .v (.mov (.t 0))⟩,
  ⟨(some 7), none, .v (.len (.t 6))⟩,
  ⟨(some 8), none, .v (.mov (.t 1))⟩,
  ⟨(some 9), none, .v (.len (.t 8))⟩,
  ⟨(some 10), none, .v (.bin .neq (.t 7) (.t 9))⟩])
 (.cond (.t 10)
  (.seq (.reg [⟨(some 4), none, .v (.mov (.c (.lit (.bool false))))⟩])
  .ret)
  .skip))
 (.seq (.seq (.reg [⟨(some 5), none, .v (.mov (.c (.int .i64 (0))))⟩])
 (.block 0 (.loop
  (.seq (.seq (.reg [⟨(some 11), none, .v (.mov (.t 5))⟩,
   ⟨(some 12), none, .v (.mov (.t 0))⟩,
   ⟨(some 13), none, .v (.len (.t 12))⟩,
   ⟨(some 14), none, .v (.bin .lss (.t 11) (.t 13))⟩])
  (.cond (.t 14)
   .skip
   (.exit 0)))
  (.seq (.block 1 (.seq (.drw [(0, ⟨(some 17), none, .v (.mov (.t 0))⟩, false),
   (1, ⟨(some 18), none, .v (.mov (.t 5))⟩, false),
   (2, ⟨(some 19), none, .v (.ixa (.t 17) (.t 18) 2)⟩, false),
   (3, ⟨(some 20), none, .v (.load (.t 19) (some 2))⟩, false),
   (4, ⟨(some 21), none, .v (.mov (.t 1))⟩, false),
   (5, ⟨(some 22), none, .v (.mov (.t 5))⟩, false),
   (6, ⟨(some 23), none, .v (.ixa (.t 21) (.t 22) 2)⟩, false),
   (7, ⟨(some 24), none, .v (.load (.t 23) (some 2))⟩, false)]
   none
   [⟨(some 25), none, .v (.eqs [(some .i64), (some .i64)] true (.t 20) (.t 24))⟩])
  (.cond (.t 25)
   (.seq (.reg [⟨(some 4), none, .v (.mov (.c (.lit (.bool false))))⟩])
   .ret)
   .skip)))
  (.reg [⟨(some 15), none, .v (.mov (.t 5))⟩,
   ⟨(some 16), none, .v (.bin .add (.t 15) (.c (.int .i64 (1))))⟩,
   ⟨(some 5), none, .v (.mov (.t 16))⟩]))))))
 (.seq (.reg [⟨(some 4), none, .v (.mov (.c (.lit (.bool true))))⟩])
 .ret))))
def r77 : List RV := [.t 4]
theorem k77 : (Try.f77.body.bind (cC Try.prog), cR Try.prog Try.f77.results.toList, Try.f77.ntmps) = (some s77, some r77, 26) := by kernel_rfl
theorem q77 : Known Try.prog 77 := ⟨_, Try.func77, by decide, by simp [Try.f77]⟩
def s45 : SC :=
 (.seq (.reg [⟨(some 4), none, .v (.mov (.c (.lit (.bool false))))⟩])
 (.seq (.reg [⟨(some 7), none, .v (.mov (.t 0))⟩,
  ⟨(some 8), none, .v (.len (.t 7))⟩,
  ⟨(some 9), none, .v (.mov (.t 1))⟩,
  ⟨(some 10), none, .v (.len (.t 9))⟩,
  ⟨(some 11), none, .v (.bin .eql (.t 8) (.t 10))⟩,
  ⟨(some 5), none, .v (.mov (.t 11))⟩])
 (.seq (.seq (.reg [⟨(some 6), none, .v (.mov (.c (.int .i64 (0))))⟩])
 (.block 0 (.loop
  (.seq (.seq (.reg [⟨(some 12), none, .v (.mov (.t 5))⟩,
   ⟨(some 13), none, .v (.mov (.t 12))⟩,
   ⟨(some 14), (some (13, true)), .v (.mov (.t 6))⟩,
   ⟨(some 15), (some (13, true)), .v (.mov (.t 0))⟩,
   ⟨(some 16), (some (13, true)), .v (.len (.t 15))⟩,
   ⟨(some 17), (some (13, true)), .v (.bin .lss (.t 14) (.t 16))⟩,
   ⟨(some 18), none, .v (.pick (.t 13) (.t 17) (.c (.lit (.bool false))))⟩])
  (.cond (.t 18)
   .skip
   (.exit 0)))
  (.seq (.block 1 (.drw [(0, ⟨(some 21), none, .v (.mov (.t 0))⟩, false),
   (1, ⟨(some 22), none, .v (.mov (.t 6))⟩, false),
   (2, ⟨(some 23), none, .v (.ixa (.t 21) (.t 22) 1)⟩, false),
   (3, ⟨(some 24), none, .v (.load (.t 23) none)⟩, false),
   (4, ⟨(some 25), none, .v (.mov (.t 1))⟩, false),
   (5, ⟨(some 26), none, .v (.mov (.t 6))⟩, false),
   (6, ⟨(some 27), none, .v (.ixa (.t 25) (.t 26) 1)⟩, false),
   (7, ⟨(some 28), none, .v (.load (.t 27) none)⟩, false)]
   none
   [⟨(some 29), none, .call (.c (.fn 77 [])) [(.t 24), (.t 28)]⟩,
   ⟨(some 5), none, .v (.mov (.t 29))⟩]))
  (.reg [⟨(some 19), none, .v (.mov (.t 6))⟩,
   ⟨(some 20), none, .v (.bin .add (.t 19) (.c (.int .i64 (1))))⟩,
   ⟨(some 6), none, .v (.mov (.t 20))⟩]))))))
 (.seq (.reg [⟨(some 30), none, .v (.mov (.t 5))⟩,
  ⟨(some 4), none, .v (.mov (.t 30))⟩])
 .ret))))
def r45 : List RV := [.t 4]
theorem k45 : (Try.f45.body.bind (cC Try.prog), cR Try.prog Try.f45.results.toList, Try.f45.ntmps) = (some s45, some r45, 31) := by kernel_rfl
theorem q45 : Known Try.prog 45 := ⟨_, Try.func45, by decide, by simp [Try.f45]⟩
def C77 : PC := fun args K => ∃ (d : Dst) (i n : Nat), args = [.rd 2 n (spC d i), .rd 2 n (spC d i)] ∧ Bd d ∧ n ≤ 100 ∧ K (.bool true)
theorem p77 : PureOk Try.prog 77 C77 := by
 refine pure_of (T := []) trivial Try.func77 k77 ?_
 rintro args K ⟨d, i, n, rfl, hd, hn, hK⟩
 have e1 : ∀ x : Int, (x = x) = True := fun x => eq_self x
 simp only [condK_bf, decide_true, e_skip, e_reg, e_seq, e_cond, e_block, e_loop, o_nil, o_cons, gd_none, putK_e, runK_e, vK_e, evh_v, seqK_n, evp, bin, gt, st, putf, X.get, mkfr, rep, lens, undef, Bool.not_true, Nat.reduceSub, true_and, s77, r77]
 refine loop_at2 (G := Nat) (fun j => [(5, .int .i64 j)]) (fun _ => []) (fun j => j ≤ n) (fun j => n - j) 0 (Nat.zero_le _) ?_
 (intro fr1 hf1; simp only [forget, dstC, dstO, dstD, dst1, st] at hf1; subst hf1)
 refine ⟨?_, ?_⟩
 ·refine Lw_re 0 [] (Nat.zero_le _) (by simp [ln]) (by simp [ln]) rfl ?_ ?_
  ·simp only [reL, reX, inb, ln, sts, st, and_self, Int.natCast_zero, implies_true]
  ·simp only [reH, reN]
 ·intro j hj1
  by_cases hj2 : j < n
  ·have n0 : ((j : Int) < (n : Int)) = True := eq_true (by omega)
   have hb := hd (i * 9 + j)
   simp only [condK_bt, condK_bf, decide_true, inr64, e_skip, e_reg, and_self, e_drw, e_seq, e_cond, e_block, o_nil, o_cons, gd_none, putK_e, runK_e, vK_e, evh_v, dX_e, dG_t, d_nil, d_cons, tlK_n, loopK_n, seqK_n, blockK_n, evp, fit, InQ, bin, gt, st, putf, X.get, ld, lda, lens, ixs, tk, dr, evq, gdl, Bool.not_true, cond_true, true_and, and_true, sts, n0, Int.toNat_natCast, spC]
   repeat' (first | omega | refine And.intro ?_ ?_)
   refine Nx.mk (j + 1) (by show j + 1 ≤ n; omega) (by show n - (j + 1) < n - j; omega) (Lw_re 0 [] (Nat.zero_le _) (by simp [ln]) (by simp [ln]) rfl ?_ ?_)
   ·simp only [reL, reX, inb, and_self, Int.natCast_add, Int.natCast_one, implies_true]
   ·simp only [reH, reN]
  ·have n0 : ((j : Int) < (n : Int)) = False := eq_false (by omega)
   simp only [condK_bf, decide_false, e_reg, e_seq, e_cond, e_exit, e_ret, o_nil, o_cons, gd_none, putK_e, runK_e, vK_e, evh_v, loopK_x, seqK_n, seqK_x, exitK_t, blockK_x, ends_r, endK1_e, endK2_e, evp, bin, gt, st, putf, X.get, rdR, tupled, clV, clS, clo, lens, beq_self_eq_true, true_and, sts, n0]
   exact res hK (by simp [leR])
def C45 : PC := fun args K => ∃ (T : List Int) (m : Int) (d : Dst), args = [.rd 1 T.length (spW T d), .rd 1 T.length (spW T d)] ∧ okS T m = true ∧ Bd d ∧ K (.bool true)
theorem p45 : PureOk Try.prog 45 C45 := by
 refine pure_of (T := [(77, .pc C77)]) ⟨⟨p77, q77⟩, trivial⟩ Try.func45 k45 ?_
 rintro args K ⟨T, m, d, rfl, hs, hd, hK⟩
 have hs' := hs
 simp only [okS, Bool.and_eq_true, decide_eq_true_eq] at hs'
 obtain ⟨hl, hm, hall⟩ := hs'
 have hT : ∀ i, i < T.length → 1 ≤ T.getD i 0 ∧ T.getD i 0 ≤ 8 := fun i hi => of_decide_eq_true (allI_get hi hall)
 have e1 : ∀ x : Int, (x = x) = True := fun x => eq_self x
 simp only [decide_true, e_reg, e_seq, e_block, e_loop, o_nil, o_cons, gd_none, putK_e, runK_e, vK_e, evh_v, seqK_n, evp, bin, gt, st, putf, X.get, mkfr, rep, lens, undef, Nat.reduceSub, true_and, s45, r45]
 refine loop_at2 (G := Nat) (fun i => [(6, .int .i64 i), (5, .bool true)]) (fun _ => []) (fun i => i ≤ T.length) (fun i => T.length - i) 0 (Nat.zero_le _) ?_
 (intro fr1 hf1; simp only [forget, dstC, dstO, dstD, dst1, st] at hf1; subst hf1)
 refine ⟨?_, ?_⟩
 ·refine Lw_re 0 [] (Nat.zero_le _) (by simp [ln]) (by simp [ln]) rfl ?_ ?_
  ·simp only [reL, reX, inb, ln, sts, st, and_self, Int.natCast_zero, implies_true]
  ·simp only [reH, reN]
 ·intro i hi1
  by_cases hi2 : i < T.length
  ·have n0 : ((i : Int) < (T.length : Int)) = True := eq_true (by omega)
   have ht := hT i hi2
   simp only [gdK_btt, condK_bt, decide_true, inr64, e_skip, e_reg, e_drw, e_seq, e_cond, e_block, o_nil, o_cons, gd_none, gd_some, gdK_tt, putK_e, runK_e, vK_e, conK_e, callK_e, evh_v, evh_call, dX_e, dG_t, d_nil, d_cons, tlK_n, loopK_n, seqK_n, blockK_n, gam_e, gamK_p, pc_e, pcK_e, evp, bin, gt, gq, st, putf, X.get, gets, ap, clV, clL, ld, lda, lens, ixs, lk, evq, gdl, beq_self_eq_true, true_and, and_true, sts, n0, Int.toNat_natCast, spW]
   repeat' (first | omega | refine And.intro ?_ ?_)
   refine ⟨d, i, spN T i, rfl, hd, by unfold spN; omega, ?_⟩
   simp only []
   repeat' (first | omega | refine And.intro ?_ ?_)
   refine Nx.mk (i + 1) (by show i + 1 ≤ T.length; omega) (by show T.length - (i + 1) < T.length - i; omega) (Lw_re 0 [] (Nat.zero_le _) (by simp [ln]) (by simp [ln]) rfl ?_ ?_)
   ·simp only [reL, reX, inb, and_self, Int.natCast_add, Int.natCast_one, implies_true]
   ·simp only [reH, reN]
  ·have n0 : ((i : Int) < (T.length : Int)) = False := eq_false (by omega)
   simp only [gdK_btt, condK_bf, decide_false, e_reg, e_seq, e_cond, e_exit, e_ret, o_nil, o_cons, gd_none, gd_some, gdK_tt, putK_e, runK_e, vK_e, evh_v, loopK_x, seqK_n, seqK_x, exitK_t, blockK_x, ends_r, endK1_e, endK2_e, evp, bin, gt, st, putf, X.get, rdR, tupled, clV, clS, clo, lens, beq_self_eq_true, true_and, sts, n0]
   exact res hK (by simp [leR])
def C27g : PC := fun args K => ∃ (T : List Int) (m : Int) (L : List Rdg) (f : Nat → List SV), args = [.agg [.ints .i64 T, .int .i64 m], .rd 6 L.length f] ∧ (∀ i, i < L.length → f i = rgR L i) ∧ K (spnS T m L)
theorem p27g : PureOk Try.prog 27 C27g := by
 rintro w im args vs K him ha ⟨T, m, L, f, rfl, hf, hK⟩
 cases ha with
 | cons _ v0 _ vs0 h0 hs =>
  cases hs with
  | cons _ v1 _ vs1 h1 hs1 =>
   cases hs1
   exact p27 w im _ _ K him (.cons _ _ _ _ h0 (.cons _ _ _ _ (leR_ok (y := .rd 6 L.length (rgR L)) (x := .rd 6 L.length f) 4 ⟨rfl, rfl, hf⟩ h1) .nil)) ⟨T, m, L, rfl, hK⟩
def F24 : FC := fun args => match args with
 | [] => some (True, .lit (.bool true))
 | _ => none
theorem row_snoc (L : List Rdg) (x : Rdg) (i : Nat) (hi : i < (L ++ [x]).length) : (if i < L.length then rgR L i else x.row) = rgR (L ++ [x]) i := by
 by_cases h : i < L.length
 ·rw [if_pos h]; simp [rgR, rgG, List.getD, List.getElem?_append, h]
 ·have : i = L.length := by simp at hi; omega
  subst this
  rw [if_neg h]; simp [rgR, rgG, List.getD]
theorem loop_atc {N : Nat} {Γ : Gm} {Γq : Nat → Option FC} {K : Exit → St → Prop} {G : Type} {c : SC} {fr : List SV} {hp : List Blk} (ch : G → List (Nat × SV)) (p : G → Prop) (m : G → Nat) (g0 : G) (h0 : p g0)
  (hb : ∀ fr', forget fr (dstC c []) = fr' → Lw N ⟨fr, hp⟩ ⟨sts fr' (ch g0), hp⟩ ∧
   ∀ g, p g → exec N Γ Γq c (loopK K (Nx N (fun g => ⟨sts fr' (ch g), hp⟩) p m (m g))) ⟨sts fr' (ch g), hp⟩) : LoopP N (exec N Γ Γq c) K ⟨fr, hp⟩ := loop_at2 ch (fun _ => hp) p m g0 h0 hb
theorem chk_more {T : List Int} {m : Int} {L : List Rdg} {x : Rdg} (h : chk T m L ≠ 0) : chk T m (L ++ [x]) = chk T m L ∧ (chk T m L = 23 ∨ chk T m L = 24) := by
 unfold chk at h ⊢
 cases h1 : okS T m with
 | false => simp
 | true =>
  cases h2 : okL T L with
  | true => simp [h1, h2] at h
  | false =>
   have h3 : okL T (L ++ [x]) = false := by
    cases h4 : okL T (L ++ [x]) with
    | false => rfl
    | true =>
     have : okL T L = true := by
      simp only [okL, Bool.and_eq_true, decide_eq_true_eq, List.all_append, List.length_append] at h4 ⊢
      exact ⟨by omega, h4.2.1⟩
     rw [this] at h2; cases h2
   simp [h3]
theorem chk_24 {T : List Int} {m : Int} {L : List Rdg} (h : okS T m = true) (h0 : chk T m L ≠ 0) : chk T m L = 24 := by
 unfold chk at h0 ⊢
 rw [h] at h0 ⊢
 cases h2 : okL T L with
 | true => simp [h2] at h0
 | false => simp
theorem more_cases {T : List Int} {m : Int} {L : List Rdg} {x : Rdg} (hl : L.length < 24) :
  (∃ (y : SV) (e f : Int), spnS T m L = .tup [y, .int .i64 e] ∧ spnS T m (L ++ [x]) = .tup [.lit (.slice none 0 0), .int .i64 f] ∧ f ≠ 0 ∧ (e = 0 ∨ e = f ∨ f = 24)) ∨
  (∃ d d' : Dst, okS T m = true ∧ Bd d ∧ Bd d' ∧ sub d' d ∧ spnS T m L = .tup [.rd 1 T.length (spW T d), .int .i64 0] ∧ spnS T m (L ++ [x]) = .tup [.rd 1 T.length (spW T d'), .int .i64 0] ∧
   (L.length + 1 < 24 → spnS T m ((L ++ [x]) ++ [x]) = .tup [.rd 1 T.length (spW T d'), .int .i64 0])) := by
 by_cases h0 : chk T m L = 0
 ·obtain ⟨hs, hL⟩ := chk_0.1 h0
  obtain ⟨y, e, he, hy⟩ : ∃ (y : SV) (e : Int), (e = 0 ∨ e = 4) ∧ spnS T m L = .tup [y, .int .i64 e] := by
   unfold spnS
   rw [if_pos h0]
   cases trR T m L with
   | none => exact ⟨_, _, .inr rfl, rfl⟩
   | some d => exact ⟨_, _, .inl rfl, rfl⟩
  by_cases h1 : chk T m (L ++ [x]) = 0
  ·obtain ⟨_, hL'⟩ := chk_0.1 h1
   cases ht : trR T m (L ++ [x]) with
   | none =>
    refine .inl ⟨y, e, 4, hy, by simp [spnS, h1, ht], by omega, by omega⟩
   | some d' =>
    obtain ⟨d, hd, hsub⟩ := tr_more hs hL hL' (fun r hr => List.mem_append_left _ hr) ht
    refine .inr ⟨d, d', hs, tr_bd hs hL hd, tr_bd hs hL' ht, hsub, by simp [spnS, h0, hd], by simp [spnS, h1, ht], fun hlt => ?_⟩
    have hL2 : okL T ((L ++ [x]) ++ [x]) = true := by
     simp only [okL, Bool.and_eq_true, decide_eq_true_eq, List.all_append, List.length_append] at hL' ⊢
     exact ⟨by simp; omega, hL'.2, hL'.2.2⟩
    have h2 : chk T m ((L ++ [x]) ++ [x]) = 0 := chk_0.2 ⟨hs, hL2⟩
    have ht2 : trR T m ((L ++ [x]) ++ [x]) = some d' := tr_same hs hL' hL2 (fun r hr => List.mem_append_left _ hr) (fun r hr => by
     rcases List.mem_append.1 hr with h | h
     ·exact h
     ·exact List.mem_append_right _ h) ht
    simp only [spnS, h2, ht2, if_true]
  ·have h24 := chk_24 hs h1
   exact .inl ⟨y, e, 24, hy, by simp [spnS, h24], by omega, .inr (.inr rfl)⟩
 ·obtain ⟨h1, h2⟩ := chk_more (x := x) h0
  refine .inl ⟨.lit (.slice none 0 0), chk T m L, chk T m L, by simp [spnS, h0], ?_, h0, .inr (.inl rfl)⟩
  unfold spnS
  rw [h1, if_neg h0]
def frW : List SV → List SV → Prop
 | [], [] => True
 | x :: a, y :: b => (y = .any ∨ x = y) ∧ frW a b
 | _, _ => False
theorem frW_ok {E : Env} : ∀ {fr fr' : List SV} {vs : List Value}, frW fr fr' → Rvs E fr vs → Rvs E fr' vs
  | [], [], _, _, .nil => .nil
  | x :: a, y :: b, _, h, .cons _ v _ vs hx hs => .cons _ _ _ _ (by
      rcases h.1 with rfl | rfl
      · exact .any v
      · exact hx) (frW_ok h.2 hs)
  | [], _ :: _, _, h, _ => h.elim
  | _ :: _, [], _, h, _ => h.elim
theorem Lw_fr {N : Nat} {fr fr' : List SV} {hp : List Blk} (h : frW fr fr') : Lw N ⟨fr, hp⟩ ⟨fr', hp⟩ := fun E a hN hn hr => ⟨E, Env.Le.xt (.refl E) hn, rfl, ⟨frW_ok h hr.fr, hr.hp, hr.df⟩⟩
end Go.Proofs.Ytbbbpdajikblbaa
