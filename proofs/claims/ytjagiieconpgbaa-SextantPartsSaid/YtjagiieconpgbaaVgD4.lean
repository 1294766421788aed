import Derived.Test.YtjagiieconpgbaaVgD3
namespace Go.Vg
open Go
set_option linter.unusedVariables false
set_option linter.unusedSimpArgs false
theorem Rvs.refine {E : Env} : ∀ {xs : List SV} {vs : List Value} (i : Nat) {x : SV}, Rvs E xs vs → Rv E x (vs.getD i undef) → Rvs E (Vg.st xs i x) vs
 | [], [], i, x, .nil, _ => .nil
 | _ :: _, _ :: _, 0, x, .cons _ _ _ _ _ h, hv => .cons _ _ _ _ (by simpa using hv) h
 | _ :: _, _ :: _, i + 1, x, .cons _ _ _ _ h0 h, hv => .cons _ _ _ _ h0 (h.refine i (by simpa using hv))
theorem gd_cases {E : Env} {ops : Array Oper} {op : Oper} {o : Opr} {s : St} {a : Act} {run skip : St → Prop} (hg : GRel ops op o) (hr : Rep E s a) (hev : gd s run skip o.g) :
  (Region.wanted op (yielded ops a.tmps) = true ∧ ∃ s', Rep E s' a ∧ run s') ∨ (Region.wanted op (yielded ops a.tmps) = false ∧ ∃ s', Rep E s' a ∧ skip s') := by
 rcases hg with ⟨h1, h2⟩ | ⟨j, want, d, h1, h2, h3⟩
 ·rw [h2] at hev
  exact .inl ⟨by simp [Region.wanted, h1], s, hr, hev⟩
 ·rw [h3] at hev
  have hy := yield_of (tmps := a.tmps) h2
  have hx := hr.fr.gt d
  simp only [Region.wanted, h1]
  simp only [gd, gdK] at hev
  have same : ∀ b, a.tmps.toList.getD d undef = .bool b → Rep E ⟨st s.fr d (.lit (.bool b)), s.hp⟩ a := fun b hb =>
   ⟨hr.fr.refine d (by rw [hb]; exact .lit _), hr.hp, hr.df⟩
  split at hev
  ·rename_i hgt
   rw [hgt] at hx; rw [hx.litE] at hy; rw [hy]
   cases want with
   | true => exact .inl ⟨rfl, s, hr, hev⟩
   | false => exact .inr ⟨rfl, s, hr, hev⟩
  ·rename_i hgt
   rw [hgt] at hx; rw [hx.litE] at hy; rw [hy]
   cases want with
   | true => exact .inr ⟨rfl, s, hr, hev⟩
   | false => exact .inl ⟨rfl, s, hr, hev⟩
  ·rename_i hgt
   rw [hgt] at hx; rw [hx.litE] at hy; rw [hy]
   exact .inr ⟨rfl, s, hr, hev⟩
  ·rename_i b hgt
   rw [hgt] at hx
   have hx := hx.boolE
   rw [hx] at hy; rw [hy]
   cases want <;> cases b
   ·exact .inl ⟨rfl, _, same false hx, hev.1 rfl⟩
   ·exact .inr ⟨rfl, _, same true hx, hev.2 rfl⟩
   ·exact .inr ⟨rfl, _, same false hx, hev.2 rfl⟩
   ·exact .inl ⟨rfl, _, same true hx, hev.1 rfl⟩
  ·exact hev.elim
section
variable {P : Program} {Γ : Gm} {Γq : Nat → Option FC} (hΓ : GmOk P Γ) (hG : ∀ f C, Γ f = some C → Known P f)
 (hΓq : ∀ f F, Γq f = some F → FcOk P f F) (hGq : ∀ f F, Γq f = some F → Known P f)
include hΓ hG in
theorem step_tail {ro : Option Nat} {n : Nat} {ops : Array Oper} {Q : Exit → Act → World → Prop} {i : Nat} {op : Oper} {o : Opr} (hi : ops[i]? = some op) (hc : c1w P op = some o.o) (hd : o.d = op.dst) (hg : GRel ops op o)
  {E : Env} {s : St} {a : Act} (hr : Rep E s a) {tl : List Opr} {k : St → Prop} (hev : evops Γ k (o :: tl) s) {K : Act → World → Prop}
  (hK : ∀ E' s' v, E.Le E' → Rep E' s' (a.put op.dst v) → evops Γ k tl s' → K (a.put op.dst v) E'.w) : wpOpIn (fen ro) n P ops Q i K a E.w := by
 unfold wpOpIn
 simp only [hi]
 simp only [evops] at hev
 rcases gd_cases hg hr hev with ⟨hw, s', hr', hrun⟩ | ⟨hw, s', hr', hskip⟩
 ·rw [if_pos hw]
  refine ⟨fun _ _ => trivial, ?_⟩
  rw [Oper.semAt_eq _ _ _ (c1w_nodefer hc)]
  refine evhw_upon hΓ hG hc hr' hrun fun E' hp' x v hle hh hx hk => ?_
  refine hK E' _ v hle (hr'.put hle hh hx op.dst) (by rw [← hd]; exact hk)
 ·rw [if_neg (by simp [hw])]
  exact ⟨fun _ _ => trivial, hK E _ undef (.refl E) (hr'.put (.refl E) hr'.hp (.lit undef) op.dst) (by rw [← hd]; exact hskip)⟩
abbrev LS (lst : Array Bool) : Nat → Bool := fun j => lst.getD j false
theorem ready_facts {ops : Array Oper} {lst : Array Bool} (hsz : lst.size = ops.size) (hs : Shut ops (LS lst)) {i : Nat} (hi : i ∈ Region.ready .any ops lst) :
  i < ops.size ∧ LS lst i = false ∧ (∀ j, ((masks ops.toList []).getD i 0).testBit j = true → LS lst j = true) ∧ Shut ops (LS (lst.setIfInBounds i true)) ∧
   (∀ j, LS (lst.setIfInBounds i true) j = (j == i || LS lst j)) ∧ left (lst.setIfInBounds i true) + 1 = left lst := by
 obtain ⟨h1, op, h2, h3⟩ := mem_ready.1 hi
 have hlt : i < ops.size := (Array.getElem?_eq_some_iff.1 h2).1
 have hL : LS lst i = false := by rw [LS, ← getD_tf (by omega)]; exact h1
 have hset : ∀ j, LS (lst.setIfInBounds i true) j = (j == i || LS lst j) := by
  intro j
  by_cases hj : j = i
  ·subst hj; simp [LS, Array.getD_eq_getD_getElem?, Array.getElem?_setIfInBounds, hsz, hlt]
  ·simp [LS, Array.getD_eq_getD_getElem?, Array.getElem?_setIfInBounds, Ne.symm hj, hj]
 refine ⟨hlt, hL, fun j hj => masks_listed hs i op h2 h3 j hj, ?_, hset, left_set h1⟩
 intro k o ho hk e he hb
 rw [hset] at hk ⊢
 rw [Bool.or_eq_true] at hk ⊢
 rcases hk with hk | hk
 ·have : k = i := by simpa using hk
  subst this
  rw [h2] at ho; cases ho
  exact .inr (h3 e he hb)
 ·exact .inr (hs k o ho hk e he hb)
include hΓ hG in
theorem tail_any {ro : Option Nat} {n : Nat} {ops : Array Oper} {Q : Exit → Act → World → Prop} {lo : List Opr} {h : Nat} (hc : cops P ops ops.toList = some lo) (he : edgesOk ops.toList = true)
  (hm : ∀ i, h ≤ i → i < ops.size → ∀ j, j < i → ((masks ops.toList []).getD i 0).testBit j = true) {k0 : St → Prop} (E0 : Env) :
  ∀ (fuel : Nat) (lst : Array Bool) (k : Nat) (E : Env) (s : St) (a : Act), left lst ≤ fuel → lst.size = ops.size → Shut ops (LS lst) → (∀ j, j < ops.size → (LS lst j = true ↔ j < h + k)) → E0.Le E → Rep E s a →
   evops Γ k0 (lo.drop (h + k)) s → (∀ E' s' a', E0.Le E' → Rep E' s' a' → k0 s' → Q .normal a' E'.w) → wpAnyIn (fen ro) n P .any ops Q fuel lst a E.w := by
 intro fuel
 induction fuel with
 | zero =>
  intro lst k E s a hleft hsz hs hk h0 hr hev hq'
  have hall : ∀ j, j < ops.size → j < h + k := fun j hj => (hk j hj).1 (by have := left_zero (by omega) (lst := lst) j; rw [getD_tf (by omega)] at this; exact this)
  have hdrop : lo.drop (h + k) = [] := List.drop_eq_nil_of_le (by
   rw [cops_len hc]
   rcases Nat.lt_or_ge (h + k) ops.toList.length with h1 | h1
   ·have := hall (h + k) (by simpa using h1); omega
   ·exact h1)
  rw [hdrop] at hev
  refine ⟨?_, hq' E s a h0 hr hev⟩
  apply List.eq_nil_iff_forall_not_mem.2
  intro i hi
  obtain ⟨h1, h2, _⟩ := ready_facts hsz hs hi
  have := (hk i h1).2 (hall i h1)
  rw [h2] at this; cases this
 | succ fuel ih =>
  intro lst k E s a hleft hsz hs hk h0 hr hev hq'
  have hone : ∀ i, i ∈ Region.ready .any ops lst → i = h + k := by
   intro i hi
   obtain ⟨h1, h2, h3, _⟩ := ready_facts hsz hs hi
   have h4 : ¬ i < h + k := fun hlt => by have := (hk i h1).2 hlt; rw [h2] at this; cases this
   rcases Nat.lt_or_ge (h + k) i with h5 | h5
   ·have h6 := h3 (h + k) (hm i (by omega) h1 (h + k) h5)
    have := (hk (h + k) (by omega)).1 h6
    omega
   ·omega
  constructor
  ·intro hnil
   have hge : ops.size ≤ h + k := by
    rcases Nat.lt_or_ge (h + k) ops.size with h1 | h1
    ·have h2 : LS lst (h + k) = false := by
      cases hv : LS lst (h + k)
      ·rfl
      ·have := (hk _ h1).1 hv; omega
     obtain ⟨j, _, hj⟩ := unlisted_ready hsz he (h + k) h1 (by rw [getD_tf (by omega)]; exact h2)
     rw [hnil] at hj; cases hj
    ·exact h1
   have hdrop : lo.drop (h + k) = [] := List.drop_eq_nil_of_le (by rw [cops_len hc]; simpa using hge)
   rw [hdrop] at hev
   exact hq' E s a h0 hr hev
  ·intro i hi
   have hik := hone i hi
   obtain ⟨h1, h2, h3, h4, h5, h6⟩ := ready_facts hsz hs hi
   have hop : ops.toList[i]? = some ops[i] := by simp [h1]
   obtain ⟨o, ho, hco, hod, hog⟩ := cops_get hc i ops[i] hop
   have hdrop : lo.drop (h + k) = o :: lo.drop (h + (k + 1)) := by
    have hlt : i < lo.length := (List.getElem?_eq_some_iff.1 ho).1
    have h7 : lo[i] = o := (List.getElem?_eq_some_iff.1 ho).2
    rw [← hik, List.drop_eq_getElem_cons hlt, h7, ← Nat.add_assoc, ← hik]
   rw [hdrop] at hev
   refine step_tail hΓ hG (by simp [h1]) hco hod hog hr hev fun E' s' v hle hr' hev' => ?_
   refine ih _ (k + 1) E' s' _ (by omega) (by simpa using hsz) h4 (fun j hj => ?_) (h0.trans hle) hr' hev' hq'
   rw [h5, Bool.or_eq_true]
   constructor
   ·rintro (hj' | hj')
    ·have : j = i := by simpa using hj'
     omega
    ·have := (hk j hj).1 hj'; omega
   ·intro hj'
    by_cases hji : j = i
    ·left; simpa using hji
    ·right; exact (hk j hj).2 (by omega)
theorem ordS_get {ms : List Nat} {n : Nat} {f : (Nat → Bool) → DT} {L : Nat → Bool} {k : St → Prop} {s : St} {o : Opr} {i : Nat} (hr : rdy ms n L i = true) : ∀ {l : List (Opr × Nat)}, (o, i) ∈ l → exT Γ k (ordS ms n f L l) s →
  evops Γ (exT Γ k (f fun j => j == i || L j)) [o] s
 | [], hm, _ => by cases hm
 | (o', i') :: t, hm, h => by
  rw [ordS] at h
  cases hm with
  | head => rw [if_pos hr] at h; exact h.1
  | tail _ hm =>
   split at h
   ·exact ordS_get hr hm h.2
   ·exact ordS_get hr hm h
theorem left_ex {lst : Array Bool} (h : 0 < left lst) : ∃ i, i < lst.size ∧ lst.getD i true = false := by
 unfold left at h
 obtain ⟨i, hi, he⟩ := List.getElem_of_mem (List.count_pos_iff.1 h)
 have hi' : i < lst.size := by simpa using hi
 exact ⟨i, hi', by simpa [Array.getD, hi'] using he⟩
include hΓ hG in
theorem tree_any {ro : Option Nat} {n : Nat} {ops : Array Oper} {Q : Exit → Act → World → Prop} {lo : List Opr} (hc : cops P ops ops.toList = some lo) (he : edgesOk ops.toList = true) {k0 : St → Prop} (E0 : Env) :
  ∀ (fuel k : Nat) (lst : Array Bool) (E : Env) (s : St) (a : Act), left lst = k → k ≤ fuel → lst.size = ops.size → Shut ops (LS lst) → E0.Le E → Rep E s a →
   exT Γ k0 (ordT (masks ops.toList []) lo k (LS lst)) s → (∀ E' s' a', E0.Le E' → Rep E' s' a' → k0 s' → Q .normal a' E'.w) → wpAnyIn (fen ro) n P .any ops Q fuel lst a E.w := by
 intro fuel
 induction fuel with
 | zero =>
  intro k lst E s a hk hf hsz hs h0 hr hev hq'
  have : k = 0 := by omega
  subst this
  refine ⟨?_, hq' E s a h0 hr hev⟩
  apply List.eq_nil_iff_forall_not_mem.2
  intro i hi
  obtain ⟨h1, h2, h3, h4, h5, h6⟩ := ready_facts hsz hs hi
  omega
 | succ fuel ih =>
  intro k lst E s a hk hf hsz hs h0 hr hev hq'
  cases k with
  | zero =>
   refine ⟨fun _ => hq' E s a h0 hr hev, fun i hi => ?_⟩
   obtain ⟨h1, h2, h3, h4, h5, h6⟩ := ready_facts hsz hs hi
   omega
  | succ k =>
   constructor
   ·intro hnil
    obtain ⟨i, h1, h2⟩ := left_ex (lst := lst) (by omega)
    obtain ⟨j, _, hj⟩ := unlisted_ready hsz he i (by omega) h2
    rw [hnil] at hj; cases hj
   ·intro i hi
    obtain ⟨h1, h2, h3, h4, h5, h6⟩ := ready_facts hsz hs hi
    have hop : ops.toList[i]? = some ops[i] := by simp [h1]
    obtain ⟨o, ho, hco, hod, hog⟩ := cops_get hc i ops[i] hop
    have hrd : rdy (masks ops.toList []) lo.length (LS lst) i = true := by
     unfold rdy
     rw [h2, Bool.not_false, Bool.true_and, List.all_eq_true]
     intro j _
     cases hb : ((masks ops.toList []).getD i 0).testBit j
     ·rfl
     ·rw [h3 j hb]; rfl
    rw [ordT] at hev
    have hst := ordS_get hrd (List.mem_zipIdx_iff_getElem?.2 (by simpa using ho)) hev
    have hL : (fun j => j == i || LS lst j) = LS (lst.setIfInBounds i true) := funext fun j => (h5 j).symm
    rw [hL] at hst
    refine step_tail hΓ hG (by simp [h1]) hco hod hog hr hst fun E' s' v hle hr' hev' => ?_
    exact ih k _ E' s' _ (by omega) (by omega) (by simpa using hsz) h4 (h0.trans hle) hr' hev' hq'
theorem drawOk_get {ms : List Nat} {lo : List Opr} {h : Nat} {c : Option Nat} (hd : drawOk ms lo h c = true) :
  (∀ i, h ≤ i → i < lo.length → ∀ j, j < i → (ms.getD i 0).testBit j = true) ∧
  (∀ i j o o' d, lo[i]? = some o → lo[j]? = some o' → i < h → j < h → i ≠ j → o'.d = some d → (o.d = some d ∨ d ∈ usesR o) →
   (some j ≠ c) ∧ (some i = c → j < i ∧ (ms.getD i 0).testBit j = true ∧ o.d ≠ some d) ∧ (some i ≠ c → if j < i then (ms.getD i 0).testBit j = true else (ms.getD j 0).testBit i = true)) ∧
  (∀ k, c = some k → ∃ o, lo[k]? = some o ∧ o.g = none) := by
 unfold drawOk at hd
 simp only [Bool.and_eq_true, List.all_eq_true] at hd
 obtain ⟨⟨⟨_, h1⟩, h2⟩, h3⟩ := hd
 refine ⟨fun i hi hlt j hj => ?_, fun i j o o' d ho ho' hi hj hne hd' hu => ?_, fun k hk => ?_⟩
 ·have := h1 (lo[i], i) (by rw [List.mem_zipIdx_iff_getElem?]; simp [hlt])
  simp only [Bool.or_eq_true, Bool.not_eq_true', decide_eq_false_iff_not, List.all_eq_true, List.mem_range] at this
  rcases this with h | h
  ·omega
  ·exact h j hj
 ·have := h2 (o, i) (by rw [List.mem_zipIdx_iff_getElem?]; simpa using ho)
  simp only [Bool.or_eq_true, decide_eq_true_eq, List.all_eq_true] at this
  rcases this with h | h
  ·omega
  ·have := h (o', j) (by rw [List.mem_zipIdx_iff_getElem?]; simpa using ho')
   simp only [hd', Bool.or_eq_true, decide_eq_true_eq, beq_iff_eq] at this
   rcases this with (h | h) | h
   ·omega
   ·exact absurd h hne
   ·rw [if_pos (by
     rcases hu with hu | hu
     ·exact .inl hu.symm
     ·exact .inr (by simpa using hu))] at h
    by_cases hjc : some j = c
    ·rw [if_pos hjc] at h
     have h := beq_iff_eq.1 h
     rw [← hjc, Option.some.injEq] at h
     exact absurd h hne
    ·rw [if_neg hjc] at h
     refine ⟨hjc, fun hic => ?_, fun hic => ?_⟩
     ·rw [if_pos hic] at h
      simp only [Bool.and_eq_true, decide_eq_true_eq, Bool.not_eq_true', beq_eq_false_iff_ne] at h
      exact ⟨h.1.1, h.1.2, fun e => h.2 e.symm⟩
     ·rw [if_neg hic] at h
      split at h <;> split <;> first | exact h | omega
 ·subst hk
  simp only at h3
  split at h3
  ·rename_i o ho; exact ⟨o, ho, by simpa using h3⟩
  ·cases h3
theorem sorted_heads (lo : List Opr) (p : Opr × Nat → Bool) : ((lo.zipIdx.filter p).map (·.2)).Pairwise (· < ·) := by
 have h : (lo.zipIdx.map (·.2)).Pairwise (· < ·) := by
  rw [List.zipIdx_map_snd]; exact List.pairwise_lt_range'
 exact h.sublist ((List.filter_sublist).map _)
include hΓ hG in
theorem tre_ok {N : Nat} {ro : Option Nat} {n : Nat} {id : Nat} {ops : Array Oper} {sc : SC} (hsc : ctre P ops = some sc) {K : Exit → St → Prop} {s : St} {E : Env} {a : Act} {Q : Exit → Act → World → Prop} (hr : Rep E s a) (hev : exec N Γ Γq sc K s)
    (hq : ∀ e E' s' a', E.Le E' → Rep E' s' a' → K e s' → Q e a' E'.w) : (Code.region id ops true).wpIn (fen ro) n P Q a E.w := by
  unfold ctre at hsc
  split at hsc
  · cases hsc
  rename_i lo hc
  split at hsc
  · rename_i hok
    simp only [Bool.and_eq_true] at hok
    obtain ⟨⟨hm, he⟩, _⟩ := hok
    cases hsc
    simp only [exec] at hev
    refine wpIn_region_any hm ?_
    have hE1 : E.Le (E.to { E.w with drawn := E.w.drawn + 1 }) := Env.to_le fun b hb => rfl
    have hr1 : RHp (E.to { E.w with drawn := E.w.drawn + 1 }) s.hp :=
      ⟨⟨hr.hp.g.fr, hr.hp.g.fz, hr.hp.g.sz, hr.hp.g.os, hr.hp.g.tape, hr.hp.g.output, hr.hp.g.imb, hr.hp.g.im0⟩,
       ⟨hr.hp.b.n, hr.hp.b.rs, fun l b hb => (hr.hp.b.blk l b hb).keep hE1 (hr.hp.has hb) (fun g _ => rfl), hr.hp.b.live, hr.hp.b.imx, hr.hp.b.base, hr.hp.b.dj⟩⟩
    have h0 : left (Array.replicate ops.size false) = ops.size := by
      unfold left; rw [Array.toList_replicate]; simp
    have hLf : LS (Array.replicate ops.size false) = fun _ => false := by
      funext j
      simp only [LS, Array.getD_eq_getD_getElem?, Array.getElem?_replicate]
      split <;> rfl
    have hlen : lo.length = ops.size := by rw [cops_len hc]; simp
    refine tree_any hΓ hG hc he E ops.size ops.size (Array.replicate ops.size false) (E.to _) s a h0 (Nat.le_refl _) (by simp) ?_ hE1 ⟨hr.fr.mono hE1, hr1, by rw [hr.df]; rfl⟩ (by rw [hLf, ← hlen]; exact hev) (fun E' s' a' => hq _ E' s' a')
    intro k o _ hk; rw [hLf] at hk; cases hk
  · cases hsc
include hΓ hG hΓq hGq in
theorem draw_ok {N : Nat} {ro : Option Nat} {n : Nat} {id : Nat} {ops : Array Oper} {sc : SC} (hsc : cdraw P ops = some sc) {K : Exit → St → Prop} {s : St} {E : Env} {a : Act} {Q : Exit → Act → World → Prop} (hr : Rep E s a) (hev : exec N Γ Γq sc K s)
    (hq : ∀ e E' s' a', E.Le E' → Rep E' s' a' → K e s' → Q e a' E'.w) : (Code.region id ops true).wpIn (fen ro) n P Q a E.w := by
  unfold cdraw at hsc
  split at hsc
  · cases hsc
  rename_i lo hc
  simp only at hsc
  split at hsc
  · rename_i hok
    generalize hcc : ((lo.zipIdx.filter fun (o, i) => decide (i < headLen (masks ops.toList [])) && o.creates).head?).map (·.2) = c at hsc hok
    generalize hh : headLen (masks ops.toList []) = h at hsc hok hcc
    simp only [Bool.and_eq_true] at hok
    obtain ⟨⟨hm, he⟩, hd⟩ := hok
    cases hsc
    obtain ⟨hd1, hd2, hd3⟩ := drawOk_get hd
    simp only [exec] at hev
    obtain ⟨l, hdat, hk⟩ := drun_dat hev
    have hmap := dat_map hdat
    have hmem : ∀ i o x, (i, o, x) ∈ l → lo[i]? = some o ∧ i < h ∧ some i ≠ c := by
      intro i o x hm
      have h1 : (i, o) ∈ l.map (fun x => (x.1, x.2.1)) := List.mem_map.2 ⟨_, hm, rfl⟩
      rw [hmap] at h1
      simp only [List.map_map, List.mem_map, List.mem_filter, Function.comp] at h1
      obtain ⟨⟨o', i'⟩, ⟨h2, h3⟩, h4⟩ := h1
      simp only [Prod.mk.injEq] at h4
      obtain ⟨rfl, rfl⟩ := h4
      simp only [Bool.and_eq_true, decide_eq_true_eq, Bool.not_eq_true', beq_eq_false_iff_ne] at h3
      exact ⟨by simpa using List.mem_zipIdx_iff_getElem?.1 h2, h3.1, h3.2⟩
    have hhave : ∀ i o, lo[i]? = some o → i < h → some i ≠ c → ∃ x, (i, o, x) ∈ l := by
      intro i o ho hi hic
      have h1 : (i, o) ∈ l.map (fun x => (x.1, x.2.1)) := by
        rw [hmap]
        simp only [List.map_map, List.mem_map, List.mem_filter, Function.comp]
        exact ⟨(o, i), ⟨List.mem_zipIdx_iff_getElem?.2 (by simpa using ho), by simp [hi, hic]⟩, rfl⟩
      obtain ⟨⟨i', o', x⟩, h2, h3⟩ := List.mem_map.1 h1
      simp only [Prod.mk.injEq] at h3
      obtain ⟨rfl, rfl⟩ := h3
      exact ⟨x, h2⟩
    have hsorted : (l.map (·.1)).Pairwise (· < ·) := by
      have h1 : l.map (·.1) = (l.map (fun x => (x.1, x.2.1))).map (·.1) := by rw [List.map_map]; rfl
      rw [h1, hmap]
      have := sorted_heads lo (fun x => decide (x.2 < h) && !(some x.2 == c))
      rw [List.map_map, List.map_map]
      exact this
    have main : ∀ (l' : List (Nat × Opr × SV)) (HP : (Nat → Bool) → List Blk) (hF : List Blk), Diff l' → (∀ i o x, (i, o, x) ∈ l' → lo[i]? = some o ∧ i < h) → (∀ i o, lo[i]? = some o → i < h → ∃ x, (i, o, x) ∈ l') →
        (∀ L, (∀ i, i < h → i < ops.size → L i = true) → HP L = hF) →
        (∀ l1 l2 i o x, l' = l1 ++ (i, o, x) :: l2 → (∀ j o' x', (j, o', x') ∈ l1 → (some i = c ∨ j < i) ∧ some j ≠ c) ∧ (∀ j o' x', (j, o', x') ∈ l2 → i < j ∨ some j = c) ∧ (some i = c → l2 = [])) →
        (∀ l1 l2 i o x (lst : Array Bool) (E1 : Env) (a1 : Act) (op : Oper) (fuel : Nat), l' = l1 ++ (i, o, x) :: l2 → ops[i]? = some op → c1w P op = some o.o → o.d = op.dst → GRel ops op o → LS lst i = false →
          Rvs E1 (mix (LS lst) l' s.fr) a1.tmps.toList → RHp E1 (HP (LS lst)) → a1.defers = E1.df → (∀ t, t ∈ usesR o → gt (mix (LS lst) l' s.fr) t = gt (mix (fun _ => true) l1 s.fr) t) →
          ∀ (K' : Act → World → Prop), (∀ E' v, E1.Le E' → RHp E' (HP (fun j => j == i || LS lst j)) → Rv E' x v → K' (a1.put op.dst v) E'.w) → wpOpIn (fen ro) n P ops Q i K' a1 E1.w) →
        HP (fun _ => false) = s.hp → evops Γ (K .normal) (lo.drop h) ⟨mix (fun _ => true) l' s.fr, hF⟩ → (Code.region id ops true).wpIn (fen ro) n P Q a E.w := by
      intro l' HP hF hdiff hin hhv hfin hord hstep hHP0 hfinal
      refine wpIn_region_any hm ?_
      have hE1 : E.Le (E.to { E.w with drawn := E.w.drawn + 1 }) := Env.to_le fun b hb => rfl
      have hr1 : RHp (E.to { E.w with drawn := E.w.drawn + 1 }) s.hp :=
        ⟨⟨hr.hp.g.fr, hr.hp.g.fz, hr.hp.g.sz, hr.hp.g.os, hr.hp.g.tape, hr.hp.g.output, hr.hp.g.imb, hr.hp.g.im0⟩,
         ⟨hr.hp.b.n, hr.hp.b.rs, fun l b hb => (hr.hp.b.blk l b hb).keep hE1 (hr.hp.has hb) (fun g _ => rfl), hr.hp.b.live, hr.hp.b.imx, hr.hp.b.base, hr.hp.b.dj⟩⟩
      have key : ∀ (fuel : Nat) (lst : Array Bool) (E1 : Env) (a1 : Act), left lst ≤ fuel → lst.size = ops.size → Shut ops (LS lst) → E.Le E1 → a1.defers = E1.df → Rvs E1 (mix (LS lst) l' s.fr) a1.tmps.toList → RHp E1 (HP (LS lst)) →
          (∀ j, h ≤ j → LS lst j = false) → wpAnyIn (fen ro) n P .any ops Q fuel lst a1 E1.w := by
        intro fuel
        induction fuel with
        | zero =>
          intro lst E1 a1 hleft hsz hs hle hdf hF1 hr1 hno
          have hall : ∀ i, i < ops.size → LS lst i = true := fun i hi => by rw [LS, ← getD_tf (by omega)]; exact left_zero (by omega) i
          have hmx : mix (LS lst) l' s.fr = mix (fun _ => true) l' s.fr := by
            have := mix_split (p := LS lst) l' [] s.fr (fun i o x hm => hall i (by
              obtain ⟨h1, _⟩ := hin i o x hm
              have := (List.getElem?_eq_some_iff.1 h1).1
              rw [cops_len hc] at this; simpa using this)) (fun i o x hm => by cases hm)
            simpa using this
          have hHPF := hfin (LS lst) (fun i _ hi => hall i hi)
          rw [hmx] at hF1; rw [hHPF] at hr1
          exact tail_any hΓ hG hc he (fun i hi hlt j hj => hd1 i hi (by rw [cops_len hc]; simpa using hlt) j hj) E 0 lst 0 E1 ⟨_, hF⟩ a1 hleft hsz hs
            (fun j hj => ⟨fun hj' => (by
              rcases Nat.lt_or_ge j h with h1 | h1
              · simpa using h1
              · have := hno j h1; rw [hj'] at this; cases this), fun _ => hall j hj⟩) hle ⟨hF1, hr1, hdf⟩ (by simpa using hfinal) (fun E' s' a' => hq _ E' s' a')
        | succ fuel ih =>
          intro lst E1 a1 hleft hsz hs hle hdf hF1 hr1 hno
          by_cases hall : ∀ i, i < h → i < ops.size → LS lst i = true
          · have hmx : mix (LS lst) l' s.fr = mix (fun _ => true) l' s.fr := by
              have := mix_split (p := LS lst) l' [] s.fr (fun i o x hm => by
                obtain ⟨h1, h2⟩ := hin i o x hm
                refine hall i h2 ?_
                have := (List.getElem?_eq_some_iff.1 h1).1
                rw [cops_len hc] at this; simpa using this) (fun i o x hm => by cases hm)
              simpa using this
            have hHPF := hfin (LS lst) hall
            rw [hmx] at hF1; rw [hHPF] at hr1
            exact tail_any hΓ hG hc he (fun i hi hlt j hj => hd1 i hi (by rw [cops_len hc]; simpa using hlt) j hj) E (fuel + 1) lst 0 E1 ⟨_, hF⟩ a1 hleft hsz hs
              (fun j hj => ⟨fun hj' => (by
                rcases Nat.lt_or_ge j h with h1 | h1
                · simpa using h1
                · have := hno j h1; rw [hj'] at this; cases this), fun hj' => hall j (by simpa using hj') hj⟩) hle ⟨hF1, hr1, hdf⟩ (by simpa using hfinal) (fun E' s' a' => hq _ E' s' a')
          · have hex : ∃ i, i < h ∧ i < ops.size ∧ LS lst i = false := by
              apply Classical.byContradiction
              intro hc'
              refine hall fun i h1 h2 => ?_
              cases hv : LS lst i
              · exact absurd ⟨i, h1, h2, hv⟩ hc'
              · rfl
            constructor
            · intro hnil
              obtain ⟨i, h1, h2, h3⟩ := hex
              obtain ⟨j, _, hj⟩ := unlisted_ready hsz he i h2 (by rw [getD_tf (by omega)]; exact h3)
              rw [hnil] at hj; cases hj
            · intro i hi
              obtain ⟨h1, h2, h3, h4, h5, h6⟩ := ready_facts hsz hs hi
              have hih : i < h := by
                rcases Nat.lt_or_ge i h with h7 | h7
                · exact h7
                · obtain ⟨i', h8, h9, h10⟩ := hex
                  have := h3 i' (hd1 i h7 (by rw [cops_len hc]; simpa using h1) i' (by omega))
                  rw [h10] at this; cases this
              obtain ⟨o, ho, hco, hod, hog⟩ := cops_get hc i ops[i] (by simp [h1])
              obtain ⟨x, hx⟩ := hhv i o ho hih
              obtain ⟨l1, l2, hl⟩ := List.append_of_mem hx
              obtain ⟨o1, o2, o3⟩ := hord l1 l2 i o x hl
              have in1 : ∀ j o' x', (j, o', x') ∈ l1 → lo[j]? = some o' ∧ j < h := fun j o' x' hm => hin j o' x' (by rw [hl]; exact List.mem_append_left _ hm)
              have in2 : ∀ j o' x', (j, o', x') ∈ l2 → lo[j]? = some o' ∧ j < h := fun j o' x' hm => hin j o' x' (by rw [hl]; exact List.mem_append_right _ (List.mem_cons_of_mem _ hm))
              obtain ⟨df1, df2, _⟩ := (hl ▸ hdiff : Diff (l1 ++ (i, o, x) :: l2)).split
              have w1 : ∀ t, (o.d = some t ∨ t ∈ usesR o) → (some i = c → o.d ≠ some t) → ∀ j o' x', (j, o', x') ∈ l1 → o'.d = some t → LS lst j = true := by
                intro t ht hct j o' x' hm hd'
                obtain ⟨ho', hj⟩ := in1 j o' x' hm
                obtain ⟨e1, e2, e3⟩ := hd2 i j o o' t ho ho' hih hj (Ne.symm (df1 j o' x' hm)) hd' ht
                by_cases hic : some i = c
                · exact h3 j (e2 hic).2.1
                · have := e3 hic
                  rcases (o1 j o' x' hm).1 with h7 | h7
                  · exact absurd h7 hic
                  · rw [if_pos h7] at this; exact h3 j this
              have w2 : ∀ t, (o.d = some t ∨ t ∈ usesR o) → ∀ j o' x', (j, o', x') ∈ l2 → o'.d = some t → LS lst j = false := by
                intro t ht j o' x' hm hd'
                obtain ⟨ho', hj⟩ := in2 j o' x' hm
                obtain ⟨e1, e2, e3⟩ := hd2 i j o o' t ho ho' hih hj (Ne.symm (df2 j o' x' hm)) hd' ht
                have hic : some i ≠ c := fun hic => by have := o3 hic; subst this; cases hm
                have := e3 hic
                rcases o2 j o' x' hm with h7 | h7
                · rw [if_neg (by omega)] at this
                  cases hv : LS lst j
                  · rfl
                  · have hjs : j < ops.size := by
                      have := (List.getElem?_eq_some_iff.1 ho').1
                      rw [cops_len hc] at this; simpa using this
                    have := masks_listed hs j ops[j] (by simp [hjs]) (hs j ops[j] (by simp [hjs]) hv) i this
                    rw [h2] at this; cases this
                · exact absurd h7 e1
              have hview : ∀ t, t ∈ usesR o → gt (mix (LS lst) l' s.fr) t = gt (mix (fun _ => true) l1 s.fr) t := by
                intro t ht
                by_cases hcd : some i = c ∧ o.d = some t
                · -- its own slot, if it lays a block: nothing else writes it
                  refine view_eq hl hdiff h2 (fun j o' x' hm hd' => ?_) (fun j o' x' hm hd' => w2 t (.inr ht) j o' x' hm hd')
                  obtain ⟨ho', hj⟩ := in1 j o' x' hm
                  obtain ⟨e1, e2, e3⟩ := hd2 i j o o' t ho ho' hih hj (Ne.symm (df1 j o' x' hm)) hd' (.inr ht)
                  exact h3 j (e2 hcd.1).2.1
                · exact view_eq hl hdiff h2 (fun j o' x' hm hd' => w1 t (.inr ht) (fun hic e => hcd ⟨hic, e⟩) j o' x' hm hd') (fun j o' x' hm hd' => w2 t (.inr ht) j o' x' hm hd')
              refine hstep l1 l2 i o x lst E1 a1 ops[i] fuel hl (by simp [h1]) hco hod hog h2 hF1 hr1 hdf hview _ fun E' v hle' hrr hxv => ?_
              have hL : (fun j => j == i || LS lst j) = LS (lst.setIfInBounds i true) := funext fun j => (h5 j).symm
              refine ih _ E' _ (by omega) (by simpa using hsz) h4 (hle.trans hle') (by rw [put_defers, hdf, hle'.df]) ?_ (by rw [← hL]; exact hrr) (fun j hj => by
                rw [h5, hno j hj, Bool.or_false]; simp; omega)
              rw [← hL, ← hod]
              exact next_frame hl hdiff h2 (fun t j o' x' hm hd' hd'' => w2 t (.inl hd') j o' x' hm hd'') (hF1.mono hle') hxv
      have h0 : left (Array.replicate ops.size false) ≤ ops.size := by
        unfold left; rw [Array.toList_replicate]; simp
      have hLf : LS (Array.replicate ops.size false) = fun _ => false := by
        funext j
        simp only [LS, Array.getD_eq_getD_getElem?, Array.getElem?_replicate]
        split <;> rfl
      refine key ops.size _ (E.to _) a h0 (by simp) ?_ hE1 (by rw [hr.df]; rfl) ?_ (by rw [hLf, hHP0]; exact hr1) (fun j _ => by rw [hLf])
      · intro k o _ hk; rw [hLf] at hk; cases hk
      · rw [hLf]
        have := mix_split (p := fun _ => false) [] l' s.fr (fun _ _ _ hm => by cases hm) (fun _ _ _ _ => rfl)
        simp only [List.nil_append, mix] at this
        rw [this]
        exact hr.fr.mono hE1
    have hdl : Diff l := by
      unfold Diff
      exact hsorted.imp (fun h => Nat.ne_of_lt h)
    have hsp : ∀ {l1 l2 : List (Nat × Opr × SV)} {i o x}, l = l1 ++ (i, o, x) :: l2 → (∀ j o' x', (j, o', x') ∈ l1 → j < i) ∧ (∀ j o' x', (j, o', x') ∈ l2 → i < j) := by
      intro l1 l2 i o x hl
      rw [hl, List.map_append, List.map_cons, List.pairwise_append, List.pairwise_cons] at hsorted
      obtain ⟨_, ⟨h2, _⟩, h3⟩ := hsorted
      exact ⟨fun j o' x' hm => h3 j (List.mem_map.2 ⟨_, hm, rfl⟩) i (List.mem_cons_self ..), fun j o' x' hm => h2 j (List.mem_map.2 ⟨_, hm, rfl⟩)⟩
    cases hcv : c with
    | none =>
      simp only [hcv, Option.bind_none, tlK] at hk
      refine main l (fun _ => s.hp) s.hp hdl (fun i o x hm => ⟨(hmem i o x hm).1, (hmem i o x hm).2.1⟩) (fun i o ho hi => hhave i o ho hi (by rw [hcv]; simp)) (fun _ _ => rfl) ?_ ?_ rfl hk
      · intro l1 l2 i o x hl
        obtain ⟨s1, s2⟩ := hsp hl
        exact ⟨fun j o' x' hm => ⟨.inr (s1 j o' x' hm), by rw [hcv]; simp⟩, fun j o' x' hm => .inl (s2 j o' x' hm), fun hic => by rw [hcv] at hic; cases hic⟩
      · intro l1 l2 i o x lst E1 a1 op fuel hl hop hco hod hog hLi hF1 hr1 hdf hview K' hK'
        have hst := dat_get hdat hl
        exact step_head hΓq hGq hop hco hod hog (.inl rfl) hF1 hr1 hdf hst hview (by rw [len_mix, len_mix]) hK'
    | some k =>
      subst hcv
      obtain ⟨oc, hoc, hocg⟩ := hd3 k rfl
      simp only [Option.bind_some, hoc, tlK] at hk
      unfold evc creK at hk
      split at hk
      · rename_i xc bc hcr
        have hkh : k < h := by
          cases hh' : (lo.zipIdx.filter fun (o, i) => decide (i < h) && o.creates).head? with
          | none => rw [hh'] at hcc; cases hcc
          | some oi =>
            rw [hh'] at hcc
            have h1 := List.mem_of_head? hh'
            rw [List.mem_filter] at h1
            simp only [Option.map_some, Option.some.injEq] at hcc
            have := h1.2
            simp only [Bool.and_eq_true, decide_eq_true_eq] at this
            omega
        have hkl : ∀ o x, (k, o, x) ∉ l := fun o x hm => (hmem k o x hm).2.2 rfl
        have hmixc : ∀ L fr, mix L (l ++ [(k, oc, xc)]) fr = if L k then putf (mix L l fr) oc.d xc else mix L l fr := by
          intro L fr
          have : ∀ (l : List (Nat × Opr × SV)) fr, mix L (l ++ [(k, oc, xc)]) fr = if L k then putf (mix L l fr) oc.d xc else mix L l fr := by
            intro l
            induction l with
            | nil => intro fr; rfl
            | cons y l ih => intro fr; obtain ⟨i, o, x⟩ := y; simp only [List.cons_append, mix, ih]
          exact this l fr
        have hsp' : ∀ {l1 l2 : List (Nat × Opr × SV)} {i o x}, l ++ [(k, oc, xc)] = l1 ++ (i, o, x) :: l2 → (i = k ∧ o = oc ∧ x = xc ∧ l1 = l ∧ l2 = []) ∨ (∃ l2', l2 = l2' ++ [(k, oc, xc)] ∧ l = l1 ++ (i, o, x) :: l2') := by
          intro l1 l2 i o x hl
          rcases List.eq_nil_or_concat l2 with rfl | ⟨l2', y, rfl⟩
          · have := List.append_inj' hl rfl
            obtain ⟨h1, h2⟩ := this
            simp only [List.cons.injEq, Prod.mk.injEq, and_true] at h2
            exact .inl ⟨h2.1.symm, h2.2.1.symm, h2.2.2.symm, h1.symm, rfl⟩
          · rw [List.concat_eq_append, ← List.cons_append, ← List.append_assoc] at hl
            obtain ⟨h1, h2⟩ := List.append_inj' hl rfl
            simp only [List.cons.injEq, and_true] at h2
            exact .inr ⟨l2', by rw [List.concat_eq_append, h2], h1⟩
        refine main (l ++ [(k, oc, xc)]) (fun L => if L k then pb s.hp bc else s.hp) (pb s.hp bc) ?_ ?_ ?_ ?_ ?_ ?_ rfl ?_
        · unfold Diff at hdl ⊢
          rw [List.map_append, List.nodup_append]
          refine ⟨hdl, by simp, fun a ha b hb => ?_⟩
          simp at hb; subst hb
          obtain ⟨⟨i, o, x⟩, h1, rfl⟩ := List.mem_map.1 ha
          intro e; simp only at e; subst e; exact hkl o x h1
        · intro i o x hm
          rcases List.mem_append.1 hm with hm | hm
          · exact ⟨(hmem i o x hm).1, (hmem i o x hm).2.1⟩
          · simp only [List.mem_singleton, Prod.mk.injEq] at hm; obtain ⟨rfl, rfl, rfl⟩ := hm; exact ⟨hoc, hkh⟩
        · intro i o ho hi
          by_cases hik : i = k
          · subst hik; rw [hoc] at ho; cases ho; exact ⟨xc, by simp⟩
          · obtain ⟨x, hx⟩ := hhave i o ho hi (by simpa using hik); exact ⟨x, List.mem_append_left _ hx⟩
        · intro L hL
          rw [if_pos (hL k hkh (by
            have := (List.getElem?_eq_some_iff.1 hoc).1
            rw [cops_len hc] at this; simpa using this))]
        · intro l1 l2 i o x hl
          rcases hsp' hl with ⟨rfl, rfl, rfl, rfl, rfl⟩ | ⟨l2', rfl, hl'⟩
          · exact ⟨fun j o' x' hm => ⟨.inl rfl, (hmem j o' x' hm).2.2⟩, fun j o' x' hm => (by cases hm), fun _ => rfl⟩
          · obtain ⟨s1, s2⟩ := hsp hl'
            have hil := hmem i o x (by rw [hl']; simp)
            refine ⟨fun j o' x' hm => ⟨.inr (s1 j o' x' hm), (hmem j o' x' (by rw [hl']; exact List.mem_append_left _ hm)).2.2⟩, fun j o' x' hm => ?_, fun hic => absurd hic hil.2.2⟩
            rcases List.mem_append.1 hm with hm | hm
            · exact .inl (s2 j o' x' hm)
            · simp only [List.mem_singleton, Prod.mk.injEq] at hm; exact .inr (by rw [hm.1])
        · intro l1 l2 i o x lst E1 a1 op fuel hl hop hco hod hog hLi hF1 hr1 hdf hview K' hK'
          rcases hsp' hl with ⟨rfl, rfl, rfl, rfl, rfl⟩ | ⟨l2', rfl, hl'⟩
          · simp only [hLi] at hr1
            refine step_cre hΓq hGq hop hco hog hocg hF1 hr1 hdf (b := bc) hcr hview fun E' v hle' hrr hxv => hK' E' v hle' ?_ hxv
            simpa using hrr
          · have hst := dat_get hdat hl'
            have hik : i ≠ k := fun e => hkl o x (by rw [← e, hl']; simp)
            refine step_head hΓq hGq hop hco hod hog (by
              cases LS lst k
              · exact .inl rfl
              · exact .inr ⟨bc, rfl⟩) hF1 hr1 hdf hst hview (by rw [len_mix, len_mix]) fun E' v hle' hrr hxv => hK' E' v hle' ?_ hxv
            have : ((k == i) || LS lst k) = LS lst k := by
              have : (k == i) = false := by simpa using Ne.symm hik
              rw [this, Bool.false_or]
            simp only [this]; exact hrr
        · rw [hmixc]; exact hk
      · exact hk.elim
  · cases hsc
end
end Go.Vg
