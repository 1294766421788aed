import Derived.Test.YtgdihdiadlmjiaaVgD5
import Derived.Test.YtgdihdiadlmjiaaVgS2
set_option linter.all false
namespace Go.Vg
open Go
section
variable {P : Program} {Γ : Gm} {Γq : Nat -> Option FC} (hΓ : GmOk P Γ)
 (hG : ∀ f C, Γ f = some C -> ∃ fn, P.funcs[f]? = some fn /\ fn.name ≠ "runtime.NumGoroutine" /\ fn.body ≠ none)
 (hΓq : ∀ f F, Γq f = some F -> FcOk P f F) (hGq : ∀ f F, Γq f = some F -> Known P f)
theorem c1w_defer {o : Oper} {o1 : Op1} (h : c1w P o = some o1) : ∀ c, o.op ≠ .defer c := by
 intro c e
 unfold c1w c1 cV at h
 simp [e] at h
theorem Rvs.st_same {E : Env} : ∀ {xs : List SV} {vs : List Value} (i : Nat) {x : SV}, Rvs E xs vs -> Rv E x (vs.getD i undef) -> Rvs E (Vg.st xs i x) vs
 | [], [], i, x, .nil, _ => .nil
 | _ :: _, _ :: _, 0, x, .cons _ _ _ _ _ h, hv => .cons _ _ _ _ (by simpa using hv) h
 | _ :: _, _ :: _, i + 1, x, .cons _ _ _ _ h0 h, hv => .cons _ _ _ _ h0 (h.st_same i (by simpa using hv))
theorem xMc {all : Array Oper} {tmps : Array Value} {j d : Nat} (hd : (all[j]?).bind (·.dst) = some d) :
  yielded all tmps j = match tmps.toList.getD d undef with
   | .bool b => some b
   | _ => none := by
 unfold yielded
 rw [hd]
 simp only [Option.bind_some, List.getD_eq_getElem?_getD, Array.getElem?_toList]
 cases tmps[d]? with
 | none => rfl
 | some v => cases v <;> rfl
include hΓ hG in
theorem xGt {ro : Option Nat} {n : Nat} {all : Array Oper} {Q : Exit -> Act -> World -> Prop} : ∀ (l : List Oper) (lo : List Opr), cops P all l = some lo -> ∀ {k : St -> Prop} {s : St} {E : Env} {a : Act}, Rep E s a -> evops Γ k lo s ->
  (∀ E' s' a', E.Le E' -> Rep E' s' a' -> k s' -> Q .normal a' E'.w) -> wpListIn (fen ro) n P all Q l a E.w
 | [], lo, hc, k, s, E, a, hr, hev, hq => by
  simp [cops] at hc; subst hc
  exact hq E s a (.refl E) hr hev
 | o :: l, lo, hc, k, s, E, a, hr, hev, hq => by
  simp only [cops] at hc
  split at hc
  ·rename_i o1 lo' g h1 h2 h3
   cases hc
   have run : ∀ s', Rep E s' a -> runK Γ (evops Γ k lo') o1 o.dst s' -> o.wpIn (fen ro) n P a E.w (wpListIn (fen ro) n P all Q l) Q := by
    intro s' hr' he
    refine ⟨fun _ _ => trivial, ?_⟩
    rw [Oper.semAt_eq _ _ _ (c1w_defer h1)]
    refine xCs hΓ hG h1 hr' he fun E' hp' x v hle hh hx hk => ?_
    exact xGt l lo' h2 (hr'.put hle hh hx o.dst) hk fun E'' s'' a'' hle' => hq E'' s'' a'' (hle.trans hle')
   have skip : ∀ s', Rep E s' a -> skipK (evops Γ k lo') o.dst s' -> (∀ f, o.about P E.w a.eval = some f -> (fen ro).fn f) /\ wpListIn (fen ro) n P all Q l (a.put o.dst undef) E.w := by
    intro s' hr' he
    exact ⟨fun _ _ => trivial, xGt l lo' h2 (hr'.put (.refl E) hr'.hp (.lit undef) o.dst) he hq⟩
   simp only [evops] at hev
   cases hg : o.guard with
   | none =>
    simp only [hg] at h3
    cases h3
    simp only [wpListIn, Region.wanted, hg, if_true]
    exact run s hr hev
   | some jw =>
    obtain ⟨j, want⟩ := jw
    simp only [hg] at h3
    split at h3
    ·rename_i d hd
     cases h3
     have hy := xMc (tmps := a.tmps) hd
     have hx := hr.fr.gt d
     simp only [wpListIn, Region.wanted, hg]
     simp only [gd, gdK] at hev
     have same : ∀ b, a.tmps.toList.getD d undef = .bool b -> Rep E ⟨st s.fr d (.lit (.bool b)), s.hp⟩ a := fun b hb =>
      ⟨hr.fr.st_same d (by rw [hb]; exact .lit _), hr.hp, hr.df⟩
     split at hev
     ·rename_i hgt
      rw [hgt] at hx
      have hx := hx.litE
      rw [hx] at hy
      cases want with
      | true => rw [hy]; exact run s hr hev
      | false => rw [hy]; exact skip s hr hev
     ·rename_i hgt
      rw [hgt] at hx
      have hx := hx.litE
      rw [hx] at hy
      cases want with
      | true => rw [hy]; exact skip s hr hev
      | false => rw [hy]; exact run s hr hev
     ·rename_i hgt
      rw [hgt] at hx
      have hx := hx.litE
      rw [hx] at hy
      rw [hy]; exact skip s hr hev
     ·rename_i b hgt
      rw [hgt] at hx
      have hx := hx.boolE
      rw [hx] at hy
      rw [hy]
      cases want <;> cases b
      ·exact run _ (same false hx) (hev.1 rfl)
      ·exact skip _ (same true hx) (hev.2 rfl)
      ·exact skip _ (same false hx) (hev.2 rfl)
      ·exact run _ (same true hx) (hev.1 rfl)
     ·exact hev.elim
    ·cases h3
  ·cases hc
theorem xCk {p : Nat -> Prop} (h : ∃ n, p n) : ∃ n, p n /\ ∀ m, m < n -> ¬ p m := by
 obtain ⟨n, hn⟩ := h
 induction n using Nat.strongRecOn with
 | _ n ih =>
  by_cases hm : ∃ m, m < n /\ p m
  ·obtain ⟨m, h1, h2⟩ := hm; exact ih m h1 h2
  ·exact ⟨n, hn, fun m h1 h2 => hm ⟨m, h1, h2⟩⟩
theorem xIj {F : Fence} {n : Nat} {Q : Exit -> Act -> World -> Prop} {a : Act} {w : World} {c : Code} (I : Nat -> Act -> World -> Prop) (h0 : ∃ m, I m a w)
  (round : ∀ m a w, I m a w -> c.wpIn F n P (Exit.then (fun a' w' => ∃ m', m' < m /\ I m' a' w') Q) a w) : (Code.loop c).wpIn F n P Q a w := by
 classical
 let μ : Act -> World -> Nat := fun a w => if h : ∃ m, I m a w then Classical.choose (xCk h) else 0
 have hμ : ∀ a w, (∃ m, I m a w) -> I (μ a w) a w /\ ∀ m, I m a w -> μ a w <= m := by
  intro a w h
  have h1 := Classical.choose_spec (xCk h)
  have e : μ a w = Classical.choose (xCk h) := dif_pos h
  rw [e]
  exact ⟨h1.1, fun m hm => Nat.le_of_not_lt fun hlt => h1.2 m hlt hm⟩
 refine wpIn_loop (fun a w => ∃ m, I m a w) μ h0 fun a w h => ?_
 obtain ⟨h1, _⟩ := hμ a w h
 refine wpIn_mono (round _ a w h1) fun e a' w' hq => ?_
 cases e with
 | normal =>
  obtain ⟨m', hlt, hI⟩ := hq
  exact ⟨⟨m', hI⟩, Nat.lt_of_le_of_lt ((hμ a' w' ⟨m', hI⟩).2 m' hI) hlt⟩
 | _ => exact hq
include hΓ hG hΓq hGq in
theorem xNa {N : Nat} {ro : Option Nat} {n : Nat} : ∀ (c : Code) (sc : SC), cC P c = some sc -> (ro = none \/ sc.nosem = true) -> ∀ {K : Exit -> St -> Prop} {s : St} {E : Env} {a : Act} {Q : Exit -> Act -> World -> Prop}, E.n0 <= N -> E.n0 <= E.n -> Rep E s a -> exec N Γ Γq sc K s ->
  (∀ e E' s' a', E.Xg sc.nosem E' -> Rep E' s' a' -> K e s' -> Q e a' E'.w) -> c.wpIn (fen ro) n P Q a E.w := by
 intro c
 induction c with
 | skip => intro sc hc hro K s E a Q hN hn hr he hq; simp [cC] at hc; subst hc; exact wpIn_skip (hq _ E s a (Env.Le.xt (.refl E) hn).g hr he)
 | ret => intro sc hc hro K s E a Q hN hn hr he hq; simp [cC] at hc; subst hc; exact wpIn_ret (hq _ E s a (Env.Le.xt (.refl E) hn).g hr he)
 | exit id => intro sc hc hro K s E a Q hN hn hr he hq; simp [cC] at hc; subst hc; exact wpIn_exit (hq _ E s a (Env.Le.xt (.refl E) hn).g hr he)
 | region id ops draw =>
  intro sc hc hro K s E a Q hN hn hr he hq
  cases draw with
  | false =>
   simp only [cC] at hc
   split at hc
   ·rename_i lo hlo
    cases hc
    exact wpIn_region_list (xGt hΓ hG ops.toList lo hlo hr he fun E' s' a' hle => hq _ E' s' a' (hle.xt hn).g)
   ·cases hc
    simp only [exec] at he
    rw [hΓ.1] at he
    rcases hro with rfl | h
    ·exact he n E a Q hN hn hr hq
    ·cases h
  | true =>
   simp only [cC] at hc
   split at hc
   ·rename_i hct
    cases hc
    exact tre_ok (Γq := Γq) hΓ hG hct hr he fun e E' s' a' hle => hq e E' s' a' (hle.xt hn).g
   split at hc
   rotate_left
   ·split at hc
    ·rename_i hcr
     cases hc
     exact xSd (Γq := Γq) hΓ hG hcr hr he fun e E' s' a' hle => hq e E' s' a' (hle.xt hn).g
    ·cases hc
     simp only [exec] at he
     rw [hΓ.1] at he
     rcases hro with rfl | h
     ·exact he n E a Q hN hn hr hq
     ·cases h
   rename_i hcd
   cases hc
   split at hcd
   ·cases hcd
   split at hcd
   ·exact xNh hΓ hG hΓq hGq hcd hr he fun e E' s' a' hle => hq e E' s' a' (hle.xt hn).g
   ·obtain ⟨sc', hsc, rfl⟩ := Option.map_eq_some_iff.1 hcd
    obtain ⟨E1, c1, r1⟩ := xQh (_ :: _) hr.hp hr.fr
    rw [<- c1.w]
    exact xNh hΓ hG hΓq hGq hsc (hr.mono c1.le r1) he fun e E' s' a' hle => hq e E' s' a' ((c1.le.trans hle).xt hn).g
 | seq x y ihx ihy =>
  intro sc hc hro K s E a Q hN hn hr he hq
  simp only [cC] at hc
  split at hc
  ·rename_i sx sy hx hy
   cases hc
   have hn' : (SC.seq sx sy).nosem = (sx.nosem && sy.nosem) := rfl
   have hrx : ro = none \/ sx.nosem = true := hro.imp id fun h => by rw [hn', Bool.and_eq_true] at h; exact h.1
   have hry : ro = none \/ sy.nosem = true := hro.imp id fun h => by rw [hn', Bool.and_eq_true] at h; exact h.2
   refine wpIn_seq (ihx sx hx hrx hN hn hr he fun e E' s' a' hle hr' hk => ?_)
   have e0 : E'.n0 = E.n0 := hle.x.n0
   have e1 : E.n0 <= E'.n := hle.x.n
   cases e with
   | normal => exact ihy sy hy hry (by rw [e0]; exact hN) (by rw [e0]; exact e1) hr' hk fun e E'' s'' a'' hle' => hq e E'' s'' a'' (hle.trans hle')
   | _ => exact hq _ E' s' a' (hle.weak fun h => by rw [hn', Bool.and_eq_true] at h; exact h.1) hr' hk
  ·cases hc
 | cond c x y ihx ihy =>
  intro sc hc hro K s E a Q hN hn hr he hq
  simp only [cC] at hc
  split at hc
  ·rename_i cc sx sy h1 hx hy
   cases hc
   have k1 := X.ok hr.fr h1
   have hn' : (SC.cond cc sx sy).nosem = (sx.nosem && sy.nosem) := rfl
   have wx : (SC.cond cc sx sy).nosem = true -> sx.nosem = true := fun h => by rw [hn', Bool.and_eq_true] at h; exact h.1
   have wy : (SC.cond cc sx sy).nosem = true -> sy.nosem = true := fun h => by rw [hn', Bool.and_eq_true] at h; exact h.2
   have qx := fun e E' s' a' (hle : E.Xg sx.nosem E') => hq e E' s' a' (hle.weak wx)
   have qy := fun e E' s' a' (hle : E.Xg sy.nosem E') => hq e E' s' a' (hle.weak wy)
   simp only [exec, condK] at he
   split at he
   ·rename_i e1; rw [e1] at k1; exact wpIn_cond_true k1.litE (ihx sx hx (hro.imp id wx) hN hn hr he qx)
   ·rename_i e1; rw [e1] at k1; exact wpIn_cond_false k1.litE (ihy sy hy (hro.imp id wy) hN hn hr he qy)
   ·rename_i g e1; rw [e1] at k1
    exact wpIn_cond_split k1.boolE (fun h => ihx sx hx (hro.imp id wx) hN hn hr (he.1 h) qx) (fun h => ihy sy hy (hro.imp id wy) hN hn hr (he.2 h) qy)
   ·exact he.elim
  ·cases hc
 | block id c ih =>
  intro sc hc hro K s E a Q hN hn hr he hq
  simp only [cC] at hc
  obtain ⟨sc', hsc, rfl⟩ := Option.map_eq_some_iff.1 hc
  refine wpIn_block (ih sc' hsc hro hN hn hr he fun e E' s' a' hle hr' hk => ?_)
  cases e with
  | exit j =>
   simp only [blockK, exitK] at hk
   split at hk
   ·rename_i h
    have hj : j = id := by simpa using h
    simp only [Exit.inBlock, hj, if_true]
    exact hq _ E' s' a' hle hr' hk
   ·rename_i h
    have hj : ¬ j = id := by simpa using h
    simp only [Exit.inBlock, hj, if_false]
    exact hq _ E' s' a' hle hr' hk
  | _ => exact hq _ E' s' a' hle hr' hk
 | scope c ih =>
  intro sc hc hro K s E a Q hN hn hr he hq
  simp only [cC] at hc
  obtain ⟨sc', hsc, rfl⟩ := Option.map_eq_some_iff.1 hc
  refine xFu (ih sc' hsc hro hN hn hr he fun e E' s' a' hle hr' hk => ?_)
  cases e with
  | goto l => exact hk.elim
  | _ => exact hq _ E' s' a' hle hr' hk
 | label l => intro sc hc hro K s E a Q hN hn hr he hq; simp [cC] at hc; subst hc; exact wpIn_label (hq _ E s a (Env.Le.xt (.refl E) hn).g hr he)
 | loop c ih =>
  intro sc hc hro K s E a Q hN hn hr he hq
  simp only [cC] at hc
  obtain ⟨sc', hsc, rfl⟩ := Option.map_eq_some_iff.1 hc
  obtain ⟨I, ⟨m0, s0, hlw, hI0⟩, hround⟩ := he
  refine xIj (fun m a w => ∃ E' s', E.Xg sc'.nosem E' /\ Rep E' s' a /\ I m s' /\ E'.w = w) ?_ ?_
  ·obtain ⟨E', h1, h2, h3⟩ := hlw E a hN hn hr
   exact ⟨m0, E', s0, h1.g, h3, hI0, h2⟩
  ·rintro m a w ⟨E1, s1, hle, hr1, hI, rfl⟩
   have e0 : E1.n0 = E.n0 := hle.x.n0
   have e1 : E.n0 <= E1.n := hle.x.n
   refine ih sc' hsc hro (by rw [e0]; exact hN) (by rw [e0]; exact e1) hr1 (hround m s1 hI) fun e E' s' a' hle' hr' hk => ?_
   have hle2 : E.Xg sc'.nosem E' := (hle.trans hle').weak fun h => by rw [h]; rfl
   have e2 : E'.n0 = E.n0 := hle2.x.n0
   have e3 : E.n0 <= E'.n := hle2.x.n
   cases e with
   | normal =>
    obtain ⟨m', s'', hlt, hlw', hI'⟩ := hk
    obtain ⟨E2, h1, h2, h3⟩ := hlw' E' a' (by rw [e2]; exact hN) (by rw [e2]; exact e3) hr'
    exact ⟨m', hlt, E2, s'', (hle2.trans (h1.g (b := true))).weak fun h => by rw [h]; rfl, h3, hI', h2⟩
   | _ => exact hq _ E' s' a' hle2 hr' hk
 | rangeFunc g ps x y ihx ihy =>
  intro sc hc hro K s E a Q hN hn hr he hq
  simp only [cC, Option.some.injEq] at hc
  subst hc
  simp only [exec] at he
  rw [hΓ.1] at he
  rcases hro with rfl | h
  ·exact he n E a Q hN hn hr hq
  ·cases h
 | _ => intro sc hc; simp [cC] at hc
end
end Go.Vg
