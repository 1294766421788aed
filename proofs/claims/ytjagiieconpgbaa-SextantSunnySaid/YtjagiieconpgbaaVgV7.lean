/-
  Invariants of loops: one state is as good as another one.
-/
import Derived.Test.YtjagiieconpgbaaVgV6
namespace Go.Vg
open Go
set_option linter.unusedVariables false
set_option linter.unusedSimpArgs false

/-- No label of n or more is in it. -/
def inb (n : Nat) : Nat → SV → Bool
  | _, .ptr l _ | _, .ep l _ _ _ | _, .own l | _, .bsl l _ | _, .bso l _ _ _ | _, .lb _ l => decide (l < n)
  | k + 1, .agg cs | k + 1, .tup cs | k + 1, .fn _ cs => inbs k cs
  | k + 1, .mv _ a b => inbs k a && inbs k b
  | k + 1, .ifc _ x => inb n k x
  | _, .agg _ | _, .tup _ | _, .fn .. | _, .ifc .. | _, .mv .. => false
  | _, _ => true
where inbs (k : Nat) : List SV → Bool
  | [] => true
  | x :: t => inb n k x && inbs k t

theorem inb_ok {E E' : Env} {n : Nat} (hn : ∀ l, l < n → E.has l → E'.has l) (hb : ∀ l, l < n → E'.blk l = E.blk l) (hv : ∀ l, l < n → E'.val l = E.val l) (hl : ∀ l, l < n → E'.live l → E.live l) (hw : E'.w = E.w) (hi : E'.im = E.im) :
    ∀ (k : Nat) {x : SV} {v : Value}, inb n k x = true → Rv E x v → Rv E' x v := by
  intro k
  induction k with
  | zero =>
    intro x v h hx
    cases hx with
    | ptr l off h0 =>
      have h : l < n := by simpa [inb] using h
      rw [← hb l h]; exact .ptr l off (hn l h h0)
    | ep l sz i off h0 =>
      have h : l < n := by simpa [inb] using h
      rw [← hb l h]; exact .ep l sz i off (hn l h h0)
    | bsl l len h0 =>
      have h : l < n := by simpa [inb] using h
      rw [← hb l h]; exact .bsl l len (hn l h h0)
    | bso l off len cap h0 =>
      have h : l < n := by simpa [inb] using h
      rw [← hb l h]; exact .bso l off len cap (hn l h h0)
    | own l v h0 h1 h2 =>
      have h : l < n := by simpa [inb] using h
      exact .own l v (hn l h h0) h1 fun hx => by rw [hv l h]; exact h2 (hl l h hx)
    | rp _ _ _ h => exact .rp _ _ _ (by rw [hw, hi]; exact h)
    | ints _ _ _ h => exact .ints _ _ _ (by rw [hw, hi]; exact h)
    | clip _ _ _ h => exact .clip _ _ _ (by rw [hw, hi]; exact h)
    | clipr _ _ _ _ h => exact .clipr _ _ _ _ (by rw [hw, hi]; exact h)
    | rd _ _ _ _ h => exact .rd _ _ _ _ (by rw [hw, hi]; exact h)
    | cm _ _ _ h => exact .cm _ _ _ (by rw [hw, hi]; exact h)
    | lb kk l h0 =>
      have h : l < n := by simpa [inb] using h
      rw [← hb l h]; exact .lb kk l (hn l h h0)
    | agg _ _ _ | tup _ _ _ | fn _ _ _ _ | ifc _ _ _ _ | mv _ _ _ _ _ _ _ => simp [inb] at h
    | lit v => exact .lit v
    | int k n => exact .int k n
    | bool b => exact .bool b
    | any v => exact .any v
  | succ k ih =>
    have hs : ∀ {xs : List SV} {vs : List Value}, inb.inbs n k xs = true → Rvs E xs vs → Rvs E' xs vs := by
      intro xs
      induction xs with
      | nil => intro vs _ h; cases h; exact .nil
      | cons x xs ihs =>
        intro vs h hr
        cases hr with
        | cons _ v _ vs hx hr =>
          simp only [inb.inbs, Bool.and_eq_true] at h
          exact .cons _ _ _ _ (ih h.1 hx) (ihs h.2 hr)
    intro x v h hx
    cases hx with
    | ptr l off h0 =>
      have h : l < n := by simpa [inb] using h
      rw [← hb l h]; exact .ptr l off (hn l h h0)
    | ep l sz i off h0 =>
      have h : l < n := by simpa [inb] using h
      rw [← hb l h]; exact .ep l sz i off (hn l h h0)
    | bsl l len h0 =>
      have h : l < n := by simpa [inb] using h
      rw [← hb l h]; exact .bsl l len (hn l h h0)
    | bso l off len cap h0 =>
      have h : l < n := by simpa [inb] using h
      rw [← hb l h]; exact .bso l off len cap (hn l h h0)
    | own l v h0 h1 h2 =>
      have h : l < n := by simpa [inb] using h
      exact .own l v (hn l h h0) h1 fun hx => by rw [hv l h]; exact h2 (hl l h hx)
    | rp _ _ _ h => exact .rp _ _ _ (by rw [hw, hi]; exact h)
    | ints _ _ _ h => exact .ints _ _ _ (by rw [hw, hi]; exact h)
    | clip _ _ _ h => exact .clip _ _ _ (by rw [hw, hi]; exact h)
    | clipr _ _ _ _ h => exact .clipr _ _ _ _ (by rw [hw, hi]; exact h)
    | rd _ _ _ _ h => exact .rd _ _ _ _ (by rw [hw, hi]; exact h)
    | cm _ _ _ h => exact .cm _ _ _ (by rw [hw, hi]; exact h)
    | lb kk l h0 =>
      have h : l < n := by simpa [inb] using h
      rw [← hb l h]; exact .lb kk l (hn l h h0)
    | mv f a b us vs h1 h2 =>
      simp only [inb, Bool.and_eq_true] at h
      exact .mv _ _ _ _ _ (hs h.1 h1) (hs h.2 h2)
    | agg cs vs h' => exact .agg _ _ (hs h h')
    | tup cs vs h' => exact .tup _ _ (hs h h')
    | fn f cs vs h' => exact .fn _ _ _ (hs h h')
    | ifc t x v h' => exact .ifc _ _ _ (ih h h')
    | lit v => exact .lit v
    | int k n => exact .int k n
    | bool b => exact .bool b
    | any v => exact .any v

/-- A value of the one state is one of the other: n1 labels are kept, those behind them are new and empty. -/
def leX (n1 n2 : Nat) (x : SV) : SV → Prop
  | .any => True
  | .own l => (x = .own l ∧ l < n1) ∨ (x = .lit (.slice none 0 0) ∧ n1 ≤ l ∧ l < n2)
  | .rd sz len f => match x with
    | .rd sz' len' f' => sz' = sz ∧ len' = len ∧ ∀ i, i < len → f' i = f i
    | _ => False
  | y => x = y ∧ inb n1 8 y = true
def leL (n1 n2 : Nat) : List SV → List SV → Prop
  | [], [] => True
  | x :: a, y :: b => leX n1 n2 x y ∧ leL n1 n2 a b
  | _, _ => False
def leB (n1 n2 : Nat) (b : Blk) : Blk → Prop
  | .dead => True
  | .ob _ => False
  | .box t cs => match b with
    | .box t' cs' => t' = t ∧ leL n1 n2 cs' cs
    | _ => False
  | .fbox t cs => match b with
    | .fbox t' cs' => t' = t ∧ leL n1 n2 cs' cs
    | _ => False
  | .oi k t xs => b = .oi k t xs
  | .orw t sz len f => match b with
    | .orw t' sz' len' f' => t' = t ∧ sz' = sz ∧ len' = len ∧ ∀ i, i < len → f' i = f i
    | _ => False
  | .fz x => match b with
    | .fz y => leX n1 n2 y x
    | _ => False
def news : List Blk → Prop
  | [] => True
  | .oi _ _ xs :: t => xs = [] ∧ news t
  | .orw _ _ len _ :: t => len = 0 ∧ news t
  | .dead :: t => news t
  | _ => False
def leH (n1 n2 : Nat) : Nat → List Blk → List Blk → Prop
  | 0, _, l => news l
  | k + 1, b :: t, b' :: t' => leB n1 n2 b b' ∧ leH n1 n2 k t t'
  | _, _, _ => False

section
variable {E : Env} {n1 n2 : Nat}

/-- The environment of the other state. -/
def Env.cut (E : Env) (n1 n2 : Nat) : Env :=
  { E with n := n2, rs := fun l => l < n1 ∧ E.rs l, val := fun l => if l < n1 then E.val l else .slice none 0 0, live := fun l => n1 ≤ l ∨ E.live l }

theorem leX_ok (h12 : n1 ≤ n2) {x y : SV} {v : Value} (h : leX n1 n2 x y) (hx : Rv E x v) : Rv (E.cut n1 n2) y v := by
  have go : ∀ {y : SV}, inb n1 8 y = true → Rv E y v → Rv (E.cut n1 n2) y v := fun hi hy =>
    inb_ok (E := E) (E' := E.cut n1 n2) (fun l hl hh => ⟨Nat.lt_of_lt_of_le hl h12, fun hr => hh.2 hr.2⟩) (fun _ _ => rfl) (fun l hl => by simp [Env.cut, hl]) (fun l hl hv => hv.resolve_left (by omega)) rfl rfl 8 hi hy
  cases y with
  | any => exact .any v
  | own l =>
    rcases h with ⟨rfl, hl⟩ | ⟨rfl, h1, h2⟩
    · exact go (by simpa [inb] using hl) hx
    · have := hx.litE
      subst this
      exact .own l _ ⟨h2, fun hr => Nat.not_lt.2 h1 hr.1⟩ rfl fun _ => by simp [Env.cut, Nat.not_lt.2 h1]
  | rd sz len f =>
    cases x with
    | rd sz' len' f' =>
      simp only [leX] at h
      obtain ⟨rfl, rfl, hf⟩ := h
      cases hx with
      | rd _ _ _ _ hx =>
        refine .rd _ _ _ _ ?_
        cases hx with
        | rdNil => exact .rdNil _ _
        | rd _ _ _ b off cap vs hb h1 h2 h3 h4 => exact .rd _ _ _ b off cap vs hb (fun i hi => by rw [← hf i hi]; exact h1 i hi) h2 h3 h4
    | _ => exact h.elim
  | _ => obtain ⟨rfl, hi⟩ := h; exact go hi hx

theorem leL_ok (h12 : n1 ≤ n2) : ∀ {xs ys : List SV} {vs : List Value}, leL n1 n2 xs ys → Rvs E xs vs → Rvs (E.cut n1 n2) ys vs
  | [], [], _, _, .nil => .nil
  | x :: xs, y :: ys, _, h, .cons _ v _ vs hx hs => .cons _ _ _ _ (leX_ok h12 h.1 hx) (leL_ok h12 h.2 hs)
  | [], _ :: _, _, h, _ => h.elim
  | _ :: _, [], _, h, _ => h.elim

theorem leH_get : ∀ {k : Nat} {a b : List Blk} {l : Nat} {y : Blk}, leH n1 n2 k a b → b[l]? = some y → (l < k ∧ ∃ x, a[l]? = some x ∧ leB n1 n2 x y) ∨ (k ≤ l ∧ news [y])
  | 0, a, b, l, y, h, e => by
    refine .inr ⟨Nat.zero_le _, ?_⟩
    simp only [leH] at h
    clear a
    induction b generalizing l with
    | nil => simp at e
    | cons z t ih =>
      have hzt : news [z] ∧ news t := by
        cases z <;> simp_all [news]
      obtain ⟨hz, ht⟩ := hzt
      cases l with
      | zero => simp at e; subst e; exact hz
      | succ l => exact ih l ht (by simpa using e)
  | k + 1, x :: a, z :: b, 0, y, h, e => by
    simp at e; subst e
    exact .inl ⟨Nat.succ_pos _, x, rfl, h.1⟩
  | k + 1, x :: a, z :: b, l + 1, y, h, e => by
    rcases leH_get h.2 (by simpa using e) with ⟨h1, x', h2, h3⟩ | ⟨h1, h2⟩
    · exact .inl ⟨by omega, x', by simpa using h2, h3⟩
    · exact .inr ⟨by omega, h2⟩
  | k + 1, [], _, _, _, h, _ => h.elim
  | k + 1, _ :: _, [], _, _, h, e => by simp at e

theorem leB_ok (h12 : n1 ≤ n2) {l : Nat} (hl : l < n1) {b b' : Blk} (h : leB n1 n2 b b') (hb : Rblk E l b) : Rblk (E.cut n1 n2) l b' ∧ (∀ g, b'.at (E.cut n1 n2) l = some g → b.at E l = some g) ∧ (b' ≠ .dead → b ≠ .dead) := by
  have hv : (E.cut n1 n2).val l = E.val l := by simp [Env.cut, hl]
  cases b' with
  | ob o => exact h.elim
  | dead => exact ⟨trivial, fun g hg => by simp [Blk.at] at hg, fun h => absurd rfl h⟩
  | box t cs =>
    cases b with
    | box t' cs' => obtain ⟨rfl, h⟩ := h; obtain ⟨vs, h1, h2⟩ := hb; exact ⟨⟨vs, leL_ok h12 h h1, h2⟩, fun g hg => hg, fun _ => by simp⟩
    | _ => exact h.elim
  | fbox t cs =>
    cases b with
    | fbox t' cs' => obtain ⟨rfl, h⟩ := h; obtain ⟨h0, vs, h1, h2⟩ := hb; exact ⟨⟨h0, vs, leL_ok h12 h h1, h2⟩, fun g hg => by simp [Blk.at] at hg, fun _ => by simp⟩
    | _ => exact h.elim
  | oi k t xs =>
    have h : b = .oi k t xs := h
    subst h
    refine ⟨⟨by rw [hv]; exact hb.1, by rw [hv]; exact hb.2⟩, fun g hg => by simpa [Blk.at, hv] using hg, fun _ => by simp⟩
  | orw t sz len f =>
    cases b with
    | orw t' sz' len' f' =>
      obtain ⟨rfl, rfl, rfl, hf⟩ := h
      obtain ⟨⟨vs, h1, h2, h3⟩, h4⟩ := hb
      exact ⟨⟨⟨vs, fun i hi => by rw [← hf i hi]; exact h1 i hi, h2, by rw [hv]; exact h3⟩, by rw [hv]; exact h4⟩, fun g hg => by simpa [Blk.at, hv] using hg, fun _ => by simp⟩
    | _ => exact h.elim
  | fz x =>
    cases b with
    | fz y => exact ⟨by show Rv _ x _; rw [hv]; exact leX_ok h12 h hb, fun g hg => by simp [Blk.at] at hg, fun _ => by simp⟩
    | _ => exact h.elim

theorem Lw_of (n1 : Nat) {N : Nat} {s s' : St} (hN : N ≤ n1) (h1 : n1 ≤ ln s.hp) (h2 : n1 ≤ ln s'.hp) (hf : leL n1 (ln s'.hp) s.fr s'.fr) (hh : leH n1 (ln s'.hp) n1 s.hp s'.hp) : Lw N s s' := by
  intro E a hn0 hn hr
  have e1 : E.n = ln s.hp := by rw [ln_eq]; exact hr.hp.b.n
  have g := hr.hp.g
  refine ⟨E.cut n1 (ln s'.hp), ⟨by show E.n0 ≤ ln s'.hp; omega, fun l hl hh => ⟨show l < ln s'.hp by omega, fun hr => hh.2 hr.2⟩, fun _ _ _ => rfl, fun l hl _ => by simp [Env.cut, show l < n1 by omega], fun l hl _ hv => hv.resolve_left (by omega), fun _ h => h, rfl, rfl, rfl, rfl, rfl, rfl, fun _ _ => rfl, fun l hl hr => ⟨by omega, hr⟩⟩, rfl,
    leL_ok h2 hf hr.fr, ⟨⟨g.fr, g.fz, g.sz, g.os, g.tape, g.output, g.imb, g.im0⟩, ⟨by rw [← ln_eq]; rfl, ?_, ?_, ?_, ?_, ?_, ?_⟩⟩, hr.df⟩
  · intro l b hb hrs
    rcases leH_get hh hb with ⟨hl, x, hx, hle⟩ | ⟨hl, hnew⟩
    · by_cases hd : b = .dead
      · exact hd
      · exact absurd (hr.hp.b.rs l x hx hrs.2) ((leB_ok h2 hl hle (hr.hp.b.blk l x hx)).2.2 hd)
    · exact absurd hrs.1 (by omega)
  · intro l b hb
    rcases leH_get hh hb with ⟨hl, x, hx, hle⟩ | ⟨hl, hnew⟩
    · exact (leB_ok h2 hl hle (hr.hp.b.blk l x hx)).1
    · have hv : (E.cut n1 (ln s'.hp)).val l = .slice none 0 0 := by simp [Env.cut, Nat.not_lt.2 hl]
      cases b with
      | dead => trivial
      | oi k t xs => obtain ⟨rfl, _⟩ := hnew; exact ⟨by rw [hv]; exact World.ownsRow_nil _ _ _ _, by rw [hv]; intro g hg; simp [Value.ownBlock] at hg⟩
      | orw t sz len f =>
        obtain ⟨rfl, _⟩ := hnew
        exact ⟨⟨fun _ => [], fun i hi => by omega, fun i hi => by omega, by rw [hv]; exact World.ownsRow_nil _ _ _ _⟩, by rw [hv]; intro g hg; simp [Value.ownBlock] at hg⟩
      | _ => exact hnew.elim
  · intro l b hb hd
    rcases leH_get hh hb with ⟨hl, x, hx, hle⟩ | ⟨hl, hnew⟩
    · exact .inr (hr.hp.b.live l x hx ((leB_ok h2 hl hle (hr.hp.b.blk l x hx)).2.2 hd))
    · exact .inl hl
  all_goals
    have old : ∀ l (b : Blk) g, s'.hp[l]? = some b → b.at (E.cut n1 (ln s'.hp)) l = some g → ∃ x, s.hp[l]? = some x ∧ x.at E l = some g := by
      intro l b g hb hg
      rcases leH_get hh hb with ⟨hl, x, hx, hle⟩ | ⟨hl, hnew⟩
      · exact ⟨x, hx, (leB_ok h2 hl hle (hr.hp.b.blk l x hx)).2.1 g hg⟩
      · have hv : (E.cut n1 (ln s'.hp)).val l = .slice none 0 0 := by simp [Env.cut, Nat.not_lt.2 hl]
        cases b with
        | oi k t xs => simp [Blk.at, hv, Value.ownBlock] at hg
        | orw t sz len f => simp [Blk.at, hv, Value.ownBlock] at hg
        | dead => simp [Blk.at] at hg
        | _ => exact hnew.elim
  · intro l b g hb hg
    obtain ⟨x, hx, hg'⟩ := old l b g hb hg
    exact hr.hp.b.imx l x g hx hg'
  · intro l b g hb hg
    obtain ⟨x, hx, hg'⟩ := old l b g hb hg
    exact hr.hp.b.base l x g hx hg'
  · intro l l' b b' g hb hb' hg hg'
    obtain ⟨x, hx, h3⟩ := old l b g hb hg
    obtain ⟨x', hx', h4⟩ := old l' b' g hb' hg'
    exact hr.hp.b.dj l l' x x' g hx hx' h3 h4
end

/-- What is asked where a round goes on. -/
def Nx {G : Type} (N : Nat) (I : G → St) (p : G → Prop) (m : G → Nat) (n : Nat) (s : St) : Prop :=
  ∃ k s'', k < n ∧ Lw N s s'' ∧ ∃ g, p g ∧ m g = k ∧ s'' = I g
theorem Nx.mk {G : Type} {N : Nat} {I : G → St} {p : G → Prop} {m : G → Nat} {n : Nat} {s : St} (g : G) (hp : p g) (hm : m g < n) (hl : Lw N s (I g)) : Nx N I p m n s := ⟨m g, I g, hm, hl, g, hp, rfl, rfl⟩

theorem loop_intro {G : Type} {N : Nat} {body : (Exit → St → Prop) → St → Prop} {K : Exit → St → Prop} {s : St} (I : G → St) (p : G → Prop) (m : G → Nat) (g0 : G) (h0 : p g0) (hw : Lw N s (I g0))
    (hr : ∀ g, p g → body (loopK K (Nx N I p m (m g))) (I g)) : LoopP N body K s :=
  ⟨fun n s => ∃ g, p g ∧ m g = n ∧ s = I g, ⟨m g0, I g0, hw, g0, h0, rfl, rfl⟩, by
    rintro n s ⟨g, hp, rfl, rfl⟩
    exact hr g hp⟩
end Go.Vg
