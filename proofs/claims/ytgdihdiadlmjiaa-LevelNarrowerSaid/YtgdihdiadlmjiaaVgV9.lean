import Derived.Test.YtgdihdiadlmjiaaVgV8
set_option linter.all false
namespace Go.Vg
open Go
def rn (ρ : List (Option Nat)) (n1 l : Nat) : Option Nat := match ρ[l - n1]? with
 | some (some k) => some k
 | _ => none
def reX (n1 n2 : Nat) (ρ : List (Option Nat)) (x : SV) : SV -> Prop
 | .any => True
 | .own l => (x = .own l /\ l < n1) \/ ((n1 <= l /\ l < n2) /\ match rn ρ n1 l with
  | some k => x = .own k
  | none => x = .lit (.slice none 0 0))
 | .bool b => match x with
  | .bool b' => b' = b
  | .lit (.bool b') => b' = b
  | _ => False
 | .rd sz len f => match x with
  | .rd sz' len' f' => sz' = sz /\ len' = len /\ ∀ i, i < len -> f' i = f i
  | _ => False
 | y => x = y /\ inb n1 8 y = true
def reL (n1 n2 : Nat) (ρ : List (Option Nat)) : List SV -> List SV -> Prop
 | [], [] => True
 | x :: a, y :: b => reX n1 n2 ρ x y /\ reL n1 n2 ρ a b
 | _, _ => False
def reB (n1 n2 : Nat) (ρ : List (Option Nat)) (b : Blk) : Blk -> Prop
 | .dead => True
 | .ob .df => b = .ob .df
 | .ob (.wl st pd fr ps ca cb df) => match b with
  | .ob (.wl st' pd' fr' ps' ca' cb' df') => (st' = st /\ pd' = pd /\ ps' = ps /\ ca' = ca /\ cb' = cb /\ df' = df) /\ df < n1 /\ reL n1 n2 ρ fr' fr
  | _ => False
 | .ob _ => False
 | .box t cs => match b with
  | .box t' cs' => t' = t /\ reL n1 n2 ρ cs' cs
  | _ => False
 | .fbox t cs => match b with
  | .fbox t' cs' => t' = t /\ reL n1 n2 ρ cs' cs
  | _ => False
 | .oi k t xs => b = .oi k t xs
 | .orw t sz len f => match b with
  | .orw t' sz' len' f' => t' = t /\ sz' = sz /\ len' = len /\ ∀ i, i < len -> f' i = f i
  | _ => False
 | .fz x => match b with
  | .fz y => reX n1 n2 ρ y x
  | _ => False
def reM (b : Blk) : Blk -> Prop
 | .dead => True
 | .oi k t xs => b = .oi k t xs
 | .orw t sz len f => match b with
  | .orw t' sz' len' f' => t' = t /\ sz' = sz /\ len' = len /\ ∀ i, i < len -> f' i = f i
  | _ => False
 | _ => False
def newB : Blk -> Prop
 | .oi _ _ xs => xs = []
 | .orw _ _ len _ => len = 0
 | .dead => True
 | _ => False
def reN (old : List Blk) (n1 : Nat) : List (Option Nat) -> List Blk -> Prop
 | [], [] => True
 | none :: ρ, b :: t => newB b /\ reN old n1 ρ t
 | some k :: ρ, b :: t => ((n1 <= k /\ k < ln old) /\ reM (gb old k) b) /\ reN old n1 ρ t
 | _, _ => False
def reH (n1 n2 : Nat) (ρ : List (Option Nat)) (old : List Blk) : Nat -> List Blk -> List Blk -> Prop
 | 0, _, l => reN old n1 ρ l
 | k + 1, b :: t, b' :: t' => reB n1 n2 ρ b b' /\ reH n1 n2 ρ old k t t'
 | _, _, _ => False
def once : List (Option Nat) -> Bool
 | [] => true
 | none :: t => once t
 | some k :: t => !(t.contains (some k)) && once t
section
variable {E : Env} {n1 n2 : Nat} {ρ : List (Option Nat)}
def Env.ren (E : Env) (n1 n2 : Nat) (ρ : List (Option Nat)) : Env :=
  { E with n := n2
           rs := fun l => l < n1 /\ E.rs l
           blk := fun l => if l < n1 then E.blk l else match rn ρ n1 l with
             | some k => E.blk k
             | none => E.blk l
           val := fun l => if l < n1 then E.val l else match rn ρ n1 l with
             | some k => E.val k
             | none => .slice none 0 0
           live := fun l => if l < n1 then E.live l else match rn ρ n1 l with
             | some k => E.live k
             | none => True }
theorem xQz (h12 : n1 <= n2) {x y : SV} {v : Value} (h : reX n1 n2 ρ x y) (hx : Rv E x v) : Rv (E.ren n1 n2 ρ) y v := by
 have go : ∀ {y : SV}, inb n1 8 y = true -> Rv E y v -> Rv (E.ren n1 n2 ρ) y v := fun hi hy =>
  inb_ok (E := E) (E' := E.ren n1 n2 ρ) (fun l hl hh => ⟨Nat.lt_of_lt_of_le hl h12, fun hr => hh.2 hr.2⟩) (fun l hl => by simp [Env.ren, hl]) (fun l hl => by simp [Env.ren, hl]) (fun l hl hv => by simpa [Env.ren, hl] using hv) rfl rfl 8 hi hy
 cases y with
 | any => exact .any v
 | own l =>
  rcases h with ⟨rfl, hl⟩ | ⟨⟨h1, h2⟩, h3⟩
  ·exact go (by simpa [inb] using hl) hx
  ·have h0 : ¬ l < n1 := by omega
   split at h3
   ·rename_i k hk
    subst h3
    obtain ⟨g1, g2, g3⟩ := hx.ownE
    exact .own l _ ⟨h2, fun hr => h0 hr.1⟩ g2 fun hl => by
     simp only [Env.ren, h0, if_false, hk] at hl ⊢
     exact g3 hl
   ·rename_i hk
    subst h3
    have := hx.litE
    subst this
    exact .own l _ ⟨h2, fun hr => h0 hr.1⟩ rfl fun _ => by simp [Env.ren, h0, hk]
 | bool b =>
  simp only [reX] at h
  split at h
  ·subst h; rw [hx.boolE]; exact .bool _
  ·subst h; rw [hx.litE]; exact .bool _
  ·exact h.elim
 | rd sz len f =>
  cases x with
  | rd sz' len' f' =>
   simp only [reX] at h
   obtain ⟨rfl, rfl, hf⟩ := h
   cases hx with
   | rd _ _ _ _ hx =>
    refine .rd _ _ _ _ ?_
    cases hx with
    | rdNil => exact .rdNil _ _
    | rdE => exact .rdE _ _ _ _
    | rd _ _ _ b off cap vs hb h1 h2 h3 h4 => exact .rd _ _ _ b off cap vs hb (fun i hi => by rw [<- hf i hi]; exact h1 i hi) h2 h3 h4
  | _ => exact h.elim
 | _ => obtain ⟨rfl, hi⟩ := h; exact go hi hx
theorem xIk (h12 : n1 <= n2) : ∀ {xs ys : List SV} {vs : List Value}, reL n1 n2 ρ xs ys -> Rvs E xs vs -> Rvs (E.ren n1 n2 ρ) ys vs
 | [], [], _, _, .nil => .nil
 | x :: xs, y :: ys, _, h, .cons _ v _ vs hx hs => .cons _ _ _ _ (xQz h12 h.1 hx) (xIk h12 h.2 hs)
 | [], _ :: _, _, h, _ => h.elim
 | _ :: _, [], _, h, _ => h.elim
theorem xJp {old : List Blk} : ∀ {ρ : List (Option Nat)} {l : List Blk} {j : Nat} {y : Blk}, reN old n1 ρ l -> l[j]? = some y ->
  (ρ[j]? = some none /\ newB y) \/ ∃ k, ρ[j]? = some (some k) /\ (n1 <= k /\ k < ln old) /\ reM (gb old k) y
 | [], [], j, y, _, e => by simp at e
 | [], _ :: _, j, y, h, e => h.elim
 | none :: ρ, b :: t, 0, y, h, e => by simp at e; subst e; exact .inl ⟨rfl, h.1⟩
 | none :: ρ, b :: t, j + 1, y, h, e => by simpa using xJp (j := j) h.2 (by simpa using e)
 | some k :: ρ, b :: t, 0, y, h, e => by simp at e; subst e; exact .inr ⟨k, rfl, h.1⟩
 | some k :: ρ, b :: t, j + 1, y, h, e => by simpa using xJp (j := j) h.2 (by simpa using e)
 | none :: ρ, [], _, _, h, _ => h.elim
 | some _ :: ρ, [], _, _, h, _ => h.elim
theorem xNc {old : List Blk} {N1 : Nat} : ∀ {k : Nat} {a b : List Blk} {l : Nat} {y : Blk}, reH N1 n2 ρ old k a b -> b[l]? = some y ->
  (l < k /\ ∃ x, a[l]? = some x /\ reB N1 n2 ρ x y) \/ (k <= l /\ ((ρ[l - k]? = some none /\ newB y) \/ ∃ m, ρ[l - k]? = some (some m) /\ (N1 <= m /\ m < ln old) /\ reM (gb old m) y))
 | 0, a, b, l, y, h, e => .inr ⟨Nat.zero_le _, by simpa using xJp (j := l) (by simpa [reH] using h) e⟩
 | k + 1, x :: a, z :: b, 0, y, h, e => by
  simp at e; subst e
  exact .inl ⟨Nat.succ_pos _, x, rfl, h.1⟩
 | k + 1, x :: a, z :: b, l + 1, y, h, e => by
  rcases xNc h.2 (by simpa using e) with ⟨h1, x', h2, h3⟩ | ⟨h1, h2⟩
  ·exact .inl ⟨by omega, x', by simpa using h2, h3⟩
  ·exact .inr ⟨by omega, by rw [show l + 1 - (k + 1) = l - k by omega]; exact h2⟩
 | k + 1, [], _, _, _, h, _ => h.elim
 | k + 1, _ :: _, [], _, _, h, e => by simp at e
theorem xKo (h12 : n1 <= n2) {l : Nat} (hl : l < n1) {b b' : Blk} (h : reB n1 n2 ρ b b') (hb : Rblk E l b) :
  Rblk (E.ren n1 n2 ρ) l b' /\ (∀ g, b'.at (E.ren n1 n2 ρ) l = some g -> b.at E l = some g) /\ (b' ≠ .dead -> b ≠ .dead) := by
 have hv : (E.ren n1 n2 ρ).val l = E.val l := by simp [Env.ren, hl]
 have hk : (E.ren n1 n2 ρ).blk l = E.blk l := by simp [Env.ren, hl]
 cases b' with
 | ob o =>
  cases o with
  | df =>
   have h : b = .ob .df := h
   subst h
   refine ⟨?_, fun g hg => by simpa [Blk.at, hk] using hg, fun _ => by simp⟩
   show E.w.heap[(E.ren n1 n2 ρ).blk l]? = _
   rw [hk]; exact hb
  | wl st pd fr ps ca cb df =>
   cases b with
   | ob o' =>
    cases o' with
    | wl st' pd' fr' ps' ca' cb' df' =>
     obtain ⟨⟨rfl, rfl, rfl, rfl, rfl, rfl⟩, hd, h⟩ := h
     obtain ⟨h0, fn, vs, h1, h2⟩ := hb
     have hkd : (E.ren n1 n2 ρ).blk df' = E.blk df' := by simp [Env.ren, hd]
     refine ⟨⟨⟨by show df' < n2; omega, fun hr => h0.2 hr.2⟩, fn, vs, xIk h12 h h1, ?_⟩, fun g hg => by simpa [Blk.at, hk] using hg, fun _ => by simp⟩
     show E.w.heap[(E.ren n1 n2 ρ).blk l]? = _
     rw [hk, hkd]; exact h2
    | _ => exact h.elim
   | _ => exact h.elim
  | _ => exact h.elim
 | dead => exact ⟨trivial, fun g hg => by simp [Blk.at] at hg, fun h => absurd rfl h⟩
 | box t cs =>
  cases b with
  | box t' cs' => obtain ⟨rfl, h⟩ := h; obtain ⟨vs, h1, h2⟩ := hb; exact ⟨⟨vs, xIk h12 h h1, by rw [hk]; exact h2⟩, fun g hg => by simpa [Blk.at, hk] using hg, fun _ => by simp⟩
  | _ => exact h.elim
 | fbox t cs =>
  cases b with
  | fbox t' cs' => obtain ⟨rfl, h⟩ := h; obtain ⟨h0, vs, h1, h2⟩ := hb; exact ⟨⟨by rw [hk]; exact h0, vs, xIk h12 h h1, by rw [hk]; exact h2⟩, fun g hg => by simp [Blk.at] at hg, fun _ => by simp⟩
  | _ => exact h.elim
 | oi k t xs =>
  have h : b = .oi k t xs := h
  subst h
  refine ⟨⟨by rw [hv]; exact hb.1, by rw [hv, hk]; exact hb.2⟩, fun g hg => by simpa [Blk.at, hv] using hg, fun _ => by simp⟩
 | orw t sz len f =>
  cases b with
  | orw t' sz' len' f' =>
   obtain ⟨rfl, rfl, rfl, hf⟩ := h
   obtain ⟨⟨vs, h1, h2, h3⟩, h4⟩ := hb
   exact ⟨⟨⟨vs, fun i hi => by rw [<- hf i hi]; exact h1 i hi, h2, by rw [hv]; exact h3⟩, by rw [hv, hk]; exact h4⟩, fun g hg => by simpa [Blk.at, hv] using hg, fun _ => by simp⟩
  | _ => exact h.elim
 | fz x =>
  cases b with
  | fz y => exact ⟨by show Rv _ x _; rw [hv]; exact xQz h12 h hb, fun g hg => by simp [Blk.at] at hg, fun _ => by simp⟩
  | _ => exact h.elim
theorem xNd {l k : Nat} (hl : n1 <= l) (hk : rn ρ n1 l = some k) {b b' : Blk} (h : reM b b') (hb : b ≠ .dead -> Rblk E k b) :
  Rblk (E.ren n1 n2 ρ) l b' /\ (∀ g, b'.at (E.ren n1 n2 ρ) l = some g -> b.at E k = some g) /\ (b' ≠ .dead -> b ≠ .dead) := by
 have h0 : ¬ l < n1 := by omega
 have hv : (E.ren n1 n2 ρ).val l = E.val k := by simp [Env.ren, h0, hk]
 have hkk : (E.ren n1 n2 ρ).blk l = E.blk k := by simp [Env.ren, h0, hk]
 cases b' with
 | dead => exact ⟨trivial, fun g hg => by simp [Blk.at] at hg, fun h => absurd rfl h⟩
 | oi q t xs =>
  have h : b = .oi q t xs := h
  subst h
  have hb := hb (by simp)
  exact ⟨⟨by rw [hv]; exact hb.1, by rw [hv, hkk]; exact hb.2⟩, fun g hg => by simpa [Blk.at, hv] using hg, fun _ => by simp⟩
 | orw t sz len f =>
  cases b with
  | orw t' sz' len' f' =>
   obtain ⟨rfl, rfl, rfl, hf⟩ := h
   obtain ⟨⟨vs, h1, h2, h3⟩, h4⟩ := hb (by simp)
   exact ⟨⟨⟨vs, fun i hi => by rw [<- hf i hi]; exact h1 i hi, h2, by rw [hv]; exact h3⟩, by rw [hv, hkk]; exact h4⟩, fun g hg => by simpa [Blk.at, hv] using hg, fun _ => by simp⟩
  | _ => exact h.elim
 | _ => exact h.elim
theorem xGx {k : Nat} : ∀ {ρ : List (Option Nat)} {i j : Nat}, once ρ = true -> ρ[i]? = some (some k) -> ρ[j]? = some (some k) -> i = j
 | [], i, j, _, h, _ => by simp at h
 | none :: t, 0, _, _, h, _ => by simp at h
 | none :: t, _ + 1, 0, _, _, h => by simp at h
 | none :: t, i + 1, j + 1, ho, h1, h2 => congrArg (· + 1) (xGx (ρ := t) ho (by simpa using h1) (by simpa using h2))
 | some m :: t, 0, 0, _, _, _ => rfl
 | some m :: t, 0, j + 1, ho, h1, h2 => by
  simp only [once, Bool.and_eq_true, Bool.not_eq_true'] at ho
  simp at h1 h2
  subst h1
  have : some m ∈ t := List.mem_of_getElem? h2
  have := ho.1
  simp_all
 | some m :: t, i + 1, 0, ho, h1, h2 => by
  simp only [once, Bool.and_eq_true, Bool.not_eq_true'] at ho
  simp at h1 h2
  subst h2
  have : some m ∈ t := List.mem_of_getElem? h1
  have := ho.1
  simp_all
 | some m :: t, i + 1, j + 1, ho, h1, h2 => by
  simp only [once, Bool.and_eq_true] at ho
  exact congrArg (· + 1) (xGx (ρ := t) ho.2 (by simpa using h1) (by simpa using h2))
theorem Lw_re (n1 : Nat) (ρ : List (Option Nat)) {N : Nat} {s s' : St} (hN : N <= n1) (h1 : n1 <= ln s.hp) (h2 : n1 <= ln s'.hp) (ho : once ρ = true) (hf : reL n1 (ln s'.hp) ρ s.fr s'.fr)
  (hh : reH n1 (ln s'.hp) ρ s.hp n1 s.hp s'.hp) : Lw N s s' := by
 intro E a hn0 hn hr
 have g := hr.hp.g
 have old : ∀ l (b : Blk), s'.hp[l]? = some b -> (l < n1 /\ ∃ x, s.hp[l]? = some x /\ reB n1 (ln s'.hp) ρ x b) \/
   (n1 <= l /\ ((rn ρ n1 l = none /\ newB b) \/ ∃ m, rn ρ n1 l = some m /\ ρ[l - n1]? = some (some m) /\ (n1 <= m /\ m < ln s.hp) /\ reM (gb s.hp m) b)) := by
  intro l b hb
  rcases xNc hh hb with h | ⟨h3, h4⟩
  ·exact .inl h
  ·refine .inr ⟨h3, ?_⟩
   rcases h4 with ⟨h5, h6⟩ | ⟨m, h5, h6, h7⟩
   ·exact .inl ⟨by simp [rn, h5], h6⟩
   ·exact .inr ⟨m, by simp [rn, h5], h5, h6, h7⟩
 have bl : ∀ m, gb s.hp m ≠ .dead -> Rblk E m (gb s.hp m) := fun m hm => hr.hp.b.blk m _ (xAa rfl hm)
 have src : ∀ l (b : Blk), s'.hp[l]? = some b -> ∀ g, b.at (E.ren n1 (ln s'.hp) ρ) l = some g ->
   ∃ k x, s.hp[k]? = some x /\ x.at E k = some g /\ ((l < n1 /\ k = l) \/ (n1 <= l /\ n1 <= k /\ ρ[l - n1]? = some (some k))) := by
  intro l b hb g hg
  rcases old l b hb with ⟨hl, x, hx, hre⟩ | ⟨hl, ⟨hk, hnew⟩ | ⟨m, hm, hm', hm2, hre⟩⟩
  ·exact ⟨l, x, hx, (xKo h2 hl hre (hr.hp.b.blk l x hx)).2.1 g hg, .inl ⟨hl, rfl⟩⟩
  ·have hv : (E.ren n1 (ln s'.hp) ρ).val l = .slice none 0 0 := by simp [Env.ren, Nat.not_lt.2 hl, hk]
   cases b with
   | oi k t xs => simp [Blk.at, hv, Value.ownBlock] at hg
   | orw t sz len f => simp [Blk.at, hv, Value.ownBlock] at hg
   | dead => simp [Blk.at] at hg
   | _ => exact hnew.elim
  ·have h3 := xNd (n2 := ln s'.hp) hl hm hre (bl m)
   have hd : b ≠ .dead := by intro e; subst e; simp [Blk.at] at hg
   exact ⟨m, _, xAa rfl (h3.2.2 hd), h3.2.1 g hg, .inr ⟨hl, hm2.1, hm'⟩⟩
 refine ⟨E.ren n1 (ln s'.hp) ρ, ⟨by show E.n0 <= ln s'.hp; omega, fun l hl hh => ⟨show l < ln s'.hp by omega, fun hr => hh.2 hr.2⟩, fun l hl _ => by simp [Env.ren, show l < n1 by omega], fun l hl _ => by simp [Env.ren, show l < n1 by omega], fun l hl _ hv => by simpa [Env.ren, show l < n1 by omega] using hv, fun _ h => h, rfl, rfl, rfl, rfl, rfl, rfl, fun _ _ => rfl, fun l hl hr => ⟨by omega, hr⟩⟩, rfl,
  xIk h2 hf hr.fr, ⟨⟨g.fr, g.fz, g.sz, g.os, g.tape, g.output, g.imb, g.im0⟩, ⟨by rw [<- xBn]; rfl, ?_, ?_, ?_, ?_, ?_, ?_⟩⟩, hr.df⟩
 ·intro l b hb hrs
  rcases old l b hb with ⟨hl, x, hx, hre⟩ | ⟨hl, ⟨hk, hnew⟩ | ⟨m, hm, _, hm2, hre⟩⟩
  ·by_cases hd : b = .dead
   ·exact hd
   ·exact absurd (hr.hp.b.rs l x hx hrs.2) ((xKo h2 hl hre (hr.hp.b.blk l x hx)).2.2 hd)
  ·exact absurd hrs.1 (by omega)
  ·exact absurd hrs.1 (by omega)
 ·intro l b hb
  rcases old l b hb with ⟨hl, x, hx, hre⟩ | ⟨hl, ⟨hk, hnew⟩ | ⟨m, hm, _, hm2, hre⟩⟩
  ·exact (xKo h2 hl hre (hr.hp.b.blk l x hx)).1
  ·have hv : (E.ren n1 (ln s'.hp) ρ).val l = .slice none 0 0 := by simp [Env.ren, Nat.not_lt.2 hl, hk]
   cases b with
   | dead => trivial
   | oi k t xs => obtain rfl := hnew; exact ⟨by rw [hv]; exact World.ownsRow_nil _ _ _ _, by rw [hv]; intro g hg; simp [Value.ownBlock] at hg⟩
   | orw t sz len f =>
    obtain rfl := hnew
    exact ⟨⟨fun _ => [], fun i hi => by omega, fun i hi => by omega, by rw [hv]; exact World.ownsRow_nil _ _ _ _⟩, by rw [hv]; intro g hg; simp [Value.ownBlock] at hg⟩
   | _ => exact hnew.elim
  ·exact (xNd (n2 := ln s'.hp) hl hm hre (bl m)).1
 ·intro l b hb hd
  rcases old l b hb with ⟨hl, x, hx, hre⟩ | ⟨hl, ⟨hk, hnew⟩ | ⟨m, hm, _, hm2, hre⟩⟩
  ·have := hr.hp.b.live l x hx ((xKo h2 hl hre (hr.hp.b.blk l x hx)).2.2 hd)
   simpa [Env.ren, hl] using this
  ·simp [Env.ren, Nat.not_lt.2 hl, hk]
  ·have h3 := (xNd (n2 := ln s'.hp) hl hm hre (bl m)).2.2 hd
   have := hr.hp.b.live m _ (xAa rfl h3) h3
   simpa [Env.ren, Nat.not_lt.2 hl, hm] using this
 ·intro l b g hb hg
  obtain ⟨k, x, hx, hx2, _⟩ := src l b hb g hg
  exact hr.hp.b.imx k x g hx hx2
 ·intro l b g hb hg
  obtain ⟨k, x, hx, hx2, _⟩ := src l b hb g hg
  exact hr.hp.b.base k x g hx hx2
 ·intro l l' b b' g hb hb' hg hg'
  obtain ⟨k, x, hx, hx2, hs⟩ := src l b hb g hg
  obtain ⟨k', x', hx', hx2', hs'⟩ := src l' b' hb' g hg'
  have hkk := hr.hp.b.dj k k' x x' g hx hx' hx2 hx2'
  subst hkk
  rcases hs with ⟨h3, rfl⟩ | ⟨h3, h4, h5⟩
  ·rcases hs' with ⟨h6, h7⟩ | ⟨h6, h7, h8⟩
   ·exact h7
   ·omega
  ·rcases hs' with ⟨h6, h7⟩ | ⟨h6, h7, h8⟩
   ·omega
   ·have := xGx ho h5 h8
    omega
end
theorem loop_at2 {N : Nat} {Γ : Gm} {Γq : Nat -> Option FC} {K : Exit -> St -> Prop} {G : Type} {c : SC} {fr : List SV} {hp : List Blk} (ch : G -> List (Nat × SV)) (hpf : G -> List Blk) (p : G -> Prop) (m : G -> Nat) (g0 : G) (h0 : p g0)
  (hb : ∀ fr', forget fr (dstC c []) = fr' -> Lw N ⟨fr, hp⟩ ⟨sts fr' (ch g0), hpf g0⟩ /\
   ∀ g, p g -> exec N Γ Γq c (loopK K (Nx N (fun g => ⟨sts fr' (ch g), hpf g⟩) p m (m g))) ⟨sts fr' (ch g), hpf g⟩) : LoopP N (exec N Γ Γq c) K ⟨fr, hp⟩ :=
 xSi ch hpf p m g0 h0 rfl (hb _ rfl).1 (hb _ rfl).2
abbrev Opr.u0 (d x : Nat) : Opr := ⟨some d, none, .v (.mov (.t x))⟩
abbrev Opr.u1 (d : Nat) (n : Int) : Opr := ⟨some d, none, .v (.mov (.c (.int .i64 n)))⟩
abbrev Opr.u2 (d x k : Nat) : Opr := ⟨some d, none, .v (.off (.t x) k)⟩
abbrev Opr.u3 (d x : Nat) : Opr := ⟨some d, none, .v (.load (.t x) none)⟩
abbrev Opr.u4 (d x k : Nat) : Opr := ⟨some d, none, .v (.load (.t x) (some k))⟩
abbrev Opr.u5 (d x k : Nat) : Opr := ⟨some d, none, .v (.ext (.t x) k)⟩
abbrev Opr.u6 (d : Nat) (b : BinOp) (x y : Nat) : Opr := ⟨some d, none, .v (.bin b (.t x) (.t y))⟩
abbrev Opr.u7 (d : Nat) (b : BinOp) (x : Nat) (n : Int) : Opr := ⟨some d, none, .v (.bin b (.t x) (.c (.int .i64 n)))⟩
abbrev Opr.u8 (d x y : Nat) : Opr := ⟨some d, none, .v (.pick (.t x) (.t y) (.c (.lit (.bool false))))⟩
abbrev Opr.u9 (d x y : Nat) : Opr := ⟨some d, none, .v (.pick (.t x) (.c (.lit (.bool true))) (.t y))⟩
abbrev Opr.w0 (d g : Nat) (b : Bool) (v : VOp) : Opr := ⟨some d, some (g, b), .v v⟩
abbrev Opr.w1 (d f : Nat) (l : List X) : Opr := ⟨some d, none, .call (.c (.fn f [])) l⟩
abbrev Opr.w2 (d x : Nat) : Opr := ⟨some d, none, .v (.len (.t x))⟩
abbrev Opr.w3 (n x y : Nat) : Opr := ⟨none, none, .store n (.t x) (.t y)⟩
abbrev Opr.w4 (d : Nat) : Opr := ⟨some d, none, .new 23 [.int .i64 0, .int .i64 0]⟩
abbrev Opr.w5 (d : Nat) (b : Bool) : Opr := ⟨some d, none, .v (.mov (.c (.lit (.bool b))))⟩
abbrev Opr.w6 (d : Nat) (v : VOp) : Opr := ⟨some d, none, .v v⟩
end Go.Vg
