import Derived.Test.YtgdihdiadlmjiaaVgR5
import Derived.Test.YtgdihdiadlmjiaaVgD5
set_option linter.all false
namespace Go.Vg
open Go
set_option linter.unnecessarySimpa false
structure Agr (E E' E'' : Env) : Prop where
 has : ∀ l, E.has l -> E''.has l
 blk : ∀ l, E.has l -> E''.blk l = E'.blk l
 val : ∀ l, E.has l -> E''.val l = E'.val l
 live : ∀ l, E.has l -> E''.live l -> E'.live l
 w : E''.w = E'.w
 im : E''.im = E'.im
mutual
theorem Rv.via {E E' E'' : Env} (h : Agr E E' E'') : ∀ {x : SV} {v0 v : Value}, Rv E x v0 -> Rv E' x v -> Rv E'' x v
 | _, _, _, .lit _, h1 => by cases h1; exact .lit _
 | _, _, _, .int _ _, h1 => by cases h1; exact .int _ _
 | _, _, _, .bool _, h1 => by cases h1; exact .bool _
 | _, _, _, .ptr l off hl, h1 => by cases h1; rw [<- h.blk l hl]; exact .ptr l off (h.has l hl)
 | _, _, _, .ep l sz i off hl, h1 => by cases h1; rw [<- h.blk l hl]; exact .ep l sz i off (h.has l hl)
 | _, _, _, .rp cs off v hv, h1 => by cases h1 with | rp _ _ _ h1 => exact .rp _ _ _ (by rw [h.w, h.im]; exact h1)
 | _, _, _, .agg cs vs hs, h1 => by cases h1 with | agg _ us h1 => exact .agg _ _ (Rvs.via h hs h1)
 | _, _, _, .tup cs vs hs, h1 => by cases h1 with | tup _ us h1 => exact .tup _ _ (Rvs.via h hs h1)
 | _, _, _, .fn f cs vs hs, h1 => by cases h1 with | fn _ _ us h1 => exact .fn _ _ _ (Rvs.via h hs h1)
 | _, _, _, .ifc t x v hx, h1 => by cases h1 with | ifc _ _ u h1 => exact .ifc _ _ _ (Rv.via h hx h1)
 | _, _, _, .ints k xs v hv, h1 => by cases h1 with | ints _ _ _ h1 => exact .ints _ _ _ (by rw [h.w, h.im]; exact h1)
 | _, _, _, .rd sz len f v hv, h1 => by cases h1 with | rd _ _ _ _ h1 => exact .rd _ _ _ _ (by rw [h.w, h.im]; exact h1)
 | _, _, _, .clip k xs v hv, h1 => by cases h1 with | clip _ _ _ h1 => exact .clip _ _ _ (by rw [h.w, h.im]; exact h1)
 | _, _, _, .clipr sz len f v hv, h1 => by cases h1 with | clipr _ _ _ _ h1 => exact .clipr _ _ _ _ (by rw [h.w, h.im]; exact h1)
 | _, _, _, .own l v hl _ _, h1 => by
  cases h1 with
  | own _ u _ h2 h3 => exact .own l _ (h.has l hl) h2 (fun hv => (h3 (h.live l hl hv)).trans (h.val l hl).symm)
 | _, _, _, .bsl l len hl, h1 => by cases h1; rw [<- h.blk l hl]; exact .bsl l len (h.has l hl)
 | _, _, _, .bso l off len cap hl, h1 => by cases h1; rw [<- h.blk l hl]; exact .bso l off len cap (h.has l hl)
 | _, _, _, .lb k l hl, h1 => by cases h1; rw [<- h.blk l hl]; exact .lb k l (h.has l hl)
 | _, _, _, .mv f fs cs us vs h2 h3, h1 => by cases h1 with | mv _ _ _ us' vs' h4 h5 => exact .mv _ _ _ _ _ (Rvs.via h h2 h4) (Rvs.via h h3 h5)
 | _, _, _, .cm ks vs v hv, h1 => by cases h1 with | cm _ _ _ h1 => exact .cm _ _ _ (by rw [h.w, h.im]; exact h1)
 | _, _, _, .any v, h1 => .any _
 | _, _, _, .mm m x v hx, h1 => by cases h1 with | mm _ _ u h1 => exact .mm _ _ _ (Rv.via h hx h1)
theorem Rvs.via {E E' E'' : Env} (h : Agr E E' E'') : ∀ {xs : List SV} {vs0 vs : List Value}, Rvs E xs vs0 -> Rvs E' xs vs -> Rvs E'' xs vs
 | [], _, _, .nil, .nil => .nil
 | _ :: _, _, _, .cons _ _ _ _ h0 h1, .cons _ _ _ _ h2 h3 => .cons _ _ _ _ (Rv.via h h0 h2) (Rvs.via h h1 h3)
end
def Env.free (E : Env) : Env := { E with n := E.n + 1, rs := fun l => l = E.n \/ (l < E.n /\ E.rs l) }
theorem Env.free_le (E : Env) : E.Le E.free :=
 ⟨Nat.le_succ _, fun l hl => ⟨Nat.lt_succ_of_lt hl.1, fun h => h.elim (fun e => Nat.lt_irrefl _ (e ▸ hl.1)) (fun h => hl.2 h.2)⟩, fun _ _ => rfl, fun _ _ => rfl, fun _ _ h => h, fun _ h => h, fun _ _ => rfl, rfl, rfl, rfl, rfl, rfl, rfl, fun l hl h => .inr ⟨hl, h⟩⟩
theorem xKz {hp : List Blk} {b0 : Blk} {l : Nat} {b : Blk} (e : (pb hp b0)[l]? = some b) : (l = hp.length /\ b = b0) \/ (l < hp.length /\ hp[l]? = some b) := by
 rw [xCz, List.getElem?_append] at e
 split at e
 ·rename_i h; exact .inr ⟨h, e⟩
 ·rename_i h
  rw [List.getElem?_singleton] at e
  split at e
  ·exact .inl ⟨by omega, by simpa using e.symm⟩
  ·cases e
theorem RHp.free {E : Env} {hp : List Blk} (h : RHp E hp) : RHp E.free (pb hp .dead) := by
 have hle := E.free_le
 have hn := h.b.n
 have hat : ∀ l (b : Blk) g, hp[l]? = some b -> b.at E.free l = some g -> b.at E l = some g := fun l b g hb hg => by rw [<- Blk.at_le hle b (h.has hb)]; exact hg
 have old : ∀ l (b : Blk) g, (pb hp .dead)[l]? = some b -> b.at E.free l = some g -> hp[l]? = some b /\ b.at E l = some g := by
  intro l b g e hg
  rcases xKz e with ⟨_, rfl⟩ | ⟨_, h2⟩
  ·simp [Blk.at] at hg
  ·exact ⟨h2, hat l b g h2 hg⟩
 refine ⟨⟨h.g.fr, h.g.fz, h.g.sz, h.g.os, h.g.tape, h.g.output, h.g.imb, h.g.im0⟩, ⟨?_, ?_, ?_, ?_, ?_, ?_, ?_⟩⟩
 ·rw [xCz]; simp [Env.free, hn]
 ·intro l b e hr
  rcases xKz e with ⟨_, rfl⟩ | ⟨h1, h2⟩
  ·rfl
  ·rcases hr with rfl | hr
   ·omega
   ·exact h.b.rs l b h2 hr.2
 ·intro l b e
  rcases xKz e with ⟨_, rfl⟩ | ⟨_, h2⟩
  ·trivial
  ·exact (h.b.blk l b h2).keep hle (h.has h2) (fun _ _ => rfl)
 ·intro l b e hd
  rcases xKz e with ⟨_, rfl⟩ | ⟨_, h2⟩
  ·exact absurd rfl hd
  ·exact h.b.live l b h2 hd
 ·intro l b g e hg; obtain ⟨h1, h2⟩ := old l b g e hg; exact h.b.imx l b g h1 h2
 ·intro l b g e hg; obtain ⟨h1, h2⟩ := old l b g e hg; exact h.b.base l b g h1 h2
 ·intro l l' b b' g e e' hg hg'
  obtain ⟨h1, h2⟩ := old l b g e hg; obtain ⟨h3, h4⟩ := old l' b' g e' hg'
  exact h.b.dj l l' b b' g h1 h3 h2 h4
def resvH : Nat -> List Blk -> List Blk
 | 0, hp => hp
 | n + 1, hp => resvH n (pb hp .dead)
theorem xHf : ∀ (m : Nat) (hp : List Blk), ln (resvH m hp) = ln hp + m
 | 0, hp => rfl
 | m + 1, hp => by simp only [resvH]; rw [xHf m, ln_pb]; omega
theorem xHg : ∀ (m : Nat) (hp : List Blk) (l : Nat), gb (resvH m hp) l = if l < ln hp then gb hp l else .dead
 | 0, hp, l => by
  simp only [resvH]
  split
  ·rfl
  ·rename_i h
   cases hg : gb hp l <;> first | rfl | exact absurd (xMj (by rw [hg]; simp)) h
 | m + 1, hp, l => by
  simp only [resvH]
  rw [xHg m, ln_pb, xFn]
  by_cases h1 : l < ln hp
  ·rw [if_pos (by omega), if_neg (by omega), if_pos h1]
  ·rw [if_neg h1]
   split
   ·rw [if_pos (by omega)]
   ·rfl
theorem RHp.resv : ∀ (m : Nat) {E : Env} {hp : List Blk}, RHp E hp -> ∃ E', E.Le E' /\ E'.w = E.w /\ RHp E' (resvH m hp) /\ (∀ j, j < m -> E'.rs (E.n + j))
 | 0, E, hp, h => ⟨E, .refl E, rfl, h, fun j hj => absurd hj (Nat.not_lt_zero _)⟩
 | m + 1, E, hp, h => by
  obtain ⟨E', h1, h2, h3, h4⟩ := RHp.resv m h.free
  refine ⟨E', E.free_le.trans h1, h2, h3, fun j hj => ?_⟩
  cases j with
  | zero => exact h1.rs E.n (Nat.lt_succ_self _) (.inl rfl)
  | succ j =>
   have := h4 j (by omega)
   rwa [show E.free.n + j = E.n + (j + 1) by show E.n + 1 + j = _; omega] at this
theorem xEl {α : Type} : ∀ (m : Nat) {h : HT} {hp : List Blk} (r : HRel h hp) (k : HT -> α), ∃ h', resv m h k = k h' /\ HRel h' (resvH m hp) /\ Frm h h'
 | 0, h, hp, r, k => ⟨h, rfl, r, .refl h⟩
 | m + 1, h, hp, r, k => by
  simp only [resv, HT.push_eq]
  obtain ⟨h', h1, h2, h3⟩ := xEl m (r.push .dead) k
  exact ⟨h', h1, h2, (Frm.push r.f _).trans h3⟩
def Env.into (E E' : Env) (l : Nat) : Env :=
 { E' with n := E.n, rs := fun x => x ≠ l /\ E.rs x, blk := fun x => if x = l then E'.blk E.n else E'.blk x, val := fun x => if x = l then E'.val E.n else E'.val x, live := fun x => x = l \/ E'.live x }
theorem Env.into_le {E E' : Env} (h : E.Le E') {l : Nat} (hl : l < E.n) (hr : E.rs l) : E.Le0 (E.into E' l) := by
 have hne : ∀ x, E.has x -> x ≠ l := fun x hx e => hx.2 (e ▸ hr)
 exact ⟨Nat.le_refl _, fun x hx => ⟨hx.1, fun h => hx.2 h.2⟩, fun x hx => by simp [Env.into, hne x hx, h.blk x hx], fun x hx => by simp [Env.into, hne x hx, h.val x hx],
  fun x hx hv => h.live x hx (hv.resolve_left (hne x hx)), h.im, h.mem, h.ok⟩
theorem Env.into_agr {E E' : Env} (h : E.Le E') {l : Nat} (hl : l < E.n) (hr : E.rs l) : Agr E E' (E.into E' l) := by
 have hne : ∀ x, E.has x -> x ≠ l := fun x hx e => hx.2 (e ▸ hr)
 exact ⟨fun x hx => ⟨hx.1, fun h => hx.2 h.2⟩, fun x hx => by simp [Env.into, hne x hx], fun x hx => by simp [Env.into, hne x hx], fun x hx hv => hv.resolve_left (hne x hx), rfl, rfl⟩
theorem RHp.into {E E' : Env} {hp : List Blk} {t : Nat} {cs : List SV} {vs0 : List Value} (h : RHp E hp) (hle : E.Le E') (h' : RHp E' (pb hp (.box t cs))) (hcs : Rvs E cs vs0) {l : Nat} (hl : l < E.n) (hr : E.rs l) (hdl : hp[l]? = some .dead) :
  RHp (E.into E' l) (sb hp l (.box t cs)) := by
 have hle0 := Env.into_le hle hl hr
 have hag := Env.into_agr hle hl hr
 have hn := h.b.n
 have hlast : (pb hp (.box t cs))[E.n]? = some (.box t cs) := by rw [xCz, hn]; simp
 have hold : ∀ x (b : Blk), hp[x]? = some b -> (pb hp (.box t cs))[x]? = some b := fun x b hb => by
  rw [xCz, List.getElem?_append_left (List.getElem?_eq_some_iff.1 hb).1]; exact hb
 have get : ∀ x b, (sb hp l (.box t cs))[x]? = some b -> (x = l /\ b = .box t cs) \/ (x ≠ l /\ hp[x]? = some b) := by
  intro x b e
  rw [xEf, List.getElem?_set] at e
  split at e
  ·rename_i h1; subst h1; split at e
   ·exact .inl ⟨rfl, by simpa using e.symm⟩
   ·cases e
  ·rename_i h1; exact .inr ⟨fun e => h1 e.symm, e⟩
 have back : ∀ x (b : Blk) g, (sb hp l (.box t cs))[x]? = some b -> b.at (E.into E' l) x = some g -> ∃ y, (pb hp (.box t cs))[y]? = some b /\ b.at E' y = some g /\ (x = l -> y = E.n) /\ (x ≠ l -> y = x) := by
  intro x b g e hg
  rcases get x b e with ⟨rfl, rfl⟩ | ⟨hx, hb⟩
  ·exact ⟨E.n, hlast, by simpa [Blk.at, Env.into] using hg, fun _ => rfl, fun h => absurd rfl h⟩
  ·refine ⟨x, hold x b hb, ?_, fun h => absurd h hx, fun _ => rfl⟩
   cases b <;> simpa [Blk.at, Env.into, hx] using hg
 refine ⟨⟨h'.g.fr, h'.g.fz, h'.g.sz, h'.g.os, h'.g.tape, h'.g.output, h'.g.imb, h'.g.im0⟩, ⟨?_, ?_, ?_, ?_, ?_, ?_, ?_⟩⟩
 ·rw [xEf]; simpa [Env.into] using hn
 ·intro x b e hrs
  rcases get x b e with ⟨rfl, rfl⟩ | ⟨hx, hb⟩
  ·exact absurd rfl hrs.1
  ·exact h.b.rs x b hb hrs.2
 ·intro x b e
  rcases get x b e with ⟨rfl, rfl⟩ | ⟨hx, hb⟩
  ·obtain ⟨vs, h1, h2⟩ := h'.b.blk E.n _ hlast
   exact ⟨vs, Rvs.via hag hcs h1, by simpa [Env.into] using h2⟩
  ·by_cases hd : b = .dead
   ·subst hd; trivial
   have h1 := h.b.blk x b hb
   have h2 := h'.b.blk x b (hold x b hb)
   have hx' := h.has hb hd
   have e1 := hag.blk x hx'
   have e2 := hag.val x hx'
   cases b with
   | dead => exact absurd rfl hd
   | ob o =>
    cases o with
    | mp es =>
     obtain ⟨xs0, a1, a2, _, _⟩ := h1
     obtain ⟨xs, b1, b2, b3, b4⟩ := h2
     exact ⟨xs, Rvs.via hag a1 b1, Rvs.via hag a2 b2, b3, by rw [e1]; exact b4⟩
    | lp st pd fr ps a b df =>
     obtain ⟨a0, fn0, vs0', ca0, cb0, a1, _, _, _⟩ := h1
     obtain ⟨b0, fn, vs, ca, cb, b1, b2, b3, b4⟩ := h2
     exact ⟨hag.has df a0, fn, vs, ca, cb, Rvs.via hag a1 b1, b2, b3, by rw [e1, hag.blk df a0]; exact b4⟩
    | df => show (E.into E' l).w.heap[(E.into E' l).blk x]? = _; rw [e1]; exact h2
    | dn => show (E.into E' l).w.heap[(E.into E' l).blk x]? = _; rw [e1]; exact h2
    | wl st pd fr ps ca cb df =>
     obtain ⟨a0, fn0, vs0', a1, _⟩ := h1
     obtain ⟨b0, fn, vs, b1, b4⟩ := h2
     exact ⟨hag.has df a0, fn, vs, Rvs.via hag a1 b1, by rw [e1, hag.blk df a0]; exact b4⟩
   | box t' cs' => obtain ⟨us, a1, _⟩ := h1; obtain ⟨vs, b1, b2⟩ := h2; exact ⟨vs, Rvs.via hag a1 b1, by rw [e1]; exact b2⟩
   | fbox t' cs' => obtain ⟨_, us, a1, _⟩ := h1; obtain ⟨b0, vs, b1, b2⟩ := h2; exact ⟨by rw [e1]; exact b0, vs, Rvs.via hag a1 b1, by rw [e1]; exact b2⟩
   | oi k t' xs => obtain ⟨b1, b2⟩ := h2; exact ⟨by rw [e2]; exact b1, by rw [e1, e2]; exact b2⟩
   | orw t' sz len f => obtain ⟨⟨vs, c1, c2, c3⟩, b2⟩ := h2; exact ⟨⟨vs, c1, c2, by rw [e2]; exact c3⟩, by rw [e1, e2]; exact b2⟩
   | fz y =>
    show Rv _ y _
    rw [e2]
    exact Rv.via hag (show Rv E y (E.val x) from h1) (show Rv E' y (E'.val x) from h2)
 ·intro x b e hd
  rcases get x b e with ⟨rfl, rfl⟩ | ⟨hx, hb⟩
  ·exact .inl rfl
  ·exact .inr (h'.b.live x b (hold x b hb) hd)
 ·intro x b g e hg hi; obtain ⟨y, h1, h2, _, _⟩ := back x b g e hg; exact h'.b.imx y b g h1 h2 hi
 ·intro x b g e hg; obtain ⟨y, h1, h2, _, _⟩ := back x b g e hg; exact h'.b.base y b g h1 h2
 ·intro x x' b b' g e e' hg hg'
  obtain ⟨y, h1, h2, h3, h4⟩ := back x b g e hg
  obtain ⟨y', h1', h2', h3', h4'⟩ := back x' b' g e' hg'
  have hy := h'.b.dj y y' b b' g h1 h1' h2 h2'
  have lt : ∀ z (c : Blk), (sb hp l (.box t cs))[z]? = some c -> z ≠ l -> z < E.n := fun z c hz hzl => by
   rcases get z c hz with ⟨e0, _⟩ | ⟨_, hb⟩
   ·exact absurd e0 hzl
   ·rw [hn]; exact (List.getElem?_eq_some_iff.1 hb).1
  by_cases hxl : x = l <;> by_cases hxl' : x' = l
  ·rw [hxl, hxl']
  ·have := lt x' b' e' hxl'; rw [h3 hxl, h4' hxl'] at hy; omega
  ·have := lt x b e hxl; rw [h4 hxl, h3' hxl'] at hy; omega
  ·rw [h4 hxl, h4' hxl'] at hy; exact hy
def Ext (g g' : Nat -> Blk) : Prop := ∀ l, g l ≠ .dead -> g' l = g l
theorem Ext.refl (g : Nat -> Blk) : Ext g g := fun _ _ => rfl
theorem Ext.trans {a b c : Nat -> Blk} (h : Ext a b) (k : Ext b c) : Ext a c := fun l hl => (k l (by rw [h l hl]; exact hl)).trans (h l hl)
section
variable {g g' : Nat -> Blk} (hx : Ext g g')
include hx
theorem xPt {sz : Nat} {i : Int} {x y : SV} (h : ixsB g sz i x = some y) : ixsB g' sz i x = some y := by
 unfold ixsB at h ⊢
 split at h <;> first | exact h | skip
 rename_i l
 have : g l ≠ .dead := by intro e; rw [e] at h; simp at h
 rw [hx l this]; exact h
theorem xNs {x : SV} {y : Nat} (h : lensB g x = some y) : lensB g' x = some y := by
 unfold lensB at h ⊢
 split at h <;> first | exact h | skip
 rename_i l
 have : g l ≠ .dead := by intro e; rw [e] at h; simp at h
 rw [hx l this]; exact h
theorem xPu {n : Option Nat} {x y : SV} (h : ldaB g n x = some y) : ldaB g' n x = some y := by
 unfold ldaB at h ⊢
 split at h <;> first | exact h | skip
 ·rename_i l off
  have : g l ≠ .dead := by intro e; rw [e] at h; simp at h
  simp only [hx l this]; exact h
 ·rename_i l sz i off
  have : g l ≠ .dead := by intro e; rw [e] at h; simp at h
  simp only [hx l this]; exact h
theorem xNt {x : SV} {y : Bool} (h : nilqB g x = some y) : nilqB g' x = some y := by
 unfold nilqB at h ⊢
 split at h <;> first | exact h | skip
 rename_i l
 have : g l ≠ .dead := by intro e; rw [e] at h; simp at h
 rw [hx l this]; exact h
theorem xPv {fr : List SV} {vo : VOp} {y : SV} (h : evpB fr g vo = some y) : evpB fr g' vo = some y := by
 cases vo <;> simp only [evpB] at h ⊢ <;> first | exact h | skip
 case ixa => split at h <;> first | exact xPt hx h | cases h
 case load => exact xPu hx h
 case len =>
  split at h
  ·rename_i n hn; rw [xNs hx hn]; exact h
  ·cases h
 case isnil =>
  split at h
  ·rename_i n hn; rw [xNt hx hn]; exact h
  ·cases h
theorem xPw {x y : SV} (h : slQB g x = some y) : slQB g' x = some y := by
 unfold slQB at h ⊢
 split at h <;> first | exact h | skip
 rename_i l
 have : g l ≠ .dead := by intro e; rw [e] at h; simp at h
 rw [hx l this]; exact h
theorem xHh {x y : SV} (h : slQV g x = some y) : slQV g' x = some y := by
 unfold slQV at h ⊢
 split at h
 ·rename_i l len
  have : g l ≠ .dead := by intro e; rw [e] at h; simp at h
  rw [hx l this]; exact h
 ·exact xPw hx h
theorem xPx {fr : List SV} {kk : KK} {z : SV} {ok : Bool} {m k : X} {y : SV} (h : lkuB fr g kk z ok m k = some y) : lkuB fr g' kk z ok m k = some y := by
 unfold lkuB at h ⊢
 split at h <;> first | exact h | skip
 rename_i l hl
 have : g l ≠ .dead := by intro e; rw [e] at h; simp at h
 rw [hx l this]; exact h
theorem xPy : ∀ (n : Nat) {x y : SV}, clDp n g x = some y -> clDp n g' x = some y := by
 intro n
 induction n with
 | zero =>
  intro x y h
  unfold clDp at h ⊢
  cases hc : clo 8 x with
  | true => rw [hc] at h; exact h
  | false => rw [hc] at h; exact xHh hx h
 | succ n ih =>
  have hs : ∀ {xs ys : List SV}, clDp.clDs n g xs = some ys -> clDp.clDs n g' xs = some ys := by
   intro xs
   induction xs with
   | nil => intro ys h; exact h
   | cons x xs ihs =>
    intro ys h
    unfold clDp.clDs at h ⊢
    split at h <;> first | (cases h; done) | skip
    rename_i y h1
    split at h <;> first | (cases h; done) | skip
    rename_i l h2
    rw [ih h1, ihs h2]; exact h
  intro x y h
  unfold clDp at h ⊢
  cases hc : clo 8 x with
  | true => rw [hc] at h; exact h
  | false =>
   rw [hc] at h
   simp only at h ⊢
   split at h
   ·split at h <;> first | (cases h; done) | skip
    rename_i cs h1
    rw [hs h1]; exact h
   ·exact xHh hx h
theorem xLa : ∀ {xs ys : List SV}, clAs g xs = some ys -> clAs g' xs = some ys
 | [], ys, h => h
 | x :: t, ys, h => by
  simp only [clAs] at h ⊢
  split at h <;> first | (cases h; done) | skip
  rename_i y h1
  split at h <;> first | (cases h; done) | skip
  rename_i l h2
  have h3 : clA g' x = some y := by
   unfold clA at h1 ⊢
   split at h1
   ·exact h1
   ·exact xPy hx 3 h1
  rw [h3, xLa h2]; exact h
theorem xSg {o : E1} {x y : SV} (h : e1W g o x = some y) : e1W g' o x = some y := by
 unfold e1W at h ⊢
 split at h
 ·split at h <;> first | (cases h; done) | skip
  rename_i l off
  split at h <;> first | (cases h; done) | skip
  rename_i t cs hg
  have := hx l (by rw [hg]; simp)
  simp only [this, hg]; exact h
 ·exact h
theorem xJx {cq : Cq} {fr : List SV} {o : Op2} {y : SV} (h : evV cq fr g o = some y) : evV cq fr g' o = some y := by
 unfold evV at h ⊢
 split at h <;> first | exact h | exact xPv hx h | exact xPx hx h | exact xSg hx h | skip
 ·split at h
  ·rename_i e1 e2 e3 e4
   rw [xHh hx e1, e2, e3, e4]; exact h
  ·cases h
 ·split at h
  ·rename_i e1
   rw [xLa hx e1]; exact h
  ·cases h
end
section
variable {fr fr' : List SV}
theorem xFy {g : Nat -> Blk} {vo : VOp} (h : ∀ t, t ∈ usesV vo -> gt fr t = gt fr' t) : evpB fr g vo = evpB fr' g vo := by
 cases vo <;> simp only [usesV, List.mem_append] at h
 case mov x => simp only [evpB, X.congr h]
 case neg x => simp only [evpB, X.congr h]
 case not x => simp only [evpB, X.congr h]
 case nckv x => simp only [evpB, X.congr h]
 case conv k x => simp only [evpB, X.congr h]
 case ifc t x => simp only [evpB, X.congr h]
 case off x k => simp only [evpB, X.congr h]
 case fld x o n => simp only [evpB, X.congr h]
 case load x n => simp only [evpB, X.congr h]
 case len x => simp only [evpB, X.congr h]
 case ext x i => simp only [evpB, X.congr h]
 case isnil ng x => simp only [evpB, X.congr h]
 case mkmm m x => simp only [evpB, X.congr h]
 case strl x => simp only [evpB, X.congr h]
 case stri x y => simp only [evpB, X.congr (x := x) (fun t ht => h t (.inl ht)), X.congr (x := y) (fun t ht => h t (.inr ht))]
 case strb op x y => simp only [evpB, X.congr (x := x) (fun t ht => h t (.inl ht)), X.congr (x := y) (fun t ht => h t (.inr ht))]
 case mkfn f xs => simp only [evpB, xAe h]
 case mkmv f a b => simp only [evpB, xAe (xs := a) (fun t ht => h t (.inl ht)), xAe (xs := b) (fun t ht => h t (.inr ht))]
 case pick a b c => simp only [evpB, X.congr (x := a) (fun t ht => h t (.inl ht)), X.congr (x := b) (fun t ht => h t (.inr (.inl ht))), X.congr (x := c) (fun t ht => h t (.inr (.inr ht)))]
 case slc => rfl
 case bin op x y => simp only [evpB, X.congr (x := x) (fun t ht => h t (.inl ht)), X.congr (x := y) (fun t ht => h t (.inr ht))]
 case binb op x y => simp only [evpB, X.congr (x := x) (fun t ht => h t (.inl ht)), X.congr (x := y) (fun t ht => h t (.inr ht))]
 case ixa x y sz => simp only [evpB, X.congr (x := x) (fun t ht => h t (.inl ht)), X.congr (x := y) (fun t ht => h t (.inr ht))]
 case ixarr x y a b => simp only [evpB, X.congr (x := x) (fun t ht => h t (.inl ht)), X.congr (x := y) (fun t ht => h t (.inr ht))]
 case ixv x y a b n => simp only [evpB, X.congr (x := x) (fun t ht => h t (.inl ht)), X.congr (x := y) (fun t ht => h t (.inr ht))]
 case mx3 mn x y z => simp only [evpB, X.congr (x := x) (fun t ht => h t (.inl ht)), X.congr (x := y) (fun t ht => h t (.inr (.inl ht))), X.congr (x := z) (fun t ht => h t (.inr (.inr ht)))]
 case max2 x y => simp only [evpB, X.congr (x := x) (fun t ht => h t (.inl ht)), X.congr (x := y) (fun t ht => h t (.inr ht))]
 case eqs ks ng x y => simp only [evpB, X.congr (x := x) (fun t ht => h t (.inl ht)), X.congr (x := y) (fun t ht => h t (.inr ht))]
 case min2 x y => simp only [evpB, X.congr (x := x) (fun t ht => h t (.inl ht)), X.congr (x := y) (fun t ht => h t (.inr ht))]
theorem xAq : ∀ o : Option X, (∀ t, t ∈ usesO o -> gt fr t = gt fr' t) -> bnd fr o = bnd fr' o := by
 intro o ho
 cases o with
 | none => rfl
 | some o => simp only [bnd, X.congr (x := o) ho]
theorem xFb {cq : Cq} {g : Nat -> Blk} {o : Op2} (h : ∀ t, t ∈ uses2 o -> gt fr t = gt fr' t) : evV cq fr g o = evV cq fr' g o := by
 cases o with
 | o o =>
  cases o <;> simp only [uses2, uses1, List.mem_append] at h
  case v vo => simp only [evV, xFy h]
  case bld z ps => simp only [evV, xAv h]
  case call f xs => simp only [evV, X.congr (x := f) (fun t ht => h t (.inl ht)), xAe (xs := xs) (fun t ht => h t (.inr ht))]
  case app e sz b x y => simp only [evV, X.congr (x := x) (fun t ht => h t (.inl ht)), X.congr (x := y) (fun t ht => h t (.inr ht))]
  case bsl e len z ps => simp only [evV, xAv h]
  case inv m f xs => simp only [evV, X.congr (x := f) (fun t ht => h t (.inl ht)), xAe (xs := xs) (fun t ht => h t (.inr ht))]
  case slc x lo hi mx sz =>
   simp only [evV, X.congr (x := x) (fun t ht => h t (.inl ht)), xAq lo (fun t ht => h t (.inr (.inl ht))), xAq hi (fun t ht => h t (.inr (.inr (.inl ht)))), xAq mx (fun t ht => h t (.inr (.inr (.inr ht))))]
  all_goals rfl
 | lku kk z ok m q =>
  simp only [uses2, List.mem_append] at h
  simp only [evV, lkuB, X.congr (x := m) (fun t ht => h t (.inl ht)), X.congr (x := q) (fun t ht => h t (.inr ht))]
 | mkmv f a b =>
  simp only [uses2, List.mem_append] at h
  simp only [evV, xAe (xs := a) (fun t ht => h t (.inl ht)), xAe (xs := b) (fun t ht => h t (.inr ht))]
 | nck x => simp only [uses2] at h; simp only [evV, X.congr (x := x) h]
 | e1 o x => simp only [uses2] at h; simp only [evV, X.congr (x := x) h]
 | slb x lo hi sz =>
  simp only [uses2, List.mem_append] at h
  simp only [evV, X.congr (x := x) (fun t ht => h t (.inl ht)), xAq lo (fun t ht => h t (.inr (.inl ht))), xAq hi (fun t ht => h t (.inr (.inr ht)))]
 | msl e sz z a b =>
  simp only [uses2, List.mem_append] at h
  simp only [evV, X.congr (x := a) (fun t ht => h t (.inl ht)), X.congr (x := b) (fun t ht => h t (.inr ht))]
 | _ => rfl
theorem xFc {α : Type} {h : HT} {o : Op1} {k : SV -> HT -> Option α} (hu : ∀ t, t ∈ uses1 o -> gt fr t = gt fr' t) : evO fr h o k = evO fr' h o k := by
 cases o <;> simp only [uses1, List.mem_append] at hu
 case v vo => simp only [evO, xFy hu]
 case box t x => simp only [evO, X.congr hu]
 case bsl e len z ps => simp only [evO, xAv hu]
 case bld z ps => simp only [evO, xAv hu]
 case store sz x y => simp only [evO, X.congr (x := x) (fun t ht => hu t (.inl ht)), X.congr (x := y) (fun t ht => hu t (.inr ht))]
 case app e sz b x y => simp only [evO, X.congr (x := x) (fun t ht => hu t (.inl ht)), X.congr (x := y) (fun t ht => hu t (.inr ht))]
 case slc x lo hi mx sz =>
  simp only [evO, X.congr (x := x) (fun t ht => hu t (.inl ht)), xAq lo (fun t ht => hu t (.inr (.inl ht))), xAq hi (fun t ht => hu t (.inr (.inr (.inl ht)))), xAq mx (fun t ht => hu t (.inr (.inr (.inr ht))))]
 all_goals rfl
theorem xIr {α : Type} {cl : Cl} {h : HT} {o : Op2} {k : SV -> HT -> Option α} (hu : ∀ t, t ∈ uses2 o -> gt fr t = gt fr' t) : evX cl fr h o k = evX cl fr' h o k := by
 cases o with
 | slb x lo hi sz =>
  simp only [uses2, List.mem_append] at hu
  simp only [evX, X.congr (x := x) (fun t ht => hu t (.inl ht)), xAq lo (fun t ht => hu t (.inr (.inl ht))), xAq hi (fun t ht => hu t (.inr (.inr ht)))]
 | cpy sz x y =>
  simp only [uses2, List.mem_append] at hu
  simp only [evX, X.congr (x := x) (fun t ht => hu t (.inl ht)), X.congr (x := y) (fun t ht => hu t (.inr ht))]
 | o o =>
  cases o <;> simp only [uses2] at hu
  case call f xs =>
   simp only [uses1, List.mem_append] at hu
   simp only [evX, X.congr (x := f) (fun t ht => hu t (.inl ht)), xAe (xs := xs) (fun t ht => hu t (.inr ht))]
  case inv m f xs =>
   simp only [uses1, List.mem_append] at hu
   simp only [evX, X.congr (x := f) (fun t ht => hu t (.inl ht)), xAe (xs := xs) (fun t ht => hu t (.inr ht))]
  case app e sz b x y =>
   have hu2 := hu
   simp only [uses1, List.mem_append] at hu
   simp only [evX, X.congr (x := x) (fun t ht => hu t (.inl ht)), X.congr (x := y) (fun t ht => hu t (.inr ht)), xFc (o := .app e sz b x y) hu2]
  case slc x lo hi mx sz =>
   have hu2 := hu
   simp only [uses1, List.mem_append] at hu
   simp only [evX, slcD, X.congr (x := x) (fun t ht => hu t (.inl ht)), xAq lo (fun t ht => hu t (.inr (.inl ht))), xAq hi (fun t ht => hu t (.inr (.inr (.inl ht)))), xAq mx (fun t ht => hu t (.inr (.inr (.inr ht)))), xFc (o := .slc x lo hi mx sz) hu2]
  all_goals (simp only [evX]; exact xFc hu)
 | lku kk z ok m q =>
  simp only [uses2, List.mem_append] at hu
  simp only [evX, lkuB, X.congr (x := m) (fun t ht => hu t (.inl ht)), X.congr (x := q) (fun t ht => hu t (.inr ht))]
 | msl e sz z a b =>
  simp only [uses2, List.mem_append] at hu
  simp only [evX, mslB, X.congr (x := a) (fun t ht => hu t (.inl ht)), X.congr (x := b) (fun t ht => hu t (.inr ht))]
 | upd kk m q v =>
  simp only [uses2, List.mem_append] at hu
  simp only [evX, updB, X.congr (x := m) (fun t ht => hu t (.inl ht)), X.congr (x := q) (fun t ht => hu t (.inr (.inl ht))), X.congr (x := v) (fun t ht => hu t (.inr (.inr ht)))]
 | mkmv f a b =>
  simp only [uses2, List.mem_append] at hu
  simp only [evX, xAe (xs := a) (fun t ht => hu t (.inl ht)), xAe (xs := b) (fun t ht => hu t (.inr ht))]
 | nck x => simp only [uses2] at hu; simp only [evX, X.congr (x := x) hu]
 | e1 o x => simp only [uses2] at hu; simp only [evX, X.congr (x := x) hu]
 | _ => rfl
end
end Go.Vg
