import Derived.Test.YtgdihdiadlmjiaaVgV1
set_option linter.all false
namespace Go.Vg
open Go
inductive OB where
 | mp (es : List (SV × SV))
 | lp (st : LoopState) (pd : Option (Option Nat)) (fr : List SV) (ps : List Nat) (a b : RC) (df : Nat)
 | df
 | dn
 | wl (st : LoopState) (pd : Option (Option Nat)) (fr : List SV) (ps : List Nat) (ca cb : Code) (df : Nat)
def pdC : Option (Option Nat) -> Option Code
 | none => none
 | some none => some .ret
 | some (some id) => some (.exit id)
def Rob (E : Env) (l : Nat) : OB -> Prop
 | .mp es => ∃ xs : List MapEntry, Rvs E (es.map (·.1)) (xs.map (·.key)) /\ Rvs E (es.map (·.2)) (xs.map (·.val)) /\ (∀ (i : Nat) e, xs[i]? = some e -> e.born = i) /\ E.w.heap[E.blk l]? = some (.map xs.toArray xs.length)
 | .lp st pd fr ps a b df => E.has df /\ ∃ fn vs ca cb, Rvs E fr vs /\ E.ok ca a /\ E.ok cb b /\
   E.w.heap[E.blk l]? = some (.loop { state := st, pending := pdC pd, fn, tmps := vs.toArray, params := ps.toArray, assign := ca, body := cb, defers := E.blk df })
 | .df => E.w.heap[E.blk l]? = some (.deferred (some []))
 | .dn => E.w.heap[E.blk l]? = some (.deferred none)
 | .wl st pd fr ps ca cb df => E.has df /\ ∃ fn vs, Rvs E fr vs /\
   E.w.heap[E.blk l]? = some (.loop { state := st, pending := pdC pd, fn, tmps := vs.toArray, params := ps.toArray, assign := ca, body := cb, defers := E.blk df })
inductive Blk where
 | dead
 | ob (o : OB)
 | box (t : Nat) (cs : List SV)
 | fbox (t : Nat) (cs : List SV)
 | oi (k : IntKind) (t : Nat) (xs : List Int)
 | orw (t sz len : Nat) (f : Nat -> List SV)
 | fz (x : SV)
def gb : List Blk -> Nat -> Blk
 | [], _ => .dead
 | x :: _, 0 => x
 | _ :: t, i + 1 => gb t i
def sb : List Blk -> Nat -> Blk -> List Blk
 | [], _, _ => []
 | _ :: t, 0, v => v :: t
 | x :: t, i + 1, v => x :: sb t i v
def pb : List Blk -> Blk -> List Blk
 | [], v => [v]
 | x :: t, v => x :: pb t v
def ln : List Blk -> Nat
 | [] => 0
 | _ :: t => ln t + 1
theorem xBn : ∀ l, ln l = l.length
 | [] => rfl
 | _ :: t => by simp [ln, xBn t]
theorem xCz : ∀ l v, pb l v = l ++ [v]
 | [], _ => rfl
 | _ :: t, v => by simp [pb, xCz t]
theorem xEf : ∀ l i v, sb l i v = l.set i v
 | [], _, _ => rfl
 | _ :: t, 0, v => rfl
 | _ :: t, i + 1, v => by simp [sb, xEf t]
theorem xAa : ∀ {l : List Blk} {i : Nat} {b : Blk}, gb l i = b -> b ≠ .dead -> l[i]? = some b
 | [], i, b, h, hb => by simp [gb] at h; exact absurd h.symm hb
 | _ :: _, 0, b, h, _ => by simpa [gb] using h
 | _ :: t, i + 1, b, h, hb => by simpa using xAa (l := t) (by simpa [gb] using h) hb
def Blk.at (E : Env) (l : Nat) : Blk -> Option Nat
 | .box .. | .ob _ => some (E.blk l)
 | .oi .. | .orw .. => (E.val l).ownBlock
 | _ => none
def Rblk (E : Env) (l : Nat) : Blk -> Prop
 | .dead => True
 | .ob o => Rob E l o
 | .box t cs => ∃ vs, Rvs E cs vs /\ E.w.heap[E.blk l]? = some (.cells vs.toArray t (0, 0))
 | .fbox t cs => E.im (E.blk l) /\ ∃ vs, Rvs E cs vs /\ E.w.heap[E.blk l]? = some (.cells vs.toArray t (0, 0))
 | .oi k t xs => E.w.ownsRow 0 t 1 (E.val l) xs.length (xs.map (Value.int k)) /\ ∀ g, (E.val l).ownBlock = some g -> g = E.blk l
 | .orw t sz len f => (∃ vs : Nat -> List Value, (∀ i, i < len -> Cvs E.w E.im (f i) (vs i)) /\ (∀ i, i < len -> (vs i).length = sz) /\
   E.w.ownsRow 0 t sz (E.val l) len ((List.range len).flatMap vs)) /\ ∀ g, (E.val l).ownBlock = some g -> g = E.blk l
 | .fz x => Rv E x (E.val l)
theorem ownsRow_same {w w' : World} {t sz n : Nat} {v : Value} {xs : List Value} (h : w.ownsRow 0 t sz v n xs) (hm : ∀ g, v.ownBlock = some g -> w'.heap[g]? = w.heap[g]?) :
  w'.ownsRow 0 t sz v n xs := by
 refine ⟨h.1, ?_⟩
 rcases h.2 with hn | ⟨g, cap, cur, rfl, hb, hg, rest⟩
 ·exact .inl hn
 ·exact .inr ⟨g, cap, cur, rfl, hb, (hm g rfl).trans hg, rest⟩
theorem Blk.at_le0 {E E' : Env} (h : E.Le0 E') {l : Nat} (b : Blk) (hl : b ≠ .dead -> E.has l) : b.at E' l = b.at E l := by
 by_cases hd : b = .dead
 ·subst hd; rfl
 ·have hl' := hl hd
  clear hl
  cases b <;> simp [Blk.at, h.blk l hl', h.val l hl']
theorem Blk.at_le {E E' : Env} (h : E.Le E') {l : Nat} (b : Blk) (hl : b ≠ .dead -> E.has l) : b.at E' l = b.at E l := Blk.at_le0 h.le0 b hl
theorem Rblk.keep0 {E E' : Env} (h : E.Le0 E') {l : Nat} {b : Blk} (hl : b ≠ .dead -> E.has l) (hb : Rblk E l b) (hm : ∀ g, b.at E l = some g -> E'.w.heap[g]? = E.w.heap[g]?) : Rblk E' l b := by
 by_cases hd : b = .dead
 ·subst hd; trivial
 have hl' := hl hd
 clear hl; have hl := hl'; clear hl'
 cases b with
 | dead => trivial
 | ob o =>
  have hw : E'.w.heap[E'.blk l]? = E.w.heap[E.blk l]? := by rw [h.blk l hl]; exact hm _ rfl
  cases o with
  | mp es => obtain ⟨xs, h1, h2, h3, h4⟩ := hb; exact ⟨xs, h1.mono0 h, h2.mono0 h, h3, hw.trans h4⟩
  | lp st pd fr ps a b df =>
   obtain ⟨h0, fn, vs, ca, cb, h1, h2, h3, h4⟩ := hb
   exact ⟨h.has df h0, fn, vs, ca, cb, h1.mono0 h, by rw [h.ok]; exact h2, by rw [h.ok]; exact h3, by rw [h.blk df h0]; exact hw.trans h4⟩
  | df => exact hw.trans hb
  | dn => exact hw.trans hb
  | wl st pd fr ps ca cb df =>
   obtain ⟨h0, fn, vs, h1, h4⟩ := hb
   exact ⟨h.has df h0, fn, vs, h1.mono0 h, by rw [h.blk df h0]; exact hw.trans h4⟩
 | box t cs =>
  obtain ⟨vs, h1, h2⟩ := hb
  exact ⟨vs, h1.mono0 h, by rw [h.blk l hl, hm _ rfl]; exact h2⟩
 | fbox t cs =>
  obtain ⟨h0, vs, h1, h2⟩ := hb
  exact ⟨by rw [h.blk l hl]; exact h.im _ h0, vs, h1.mono0 h, by rw [h.blk l hl, h.mem _ h0]; exact h2⟩
 | oi k t xs =>
  obtain ⟨h1, h2⟩ := hb
  refine ⟨?_, by rw [h.val l hl, h.blk l hl]; exact h2⟩
  rw [h.val l hl]
  exact ownsRow_same h1 hm
 | orw t sz len f =>
  obtain ⟨⟨vs, h1, h2, h3⟩, h4⟩ := hb
  refine ⟨⟨vs, fun i hi => (h1 i hi).mono h.stays, h2, ?_⟩, by rw [h.val l hl, h.blk l hl]; exact h4⟩
  rw [h.val l hl]
  exact ownsRow_same h3 hm
 | fz x =>
  show Rv E' x (E'.val l)
  rw [h.val l hl]
  exact Rv.mono0 h hb
theorem Rblk.keep {E E' : Env} (h : E.Le E') {l : Nat} {b : Blk} (hl : b ≠ .dead -> E.has l) (hb : Rblk E l b) (hm : ∀ g, b.at E l = some g -> E'.w.heap[g]? = E.w.heap[g]?) : Rblk E' l b := hb.keep0 h.le0 hl hm
theorem Rblk.lt {E : Env} {l : Nat} {b : Blk} (hb : Rblk E l b) {g : Nat} (hg : b.at E l = some g) : g < E.w.heap.size := by
 cases b with
 | box t cs => obtain ⟨vs, _, h2⟩ := hb; simp [Blk.at] at hg; subst hg; exact (Array.getElem?_eq_some_iff.1 h2).1
 | ob o =>
  simp [Blk.at] at hg; subst hg
  cases o with
  | mp es => obtain ⟨xs, _, _, _, h4⟩ := hb; exact (Array.getElem?_eq_some_iff.1 h4).1
  | lp st pd fr ps a b df => obtain ⟨h0, fn, vs, ca, cb, h1, h2, h3, h4⟩ := hb; exact (Array.getElem?_eq_some_iff.1 h4).1
  | df => exact (Array.getElem?_eq_some_iff.1 (show E.w.heap[E.blk l]? = _ from hb)).1
  | dn => exact (Array.getElem?_eq_some_iff.1 (show E.w.heap[E.blk l]? = _ from hb)).1
  | wl st pd fr ps ca cb df => obtain ⟨_, _, _, _, h4⟩ := hb; exact (Array.getElem?_eq_some_iff.1 h4).1
 | oi k t xs => exact (hb.1.lt g hg).2
 | orw t sz len f => obtain ⟨⟨vs, _, _, h3⟩, _⟩ := hb; exact (h3.lt g hg).2
 | _ => simp [Blk.at] at hg
structure Glob (E : Env) : Prop where
 fr : ∀ b, b < E.W.heap.size -> ¬ E.M b -> E.w.heap[b]? = E.W.heap[b]?
 fz : ∀ a, E.w.frozen? a = E.W.frozen? a
 sz : E.W.heap.size <= E.w.heap.size
 os : E.w.os = E.W.os
 tape : E.w.tape = E.W.tape
 output : E.w.output = E.W.output
 imb : ∀ b, E.im b -> b < E.w.heap.size
 im0 : ∀ b, E.im b -> E.im0 b \/ E.W.heap.size <= b \/ E.M b
structure Blks (E : Env) (hp : List Blk) : Prop where
 n : E.n = hp.length
 rs : ∀ (l : Nat) b, hp[l]? = some b -> E.rs l -> b = .dead
 blk : ∀ l b, hp[l]? = some b -> Rblk E l b
 live : ∀ l b, hp[l]? = some b -> b ≠ .dead -> E.live l
 imx : ∀ l (b : Blk) g, hp[l]? = some b -> b.at E l = some g -> ¬ E.im g
 base : ∀ l (b : Blk) g, hp[l]? = some b -> b.at E l = some g -> E.W.heap.size <= g \/ E.M g
 dj : ∀ l l' (b b' : Blk) g, hp[l]? = some b -> hp[l']? = some b' -> b.at E l = some g -> b'.at E l' = some g -> l = l'
structure RHp (E : Env) (hp : List Blk) : Prop where
 g : Glob E
 b : Blks E hp
theorem RHp.lt {E : Env} {hp : List Blk} (h : RHp E hp) {l : Nat} {b : Blk} (hb : hp[l]? = some b) : l < E.n := by
 rw [h.b.n]; exact (List.getElem?_eq_some_iff.1 hb).1
theorem RHp.has {E : Env} {hp : List Blk} (h : RHp E hp) {l : Nat} {b : Blk} (hb : hp[l]? = some b) (hd : b ≠ .dead) : E.has l := ⟨h.lt hb, fun hr => hd (h.b.rs l b hb hr)⟩
theorem RHp.imlt {E : Env} {hp : List Blk} (h : RHp E hp) {g : Nat} (hg : E.im g) : g < E.w.heap.size := h.g.imb g hg
def Env.to (E : Env) (w : World) : Env := { E with w := w }
def Env.push (E : Env) (w : World) (g : Nat) (v : Value) : Env :=
 { E with w := w, n := E.n + 1, rs := fun l => l < E.n /\ E.rs l, blk := fun l => if l = E.n then g else E.blk l, val := fun l => if l = E.n then v else E.val l, live := fun l => l = E.n \/ E.live l }
theorem Env.to_le {E : Env} {w : World} (hm : ∀ b, E.im b -> w.heap[b]? = E.w.heap[b]?) : E.Le (E.to w) :=
 ⟨Nat.le_refl _, fun _ h => h, fun _ _ => rfl, fun _ _ => rfl, fun _ _ h => h, fun _ h => h, hm, rfl, rfl, rfl, rfl, rfl, rfl, fun _ _ h => h⟩
theorem Env.push_le {E : Env} {w : World} {g : Nat} {v : Value} (hm : ∀ b, E.im b -> w.heap[b]? = E.w.heap[b]?) : E.Le (E.push w g v) :=
 ⟨Nat.le_succ _, fun l hl => ⟨Nat.lt_succ_of_lt hl.1, fun h => hl.2 h.2⟩, fun l hl => by simp [Env.push, Nat.ne_of_lt hl.1], fun l hl => by simp [Env.push, Nat.ne_of_lt hl.1], fun l hl h => h.resolve_left (Nat.ne_of_lt hl.1), fun _ h => h, hm, rfl, rfl, rfl, rfl, rfl, rfl, fun l hl h => ⟨hl, h⟩⟩
theorem Env.push_has {E : Env} {w : World} {g : Nat} {v : Value} : (E.push w g v).has E.n := ⟨Nat.lt_succ_self _, fun h => Nat.lt_irrefl _ h.1⟩
theorem Glob.grow {E : Env} (h : Glob E) {w : World} {row : Option Nat} (hg : E.w.grownBy w row) (hrow : ∀ g, row = some g -> E.W.heap.size <= g \/ E.M g) (hz : ∀ a, w.frozen? a = E.w.frozen? a) :
    Glob (E.to w) :=
  ⟨fun b hb hm => (hg.block b (Nat.lt_of_lt_of_le hb h.sz) (fun e => (hrow b e.symm).elim (fun h => absurd hb (Nat.not_lt.2 h)) hm)).trans (h.fr b hb hm),
   fun a => (hz a).trans (h.fz a), Nat.le_trans h.sz hg.size, hg.os.trans h.os, hg.tape.trans h.tape, hg.output.trans h.output,
   fun b hb => Nat.lt_of_lt_of_le (h.imb b hb) hg.size, h.im0⟩
theorem Glob.push {E : Env} {w : World} {g : Nat} {v : Value} (h : Glob (E.to w)) : Glob (E.push w g v) :=
 ⟨h.fr, h.fz, h.sz, h.os, h.tape, h.output, h.imb, h.im0⟩
theorem RHp.set {E : Env} {hp : List Blk} (h : RHp E hp) {w : World} {l0 g0 : Nat} {b0 newb : Blk} (hl : hp[l0]? = some b0) (hat : b0.at E l0 = some g0)
  (hg : E.w.grownBy w (some g0)) (hz : ∀ a, w.frozen? a = E.w.frozen? a) (hnew : Rblk (E.to w) l0 newb) (hnat : newb.at (E.to w) l0 = some g0) :
  RHp (E.to w) (sb hp l0 newb) /\ E.Le (E.to w) := by
 have hle : E.Le (E.to w) := Env.to_le fun b hb => hg.block b (h.imlt hb) (fun e => h.b.imx l0 b0 g0 hl hat (by cases e; exact hb))
 have hatE : ∀ l (b : Blk), b.at (E.to w) l = b.at E l := fun l b => by cases b <;> rfl
 have hl0 := h.lt hl
 have get : ∀ l b, (sb hp l0 newb)[l]? = some b -> (l = l0 /\ b = newb) \/ (l ≠ l0 /\ hp[l]? = some b) := by
  intro l b e
  rw [xEf, List.getElem?_set] at e
  split at e
  ·rename_i h1; subst h1; split at e
   ·exact .inl ⟨rfl, by simpa using e.symm⟩
   ·cases e
  ·rename_i h1; exact .inr ⟨fun e => h1 e.symm, e⟩
 have at_old : ∀ l (b : Blk) g, (sb hp l0 newb)[l]? = some b -> b.at (E.to w) l = some g -> ∃ b', hp[l]? = some b' /\ b'.at E l = some g := by
  intro l b g e hh
  rcases get l b e with ⟨rfl, rfl⟩ | ⟨_, h2⟩
  ·rw [hnat] at hh; cases hh; exact ⟨b0, hl, hat⟩
  ·exact ⟨b, h2, (hatE l b).symm.trans hh⟩
 refine ⟨⟨h.g.grow hg (fun g e => by cases e; exact h.b.base l0 b0 g0 hl hat) hz, ⟨?_, ?_, ?_, ?_, ?_, ?_, ?_⟩⟩, hle⟩
 ·rw [xEf]; simpa using (show (E.to w).n = hp.length from h.b.n)
 ·intro l b e hrs
  rcases get l b e with ⟨rfl, rfl⟩ | ⟨h1, h2⟩
  ·have := h.b.rs _ b0 hl hrs
   subst this; simp [Blk.at] at hat
  ·exact h.b.rs l b h2 hrs
 ·intro l b e
  rcases get l b e with ⟨rfl, rfl⟩ | ⟨h1, h2⟩
  ·exact hnew
  ·refine (h.b.blk l b h2).keep hle (h.has h2) (fun g hh => hg.block g ((h.b.blk l b h2).lt hh) (fun e => ?_))
   rw [Option.some.injEq] at e
   exact h1 (h.b.dj l l0 b b0 g0 h2 hl (e ▸ hh) hat)
 ·intro l b e hd
  rcases get l b e with ⟨rfl, rfl⟩ | ⟨h1, h2⟩
  ·exact h.b.live _ b0 hl (by intro e; subst e; simp [Blk.at] at hat)
  ·exact h.b.live l b h2 hd
 ·intro l b g e hh
  obtain ⟨b', h1, h2⟩ := at_old l b g e hh
  exact h.b.imx l b' g h1 h2
 ·intro l b g e hh
  obtain ⟨b', h1, h2⟩ := at_old l b g e hh
  exact h.b.base l b' g h1 h2
 ·intro l l' b b' g e e' hh hh'
  obtain ⟨c, h1, h2⟩ := at_old l b g e hh
  obtain ⟨c', h3, h4⟩ := at_old l' b' g e' hh'
  exact h.b.dj l l' c c' g h1 h3 h2 h4
theorem RHp.push {E : Env} {hp : List Blk} (h : RHp E hp) {w : World} {g0 : Nat} {v : Value} {newb : Blk}
  (hg : E.w.grownBy w none) (hz : ∀ a, w.frozen? a = E.w.frozen? a) (hnew : Rblk (E.push w g0 v) E.n newb) (hnat : ∀ g, newb.at (E.push w g0 v) E.n = some g -> E.w.heap.size <= g) :
  RHp (E.push w g0 v) (pb hp newb) /\ E.Le (E.push w g0 v) := by
 have hle : E.Le (E.push w g0 v) := Env.push_le fun b hb => hg.block b (h.imlt hb) (by simp)
 have hn := h.b.n
 have get : ∀ l b, (pb hp newb)[l]? = some b -> (l = E.n /\ b = newb) \/ (l < E.n /\ hp[l]? = some b) := by
  intro l b e
  rw [xCz, List.getElem?_append] at e
  split at e
  ·exact .inr ⟨by omega, e⟩
  ·rename_i h1
   rw [List.getElem?_singleton] at e
   split at e
   ·exact .inl ⟨by omega, by simpa using e.symm⟩
   ·cases e
 have lt : ∀ {l} {b : Blk} {g}, hp[l]? = some b -> b.at E l = some g -> g < E.w.heap.size := fun h1 h2 => (h.b.blk _ _ h1).lt h2
 refine ⟨⟨(h.g.grow hg (fun g e => by cases e) hz).push, ⟨?_, ?_, ?_, ?_, ?_, ?_, ?_⟩⟩, hle⟩
 ·rw [xCz]; simp [Env.push, hn]
 ·intro l b e hrs
  rcases get l b e with ⟨rfl, rfl⟩ | ⟨h1, h2⟩
  ·exact absurd hrs.1 (Nat.lt_irrefl _)
  ·exact h.b.rs l b h2 hrs.2
 ·intro l b e
  rcases get l b e with ⟨rfl, rfl⟩ | ⟨h1, h2⟩
  ·exact hnew
  ·exact (h.b.blk l b h2).keep hle (h.has h2) (fun g hh => hg.block g (lt h2 hh) (by simp))
 ·intro l b e hd
  rcases get l b e with ⟨rfl, rfl⟩ | ⟨h1, h2⟩
  ·exact .inl rfl
  ·exact .inr (h.b.live l b h2 hd)
 ·intro l b g e hh hi
  rcases get l b e with ⟨rfl, rfl⟩ | ⟨h1, h2⟩
  ·have := hnat g hh; have := h.imlt hi; omega
  ·rw [Blk.at_le hle b (h.has h2)] at hh; exact h.b.imx l b g h2 hh hi
 ·intro l b g e hh
  rcases get l b e with ⟨rfl, rfl⟩ | ⟨h1, h2⟩
  ·exact .inl (Nat.le_trans h.g.sz (hnat g hh))
  ·rw [Blk.at_le hle b (h.has h2)] at hh; exact h.b.base l b g h2 hh
 ·intro l l' b b' g e e' hh hh'
  rcases get l b e with ⟨rfl, rfl⟩ | ⟨h1, h2⟩ <;> rcases get l' b' e' with ⟨rfl, rfl⟩ | ⟨h3, h4⟩
  ·rfl
  ·rw [Blk.at_le hle b' (h.has h4)] at hh'; have := hnat g hh; have := lt h4 hh'; omega
  ·rw [Blk.at_le hle b (h.has h2)] at hh; have := hnat g hh'; have := lt h2 hh; omega
  ·rw [Blk.at_le hle b (h.has h2)] at hh; rw [Blk.at_le hle b' (h.has h4)] at hh'; exact h.b.dj l l' b b' g h2 h4 hh hh'
theorem RHp.move {E : Env} {hp : List Blk} (h : RHp E hp) {w : World} {l0 g0 : Nat} {v : Value} {b0 newb : Blk} (hl : hp[l0]? = some b0)
  (hg : E.w.grownBy w (b0.at E l0)) (hz : ∀ a, w.frozen? a = E.w.frozen? a)
  (E' : Env) (hE' : E' = { E.push w g0 v with live := fun l => l = E.n \/ (l ≠ l0 /\ E.live l) })
  (hnew : Rblk E' E.n newb) (hnat : ∀ g, newb.at E' E.n = some g -> E.w.heap.size <= g \/ b0.at E l0 = some g) :
  RHp E' (pb (sb hp l0 .dead) newb) /\ E.Le E' := by
 have hmem : ∀ b, E.im b -> w.heap[b]? = E.w.heap[b]? := fun b hb => hg.block b (h.imlt hb) (fun e => h.b.imx l0 b0 b hl e.symm hb)
 have hle : E.Le E' := by
  subst hE'
  exact ⟨Nat.le_succ _, fun l hl => ⟨Nat.lt_succ_of_lt hl.1, fun h => hl.2 h.2⟩, fun l hl => by simp [Env.push, Nat.ne_of_lt hl.1], fun l hl => by simp [Env.push, Nat.ne_of_lt hl.1], fun l hl h => (h.resolve_left (Nat.ne_of_lt hl.1)).2, fun _ h => h, hmem, rfl, rfl, rfl, rfl, rfl, rfl, fun l hl h => ⟨hl, h⟩⟩
 have hn := h.b.n
 have hl0 := h.lt hl
 have get : ∀ l b, (pb (sb hp l0 .dead) newb)[l]? = some b -> (l = E.n /\ b = newb) \/ (l < E.n /\ ((l = l0 /\ b = .dead) \/ (l ≠ l0 /\ hp[l]? = some b))) := by
  intro l b e
  rw [xCz, xEf, List.getElem?_append] at e
  simp only [List.length_set] at e
  split at e
  ·rename_i h0
   refine .inr ⟨by omega, ?_⟩
   rw [List.getElem?_set] at e
   split at e
   ·rename_i h1; subst h1; split at e
    ·exact .inl ⟨rfl, by simpa using e.symm⟩
    ·omega
   ·rename_i h1; exact .inr ⟨fun e => h1 e.symm, e⟩
  ·rename_i h1
   rw [List.getElem?_singleton] at e
   split at e
   ·exact .inl ⟨by omega, by simpa using e.symm⟩
   ·cases e
 have lt : ∀ {l} {b : Blk} {g}, hp[l]? = some b -> b.at E l = some g -> g < E.w.heap.size := fun h1 h2 => (h.b.blk _ _ h1).lt h2
 have old : ∀ l (b : Blk) g, (pb (sb hp l0 .dead) newb)[l]? = some b -> b.at E' l = some g -> l < E.n -> l ≠ l0 /\ hp[l]? = some b /\ b.at E l = some g := by
  intro l b g e hh h1
  rcases get l b e with ⟨rfl, rfl⟩ | ⟨_, ⟨rfl, rfl⟩ | ⟨h2, h3⟩⟩
  ·omega
  ·simp [Blk.at] at hh
  ·exact ⟨h2, h3, (Blk.at_le hle b (h.has h3)) ▸ hh⟩
 have new : ∀ l (b : Blk) g, (pb (sb hp l0 .dead) newb)[l]? = some b -> b.at E' l = some g -> ¬ l < E.n -> l = E.n /\ (E.w.heap.size <= g \/ b0.at E l0 = some g) := by
  intro l b g e hh h1
  rcases get l b e with ⟨rfl, rfl⟩ | ⟨h2, _⟩
  ·exact ⟨rfl, hnat g hh⟩
  ·omega
 refine ⟨⟨?_, ⟨?_, ?_, ?_, ?_, ?_, ?_, ?_⟩⟩, hle⟩
 ·have := (h.g.grow hg (fun g e => h.b.base l0 b0 g hl e) hz)
  subst hE'
  exact ⟨this.fr, this.fz, this.sz, this.os, this.tape, this.output, this.imb, this.im0⟩
 ·subst hE'; rw [xCz, xEf]; simp [Env.push, hn]
 ·intro l b e hrs
  subst hE'
  rcases get l b e with ⟨rfl, rfl⟩ | ⟨h1, ⟨rfl, rfl⟩ | ⟨h2, h3⟩⟩
  ·exact absurd hrs.1 (Nat.lt_irrefl _)
  ·rfl
  ·exact h.b.rs l b h3 hrs.2
 ·intro l b e
  rcases get l b e with ⟨rfl, rfl⟩ | ⟨h1, ⟨rfl, rfl⟩ | ⟨h2, h3⟩⟩
  ·exact hnew
  ·trivial
  ·refine (h.b.blk l b h3).keep hle (h.has h3) (fun g hh => ?_)
   have : E'.w = w := by subst hE'; rfl
   rw [this]
   exact hg.block g (lt h3 hh) (fun e => h2 (h.b.dj l l0 b b0 g h3 hl hh e.symm))
 ·intro l b e hd
  subst hE'
  rcases get l b e with ⟨rfl, rfl⟩ | ⟨h1, ⟨rfl, rfl⟩ | ⟨h2, h3⟩⟩
  ·exact .inl rfl
  ·exact absurd rfl hd
  ·exact .inr ⟨h2, h.b.live l b h3 hd⟩
 ·intro l b g e hh hi
  have hi' : E.im g := by subst hE'; exact hi
  by_cases h1 : l < E.n
  ·obtain ⟨_, h3, h4⟩ := old l b g e hh h1; exact h.b.imx l b g h3 h4 hi'
  ·obtain ⟨_, h2 | h2⟩ := new l b g e hh h1
   ·have := h.imlt hi'; omega
   ·exact h.b.imx l0 b0 g hl h2 hi'
 ·intro l b g e hh
  have hW : E'.W = E.W := by subst hE'; rfl
  have hM : E'.M = E.M := by subst hE'; rfl
  rw [hW, hM]
  by_cases h1 : l < E.n
  ·obtain ⟨_, h3, h4⟩ := old l b g e hh h1; exact h.b.base l b g h3 h4
  ·obtain ⟨_, h2 | h2⟩ := new l b g e hh h1
   ·exact .inl (Nat.le_trans h.g.sz h2)
   ·exact h.b.base l0 b0 g hl h2
 ·intro l l' b b' g e e' hh hh'
  by_cases h1 : l < E.n <;> by_cases h2 : l' < E.n
  ·obtain ⟨_, h3, h4⟩ := old l b g e hh h1
   obtain ⟨_, h5, h6⟩ := old l' b' g e' hh' h2
   exact h.b.dj l l' b b' g h3 h5 h4 h6
  ·obtain ⟨h0, h3, h4⟩ := old l b g e hh h1
   obtain ⟨_, h5 | h5⟩ := new l' b' g e' hh' h2
   ·have := lt h3 h4; omega
   ·exact absurd (h.b.dj l l0 b b0 g h3 hl h4 h5) h0
  ·obtain ⟨h0, h3, h4⟩ := old l' b' g e' hh' h2
   obtain ⟨_, h5 | h5⟩ := new l b g e hh h1
   ·have := lt h3 h4; omega
   ·exact absurd (h.b.dj l' l0 b' b0 g h3 hl h4 h5) h0
  ·exact (new l b g e hh h1).1.trans (new l' b' g e' hh' h2).1.symm
theorem RHp.close {E : Env} {hp : List Blk} (h : RHp E hp) {l0 : Nat} {b0 newb : Blk} (hl : hp[l0]? = some b0) (hd : b0 ≠ .dead)
  (E' : Env) (hE' : E' = { E with im := fun b => E.im b \/ b0.at E l0 = some b })
  (hnew : Rblk E' l0 newb) (hnat : newb.at E' l0 = none) :
  RHp E' (sb hp l0 newb) /\ E.Le E' := by
 have hle : E.Le E' := by
  subst hE'
  exact ⟨Nat.le_refl _, fun l hl => hl, fun l hl => rfl, fun l hl => rfl, fun l hl h => h, fun _ h => .inl h, fun _ _ => rfl, rfl, rfl, rfl, rfl, rfl, rfl, fun _ _ h => h⟩
 have hl0 := h.lt hl
 have get : ∀ l b, (sb hp l0 newb)[l]? = some b -> (l = l0 /\ b = newb) \/ (l ≠ l0 /\ hp[l]? = some b) := by
  intro l b e
  rw [xEf, List.getElem?_set] at e
  split at e
  ·rename_i h1; subst h1; split at e
   ·exact .inl ⟨rfl, by simpa using e.symm⟩
   ·cases e
  ·rename_i h1; exact .inr ⟨fun e => h1 e.symm, e⟩
 have at_old : ∀ l (b : Blk) g, (sb hp l0 newb)[l]? = some b -> b.at E' l = some g -> l ≠ l0 /\ hp[l]? = some b /\ b.at E l = some g := by
  intro l b g e hh
  rcases get l b e with ⟨rfl, rfl⟩ | ⟨h1, h2⟩
  ·rw [hnat] at hh; cases hh
  ·exact ⟨h1, h2, (Blk.at_le hle b (h.has h2)) ▸ hh⟩
 refine ⟨⟨?_, ⟨?_, ?_, ?_, ?_, ?_, ?_, ?_⟩⟩, hle⟩
 ·subst hE'
  refine ⟨h.g.fr, h.g.fz, h.g.sz, h.g.os, h.g.tape, h.g.output, fun b hb => ?_, fun b hb => ?_⟩
  ·rcases hb with hb | hb
   ·exact h.g.imb b hb
   ·exact (h.b.blk l0 b0 hl).lt hb
  ·rcases hb with hb | hb
   ·exact h.g.im0 b hb
   ·exact .inr (h.b.base l0 b0 b hl hb)
 ·rw [xEf]; subst hE'; simpa using h.b.n
 ·intro l b e hrs
  subst hE'
  rcases get l b e with ⟨rfl, rfl⟩ | ⟨h1, h2⟩
  ·exact absurd (h.b.rs _ b0 hl hrs) hd
  ·exact h.b.rs l b h2 hrs
 ·intro l b e
  rcases get l b e with ⟨rfl, rfl⟩ | ⟨h1, h2⟩
  ·exact hnew
  ·refine (h.b.blk l b h2).keep hle (h.has h2) (fun g hh => by subst hE'; rfl)
 ·intro l b e hd'
  subst hE'
  rcases get l b e with ⟨rfl, rfl⟩ | ⟨h1, h2⟩
  ·exact h.b.live _ b0 hl hd
  ·exact h.b.live l b h2 hd'
 ·intro l b g e hh hi
  obtain ⟨h1, h2, h3⟩ := at_old l b g e hh
  subst hE'
  rcases hi with hi | hi
  ·exact h.b.imx l b g h2 h3 hi
  ·exact h1 (h.b.dj l l0 b b0 g h2 hl h3 hi)
 ·intro l b g e hh
  obtain ⟨h1, h2, h3⟩ := at_old l b g e hh
  subst hE'
  exact h.b.base l b g h2 h3
 ·intro l l' b b' g e e' hh hh'
  obtain ⟨_, h1, h2⟩ := at_old l b g e hh
  obtain ⟨_, h3, h4⟩ := at_old l' b' g e' hh'
  exact h.b.dj l l' b b' g h1 h3 h2 h4
end Go.Vg
