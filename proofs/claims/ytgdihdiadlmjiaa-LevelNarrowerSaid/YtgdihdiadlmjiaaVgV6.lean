import Derived.Test.YtgdihdiadlmjiaaVgV5
set_option linter.all false
namespace Go.Vg
open Go
def toInts : List SV -> Option (IntKind × List Int)
 | [] => none
 | [.int k n] => some (k, [n])
 | .int k n :: t => match toInts t with
  | some (k', xs) => match k, k' with
   | .i64, .i64 => some (.i64, n :: xs)
   | .u8, .u8 => some (.u8, n :: xs)
   | .i32, .i32 => some (.i32, n :: xs)
   | _, _ => none
  | none => none
 | _ :: _ => none
theorem xFd (l : List SV) : ll l = l.length := xDf l
def clL (f : List Blk -> SV -> Option (SV × List Blk)) : List Blk -> List SV -> Option (List SV × List Blk)
 | hp, [] => some ([], hp)
 | hp, x :: t => match f hp x with
  | some (x, hp) => match clL f hp t with
   | some (t, hp) => some (x :: t, hp)
   | none => none
  | none => none
def clS (hp : List Blk) (x : SV) : Option (SV × List Blk) :=
 match clo 0 x with
 | true => some (x, hp)
 | false => none
def clV : Nat -> List Blk -> SV -> Option (SV × List Blk)
 | 0, hp, x => clS hp x
 | n + 1, hp, x => match x with
  | .own l => match gb hp l with
   | .oi k t xs => some (.ints k xs, sb hp l (.fz (.ints k xs)))
   | .orw t sz len f => some (.rd sz len f, sb hp l (.fz (.rd sz len f)))
   | .fz y => clS hp y
   | _ => none
  | .agg cs => match clL (clV n) hp cs with
   | some (cs, hp) => some (.agg cs, hp)
   | none => none
  | .tup cs => match clL (clV n) hp cs with
   | some (cs, hp) => some (.tup cs, hp)
   | none => none
  | .fn f cs => match clL (clV n) hp cs with
   | some (cs, hp) => some (.fn f cs, hp)
   | none => none
  | .ifc t x => match clV n hp x with
   | some (x, hp) => some (.ifc t x, hp)
   | none => none
  | .mm m x => match clV n hp x with
   | some (x, hp) => some (.mm m x, hp)
   | none => none
  | .mv f fs cs => match clo.clos 8 fs && clo.clos 8 cs with
   | true => some (.mv f fs cs, hp)
   | false => none
  | .ptr l off => match gb hp l with
   | .box t cs => match clL (clV n) hp cs with
    | some (cs', hp') => match gb hp' l with
     | .box t' cs'' => some (.rp cs' off, sb hp' l (.fbox t' cs'))
     | _ => none
    | none => none
   | .fbox t cs => match clo.clos 8 cs with
    | true => some (.rp cs off, hp)
    | false => none
   | _ => none
  | .bsl l len => match gb hp l with
   | .box t cs => match clL (clV n) hp cs with
    | some (cs', hp') => match gb hp' l with
     | .box t' cs'' => match toInts cs' with
      | some (k, xs) => match ll cs' == len with
       | true => some (.ints k xs, sb hp' l (.fbox t' cs'))
       | false => match len * (ll cs' / len) == ll cs' with
        | true => some (.rd (ll cs' / len) len (rowOf (ll cs' / len) cs'), sb hp' l (.fbox t' cs'))
        | false => none
      | none => match len * (ll cs' / len) == ll cs' with
       | true => some (.rd (ll cs' / len) len (rowOf (ll cs' / len) cs'), sb hp' l (.fbox t' cs'))
       | false => none
     | _ => none
    | none => none
   | .fbox t cs => match clo.clos 8 cs with
    | true => match toInts cs with
     | some (k, xs) => match ll cs == len with
      | true => some (.ints k xs, hp)
      | false => none
     | none => match len * (ll cs / len) == ll cs with
      | true => some (.rd (ll cs / len) len (rowOf (ll cs / len) cs), hp)
      | false => none
    | false => none
   | _ => none
  | .clip k xs => some (.ints k xs, hp)
  | .clipr sz len f => some (.rd sz len f, hp)
  | .lb .mp l => match gb hp l with
   | .ob (.mp es) => match clo.clos 8 (es.map (·.1)) && clo.clos 8 (es.map (·.2)) with
    | true => some (.cm (es.map (·.1)) (es.map (·.2)), sb hp l .dead)
    | false => match clo.clos 8 (es.map (·.1)) with
     | true => match clL (clV n) hp (es.map (·.2)) with
      | some (vs, hp') => match gb hp' l with
       | .ob (.mp _) => some (.cm (es.map (·.1)) vs, sb hp' l .dead)
       | _ => none
      | none => none
     | false => none
   | _ => none
  | x => clS hp x
theorem xCn {w : World} {im : Nat -> Prop} : ∀ {cs : List SV} {vs : List Value} {k : IntKind} {xs : List Int}, Cvs w im cs vs -> toInts cs = some (k, xs) -> vs = xs.map (Value.int k)
 | [], [], k, xs, .nil, e => by simp [toInts] at e
 | [x], [v], k, xs, .cons _ _ _ _ hx .nil, e => by
  unfold toInts at e
  split at e <;> first | (cases e; done) | skip
  ·rename_i h; cases h; cases e; cases hx; rfl
  ·rename_i h; cases h; simp [toInts] at e
 | x :: y :: t, v :: u :: vs, k, xs, .cons _ _ _ _ hx hs, e => by
  unfold toInts at e
  split at e <;> first | (cases e; done) | skip
  ·rename_i h; cases h
  ·rename_i k1 n t' _ h
   cases h
   split at e
   ·rename_i k' xs' h1
    have ih := xCn hs h1
    cases hx
    split at e <;> first | (cases e; simp [ih]; done) | cases e
   ·cases e
theorem Cvs.length {w : World} {im : Nat -> Prop} : ∀ {cs : List SV} {vs : List Value}, Cvs w im cs vs -> cs.length = vs.length
 | [], [], .nil => rfl
 | _ :: _, _ :: _, .cons _ _ _ _ _ h => by simp [h.length]
theorem Cvs.dr {w : World} {im : Nat -> Prop} : ∀ (n : Nat) {xs : List SV} {vs : List Value}, Cvs w im xs vs -> Cvs w im (dr n xs) (vs.drop n)
 | 0, _, _, h => by simpa [Vg.dr] using h
 | _ + 1, [], [], .nil => .nil
 | n + 1, _ :: _, _ :: _, .cons _ _ _ _ _ h => by simpa [Vg.dr] using h.dr n
theorem Cvs.tk {w : World} {im : Nat -> Prop} : ∀ (n : Nat) {xs : List SV} {vs : List Value}, Cvs w im xs vs -> n <= vs.length -> ∃ ys, tk n xs = some ys /\ Cvs w im ys (vs.take n)
 | 0, _, _, h, _ => ⟨[], rfl, by simpa using .nil⟩
 | _ + 1, [], [], .nil, hn => by simp at hn
 | n + 1, x :: xs, v :: vs, .cons _ _ _ _ h0 h, hn => by
  obtain ⟨ys, h1, h2⟩ := h.tk n (by simpa using hn)
  exact ⟨x :: ys, by simp [Vg.tk, h1], by simpa using .cons _ _ _ _ h0 h2⟩
theorem xHi {w : World} {im : Nat -> Prop} {b t sz len : Nat} {cs : List SV} {vs : List Value} (h : Cvs w im cs vs) (hb : im b) (hg : w.heap[b]? = some (.cells vs.toArray t (0, 0))) (hl : len * sz = cs.length) :
  Cv w im (.rd sz len (rowOf sz cs)) (.slice (some ⟨b, 0, none⟩) len len) := by
 have hlen : vs.length = len * sz := by rw [<- h.length, hl]
 have hle : ∀ i, i < len -> i * sz + sz <= vs.length := fun i hi => by
  rw [hlen]; have := Nat.mul_le_mul_right sz hi; rw [Nat.succ_mul] at this; exact this
 refine .rd sz len _ b 0 len (fun i => (vs.drop (i * sz)).take sz) hb (fun i hi => ?_) (fun i hi => ?_) (fun i j v hi hv => ?_) (Nat.le_refl _)
 ·have := hle i hi
  obtain ⟨ys, h1, h2⟩ := (h.dr (i * sz)).tk sz (by rw [List.length_drop]; omega)
  simp only [rowOf, h1]; exact h2
 ·have := hle i hi
  rw [List.length_take, List.length_drop]; omega
 ·rw [List.getElem?_take] at hv
  split at hv
  ·rw [Nat.zero_add]; exact xAf hg _ v (by simpa using hv)
  ·cases hv
theorem xNu {E : Env} {hp hp' : List Blk} {x x' : SV} {v : Value} (h : RHp E hp) (hx : Rv E x v) (e : clS hp x = some (x', hp')) :
  ∃ E', Closed E E' /\ RHp E' hp' /\ Cv E'.w E'.im x' v := by
 unfold clS at e
 split at e
 ·rename_i hc; cases e; exact ⟨E, .refl E, h, xBy 0 hc hx⟩
 ·cases e
theorem xIs {f : List Blk -> SV -> Option (SV × List Blk)}
  (hf : ∀ {E : Env} {hp hp' : List Blk} {x x' : SV} {v : Value}, RHp E hp -> Rv E x v -> f hp x = some (x', hp') -> ∃ E', Closed E E' /\ RHp E' hp' /\ Cv E'.w E'.im x' v) :
  ∀ {cs cs' : List SV} {vs : List Value} {E : Env} {hp hp' : List Blk}, RHp E hp -> Rvs E cs vs -> clL f hp cs = some (cs', hp') -> ∃ E', Closed E E' /\ RHp E' hp' /\ Cvs E'.w E'.im cs' vs
 | [], cs', [], E, hp, hp', h, .nil, e => by simp [clL] at e; obtain ⟨rfl, rfl⟩ := e; exact ⟨E, .refl E, h, .nil⟩
 | x :: t, cs', v :: vs, E, hp, hp', h, .cons _ _ _ _ hx hs, e => by
  simp only [clL] at e
  split at e
  ·rename_i x1 hp1 h1
   obtain ⟨E1, c1, r1, v1⟩ := hf h hx h1
   split at e
   ·rename_i t2 hp2 h2
    cases e
    obtain ⟨E2, c2, r2, v2⟩ := xIs hf r1 (hs.mono c1.le) h2
    exact ⟨E2, c1.trans c2, r2, .cons _ _ _ _ (v1.mono c2.stays) v2⟩
   ·cases e
  ·cases e
theorem xDd : ∀ (n : Nat) {E : Env} {hp hp' : List Blk} {x x' : SV} {v : Value}, RHp E hp -> Rv E x v -> clV n hp x = some (x', hp') -> ∃ E', Closed E E' /\ RHp E' hp' /\ Cv E'.w E'.im x' v
 | 0, E, hp, hp', x, x', v, h, hx, e => xNu h hx e
 | n + 1, E, hp, hp', x, x', v, h, hx, e => by
  have hL := @xIs (clV n) (fun h hx e => xDd n h hx e)
  simp only [clV] at e
  split at e
  ·rename_i l
   obtain ⟨hl, _, hv⟩ := hx.ownE
   have get : ∀ {b : Blk}, gb hp l = b -> b ≠ .dead -> hp[l]? = some b /\ Rblk E l b /\ v = E.val l := fun h1 h2 => ⟨xAa h1 h2, h.b.blk l _ (xAa h1 h2), hv (h.b.live l _ (xAa h1 h2) h2)⟩
   split at e
   ·rename_i k t xs hg
    cases e
    obtain ⟨h1, ⟨h2, h3⟩, rfl⟩ := get hg (by simp)
    have key : ∀ E', Closed E E' -> (∀ g, (E.val l).ownBlock = some g -> E'.im g) -> Cv E'.w E'.im (.ints k xs) (E.val l) := fun E' hc hi => own_ints (E := E') (by rw [hc.w]; exact h2) hi
    obtain ⟨E', hc, hi, hr⟩ := xAo h (newb := .fz (.ints k xs)) h1 (by simp) (fun E' hc hi => by show Rv E' _ (E'.val l); rw [hc.val]; exact (key E' hc hi).rv) (fun E' => rfl)
    exact ⟨E', hc, hr, key E' hc hi⟩
   ·rename_i t sz len f hg
    cases e
    obtain ⟨h1, ⟨⟨vs, h4, h5, h2⟩, h3⟩, rfl⟩ := get hg (by simp)
    have key : ∀ E', Closed E E' -> (∀ g, (E.val l).ownBlock = some g -> E'.im g) -> Cv E'.w E'.im (.rd sz len f) (E.val l) := fun E' hc hi =>
     own_rd (E := E') (by rw [hc.w]; exact h2) hi (fun i hi => (h4 i hi).mono hc.stays) h5
    obtain ⟨E', hc, hi, hr⟩ := xAo h (newb := .fz (.rd sz len f)) h1 (by simp) (fun E' hc hi => by show Rv E' _ (E'.val l); rw [hc.val]; exact (key E' hc hi).rv) (fun E' => rfl)
    exact ⟨E', hc, hr, key E' hc hi⟩
   ·rename_i y hg
    obtain ⟨h1, h2, rfl⟩ := get hg (by simp)
    exact xNu h h2 e
   ·cases e
  ·split at e
   ·rename_i cs' hp1 h1
    cases e
    obtain ⟨vs, h2, rfl⟩ := hx.aggE
    obtain ⟨E', hc, hr, hv⟩ := hL h h2 h1
    exact ⟨E', hc, hr, .agg _ _ hv⟩
   ·cases e
  ·split at e
   ·rename_i cs' hp1 h1
    cases e
    obtain ⟨vs, h2, rfl⟩ := hx.tupE
    obtain ⟨E', hc, hr, hv⟩ := hL h h2 h1
    exact ⟨E', hc, hr, .tup _ _ hv⟩
   ·cases e
  ·split at e
   ·rename_i cs' hp1 h1
    cases e
    obtain ⟨vs, h2, rfl⟩ := hx.fnE
    obtain ⟨E', hc, hr, hv⟩ := hL h h2 h1
    exact ⟨E', hc, hr, .fn _ _ _ hv⟩
   ·cases e
  ·split at e
   ·rename_i x1 hp1 h1
    cases e
    obtain ⟨u, h2, rfl⟩ := hx.ifcE
    obtain ⟨E', hc, hr, hv⟩ := xDd n h h2 h1
    exact ⟨E', hc, hr, .ifc _ _ _ hv⟩
   ·cases e
  ·split at e
   ·rename_i x1 hp1 h1
    cases e
    obtain ⟨u, h2, rfl⟩ := hx.mmE
    obtain ⟨E', hc, hr, hv⟩ := xDd n h h2 h1
    exact ⟨E', hc, hr, .mm _ _ _ hv⟩
   ·cases e
  ·split at e
   ·rename_i h1
    cases e
    simp only [Bool.and_eq_true] at h1
    cases hx with
    | mv _ _ _ us vs k1 k2 => exact ⟨E, .refl E, h, .mv _ _ _ _ _ (xAj 8 h1.1 k1) (xAj 8 h1.2 k2)⟩
   ·cases e
  ·rename_i l off
   obtain ⟨hl, rfl⟩ := hx.ptrE
   split at e
   ·rename_i t cs hg
    have h1 := xAa hg (by simp)
    obtain ⟨vs, h2, h3⟩ := h.b.blk l _ h1
    split at e
    ·rename_i cs' hp1 hcl
     obtain ⟨E1, c1, r1, v1⟩ := hL h h2 hcl
     split at e
     ·rename_i t' cs'' hg'
      cases e
      have h4 := xAa hg' (by simp)
      have hh : E1.w.heap[E1.blk l]? = some (.cells vs.toArray t' (0, 0)) := by
       obtain ⟨us, _, h6⟩ := r1.b.blk l _ h4
       have h7 : E1.w.heap[E1.blk l]? = some (.cells vs.toArray t (0, 0)) := by rw [c1.w, c1.blk]; exact h3
       rw [h7] at h6 ⊢
       cases h6
       rfl
      obtain ⟨E2, c2, hi, hr⟩ := xAo r1 (newb := .fbox _ cs') h4 (by simp)
       (fun E' hc hi => ⟨by rw [hc.blk]; exact hi _ rfl, vs, (v1.mono hc.stays).rv, by rw [hc.w, hc.blk]; exact hh⟩) (fun E' => rfl)
      refine ⟨E2, c1.trans c2, hr, ?_⟩
      have hb : E2.im (E.blk l) := by have := hi _ rfl; rwa [c1.blk] at this
      have hw : E2.w.heap[E.blk l]? = some (.cells vs.toArray t' (0, 0)) := by rw [c2.w, <- c1.blk]; exact hh
      have := Cv.rp cs' vs off (E.blk l) 0 (v1.mono c2.stays) hb (fun j v hv => by rw [Nat.zero_add]; exact xAf hw j v hv)
      rwa [Nat.zero_add] at this
     ·cases e
    ·cases e
   ·rename_i t cs hg
    have h1 := xAa hg (by simp)
    obtain ⟨h0, vs, h2, h3⟩ := h.b.blk l _ h1
    split at e
    ·rename_i hcl
     cases e
     refine ⟨E, .refl E, h, ?_⟩
     have := Cv.rp cs vs off (E.blk l) 0 (xAj 8 hcl h2) h0 (fun j v hv => by rw [Nat.zero_add]; exact xAf h3 j v hv)
     rwa [Nat.zero_add] at this
    ·cases e
   ·cases e
  ·rename_i l len
   obtain ⟨hl, rfl⟩ := hx.bslE
   split at e
   ·rename_i t cs hg
    have h1 := xAa hg (by simp)
    obtain ⟨vs, h2, h3⟩ := h.b.blk l _ h1
    split at e
    ·rename_i cs' hp1 hcl
     obtain ⟨E1, c1, r1, v1⟩ := hL h h2 hcl
     split at e
     ·rename_i t' cs'' hg'
      have h4 := xAa hg' (by simp)
      have hh : E1.w.heap[E1.blk l]? = some (.cells vs.toArray t' (0, 0)) := by
       obtain ⟨us, _, h6⟩ := r1.b.blk l _ h4
       have h7 : E1.w.heap[E1.blk l]? = some (.cells vs.toArray t (0, 0)) := by rw [c1.w, c1.blk]; exact h3
       rw [h7] at h6 ⊢
       cases h6
       rfl
      obtain ⟨E2, c2, hi, hr⟩ := xAo r1 (newb := .fbox _ cs') h4 (by simp)
       (fun E' hc hi => ⟨by rw [hc.blk]; exact hi _ rfl, vs, (v1.mono hc.stays).rv, by rw [hc.w, hc.blk]; exact hh⟩) (fun E' => rfl)
      have hb : E2.im (E.blk l) := by have := hi _ rfl; rwa [c1.blk] at this
      have hw : E2.w.heap[E.blk l]? = some (.cells vs.toArray t' (0, 0)) := by rw [c2.w, <- c1.blk]; exact hh
      have v2 := v1.mono c2.stays
      split at e
      ·rename_i k xs hxs
       split at e
       ·rename_i hlen
        cases e
        refine ⟨E2, c1.trans c2, hr, ?_⟩
        have e1 := xCn v2 hxs
        subst e1
        have : xs.length = len := by
         have := v2.length
         rw [xFd] at hlen
         simp at hlen this; omega
        subst this
        exact .ints k xs (E.blk l) 0 _ hb (fun j x hx => by rw [Nat.zero_add]; exact xAf hw j _ (by simp [hx])) (Nat.le_refl _)
       ·split at e
        ·rename_i hlen
         cases e
         refine ⟨E2, c1.trans c2, hr, xHi v2 hb hw ?_⟩
         have hlen : len * (ll cs' / len) = ll cs' := by simpa using hlen
         rw [hlen, xFd]
        ·cases e
      ·split at e
       ·rename_i hlen
        cases e
        refine ⟨E2, c1.trans c2, hr, xHi v2 hb hw ?_⟩
        have hlen : len * (ll cs' / len) = ll cs' := by simpa using hlen
        rw [hlen, xFd]
       ·cases e
     ·cases e
    ·cases e
   ·rename_i t cs hg
    have h1 := xAa hg (by simp)
    obtain ⟨h0, vs, h2, h3⟩ := h.b.blk l _ h1
    split at e
    ·rename_i hcl
     have v2 := xAj 8 hcl h2
     split at e
     ·rename_i k xs hxs
      split at e
      ·rename_i hlen
       cases e
       refine ⟨E, .refl E, h, ?_⟩
       have e1 := xCn v2 hxs
       subst e1
       have : xs.length = len := by
        have := v2.length
        rw [xFd] at hlen
        simp at hlen this; omega
       subst this
       exact .ints k xs (E.blk l) 0 _ h0 (fun j x hx => by rw [Nat.zero_add]; exact xAf h3 j _ (by simp [hx])) (Nat.le_refl _)
      ·cases e
     ·split at e
      ·rename_i hlen
       cases e
       refine ⟨E, .refl E, h, xHi v2 h0 h3 ?_⟩
       have hlen : len * (ll cs / len) = ll cs := by simpa using hlen
       rw [hlen, xFd]
      ·cases e
    ·cases e
   ·cases e
  ·cases e; exact ⟨E, .refl E, h, hx.clipE.unclip⟩
  ·cases e; exact ⟨E, .refl E, h, hx.cliprE.unclipr⟩
  ·rename_i l
   obtain ⟨hl, rfl⟩ : E.has l /\ v = LK.mp.val (E.blk l) := by cases hx; exact ⟨‹_›, rfl⟩
   split at e
   ·rename_i es hg
    split at e
    ·rename_i hcl
     cases e
     rw [Bool.and_eq_true] at hcl
     have h1 := xAa hg (by simp)
     obtain ⟨xs, h2, h3, h4, h5⟩ := h.b.blk l _ h1
     obtain ⟨E2, c2, hi, hr⟩ := xAo h (newb := .dead) h1 (by simp) (fun E' hc hi => trivial) (fun E' => rfl)
     refine ⟨E2, c2, hr, ?_⟩
     exact .cm _ _ _ _ xs (E.blk l) ((xAj 8 hcl.1 h2).mono c2.stays) ((xAj 8 hcl.2 h3).mono c2.stays) rfl rfl h4 (hi _ rfl) (by rw [c2.w]; exact h5)
    ·split at e <;> first | (cases e; done) | skip
     rename_i hck
     split at e <;> first | (cases e; done) | skip
     rename_i vs' hp1 hcl
     split at e <;> first | (cases e; done) | skip
     rename_i es1 hg1
     cases e
     have h1 := xAa hg (by simp)
     obtain ⟨xs, h2, h3, h4, h5⟩ := h.b.blk l _ h1
     obtain ⟨E1, c1, r1, v1⟩ := hL h h3 hcl
     have h6 := xAa hg1 (by simp)
     obtain ⟨xs1, _, _, _, h7⟩ := r1.b.blk l _ h6
     obtain ⟨E2, c2, hi, hr⟩ := xAo r1 (newb := .dead) h6 (by simp) (fun E' hc hi => trivial) (fun E' => rfl)
     refine ⟨E2, c1.trans c2, hr, ?_⟩
     exact .cm _ _ _ _ xs (E.blk l) (((xAj 8 hck h2).mono c1.stays).mono c2.stays) (v1.mono c2.stays) rfl rfl h4 (by have := hi _ rfl; rwa [c1.blk] at this) (by rw [c2.w, c1.w]; exact h5)
   ·cases e
  ·exact xNu h hx e
abbrev PC := List SV -> (SV -> Prop) -> Prop
structure Later (w w' : World) : Prop where
 heap : ∀ b, b < w.heap.size -> w'.heap[b]? = w.heap[b]?
 fz : ∀ a, w'.frozen? a = w.frozen? a
 sz : w.heap.size <= w'.heap.size
 os : w'.os = w.os
 tape : w'.tape = w.tape
 output : w'.output = w.output
def PureOk (P : Program) (f : FuncId) (C : PC) : Prop :=
 ∀ (w : World) (im : Nat -> Prop) (args : List SV) (vs : List Value) (K : SV -> Prop), (∀ b, im b -> b < w.heap.size) -> Cvs w im args vs -> C args K ->
  Calls P f vs.toArray w fun e w' => ∃ r v im', e = .returned v /\ K r /\ Cv w' im' r v /\ (∀ b, im b -> im' b) /\ (∀ b, im' b -> im b \/ w.heap.size <= b) /\ (∀ b, im' b -> b < w'.heap.size) /\ Later w w'
def pc (C : PC) : Con := fun args hp K => match clL (clV 8) hp args with
 | some (args, hp) => C args fun r => K r hp
 | none => False
theorem pc_ok {P : Program} {f : FuncId} {C : PC} (h : PureOk P f C) : ConOk P f (pc C) := by
 intro E hp args vs K hr ha hc
 unfold pc at hc
 split at hc
 ·rename_i args' hp' hcl
  obtain ⟨E1, c1, r1, v1⟩ := xIs (fun h hx e => xDd 8 h hx e) hr ha hcl
  rw [<- c1.w]
  refine (h E1.w E1.im args' vs _ (fun b hb => r1.imlt hb) v1 hc).mono ?_
  rintro e w' ⟨r, v, im', rfl, hk, hv, i1, i2, i3, hl⟩
  have hle : E1.Le { E1 with w := w', im := im' } :=
   ⟨Nat.le_refl _, fun _ h => h, fun _ _ => rfl, fun _ _ => rfl, fun _ _ h => h, i1, fun b hb => hl.heap b (r1.imlt hb), rfl, rfl, rfl, rfl, rfl, rfl, fun _ _ h => h⟩
  refine ⟨r, v, { E1 with w := w', im := im' }, hp', rfl, rfl, c1.le.trans hle, ⟨⟨fun b hb hm => ?_, fun a => (hl.fz a).trans (r1.g.fz a), Nat.le_trans r1.g.sz hl.sz, hl.os.trans r1.g.os, hl.tape.trans r1.g.tape, hl.output.trans r1.g.output, i3, fun b hb => ?_⟩,
   ⟨r1.b.n, r1.b.rs, fun l b hb => ?_, r1.b.live, fun l b g hb hg hi => ?_, r1.b.base, r1.b.dj⟩⟩, hv.rv, hk⟩
  ·exact (hl.heap b (Nat.lt_of_lt_of_le hb r1.g.sz)).trans (r1.g.fr b hb hm)
  ·rcases i2 b hb with h1 | h1
   ·exact r1.g.im0 b h1
   ·exact .inr (.inl (Nat.le_trans r1.g.sz h1))
  ·exact (r1.b.blk l b hb).keep hle (r1.has hb) fun g hg => hl.heap g ((r1.b.blk l b hb).lt hg)
  ·rcases i2 g hi with h1 | h1
   ·exact r1.b.imx l b g hb hg h1
   ·have := (r1.b.blk l b hb).lt hg; omega
 ·exact hc.elim
def fcC (F : FC) : PC := fun args K => match F args with
 | some (p, r) => p /\ K r
 | none => False
theorem xNv {P : Program} {f : FuncId} {F : FC} (h : PureOk P f (fcC F)) : FcOk P f F := by
 intro E hp args vs K hr ha hc
 obtain ⟨hcl, hc⟩ := hc
 have v1 := xAj 8 hcl ha
 have hc' : fcC F args (fun r => K r hp) := hc
 refine (h E.w E.im args vs _ (fun b hb => hr.imlt hb) v1 hc').mono ?_
 rintro e w' ⟨r, v, im', rfl, hk, hv, i1, i2, i3, hl⟩
 have hle : E.Le { E with w := w', im := im' } :=
  ⟨Nat.le_refl _, fun _ h => h, fun _ _ => rfl, fun _ _ => rfl, fun _ _ h => h, i1, fun b hb => hl.heap b (hr.imlt hb), rfl, rfl, rfl, rfl, rfl, rfl, fun _ _ h => h⟩
 refine ⟨r, v, { E with w := w', im := im' }, hp, rfl, rfl, hle, ⟨⟨fun b hb hm => ?_, fun a => (hl.fz a).trans (hr.g.fz a), Nat.le_trans hr.g.sz hl.sz, hl.os.trans hr.g.os, hl.tape.trans hr.g.tape, hl.output.trans hr.g.output, i3, fun b hb => ?_⟩,
  ⟨hr.b.n, hr.b.rs, fun l b hb => ?_, hr.b.live, fun l b g hb hg hi => ?_, hr.b.base, hr.b.dj⟩⟩, hv.rv, hk⟩
 ·exact (hl.heap b (Nat.lt_of_lt_of_le hb hr.g.sz)).trans (hr.g.fr b hb hm)
 ·rcases i2 b hb with h1 | h1
  ·exact hr.g.im0 b h1
  ·exact .inr (.inl (Nat.le_trans hr.g.sz h1))
 ·exact (hr.b.blk l b hb).keep hle (hr.has hb) fun g hg => hl.heap g ((hr.b.blk l b hb).lt hg)
 ·rcases i2 g hi with h1 | h1
  ·exact hr.b.imx l b g hb hg h1
  ·have := (hr.b.blk l b hb).lt hg; omega
inductive Sg where
 | fc (F : FC)
 | pc (C : PC)
 | con (C : Con)
def SgOk (P : Program) (f : FuncId) : Sg -> Prop
 | .fc F => PureOk P f (fcC F)
 | .pc C => PureOk P f C
 | .con C => ConOk P f C
def lk : List (Nat × Sg) -> Nat -> Option Sg
 | [], _ => none
 | (k, s) :: t, n => match k == n with
  | true => some s
  | false => lk t n
def gamF (T : List (Nat × Sg)) (f : Nat) : Option Con :=
 match lk T f with
 | some (.fc F) => some (pc (fcC F))
 | some (.pc C) => some (pc C)
 | some (.con C) => some C
 | none => none
def gam (P : Program) (T : List (Nat × Sg)) : Gm := ⟨P, gamF T⟩
def gamq (T : List (Nat × Sg)) (f : Nat) : Option FC :=
 match lk T f with
 | some (.fc F) => some F
 | _ => none
def TabOk (P : Program) : List (Nat × Sg) -> Prop
 | [] => True
 | (f, S) :: t => (SgOk P f S /\ Known P f) /\ TabOk P t
theorem xHj {P : Program} : ∀ {T : List (Nat × Sg)} {f : Nat} {S : Sg}, TabOk P T -> lk T f = some S -> SgOk P f S /\ Known P f
 | (k, s) :: t, f, S, h, e => by
  simp only [lk] at e
  split at e
  ·rename_i hk
   have hk : k = f := by simpa using hk
   cases e; subst hk; exact h.1
  ·exact xHj h.2 e
theorem gam_ok {P : Program} {T : List (Nat × Sg)} (h : TabOk P T) : GmOk P (gam P T) := by
 refine ⟨rfl, ?_⟩
 intro f C e
 simp only [gam] at e
 unfold gamF at e
 split at e
 ·rename_i F hF; cases e; exact pc_ok (xHj h hF).1
 ·rename_i F hF; cases e; exact pc_ok (xHj h hF).1
 ·rename_i F hF; cases e; exact (xHj h hF).1
 ·cases e
theorem xNw {P : Program} {T : List (Nat × Sg)} (h : TabOk P T) : ∀ f C, gam P T f = some C -> Known P f := by
 intro f C e
 simp only [gam] at e
 unfold gamF at e
 split at e
 ·rename_i F hF; exact (xHj h hF).2
 ·rename_i F hF; exact (xHj h hF).2
 ·rename_i F hF; exact (xHj h hF).2
 ·cases e
theorem xSh {P : Program} {T : List (Nat × Sg)} (h : TabOk P T) : ∀ f F, gamq T f = some F -> FcOk P f F := by
 intro f C e
 unfold gamq at e
 split at e
 ·rename_i F hF; cases e; exact xNv (xHj h hF).1
 ·cases e
theorem xMf {P : Program} {T : List (Nat × Sg)} (h : TabOk P T) : ∀ f F, gamq T f = some F -> Known P f := by
 intro f C e
 unfold gamq at e
 split at e
 ·rename_i F hF; exact (xHj h hF).2
 ·cases e
inductive RV where
 | t (n : Nat)
 | c (n : Nat) (sz : Option Nat)
def cR (P : Program) : List ResultVar -> Option (List RV)
 | [] => some []
 | .tmp t :: l => match cR P l with
  | some l => some (.t t :: l)
  | none => none
 | .cell a ty :: l => match aggSize P ty, cR P l with
  | some s, some l => some (.c a s :: l)
  | _, _ => none
def rdR (s : St) : List RV -> Option (List SV)
 | [] => some []
 | .t n :: l => match rdR s l with
  | some r => some (gt s.fr n :: r)
  | none => none
 | .c n sz :: l => match gt s.fr n with
  | .ptr lb off => match gb s.hp lb with
   | .box _ cs | .fbox _ cs => match ld cs off sz, rdR s l with
    | some x, some r => some (x :: r)
    | _, _ => none
   | _ => none
  | _ => none
def tupled : List SV -> SV
 | [x] => x
 | l => .tup l
def rep : Nat -> List SV
 | 0 => []
 | n + 1 => .lit undef :: rep n
def mkfr : List SV -> Nat -> List SV
 | [], n => rep n
 | x :: t, n => x :: mkfr t (n - 1)
def leR : Nat -> SV -> SV -> Prop
 | n, x, .bool b => match x with
  | .bool b' => b' = b
  | .lit (.bool b') => b' = b
  | _ => False
 | n, x, .int k m => match x with
  | .int k' m' => k' = k /\ m' = m
  | _ => False
 | n, x, .ints k xs => match x with
  | .ints k' xs' => k' = k /\ xs' = xs
  | .clip k' xs' => k' = k /\ xs' = xs
  | .lit (.slice none 0 0) => xs = []
  | _ => False
 | n, x, .rd sz len f => match x with
  | .rd sz' len' f' => sz' = sz /\ len' = len /\ ∀ i, i < len -> f' i = f i
  | .lit (.slice none 0 0) => len = 0
  | _ => False
 | n + 1, x, .agg ys => match x with
  | .agg xs => leRs n xs ys
  | _ => False
 | n + 1, x, .tup ys => match x with
  | .tup xs => leRs n xs ys
  | _ => False
 | n + 1, x, .fn f ys => match x with
  | .fn f' xs => f' = f /\ leRs n xs ys
  | _ => False
 | n + 1, x, .ifc t y => match x with
  | .ifc t' x => t' = t /\ leR n x y
  | _ => False
 | n + 1, x, .rp ys off => match x with
  | .rp xs off' => off' = off /\ leRs n xs ys
  | _ => False
 | _, x, y => x = y
where leRs (n : Nat) : List SV -> List SV -> Prop
 | [], [] => True
 | x :: a, y :: b => leR n x y /\ leRs n a b
 | _, _ => False
theorem leR_ok {w : World} {im : Nat -> Prop} : ∀ (n : Nat) {x y : SV} {v : Value}, leR n x y -> Cv w im x v -> Cv w im y v := by
  intro n
  induction n with
  | zero =>
    intro x y v h hx
    cases y with
    | bool b => cases x <;> simp only [leR] at h <;> first | exact h.elim | (subst h; exact hx) | skip
                rename_i u
                cases u <;> first | exact h.elim | skip
                subst h; cases hx; exact .bool _
    | int k m => cases x <;> simp only [leR] at h <;> first | exact h.elim | (obtain ⟨rfl, rfl⟩ := h; exact hx)
    | ints k xs =>
      cases x <;> simp only [leR] at h <;> first | exact h.elim | (obtain ⟨rfl, rfl⟩ := h; exact hx) | (obtain ⟨rfl, rfl⟩ := h; exact hx.unclip) | skip
      split at h <;> first | contradiction | exact h.elim | skip
      rename_i heq; cases heq; subst h; cases hx; exact .intsNil _
    | rd sz len f =>
      cases x <;> simp only [leR] at h <;> first | exact h.elim | skip
      . split at h <;> first | contradiction | exact h.elim | skip
        rename_i heq; cases heq; subst h; cases hx; exact .rdNil _ _
      . obtain ⟨rfl, rfl, hf⟩ := h
        cases hx with
        | rdNil => exact .rdNil _ _
        | rdE => exact .rdE _ _ _ _
        | rd _ _ _ b off cap vs hb h1 h2 h3 h4 => exact .rd _ _ _ b off cap vs hb (fun i hi => by rw [<- hf i hi]; exact h1 i hi) h2 h3 h4
    | _ => (simp only [leR] at h; subst h; exact hx)
  | succ n ih =>
    have hs : ∀ {xs ys : List SV} {vs : List Value}, leR.leRs n xs ys -> Cvs w im xs vs -> Cvs w im ys vs := by
      intro xs
      induction xs with
      | nil => intro ys vs h hx; cases ys <;> simp only [leR.leRs] at h; exact hx
      | cons x xs ihs =>
        intro ys vs h hx
        cases ys <;> simp only [leR.leRs] at h
        cases hx with
        | cons _ v _ vs hx hr => exact .cons _ _ _ _ (ih h.1 hx) (ihs h.2 hr)
    intro x y v h hx
    cases y with
    | bool b => cases x <;> simp only [leR] at h <;> first | exact h.elim | (subst h; exact hx) | skip
                rename_i u
                cases u <;> first | exact h.elim | skip
                subst h; cases hx; exact .bool _
    | int k m => cases x <;> simp only [leR] at h <;> first | exact h.elim | (obtain ⟨rfl, rfl⟩ := h; exact hx)
    | ints k xs =>
      cases x <;> simp only [leR] at h <;> first | exact h.elim | (obtain ⟨rfl, rfl⟩ := h; exact hx) | (obtain ⟨rfl, rfl⟩ := h; exact hx.unclip) | skip
      split at h <;> first | contradiction | exact h.elim | skip
      rename_i heq; cases heq; subst h; cases hx; exact .intsNil _
    | rd sz len f =>
      cases x <;> simp only [leR] at h <;> first | exact h.elim | skip
      . split at h <;> first | contradiction | exact h.elim | skip
        rename_i heq; cases heq; subst h; cases hx; exact .rdNil _ _
      . obtain ⟨rfl, rfl, hf⟩ := h
        cases hx with
        | rdNil => exact .rdNil _ _
        | rdE => exact .rdE _ _ _ _
        | rd _ _ _ b off cap vs hb h1 h2 h3 h4 => exact .rd _ _ _ b off cap vs hb (fun i hi => by rw [<- hf i hi]; exact h1 i hi) h2 h3 h4
    | agg ys => cases x <;> simp only [leR] at h <;> first | exact h.elim | skip
                cases hx with
                | agg _ _ hx => exact .agg _ _ (hs h hx)
    | tup ys => cases x <;> simp only [leR] at h <;> first | exact h.elim | skip
                cases hx with
                | tup _ _ hx => exact .tup _ _ (hs h hx)
    | fn f ys => cases x <;> simp only [leR] at h <;> first | exact h.elim | skip
                 obtain ⟨rfl, h⟩ := h
                 cases hx with
                 | fn _ _ _ hx => exact .fn _ _ _ (hs h hx)
    | ifc t y => cases x <;> simp only [leR] at h <;> first | exact h.elim | skip
                 obtain ⟨rfl, h⟩ := h
                 cases hx with
                 | ifc _ _ _ hx => exact .ifc _ _ _ (ih h hx)
    | rp ys off => cases x <;> simp only [leR] at h <;> first | exact h.elim | skip
                   obtain ⟨rfl, h⟩ := h
                   cases hx with
                   | rp _ _ _ _ _ h1 h2 h3 => exact .rp _ _ _ _ _ (hs h h1) h2 h3
    | _ => (simp only [leR] at h; subst h; exact hx)
def ends (rs : List RV) (K : SV -> Prop) : Exit -> St -> Prop
 | .normal, s | .ret, s => match rdR s rs with
  | some r => match clV 8 s.hp (tupled r) with
   | some (r, _) => ∃ r', K r' /\ leR 4 r r'
   | none => False
  | none => False
 | _, _ => False
theorem xRd (E : Env) : ∀ n, Rvs E (rep n) (List.replicate n undef)
 | 0 => .nil
 | n + 1 => .cons _ _ _ _ (.lit _) (xRd E n)
theorem xHk {E : Env} : ∀ {args : List SV} {vs : List Value} (n : Nat), Rvs E args vs -> Rvs E (mkfr args n) (vs ++ List.replicate (n - vs.length) undef)
 | [], [], n, .nil => by simpa [mkfr] using xRd E n
 | x :: t, v :: vs, n, .cons _ _ _ _ hx h => by
  have := xHk (n - 1) h
  simp only [mkfr, List.cons_append, List.length_cons]
  rw [show n - (vs.length + 1) = n - 1 - vs.length by omega]
  exact .cons _ _ _ _ hx this
def rdOne (tmps : Array Value) : ResultVar -> Sem Value
 | .tmp t => pure (tmps.getD t undef)
 | .cell a t => do loadVar t (<- asAddr (tmps.getD a undef))
theorem xFz (fn : Func) (tmps : Array Value) : results fn tmps = (do let vs <- fn.results.mapM (rdOne tmps); pure (if h : vs.size = 1 then vs[0] else .tuple vs)) := by
 unfold results
 congr 1
theorem xCe {P : Program} {tmps : Array Value} {w : World} {x : ResultVar} {l : List ResultVar} {v : Value} {vs : List Value} (h1 : (rdOne tmps x).run P w = .ok v w) (h2 : (l.mapM (rdOne tmps)).run P w = .ok vs w) :
  ((x :: l).mapM (rdOne tmps)).run P w = .ok (v :: vs) w := by
 simp only [List.mapM_cons, Sem.run_bind, h1, h2, Result.andThen_ok, Sem.run_pure]
theorem xNx {P : Program} {E : Env} {s : St} {a : Act} (hr : Rep E s a) : ∀ {l : List ResultVar} {rs : List RV} {xs : List SV}, cR P l = some rs -> rdR s rs = some xs ->
  ∃ vs, (l.mapM (rdOne a.tmps)).run P E.w = .ok vs E.w /\ Rvs E xs vs
 | [], rs, xs, hc, e => by
  simp [cR] at hc; subst hc; simp [rdR] at e; subst e
  exact ⟨[], by simp, .nil⟩
 | .tmp t :: l, rs, xs, hc, e => by
  simp only [cR] at hc
  split at hc
  ·rename_i rs' h1
   cases hc
   simp only [rdR] at e
   split at e
   ·rename_i r h2
    cases e
    obtain ⟨vs, h3, h4⟩ := xNx hr h1 h2
    exact ⟨a.tmps.getD t undef :: vs, xCe rfl h3, .cons _ _ _ _ (by simpa using hr.fr.gt t) h4⟩
   ·cases e
  ·cases hc
 | .cell ad ty :: l, rs, xs, hc, e => by
  simp only [cR] at hc
  split at hc
  ·rename_i sz rs' hs h1
   cases hc
   simp only [rdR] at e
   split at e
   ·rename_i lb off hg
    have hx := hr.fr.gt ad
    rw [hg] at hx
    obtain ⟨hl, hx⟩ := hx.ptrE
    have hx' : a.tmps.getD ad undef = .pointer (some ⟨E.blk lb, off, none⟩) := by simpa using hx
    have go : ∀ t cs, (∃ vs, Rvs E cs vs /\ E.w.heap[E.blk lb]? = some (.cells vs.toArray t (0, 0))) -> (match ld cs off sz, rdR s rs' with
     | some x, some r => some (x :: r)
     | _, _ => none) = some xs -> ∃ vs, ((ResultVar.cell ad ty :: l).mapM (rdOne a.tmps)).run P E.w = .ok vs E.w /\ Rvs E xs vs := by
     intro t cs ⟨us, h5, h6⟩ e
     split at e
     ·rename_i x r h7 h8
      cases e
      obtain ⟨vs, h3, h4⟩ := xNx hr h1 h8
      obtain ⟨v, h9, h10⟩ := xAs (P := P) (w := E.w) (b := E.blk lb) (base := 0) hs h5 (fun j v hv => by rw [Nat.zero_add]; exact xAf h6 j v hv) h7
      rw [Nat.zero_add] at h9
      exact ⟨v :: vs, xCe (by simp only [rdOne, hx', asAddr, Sem.run_bind, Sem.run_pure, Result.andThen_ok, h9]) h3, .cons _ _ _ _ h10 h4⟩
     ·cases e
    split at e
    ·rename_i t cs hgb
     exact go t cs (hr.hp.b.blk lb _ (xAa hgb (by simp))) e
    ·rename_i t cs hgb
     exact go t cs (hr.hp.b.blk lb _ (xAa hgb (by simp))).2 e
    ·cases e
   ·cases e
  ·cases hc
theorem xGa {P : Program} {E : Env} {s : St} {a : Act} (hr : Rep E s a) {fn : Func} {rs : List RV} {xs : List SV} (hc : cR P fn.results.toList = some rs) (e : rdR s rs = some xs) :
  ∃ v, (results fn a.tmps).run P E.w = .ok v E.w /\ Rv E (tupled xs) v := by
 obtain ⟨vs, h1, h2⟩ := xNx hr hc e
 rw [xFz, Array.mapM_eq_mapM_toList]
 simp only [bind_map_left, Sem.run_bind, h1, Result.andThen_ok, Sem.run_pure]
 match xs, vs, h2 with
 | [], [], .nil => exact ⟨_, rfl, .tup _ _ .nil⟩
 | [x], [v], .cons _ _ _ _ hx .nil => exact ⟨_, rfl, hx⟩
 | x :: y :: xs, v :: u :: vs, h => exact ⟨_, by simp, .tup _ _ h⟩
theorem xBi {w : World} {a : Addr} (h : ∀ c t f, w.heap[a.block]? ≠ some (.cells c t f)) : w.frozen? a = false := by
 unfold World.frozen?
 split
 ·rename_i lo hi he; exact absurd he (h _ _ _)
 ·rfl
theorem xGb {w : World} {r : Nat} {o o' : Obj} (h : w.heap[r]? = some o) (h1 : o.isCells = false) (h2 : o'.isCells = false) (a : Addr) : (w.putObj r o').frozen? a = w.frozen? a := by
 by_cases ha : a.block = r
 ·have hs := World.putObj_heap_same (w := w) (o := o') (Array.getElem?_eq_some_iff.1 h).1
  rw [xBi (w := w) (fun c t f e => by rw [ha, h] at e; cases e; simp [Obj.isCells] at h1), xBi (fun c t f e => by rw [ha, hs] at e; cases e; simp [Obj.isCells] at h2)]
 ·exact World.frozen?_of_block (World.putObj_heap_other ha)
def colls (ds : List Nat) : List Deferred := ds.map fun D => { target := .collected D, args := #[] }
def putD (w : World) : List Nat -> World
 | [] => w
 | D :: t => putD (w.putObj D (.deferred none)) t
structure KeepD (w w' : World) : Prop where
 heap : ∀ (b : Nat) (o : Obj), w.heap[b]? = some o -> (∀ l, o ≠ Obj.deferred l) -> w'.heap[b]? = some o
 sz : w'.heap.size = w.heap.size
 fz : ∀ a, w'.frozen? a = w.frozen? a
 os : w'.os = w.os
 tape : w'.tape = w.tape
 output : w'.output = w.output
theorem xNy : ∀ {ds : List Nat} {w : World}, ds.Nodup -> (∀ D ∈ ds, w.heap[D]? = some (.deferred (some []))) -> KeepD w (putD w ds) /\ (∀ b, b ∉ ds -> (putD w ds).heap[b]? = w.heap[b]?) /\
  ∀ {n : Nat} {P : Program} {fn : Func} {tmps : Array Value} {R : Ending -> World -> Prop}, LeavesIn Fence.wide n P fn tmps R [] .returning (putD w ds) -> LeavesInM Fence.wide n P fn tmps R (colls ds) .returning w
 | [], w, _, _ => ⟨⟨fun _ _ h _ => h, rfl, fun _ => rfl, rfl, rfl, rfl⟩, fun _ _ => rfl, fun h => h⟩
 | D :: t, w, hn, hd => by
  have hD := hd D (List.mem_cons_self ..)
  obtain ⟨hnt, hn'⟩ := List.nodup_cons.1 hn
  obtain ⟨k, k2, k3⟩ := xNy (ds := t) (w := w.putObj D (.deferred none)) hn' (fun D' h' => by
   rw [World.putObj_heap_other (fun e => by subst e; exact hnt h')]; exact hd D' (List.mem_cons_of_mem _ h'))
  refine ⟨⟨fun b o h1 h2 => ?_, ?_, fun a => ?_, k.os, k.tape, k.output⟩, fun b hb => ?_, fun h => ?_⟩
  ·refine k.heap b o ?_ h2
   rw [World.putObj_heap_other (fun e => by subst e; rw [hD] at h1; cases h1; exact h2 _ rfl)]; exact h1
  ·exact k.sz.trans World.putObj_size
  ·exact (k.fz a).trans (xGb hD rfl rfl a)
  ·show (putD (w.putObj D (.deferred none)) t).heap[b]? = _
   rw [k2 b (fun h => hb (List.mem_cons_of_mem _ h)), World.putObj_heap_other (fun e => by subst e; exact hb (List.mem_cons_self ..))]
  ·exact ⟨by simp, .inl ⟨D, _, rfl, run_takeDeferred hD, k3 h⟩⟩
theorem KeepD.cell {w w' : World} (h : KeepD w w') {a : Addr} {v : Value} (hc : w.cell? a = some v) : w'.cell? a = some v := by
 obtain ⟨o, h1, h2⟩ := cells_of_cell hc
 exact (World.cell?_of_block ((h.heap _ o h1 (fun l e => by subst e; simp [Obj.isCells] at h2)).trans h1.symm)).trans hc
theorem Cv.keepD {w w' : World} {im : Nat -> Prop} (h : KeepD w w') {x : SV} {v : Value} (hx : Cv w im x v) : Cv w' im x v := by
 refine Cv.rec (motive_1 := fun x v _ => Cv w' im x v) (motive_2 := fun xs vs _ => Cvs w' im xs vs) ?_ ?_ ?_ ?_ ?_ ?_ ?_ ?_ ?_ ?_ ?_ ?_ ?_ ?_ ?_ ?_ ?_ ?_ ?_ ?_ ?_ ?_ ?_ ?_ ?_ hx
 ·exact fun v => .lit v
 ·exact fun k n => .int k n
 ·exact fun b => .bool b
 ·intro cs vs off b base _ hb hc ih; exact .rp cs vs off b base ih hb (fun j v hv => h.cell (hc j v hv))
 ·exact fun cs vs _ ih => .agg cs vs ih
 ·exact fun cs vs _ ih => .tup cs vs ih
 ·exact fun f cs vs _ ih => .fn f cs vs ih
 ·exact fun t x v _ ih => .ifc t x v ih
 ·exact fun k => .intsNil k
 ·exact fun k a cap => .intsE k a cap
 ·intro k xs b off cap hb hc hl; exact .ints k xs b off cap hb (fun j v hv => h.cell (hc j v hv)) hl
 ·exact fun k => .clipNil k
 ·exact fun k a => .clipE k a
 ·intro k xs b off hb hc; exact .clip k xs b off hb (fun j v hv => h.cell (hc j v hv))
 ·exact fun sz f => .cliprNil sz f
 ·exact fun sz f a => .cliprE sz f a
 ·intro sz len f b off vs hb _ hl hc ih; exact .clipr sz len f b off vs hb ih hl (fun i j v hi hv => h.cell (hc i j v hi hv))
 ·exact fun sz f => .rdNil sz f
 ·exact fun sz f a cap => .rdE sz f a cap
 ·intro sz len f b off cap vs hb _ hl hc hcap ih; exact .rd sz len f b off cap vs hb ih hl (fun i j v hi hv => h.cell (hc i j v hi hv)) hcap
 ·intro ks vs kv vv xs b _ _ h1 h2 h3 hb hm i1 i2; exact .cm ks vs kv vv xs b i1 i2 h1 h2 h3 hb (h.heap b _ hm (fun l e => by cases e))
 ·exact fun m x v _ ih => .mm m x v ih
 ·exact fun f fs cs us vs _ _ i1 i2 => .mv f fs cs us vs i1 i2
 ·exact .nil
 ·exact fun x v xs vs _ _ i1 i2 => .cons x v xs vs i1 i2
theorem xJy {P : Program} {E : Env} {s : St} {a : Act} {w2 : World} (hr : Rep E s a) (hk : KeepD E.w w2) : ∀ {l : List ResultVar} {rs : List RV} {xs : List SV}, cR P l = some rs -> rdR s rs = some xs ->
  ∃ vs, (l.mapM (rdOne a.tmps)).run P w2 = .ok vs w2 /\ Rvs E xs vs
 | [], rs, xs, hc, e => by
  simp [cR] at hc; subst hc; simp [rdR] at e; subst e
  exact ⟨[], by simp, .nil⟩
 | .tmp t :: l, rs, xs, hc, e => by
  simp only [cR] at hc
  split at hc
  ·rename_i rs' h1
   cases hc
   simp only [rdR] at e
   split at e
   ·rename_i r h2
    cases e
    obtain ⟨vs, h3, h4⟩ := xJy hr hk h1 h2
    exact ⟨a.tmps.getD t undef :: vs, xCe rfl h3, .cons _ _ _ _ (by simpa using hr.fr.gt t) h4⟩
   ·cases e
  ·cases hc
 | .cell ad ty :: l, rs, xs, hc, e => by
  simp only [cR] at hc
  split at hc
  ·rename_i sz rs' hs h1
   cases hc
   simp only [rdR] at e
   split at e
   ·rename_i lb off hg
    have hx := hr.fr.gt ad
    rw [hg] at hx
    obtain ⟨hl, hx⟩ := hx.ptrE
    have hx' : a.tmps.getD ad undef = .pointer (some ⟨E.blk lb, off, none⟩) := by simpa using hx
    have go : ∀ t cs, (∃ vs, Rvs E cs vs /\ E.w.heap[E.blk lb]? = some (.cells vs.toArray t (0, 0))) -> (match ld cs off sz, rdR s rs' with
     | some x, some r => some (x :: r)
     | _, _ => none) = some xs -> ∃ vs, ((ResultVar.cell ad ty :: l).mapM (rdOne a.tmps)).run P w2 = .ok vs w2 /\ Rvs E xs vs := by
     intro t cs ⟨us, h5, h6⟩ e
     have h6' := hk.heap _ _ h6 (fun l e => by cases e)
     split at e
     ·rename_i x r h7 h8
      cases e
      obtain ⟨vs, h3, h4⟩ := xJy hr hk h1 h8
      obtain ⟨v, h9, h10⟩ := xAs (P := P) (w := w2) (b := E.blk lb) (base := 0) hs h5 (fun j v hv => by rw [Nat.zero_add]; exact xAf h6' j v hv) h7
      rw [Nat.zero_add] at h9
      exact ⟨v :: vs, xCe (by simp only [rdOne, hx', asAddr, Sem.run_bind, Sem.run_pure, Result.andThen_ok, h9]) h3, .cons _ _ _ _ h10 h4⟩
     ·cases e
    split at e
    ·rename_i t cs hgb
     exact go t cs (hr.hp.b.blk lb _ (xAa hgb (by simp))) e
    ·rename_i t cs hgb
     exact go t cs (hr.hp.b.blk lb _ (xAa hgb (by simp))).2 e
    ·cases e
   ·cases e
  ·cases hc
theorem xJz {P : Program} {E : Env} {s : St} {a : Act} {w2 : World} (hr : Rep E s a) (hk : KeepD E.w w2) {fn : Func} {rs : List RV} {xs : List SV} (hc : cR P fn.results.toList = some rs) (e : rdR s rs = some xs) :
  ∃ v, (results fn a.tmps).run P w2 = .ok v w2 /\ Rv E (tupled xs) v := by
 obtain ⟨vs, h1, h2⟩ := xJy hr hk hc e
 rw [xFz, Array.mapM_eq_mapM_toList]
 simp only [bind_map_left, Sem.run_bind, h1, Result.andThen_ok, Sem.run_pure]
 match xs, vs, h2 with
 | [], [], .nil => exact ⟨_, rfl, .tup _ _ .nil⟩
 | [x], [v], .cons _ _ _ _ hx .nil => exact ⟨_, rfl, hx⟩
 | x :: y :: xs, v :: u :: vs, h => exact ⟨_, by simp, .tup _ _ h⟩
theorem xIt {P : Program} {T : List (Nat × Sg)} (hT : TabOk P T)
  {f : FuncId} {fn : Func} {c : Code} {sc : SC} {rs : List RV} (hf : P.funcs[f]? = some fn) (hb : fn.body = some c) (hc : cC P c = some sc) (hrs : cR P fn.results.toList = some rs) {C : PC}
  (h : ∀ args K, C args K -> exec 0 (gam P T) (gamq T) sc (ends rs K) ⟨mkfr args fn.ntmps, []⟩) : PureOk P f C := by
 intro w im args vs K him ha hC
 refine (callsIn_wide (n := 0)).1 (callsIn_of_wp_marks (F := Fence.wide) hf hb trivial ?_ rfl)
 let E0 : Env := { w := w, im := im, n := 0, rs := fun _ => False, blk := fun _ => 0, val := fun _ => undef, live := fun _ => False, W := w, M := fun _ => False, im0 := im, df := [], ok := fun _ _ => False }
 have hr : Rep E0 ⟨mkfr args fn.ntmps, []⟩ { tmps := vs.toArray ++ Array.replicate (fn.ntmps - vs.toArray.size) undef, defers := [] } := by
  refine ⟨?_, ⟨⟨fun _ _ _ => rfl, fun _ => rfl, Nat.le_refl _, rfl, rfl, rfl, him, fun b hb => .inl hb⟩, ⟨rfl, ?_, ?_, ?_, ?_, ?_, ?_⟩⟩, rfl⟩
  ·have := xHk (E := E0) fn.ntmps (Cvs.rv (E := E0) ha)
   simpa using this
  all_goals (intro l; intros; simp_all)
 refine xNa (gam_ok hT) (xNw hT) (xSh hT) (xMf hT) (ro := none) (n := 0) c sc hc (.inl rfl) (Nat.le_refl 0) (Nat.le_refl 0) hr (h args K hC) ?_
 intro e E' s' a' hle hr' hk
 obtain ⟨ds, hdf, hnd, hds⟩ := hle.d
 have hle := hle.x
 obtain ⟨hkeep, hoth, hlv⟩ := xNy (ds := ds) (w := E'.w) hnd (fun D hD => (hds D hD).2)
 have hdw : ∀ D ∈ ds, w.heap.size <= D := fun D hD => (hds D hD).1.2.2
 have fin : ∀ {s'}, Rep E' s' a' -> (match rdR s' rs with
  | some r => match clV 8 s'.hp (tupled r) with
   | some (r, _) => ∃ r', K r' /\ leR 4 r r'
   | none => False
  | none => False) -> LeavesInM Fence.wide 0 P fn a'.tmps (fun e w' => ∃ r v im', e = .returned v /\ K r /\ Cv w' im' r v /\ (∀ b, im b -> im' b) /\ (∀ b, im' b -> im b \/ w.heap.size <= b) /\ (∀ b, im' b -> b < w'.heap.size) /\ Later w w') a'.defers .returning E'.w := by
  intro s' hr' hk
  have e0 : a'.defers = colls ds := by rw [hr'.df, hdf]; exact List.append_nil _
  rw [e0]
  refine hlv ?_
  split at hk
  ·rename_i r hrd
   split at hk
   ·rename_i r' hp' hcl
    obtain ⟨v, h1, h2⟩ := xJz hr' hkeep hrs hrd
    obtain ⟨E2, c2, r2, v2⟩ := xDd 8 hr'.hp h2 hcl
    have hW : E2.W = w := c2.le.W.trans hle.W
    have hM : E2.M = fun _ => False := c2.le.M.trans hle.M
    have hI : E2.im0 = im := c2.le.im0.trans hle.im0
    rw [c2.w] at v2
    obtain ⟨r'', hk, hle'⟩ := hk
    refine ⟨v, h1, r'', v, E2.im, rfl, hk, (leR_ok 4 hle' v2).keepD hkeep, fun b hb => c2.le.im b (hle.im b hb), fun b hb => ?_, fun b hb => by have := r2.imlt hb; rw [c2.w] at this; rw [hkeep.sz]; exact this, ?_⟩
    ·have := r2.g.im0 b hb
     rw [hW, hM, hI] at this
     simpa using this
    ·have g := r2.g
     have e := c2.w
     refine ⟨fun b hb => ?_, fun a => ?_, ?_, ?_, ?_, ?_⟩
     ·rw [hoth b (fun h => by have := hdw b h; omega), <- e]; have := g.fr b (by rw [hW]; exact hb) (by rw [hM]; exact id); rwa [hW] at this
     ·rw [hkeep.fz, <- e]; have := g.fz a; rwa [hW] at this
     ·rw [hkeep.sz, <- e]; have := g.sz; rwa [hW] at this
     ·rw [hkeep.os, <- e]; have := g.os; rwa [hW] at this
     ·rw [hkeep.tape, <- e]; have := g.tape; rwa [hW] at this
     ·rw [hkeep.output, <- e]; have := g.output; rwa [hW] at this
   ·exact hk.elim
  ·exact hk.elim
 cases e with
 | normal => exact fin hr' hk
 | ret => exact fin hr' hk
 | _ => exact hk.elim
theorem pure_of {P : Program} {T : List (Nat × Sg)} (hT : TabOk P T)
  {f : FuncId} {fn : Func} {sc : SC} {rs : List RV} {nt : Nat} (hf : P.funcs[f]? = some fn) (hk : (fn.body.bind (cC P), cR P fn.results.toList, fn.ntmps) = (some sc, some rs, nt)) {C : PC}
  (h : ∀ args K, C args K -> exec 0 (gam P T) (gamq T) sc (ends rs K) ⟨mkfr args nt, []⟩) : PureOk P f C := by
 simp only [Prod.mk.injEq, Option.bind_eq_some_iff] at hk
 obtain ⟨⟨c, hb, hc⟩, hrs, rfl⟩ := hk
 exact xIt hT hf hb hc hrs h
end Go.Vg
