import Derived.Test.YtgdihdiadlmjiaaVgV4
import Derived.OrdersIn
set_option linter.all false
section
namespace Go.Vg
open Go
def FcOk (P : Program) (f : FuncId) (F : FC) : Prop :=
 ConOk P f fun args hp K => clo.clos 8 args = true /\ match F args with
  | some (p, r) => p /\ K r hp
  | none => False
section
variable {fr fr' : List SV}
theorem X.congr {x : X} (h : ∀ t, t ∈ usesX x -> gt fr t = gt fr' t) : x.get fr = x.get fr' := by
 cases x with
 | t n => exact h n (by simp [usesX])
 | c x => rfl
theorem xAe : ∀ {xs : List X}, (∀ t, t ∈ usesXs xs -> gt fr t = gt fr' t) -> gets fr xs = gets fr' xs
 | [], _ => rfl
 | x :: xs, h => by
  simp only [gets]
  rw [X.congr (fun t ht => h t (by simp [usesXs, ht])), xAe (fun t ht => h t (by simp [usesXs, ht]))]
theorem xAv : ∀ {xs : List (Nat × Nat × X)}, (∀ t, t ∈ usesP xs -> gt fr t = gt fr' t) -> getp fr xs = getp fr' xs
 | [], _ => rfl
 | (a, b, x) :: xs, h => by
  simp only [getp]
  rw [X.congr (fun t ht => h t (by simp [usesP, ht])), xAv (fun t ht => h t (by simp [usesP, ht]))]
theorem xIm {hp : List Blk} {vo : VOp} (h : ∀ t, t ∈ usesV vo -> gt fr t = gt fr' t) : evp fr hp vo = evp fr' hp vo := by
 cases vo <;> simp only [usesV, List.mem_append] at h
 case mov x => simp only [evp, X.congr h]
 case neg x => simp only [evp, X.congr h]
 case not x => simp only [evp, X.congr h]
 case conv k x => simp only [evp, X.congr h]
 case ifc t x => simp only [evp, X.congr h]
 case off x k => simp only [evp, X.congr h]
 case fld x o n => simp only [evp, X.congr h]
 case load x n => simp only [evp, X.congr h]
 case len x => simp only [evp, X.congr h]
 case ext x i => simp only [evp, X.congr h]
 case isnil ng x => simp only [evp, X.congr h]
 case mkmm m x => simp only [evp, X.congr h]
 case strl x => simp only [evp, X.congr h]
 case nckv x => simp only [evp, X.congr h]
 case stri x y => simp only [evp, X.congr (x := x) (fun t ht => h t (.inl ht)), X.congr (x := y) (fun t ht => h t (.inr ht))]
 case strb op x y => simp only [evp, X.congr (x := x) (fun t ht => h t (.inl ht)), X.congr (x := y) (fun t ht => h t (.inr ht))]
 case mkfn f xs => simp only [evp, xAe h]
 case mkmv f a b => simp only [evp, xAe (xs := a) (fun t ht => h t (.inl ht)), xAe (xs := b) (fun t ht => h t (.inr ht))]
 case pick a b c => simp only [evp, X.congr (x := a) (fun t ht => h t (.inl ht)), X.congr (x := b) (fun t ht => h t (.inr (.inl ht))), X.congr (x := c) (fun t ht => h t (.inr (.inr ht)))]
 case slc => rfl
 case bin op x y => simp only [evp, X.congr (x := x) (fun t ht => h t (.inl ht)), X.congr (x := y) (fun t ht => h t (.inr ht))]
 case binb op x y => simp only [evp, X.congr (x := x) (fun t ht => h t (.inl ht)), X.congr (x := y) (fun t ht => h t (.inr ht))]
 case ixa x y sz => simp only [evp, X.congr (x := x) (fun t ht => h t (.inl ht)), X.congr (x := y) (fun t ht => h t (.inr ht))]
 case ixarr x y a b => simp only [evp, X.congr (x := x) (fun t ht => h t (.inl ht)), X.congr (x := y) (fun t ht => h t (.inr ht))]
 case ixv x y a b n => simp only [evp, X.congr (x := x) (fun t ht => h t (.inl ht)), X.congr (x := y) (fun t ht => h t (.inr ht))]
 case max2 x y => simp only [evp, X.congr (x := x) (fun t ht => h t (.inl ht)), X.congr (x := y) (fun t ht => h t (.inr ht))]
 case eqs ks ng x y => simp only [evp, X.congr (x := x) (fun t ht => h t (.inl ht)), X.congr (x := y) (fun t ht => h t (.inr ht))]
 case mx3 mn x y z => simp only [evp, X.congr (x := x) (fun t ht => h t (.inl ht)), X.congr (x := y) (fun t ht => h t (.inr (.inl ht))), X.congr (x := z) (fun t ht => h t (.inr (.inr ht)))]
 case min2 x y => simp only [evp, X.congr (x := x) (fun t ht => h t (.inl ht)), X.congr (x := y) (fun t ht => h t (.inr ht))]
theorem xEw {Γq : Nat -> Option FC} {hp : List Blk} {o : Op1} (h : ∀ t, t ∈ uses1 o -> gt fr t = gt fr' t) : evq Γq fr hp o = evq Γq fr' hp o := by
 cases o <;> simp only [uses1, List.mem_append] at h
 case v vo => simp only [evq, xIm h]
 case nck x => simp only [evq, X.congr h]
 case bld z ps => simp only [evq, xAv h]
 case call f xs => simp only [evq, X.congr (x := f) (fun t ht => h t (.inl ht)), xAe (xs := xs) (fun t ht => h t (.inr ht))]
 case slc x lo hi mx sz =>
  have bc : ∀ o : Option X, (∀ t, t ∈ usesO o -> gt fr t = gt fr' t) -> bnd fr o = bnd fr' o := by
   intro o ho
   cases o with
   | none => rfl
   | some o => simp only [bnd, X.congr (x := o) ho]
  simp only [evq, X.congr (x := x) (fun t ht => h t (.inl ht)), bc lo (fun t ht => h t (.inr (.inl ht))), bc hi (fun t ht => h t (.inr (.inr (.inl ht)))), bc mx (fun t ht => h t (.inr (.inr (.inr ht))))]
 all_goals rfl
end
def msk (us : List Nat) : Nat -> List SV -> List SV
 | _, [] => []
 | k, x :: t => (if us.contains k then x else .any) :: msk us (k + 1) t
theorem xDk (us : List Nat) : ∀ (fr : List SV) (k i : Nat), gt (msk us k fr) i = if us.contains (k + i) then gt fr i else .any
 | [], k, i => by simp [msk, gt]
 | x :: t, k, 0 => by simp [msk, gt]
 | x :: t, k, i + 1 => by
  simp only [msk, gt]
  rw [xDk us t (k + 1) i, show k + 1 + i = k + (i + 1) by omega]
theorem xJq (us : List Nat) : ∀ (fr : List SV) (k : Nat), (msk us k fr).length = fr.length
 | [], _ => rfl
 | x :: t, k => by simp [msk, xJq us t]
theorem xCc {E : Env} : ∀ {fr : List SV} {vs : List Value}, Rvs E fr vs ↔ fr.length = vs.length /\ ∀ t, t < fr.length -> Rv E (gt fr t) (vs.getD t undef)
 | [], [] => ⟨fun _ => ⟨rfl, fun t ht => by simp at ht⟩, fun _ => .nil⟩
 | [], _ :: _ => ⟨fun h => (by cases h), fun h => by simp at h⟩
 | _ :: _, [] => ⟨fun h => (by cases h), fun h => by simp at h⟩
 | x :: fr, v :: vs => by
  constructor
  ·intro h; exact ⟨h.length, fun t _ => h.gt t⟩
  ·rintro ⟨h1, h2⟩
   refine .cons _ _ _ _ (by simpa [gt] using h2 0 (by simp)) (xCc.2 ⟨by simpa using h1, fun t ht => ?_⟩)
   simpa [gt] using h2 (t + 1) (by simp; omega)
theorem xEa : ∀ (fr : List SV) (d : Nat) (x : SV), (st fr d x).length = fr.length
 | [], _, _ => rfl
 | _ :: t, 0, _ => rfl
 | _ :: t, d + 1, x => by simp [st, xEa t]
theorem xFt : ∀ (fr : List SV) (d t : Nat) (x : SV), gt (st fr d x) t = if d = t /\ t < fr.length then x else gt fr t
 | [], d, t, x => by simp [st, gt]
 | y :: fr, 0, 0, x => by simp [st, gt]
 | y :: fr, 0, t + 1, x => by simp [st, gt]
 | y :: fr, d + 1, 0, x => by simp [st, gt]
 | y :: fr, d + 1, t + 1, x => by simp [st, gt, xFt fr d t x]
theorem xCd (fr : List SV) (d : Option Nat) (x : SV) : (putf fr d x).length = fr.length := by cases d <;> simp [putf, xEa]
theorem xBs (fr : List SV) (d : Option Nat) (t : Nat) (x : SV) : gt (putf fr d x) t = if d = some t /\ t < fr.length then x else gt fr t := by
 cases d with
 | none => simp [putf]
 | some d => simp [putf, xFt]
def mix (p : Nat -> Bool) : List (Nat × Opr × SV) -> List SV -> List SV
 | [], fr => fr
 | (i, o, x) :: t, fr => mix p t (if p i then putf fr o.d x else fr)
theorem xBg (p : Nat -> Bool) : ∀ (l : List (Nat × Opr × SV)) (fr : List SV), (mix p l fr).length = fr.length
 | [], _ => rfl
 | (i, o, x) :: t, fr => by
  simp only [mix]
  rw [xBg p t]
  split <;> simp [xCd]
theorem xBw {p q : Nat -> Bool} {t : Nat} : ∀ (l : List (Nat × Opr × SV)) (fr fr' : List SV), fr.length = fr'.length -> gt fr t = gt fr' t -> (∀ i o x, (i, o, x) ∈ l -> o.d = some t -> p i = q i) ->
  gt (mix p l fr) t = gt (mix q l fr') t
 | [], fr, fr', _, h, _ => h
 | (i, o, x) :: l, fr, fr', hl, h, hw => by
  simp only [mix]
  refine xBw l _ _ ?_ ?_ (fun i o x hm => hw i o x (List.mem_cons_of_mem _ hm))
  ·split <;> split <;> simp [xCd, hl]
  ·by_cases hd : o.d = some t
   ·rw [hw i o x (List.mem_cons_self ..) hd]
    split
    ·rw [xBs, xBs, hl, h]
    ·exact h
   ·have e : ∀ fr : List SV, gt (putf fr o.d x) t = gt fr t := fun fr => by rw [xBs]; simp [hd]
    split <;> split <;> simp [e, h]
theorem xEx {p : Nat -> Bool} {t : Nat} : ∀ (l : List (Nat × Opr × SV)) (fr : List SV) (l1 l2 : List (Nat × Opr × SV)) (i : Nat) (o : Opr) (x : SV), l = l1 ++ (i, o, x) :: l2 -> p i = true -> o.d = some t -> t < fr.length ->
  (∀ j o' x', (j, o', x') ∈ l2 -> o'.d = some t -> p j = false) -> gt (mix p l fr) t = x
 | [], _, l1, l2, _, _, _, e, _, _, _, _ => by simp at e
 | (i', o', x') :: l, fr, [], l2, i, o, x, e, hp, hd, ht, hw => by
  simp only [List.nil_append, List.cons.injEq, Prod.mk.injEq] at e
  obtain ⟨⟨rfl, rfl, rfl⟩, rfl⟩ := e
  simp only [mix, hp, if_true]
  have : gt (mix p l (putf fr o'.d x')) t = gt (mix (fun _ => false) l (putf fr o'.d x')) t :=
   xBw l _ _ rfl rfl (fun j o'' x'' hm hd' => hw j o'' x'' hm hd')
  rw [this]
  have hn : ∀ (l : List (Nat × Opr × SV)) (fr : List SV), mix (fun _ => false) l fr = fr := by
   intro l
   induction l with
   | nil => intro fr; rfl
   | cons a l ih => intro fr; obtain ⟨a, b, c⟩ := a; simp [mix, ih]
  rw [hn, xBs]
  simp [hd, ht]
 | (i', o', x') :: l, fr, y :: l1, l2, i, o, x, e, hp, hd, ht, hw => by
  simp only [List.cons_append, List.cons.injEq] at e
  simp only [mix]
  exact xEx l _ l1 l2 i o x e.2 hp hd (by split <;> simp [xCd, ht]) hw
end Go.Vg
end
section
namespace Go.Vg
open Go
theorem xKp (acc : List Nat) : ∀ (es : List Edge) (m0 j : Nat), (es.foldl (fun m e => if Region.binds .any e then m ||| 2 ^ e.on ||| acc.getD e.on 0 else m) m0).testBit j = true ->
  m0.testBit j = true \/ ∃ e ∈ es, Region.binds .any e = true /\ (j = e.on \/ (acc.getD e.on 0).testBit j = true)
 | [], m0, j, h => .inl h
 | e :: es, m0, j, h => by
  rw [List.foldl_cons] at h
  rcases xKp acc es _ j h with h | ⟨e', h1, h2, h3⟩
  ·split at h
   ·rename_i hb
    rw [Nat.testBit_or, Nat.testBit_or, Bool.or_eq_true, Bool.or_eq_true, Nat.testBit_two_pow] at h
    rcases h with (h | h) | h
    ·exact .inl h
    ·exact .inr ⟨e, List.mem_cons_self .., hb, .inl (by simpa using (Eq.symm (by simpa using h)))⟩
    ·exact .inr ⟨e, List.mem_cons_self .., hb, .inr h⟩
   ·exact .inl h
  ·exact .inr ⟨e', List.mem_cons_of_mem _ h1, h2, h3⟩
theorem xEy : ∀ (ops : List Oper) (acc : List Nat) (i : Nat), i < acc.length -> (masks ops acc).getD i 0 = acc.getD i 0
 | [], acc, i, _ => rfl
 | o :: ops, acc, i, h => by
  rw [masks, xEy ops _ i (by simp; omega)]
  simp [List.getD_eq_getElem?_getD, List.getElem?_append_left h]
theorem xKq : ∀ (ops : List Oper) (acc : List Nat) (i : Nat) (o : Oper), ops[i]? = some o ->
  ∃ acc' : List Nat, (∀ k, k < acc.length + i -> acc'.getD k 0 = (masks ops acc).getD k 0) /\ (∀ k, acc.length + i <= k -> acc'.getD k 0 = 0) /\
   (masks ops acc).getD (acc.length + i) 0 = o.after.toList.foldl (fun m e => if Region.binds .any e then m ||| 2 ^ e.on ||| acc'.getD e.on 0 else m) 0
 | o :: ops, acc, 0, o', h => by
  simp at h; subst h
  refine ⟨acc, fun k hk => ?_, fun k hk => ?_, ?_⟩
  ·rw [masks, xEy _ _ _ (by simp; omega)]; simp [List.getD_eq_getElem?_getD, List.getElem?_append_left (show k < acc.length by omega)]
  ·simp [List.getD_eq_getElem?_getD, List.getElem?_eq_none (show acc.length <= k by omega)]
  ·rw [masks, xEy _ _ _ (by simp)]; simp [List.getD_eq_getElem?_getD]
 | o :: ops, acc, i + 1, o', h => by
  obtain ⟨acc', h1, h2, h3⟩ := xKq ops (acc ++ [o.after.toList.foldl (fun m e => if Region.binds .any e then m ||| 2 ^ e.on ||| acc.getD e.on 0 else m) 0]) i o' (by simpa using h)
  simp only [List.length_append, List.length_singleton] at h1 h2 h3
  refine ⟨acc', fun k hk => ?_, fun k hk => h2 k (by omega), ?_⟩
  ·rw [masks]; exact h1 k (by omega)
  ·rw [masks]; rw [show acc.length + (i + 1) = acc.length + 1 + i by omega]; exact h3
 | [], _, _, _, h => by simp at h
def Shut (ops : Array Oper) (L : Nat -> Bool) : Prop := ∀ (k : Nat) (o : Oper), ops[k]? = some o -> L k = true -> ∀ e ∈ o.after, Region.binds .any e = true -> L e.on = true
theorem xBx {ops : Array Oper} {L : Nat -> Bool} (hs : Shut ops L) : ∀ (i : Nat) (o : Oper), ops[i]? = some o -> (∀ e ∈ o.after, Region.binds .any e = true -> L e.on = true) ->
  ∀ j, ((masks ops.toList []).getD i 0).testBit j = true -> L j = true := by
 intro i
 induction i using Nat.strongRecOn with
 | _ i ih =>
  intro o ho hd j hj
  obtain ⟨acc', h1, h2, h3⟩ := xKq ops.toList [] i o (by simpa using ho)
  simp only [List.length_nil, Nat.zero_add] at h1 h2 h3
  rw [h3] at hj
  rcases xKp acc' _ 0 j hj with h | ⟨e, he, hb, h | h⟩
  ·simp at h
  ·subst h; exact hd e (by simpa using he) hb
  ·have hL := hd e (by simpa using he) hb
   by_cases hlt : e.on < i
   ·rw [h1 e.on hlt] at h
    cases ho' : ops[e.on]? with
    | none =>
     have : (masks ops.toList []).getD e.on 0 = 0 := by
      have : i < ops.size := (Array.getElem?_eq_some_iff.1 ho).1
      have : ops.size <= e.on := by simpa using ho'
      omega
     rw [this] at h; simp at h
    | some o' => exact ih e.on hlt o' ho' (hs e.on o' ho' hL) j h
   ·rw [h2 e.on (by omega)] at h; simp at h
def LitOf (y x : SV) : Prop := y = x \/ ∃ b, y = .bool b /\ x = .lit (.bool b)
def StepOk (Γq : Nat -> Option FC) (hp : List Blk) (fr : List SV) (o : Opr) (x : SV) : Prop :=
 (gdl fr o.g = some true /\ ∃ p y, evq Γq fr hp o.o = some (p, y) /\ p /\ LitOf y x) \/ (gdl fr o.g = some false /\ x = .lit undef)
def Dat (Γq : Nat -> Option FC) (hp : List Blk) : List (Nat × Opr × Bool) -> List SV -> List (Nat × Opr × SV) -> Prop
 | [], fr, l => l = []
 | (i, o, fl) :: t, fr, l => ∃ x l', l = (i, o, x) :: l' /\ StepOk Γq hp fr o x /\ Dat Γq hp t (putf fr o.d x) l'
theorem xGy {Γq : Nat -> Option FC} {k : St -> Prop} : ∀ {hs : List (Nat × Opr × Bool)} {s : St}, drun Γq hs k s -> ∃ l, Dat Γq s.hp hs s.fr l /\ k ⟨mix (fun _ => true) l s.fr, s.hp⟩
 | [], s, h => ⟨[], rfl, h⟩
 | (i, o, fl) :: t, s, h => by
  simp only [drun, dG] at h
  split at h
  ·rename_i hg
   split at h
   ·rename_i p x hx
    obtain ⟨hp, h⟩ := h
    have go : ∀ x', LitOf x x' -> drun Γq t k ⟨putf s.fr o.d x', s.hp⟩ -> ∃ l, Dat Γq s.hp ((i, o, fl) :: t) s.fr l /\ k ⟨mix (fun _ => true) l s.fr, s.hp⟩ := by
     intro x' hl h
     obtain ⟨l, h1, h2⟩ := xGy h
     exact ⟨(i, o, x') :: l, ⟨x', l, rfl, .inl ⟨hg, p, x, hx, hp, hl⟩, h1⟩, by simpa [mix] using h2⟩
    unfold dX at h
    split at h
    ·rename_i g
     cases g
     ·exact go _ (.inr ⟨false, rfl, rfl⟩) (h.2 rfl)
     ·exact go _ (.inr ⟨true, rfl, rfl⟩) (h.1 rfl)
    ·exact go _ (.inl rfl) h
   ·exact h.elim
  ·rename_i hg
   obtain ⟨l, h1, h2⟩ := xGy h
   exact ⟨(i, o, .lit undef) :: l, ⟨_, l, rfl, .inr ⟨hg, rfl⟩, h1⟩, by simpa [mix] using h2⟩
  ·exact h.elim
theorem xJr {Γq : Nat -> Option FC} {hp : List Blk} : ∀ {hs : List (Nat × Opr × Bool)} {fr : List SV} {l l1 l2 : List (Nat × Opr × SV)} {i : Nat} {o : Opr} {x : SV}, Dat Γq hp hs fr l -> l = l1 ++ (i, o, x) :: l2 ->
  StepOk Γq hp (mix (fun _ => true) l1 fr) o x
 | [], fr, l, l1, l2, i, o, x, h, e => by
  simp only [Dat] at h; subst h; simp at e
 | (i', o', fl) :: t, fr, l, [], l2, i, o, x, h, e => by
  obtain ⟨x', l', rfl, h1, h2⟩ := h
  simp only [List.nil_append, List.cons.injEq, Prod.mk.injEq] at e
  obtain ⟨⟨rfl, rfl, rfl⟩, rfl⟩ := e
  exact h1
 | (i', o', fl) :: t, fr, l, y :: l1, l2, i, o, x, h, e => by
  obtain ⟨x', l', rfl, h1, h2⟩ := h
  simp only [List.cons_append, List.cons.injEq] at e
  obtain ⟨rfl, e⟩ := e
  simpa [mix] using xJr h2 e
theorem xNe {Γq : Nat -> Option FC} {hp : List Blk} : ∀ {hs : List (Nat × Opr × Bool)} {fr : List SV} {l : List (Nat × Opr × SV)}, Dat Γq hp hs fr l -> l.map (fun x => (x.1, x.2.1)) = hs.map (fun x => (x.1, x.2.1))
 | [], fr, l, h => by simp only [Dat] at h; subst h; rfl
 | (i, o, fl) :: t, fr, l, h => by
  obtain ⟨x, l', rfl, _, h2⟩ := h
  simp [xNe h2]
theorem xJs : ∀ {hp : List Blk} {l : Nat} {b : Blk}, gb hp l ≠ .dead -> gb (pb hp b) l = gb hp l
 | [], l, b, h => by simp [gb] at h
 | x :: t, 0, b, h => by simp [gb, pb]
 | x :: t, l + 1, b, h => by simpa [gb, pb] using xJs (hp := t) (by simpa [gb] using h)
theorem ixs_pb {hp : List Blk} {b : Blk} {sz : Nat} {i : Int} {x : SV} {r : Prop × SV} (h : ixs hp sz i x = some r) : ixs (pb hp b) sz i x = some r := by
 unfold ixs at h ⊢
 split at h <;> first | exact h | skip
 rename_i l
 have : gb hp l ≠ .dead := by intro e; rw [e] at h; simp at h
 rw [xJs this]; exact h
theorem xRv {hp : List Blk} {b : Blk} {x : SV} {r : Nat} (h : lens hp x = some r) : lens (pb hp b) x = some r := by
 unfold lens at h ⊢
 split at h <;> first | exact h | skip
 rename_i l
 have : gb hp l ≠ .dead := by intro e; rw [e] at h; simp at h
 rw [xJs this]; exact h
theorem lda_pb {hp : List Blk} {b : Blk} {n : Option Nat} {x : SV} {r : Prop × SV} (h : lda hp n x = some r) : lda (pb hp b) n x = some r := by
 unfold lda at h ⊢
 split at h <;> first | exact h | skip
 ·rename_i l off
  have : gb hp l ≠ .dead := by intro e; rw [e] at h; simp at h
  simp only [xJs this]; exact h
 ·rename_i l sz i off
  have : gb hp l ≠ .dead := by intro e; rw [e] at h; simp at h
  simp only [xJs this]; exact h
theorem xRw {hp : List Blk} {b : Blk} {x : SV} {r : Prop × Bool} (h : nilq hp x = some r) : nilq (pb hp b) x = some r := by
 unfold nilq at h ⊢
 split at h <;> first | exact h | skip
 rename_i l
 have : gb hp l ≠ .dead := by intro e; rw [e] at h; simp at h
 rw [xJs this]; exact h
theorem evp_pb {fr : List SV} {hp : List Blk} {b : Blk} {vo : VOp} {r : Prop × SV} (h : evp fr hp vo = some r) : evp fr (pb hp b) vo = some r := by
 cases vo <;> simp only [evp] at h ⊢ <;> first | exact h | skip
 case ixa => split at h <;> first | exact ixs_pb h | cases h
 case load => exact lda_pb h
 case len =>
  split at h
  ·rename_i n hn; rw [xRv hn]; exact h
  ·cases h
 case isnil =>
  split at h
  ·rename_i n hn; rw [xRw hn]; exact h
  ·cases h
theorem slQ_pb {hp : List Blk} {b : Blk} {x y : SV} (h : slQ hp x = some y) : slQ (pb hp b) x = some y := by
 unfold slQ at h ⊢
 split at h <;> first | exact h | skip
 rename_i l
 have : gb hp l ≠ .dead := by intro e; rw [e] at h; simp at h
 rw [xJs this]; exact h
theorem xRx {hp : List Blk} {x y : SV} (h : slQ hp x = some y) : slO hp x = some (y, hp) := by
 unfold slQ at h
 unfold slO
 split at h <;> first | (cases h; rfl) | skip
 ·rename_i l
  split at h
  ·rename_i k xs hg; cases h; simp only [hg]
  ·rename_i sz len f hg; cases h; simp only [hg]
  ·cases h
 ·cases h
theorem xRa {Γq : Nat -> Option FC} {fr : List SV} {hp : List Blk} {b : Blk} {o : Op1} {r : Prop × SV} (h : evq Γq fr hp o = some r) : evq Γq fr (pb hp b) o = some r := by
 cases o <;> simp only [evq] at h ⊢ <;> first | exact evp_pb h | exact h | skip
 split at h
 ·rename_i y lo hi mx e1 e2 e3 e4
  rw [slQ_pb e1, e2, e3, e4]; exact h
 ·cases h
def cons (P : Program) (Γq : Nat -> Option FC) : Gm := ⟨P, fun f => match Γq f with
 | some F => some fun args hp K => clo.clos 8 args = true /\ match F args with
  | some (p, r) => p /\ K r hp
  | none => False
 | none => none⟩
theorem xRy {P : Program} {Γq : Nat -> Option FC} {fr : List SV} {hp : List Blk} {o : Op1} {p : Prop} {x : SV} {k : SV -> List Blk -> Prop} (h : evq Γq fr hp o = some (p, x)) (hp' : p) (hk : k x hp) : evh (cons P Γq) ⟨fr, hp⟩ k o := by
 cases o <;> simp only [evq] at h <;> first | (cases h; done) | skip
 case v vo => simp only [evh, vK, h]; exact ⟨hp', hk⟩
 case bld z ps =>
  split at h
  ·rename_i cs hcs; cases h; simp only [evh, bldK, hcs]; exact hk
  ·cases h
 case call f args =>
  split at h
  ·rename_i f' caps hf
   split at h
   ·rename_i F hF hcl
    simp only [evh, callK, hf, cons, hF, conK]
    exact ⟨hcl, by rw [h]; exact ⟨hp', hk⟩⟩
   ·cases h
  ·cases h
 case slc x' lo hi mx sz =>
  split at h
  ·rename_i y lo' hi' mx' e1 e2 e3 e4
   simp only [evh, slcK, xRx e1, e2, e3, e4, vK, h]
   exact ⟨hp', hk⟩
  ·cases h
 case nck x' =>
  split at h
  ·rename_i hv
   cases h
   simp only [evh]
   generalize x'.get fr = y at hv hk ⊢
   unfold nckK
   split
   ·simp [nckV] at hv
   ·exact ⟨hv, hk⟩
  ·cases h
theorem xNf {Γ : Gm} {fr : List SV} {hp : List Blk} {o : Op1} {x : SV} {b : Blk} {k : SV -> List Blk -> Prop} (h : crv fr (ln hp) o = some (x, b)) (hk : k x (pb hp b)) : evh Γ ⟨fr, hp⟩ k o := by
 cases o <;> simp only [crv] at h <;> first | (cases h; done) | skip
 case new t z => cases h; exact hk
 case box t x' =>
  split at h
  ·rename_i cs hcs; cases h; simp only [evh, boxK, hcs]; exact hk
  ·cases h
 case bsl e len z ps =>
  split at h
  ·rename_i cs hcs; cases h; simp only [evh, bslK, hcs]; exact hk
  ·cases h
theorem xIn {fr fr' : List SV} {n : Nat} {o : Op1} (h : ∀ t, t ∈ uses1 o -> gt fr t = gt fr' t) : crv fr n o = crv fr' n o := by
 cases o <;> simp only [uses1, List.mem_append] at h <;> first | rfl | skip
 case box t x => simp only [crv, X.congr h]
 case bsl e len z ps => simp only [crv, xAv h]
end Go.Vg
end
section
namespace Go.Vg
open Go
def GRel (ops : Array Oper) (op : Oper) (o : Opr) : Prop :=
 (op.guard = none /\ o.g = none) \/ ∃ j want d, op.guard = some (j, want) /\ (ops[j]?).bind (·.dst) = some d /\ o.g = some (d, want)
theorem xCw {P : Program} {ops : Array Oper} : ∀ {l : List Oper} {lo : List Opr}, cops P ops l = some lo -> ∀ (i : Nat) (op : Oper), l[i]? = some op ->
  ∃ o, lo[i]? = some o /\ c1w P op = some o.o /\ o.d = op.dst /\ GRel ops op o
 | [], lo, h, i, op, e => by simp at e
 | x :: l, lo, h, i, op, e => by
  simp only [cops] at h
  split at h
  ·rename_i o1 lo' g h1 h2 h3
   cases h
   cases i with
   | zero =>
    simp at e; subst e
    refine ⟨_, by simp; rfl, h1, rfl, ?_⟩
    cases hg : x.guard with
    | none => simp only [hg] at h3; cases h3; exact .inl ⟨hg, rfl⟩
    | some jw =>
     obtain ⟨j, w⟩ := jw
     simp only [hg] at h3
     split at h3
     ·rename_i d hd; cases h3; exact .inr ⟨j, w, d, hg, hd, rfl⟩
     ·cases h3
   | succ i => simpa using xCw h2 i op (by simpa using e)
  ·cases h
theorem xAw {P : Program} {ops : Array Oper} : ∀ {l : List Oper} {lo : List Opr}, cops P ops l = some lo -> lo.length = l.length
 | [], lo, h => by simp [cops] at h; subst h; rfl
 | x :: l, lo, h => by
  simp only [cops] at h
  split at h
  ·rename_i o1 lo' g h1 h2 h3; cases h; simp [xAw h2]
  ·cases h
section
variable {P : Program} {Γq : Nat -> Option FC} (hΓq : ∀ f F, Γq f = some F -> FcOk P f F) (hGq : ∀ f F, Γq f = some F -> Known P f)
include hΓq in
theorem xNg : GmOk P (cons P Γq) := by
 refine ⟨rfl, ?_⟩
 intro f C h
 simp only [cons] at h
 split at h
 ·rename_i F hF; cases h; exact hΓq f F hF
 ·cases h
include hGq in
theorem xFw : ∀ f C, cons P Γq f = some C -> ∃ fn, P.funcs[f]? = some fn /\ fn.name ≠ "runtime.NumGoroutine" /\ fn.body ≠ none := by
 intro f C h
 simp only [cons] at h
 split at h
 ·rename_i F hF; exact hGq f F hF
 ·cases h
theorem c1_nodefer {o : Oper} {o1 : Op1} (h : c1 P o = some o1) : ∀ c, o.op ≠ .defer c := by
 intro c e
 unfold c1 cV at h
 simp [e] at h
theorem c1w_nodefer {o : Oper} {o1 : Op1} (h : c1w P o = some o1) : ∀ c, o.op ≠ .defer c := by
 intro c e
 unfold c1w at h
 split at h
 ·rename_i h1; exact c1_nodefer h1 c e
 ·rw [e] at h; simp at h
theorem xKr {all : Array Oper} {tmps : Array Value} {j d : Nat} (hd : (all[j]?).bind (·.dst) = some d) :
  yielded all tmps j = match tmps.toList.getD d undef with
   | .bool b => some b
   | _ => none := by
 unfold yielded
 rw [hd]
 simp only [Option.bind_some, List.getD_eq_getElem?_getD, Array.getElem?_toList]
 cases tmps[d]? with
 | none => rfl
 | some v => cases v <;> rfl
theorem xCl {E : Env} {ops : Array Oper} {op : Oper} {o : Opr} {a : Act} {fr : List SV} {b : Bool} (hg : GRel ops op o) (hgd : gdl fr o.g = some b) (hs : ∀ t, t ∈ usesG o.g -> Rv E (gt fr t) (a.tmps.toList.getD t undef)) :
  Region.wanted op (yielded ops a.tmps) = b := by
 rcases hg with ⟨h1, h2⟩ | ⟨j, want, d, h1, h2, h3⟩
 ·rw [h2] at hgd; simp [gdl] at hgd; subst hgd; simp [Region.wanted, h1]
 ·rw [h3] at hgd hs
  have hx := hs d (by simp [usesG])
  have hy := xKr (tmps := a.tmps) h2
  simp only [Region.wanted, h1]
  simp only [gdl] at hgd
  split at hgd
  ·rename_i e; rw [e] at hx; rw [hx.litE] at hy; rw [hy]; rw [Option.some.injEq] at hgd; subst hgd; cases want <;> rfl
  ·rename_i e; rw [e] at hx; rw [hx.litE] at hy; rw [hy]; rw [Option.some.injEq] at hgd; subst hgd; cases want <;> rfl
  ·rename_i e; rw [e] at hx; rw [hx.litE] at hy; rw [hy]; rw [Option.some.injEq] at hgd; subst hgd; cases want <;> rfl
  ·cases hgd
theorem LitOf.rv {E : Env} {x y : SV} {v : Value} (h : LitOf y x) (hy : Rv E y v) : Rv E x v := by
 rcases h with rfl | ⟨b, rfl, rfl⟩
 ·exact hy
 ·rw [hy.boolE]; exact .lit _
include hΓq hGq in
theorem xIo {ro : Option Nat} {n : Nat} {ops : Array Oper} {Q : Exit -> Act -> World -> Prop} {i : Nat} {op : Oper} {o : Opr} (hi : ops[i]? = some op) (hc : c1w P op = some o.o) (hd : o.d = op.dst) (hg : GRel ops op o)
  {E : Env} {a : Act} {F frI : List SV} {hp HP : List Blk} (hHP : HP = hp \/ ∃ b, HP = pb hp b) (hF : Rvs E F a.tmps.toList) (hr : RHp E HP) (hdf : a.defers = E.df) {x : SV} (hst : StepOk Γq hp frI o x)
  (hag : ∀ t, t ∈ usesR o -> gt F t = gt frI t) (hlen : frI.length = F.length) {K : Act -> World -> Prop}
  (hK : ∀ E' v, E.Le E' -> RHp E' HP -> Rv E' x v -> K (a.put op.dst v) E'.w) : wpOpIn (fen ro) n P ops Q i K a E.w := by
 unfold wpOpIn
 simp only [hi]
 have hsl : ∀ t, t ∈ usesR o -> Rv E (gt frI t) (a.tmps.toList.getD t undef) := fun t ht => by rw [<- hag t ht]; exact hF.gt t
 rcases hst with ⟨h1, p, y, h2, h3, h4⟩ | ⟨h1, h2⟩
 ·have hw := xCl hg h1 (a := a) (E := E) (fun t ht => hsl t (by simp [usesR, ht]))
  rw [if_pos hw]
  refine ⟨fun _ _ => trivial, ?_⟩
  rw [Oper.semAt_eq _ _ _ (c1w_nodefer hc)]
  have hV : Rvs E (msk (usesR o) 0 frI) a.tmps.toList := by
   refine xCc.2 ⟨by rw [xJq, hlen]; exact hF.length, fun t ht => ?_⟩
   rw [xDk]
   split
   ·rename_i hm; exact hsl t (by simpa using hm)
   ·exact .any _
  have hev : evq Γq (msk (usesR o) 0 frI) HP o.o = some (p, y) := by
   have e1 : evq Γq (msk (usesR o) 0 frI) hp o.o = some (p, y) := by
    rw [<- h2]
    refine xEw fun t ht => ?_
    rw [xDk, if_pos (by simp [usesR, ht])]
   rcases hHP with rfl | ⟨b, rfl⟩
   ·exact e1
   ·exact xRa e1
  refine xCs (xNg hΓq) (xFw hGq) hc (s := ⟨msk (usesR o) 0 frI, HP⟩) ⟨hV, hr, hdf⟩ (xRy (k := fun x' hp' => x' = y /\ hp' = HP) hev h3 ⟨rfl, rfl⟩) ?_
  rintro E' hp' x' v hle hh hx ⟨rfl, rfl⟩
  exact hK E' v hle hh (h4.rv hx)
 ·have hw := xCl hg h1 (a := a) (E := E) (fun t ht => hsl t (by simp [usesR, ht]))
  rw [if_neg (by simp [hw])]
  refine ⟨fun _ _ => trivial, ?_⟩
  subst h2
  exact hK E undef (.refl E) hr (.lit _)
include hΓq hGq in
theorem xPp {ro : Option Nat} {n : Nat} {ops : Array Oper} {Q : Exit -> Act -> World -> Prop} {i : Nat} {op : Oper} {o : Opr} (hi : ops[i]? = some op) (hc : c1w P op = some o.o) (hg : GRel ops op o) (hgn : o.g = none)
  {E : Env} {a : Act} {F frI : List SV} {hp : List Blk} (hF : Rvs E F a.tmps.toList) (hr : RHp E hp) (hdf : a.defers = E.df) {x : SV} {b : Blk} (hst : crv frI (ln hp) o.o = some (x, b))
  (hag : ∀ t, t ∈ usesR o -> gt F t = gt frI t) {K : Act -> World -> Prop}
  (hK : ∀ E' v, E.Le E' -> RHp E' (pb hp b) -> Rv E' x v -> K (a.put op.dst v) E'.w) : wpOpIn (fen ro) n P ops Q i K a E.w := by
 unfold wpOpIn
 simp only [hi]
 have hgu : op.guard = none := by
  rcases hg with ⟨h1, _⟩ | ⟨j, want, d, _, _, h3⟩
  ·exact h1
  ·rw [hgn] at h3; cases h3
 rw [if_pos (by simp [Region.wanted, hgu])]
 refine ⟨fun _ _ => trivial, ?_⟩
 rw [Oper.semAt_eq _ _ _ (c1w_nodefer hc)]
 have h1 : crv F (ln hp) o.o = some (x, b) := by rw [<- hst]; exact xIn fun t ht => hag t (by simp [usesR, ht])
 refine xCs (xNg hΓq) (xFw hGq) hc (s := ⟨F, hp⟩) ⟨hF, hr, hdf⟩ (xNf (k := fun x' hp' => x' = x /\ hp' = pb hp b) h1 ⟨rfl, rfl⟩) ?_
 rintro E' hp' x' v hle hh hx ⟨rfl, rfl⟩
 exact hK E' v hle hh hx
end
theorem xAz {p : Nat -> Bool} : ∀ (l1 l2 : List (Nat × Opr × SV)) (fr : List SV), (∀ i o x, (i, o, x) ∈ l1 -> p i = true) -> (∀ i o x, (i, o, x) ∈ l2 -> p i = false) -> mix p (l1 ++ l2) fr = mix (fun _ => true) l1 fr
 | [], [], fr, _, _ => rfl
 | [], (i, o, x) :: l2, fr, h1, h2 => by
  simp only [List.nil_append, mix]
  rw [h2 i o x (List.mem_cons_self ..)]
  have := xAz [] l2 fr (fun _ _ _ hm => by cases hm) (fun i o x hm => h2 i o x (List.mem_cons_of_mem _ hm))
  simpa [mix] using this
 | (i, o, x) :: l1, l2, fr, h1, h2 => by
  simp only [List.cons_append, mix]
  rw [h1 i o x (List.mem_cons_self ..)]
  exact xAz l1 l2 _ (fun i o x hm => h1 i o x (List.mem_cons_of_mem _ hm)) h2
def Diff (l : List (Nat × Opr × SV)) : Prop := (l.map (·.1)).Nodup
theorem Diff.split {l1 l2 : List (Nat × Opr × SV)} {i : Nat} {o : Opr} {x : SV} (h : Diff (l1 ++ (i, o, x) :: l2)) : (∀ j o' x', (j, o', x') ∈ l1 -> j ≠ i) /\ (∀ j o' x', (j, o', x') ∈ l2 -> j ≠ i) /\
  (∀ j o1 x1 o2 x2, (j, o1, x1) ∈ l1 -> (j, o2, x2) ∈ l2 -> False) := by
 unfold Diff at h
 simp only [List.map_append, List.map_cons, List.nodup_append, List.nodup_cons, List.mem_map, List.mem_cons] at h
 obtain ⟨h1, ⟨h2, h3⟩, h4⟩ := h
 refine ⟨fun j o' x' hm e => ?_, fun j o' x' hm e => ?_, fun j o1 x1 o2 x2 hm1 hm2 => ?_⟩
 ·exact h4 j ⟨_, hm, rfl⟩ i (.inl rfl) e
 ·exact h2 ⟨(j, o', x'), hm, e⟩
 ·exact h4 j ⟨_, hm1, rfl⟩ j (.inr ⟨_, hm2, rfl⟩) rfl
section
variable {l l1 l2 : List (Nat × Opr × SV)} {i : Nat} {o : Opr} {x : SV} {L : Nat -> Bool} {fr : List SV}
theorem xJt (hl : l = l1 ++ (i, o, x) :: l2) (hd : Diff l) (hi : L i = false) {t : Nat} (h1 : ∀ j o' x', (j, o', x') ∈ l1 -> o'.d = some t -> L j = true) (h2 : ∀ j o' x', (j, o', x') ∈ l2 -> o'.d = some t -> L j = false) :
  gt (mix L l fr) t = gt (mix (fun _ => true) l1 fr) t := by
 subst hl
 obtain ⟨d1, d2, d3⟩ := hd.split
 have : mix (fun _ => true) l1 fr = mix (fun j => (l1.map (·.1)).contains j) (l1 ++ (i, o, x) :: l2) fr := by
  rw [xAz]
  ·intro j o' x' hm; simp only [List.contains_iff_mem, List.mem_map]; exact ⟨_, hm, rfl⟩
  ·intro j o' x' hm
   rw [<- Bool.not_eq_true, List.contains_iff_mem, List.mem_map]
   rintro ⟨⟨j', o1, x1⟩, hm1, rfl⟩
   cases hm with
   | head => exact d1 _ _ _ hm1 rfl
   | tail _ hm => exact d3 _ _ _ _ _ hm1 hm
 rw [this]
 refine xBw _ _ _ rfl rfl fun j o' x' hm hd' => ?_
 rcases List.mem_append.1 hm with hm | hm
 ·rw [h1 j o' x' hm hd', Eq.comm]
  simp only [List.contains_iff_mem, List.mem_map]; exact ⟨_, hm, rfl⟩
 ·have hne : (l1.map (·.1)).contains j = false := by
   rw [<- Bool.not_eq_true, List.contains_iff_mem, List.mem_map]
   rintro ⟨⟨j', o1, x1⟩, hm1, rfl⟩
   cases hm with
   | head => exact d1 _ _ _ hm1 rfl
   | tail _ hm => exact d3 _ _ _ _ _ hm1 hm
  rw [hne]
  cases hm with
  | head => exact hi
  | tail _ hm => exact h2 j o' x' hm hd'
theorem xFx {E : Env} (hl : l = l1 ++ (i, o, x) :: l2) (hd : Diff l) (hi : L i = false) (h2 : ∀ t j o' x', (j, o', x') ∈ l2 -> o.d = some t -> o'.d = some t -> L j = false) {a : Act} {v : Value}
  (hF : Rvs E (mix L l fr) a.tmps.toList) (hx : Rv E x v) : Rvs E (mix (fun j => j == i || L j) l fr) (a.put o.d v).tmps.toList := by
 have h0 := hF
 have hput : Rvs E (putf (mix L l fr) o.d x) (a.put o.d v).tmps.toList := by
  cases hdd : o.d with
  | none => exact hF
  | some d => simpa [putf, Act.put] using hF.st d hx
 have hlen := hput.length
 rw [xCd] at hlen
 refine xCc.2 ⟨by rw [xBg, <- hlen, xBg], fun t ht => ?_⟩
 rw [xBg] at ht
 have hp := hput.gt t
 rw [xBs] at hp
 have hdl := hd
 subst hl
 obtain ⟨d1, d2, d3⟩ := hd.split
 by_cases hdt : o.d = some t
 ·rw [if_pos ⟨hdt, by rw [xBg]; exact ht⟩] at hp
  rw [xEx _ _ l1 l2 i o x rfl (by simp) hdt ht]
  ·exact hp
  ·intro j o' x' hm hd'
   have := d2 j o' x' hm
   simp [this, h2 t j o' x' hm hdt hd']
 ·rw [if_neg (fun h => hdt h.1)] at hp
  rw [xBw (p := fun j => j == i || L j) (q := L) _ fr fr rfl rfl]
  ·exact hp
  ·intro j o' x' hm hd'
   have : j ≠ i := by
    rcases List.mem_append.1 hm with hm | hm
    ·exact d1 j o' x' hm
    ·cases hm with
     | head => exact absurd hd' hdt
     | tail _ hm => exact d2 j o' x' hm
   simp [this]
end
theorem xAk {ops : Array Oper} {lst : Array Bool} (hsz : lst.size = ops.size) (he : edgesOk ops.toList = true) : ∀ (i : Nat), i < ops.size -> lst.getD i true = false -> ∃ j, j <= i /\ j ∈ Region.ready .any ops lst := by
 intro i
 induction i using Nat.strongRecOn with
 | _ i ih =>
  intro hi hl
  by_cases h : ∀ e ∈ ops[i].after, Region.binds .any e = true -> lst.getD e.on false = true
  ·exact ⟨i, Nat.le_refl _, mem_ready.2 ⟨hl, ops[i], by simp [hi], h⟩⟩
  ·have : ∃ e ∈ ops[i].after, Region.binds .any e = true /\ lst.getD e.on false = false := by
    apply Classical.byContradiction
    intro hc
    refine h fun e hm hb => ?_
    cases hv : lst.getD e.on false
    ·exact absurd ⟨e, hm, hb, hv⟩ hc
    ·rfl
   obtain ⟨e, hm, hb, hv⟩ := this
   have hlt : e.on < i := by
    unfold edgesOk at he
    rw [List.all_eq_true] at he
    have := he (ops[i], i) (by rw [List.mem_zipIdx_iff_getElem?]; simp [hi])
    simp only at this
    rw [Array.all_eq_true_iff_forall_mem] at this
    have := this e hm
    simpa [hb] using this
   obtain ⟨j, h1, h2⟩ := ih e.on hlt (by omega) (by
    have : e.on < lst.size := by omega
    simp only [Array.getD, this, dif_pos] at hv ⊢
    exact hv)
   exact ⟨j, by omega, h2⟩
def left (lst : Array Bool) : Nat := lst.toList.count false
theorem xEh {lst : Array Bool} {i : Nat} (h : lst.getD i true = false) : left (lst.setIfInBounds i true) + 1 = left lst := by
 have hi : i < lst.size := by
  by_cases h' : i < lst.size
  ·exact h'
  ·simp [Array.getD, h'] at h
 have hv : lst.toList[i]'(by simpa using hi) = false := by simpa [Array.getD, hi] using h
 unfold left
 rw [Array.toList_setIfInBounds, List.count_set (by simpa using hi), hv]
 have : 0 < lst.toList.count false := List.count_pos_iff.2 (hv ▸ List.getElem_mem _)
 rw [if_pos (by rfl), if_neg (by decide)]; omega
theorem xCm {lst : Array Bool} (h : left lst = 0) (i : Nat) : lst.getD i true = true := by
 cases hv : lst.getD i true
 ·have := xEh hv; omega
 ·rfl
theorem xBh {lst : Array Bool} {i : Nat} (hi : i < lst.size) : lst.getD i true = lst.getD i false := by simp [Array.getD, hi]
end Go.Vg
end
section
namespace Go.Vg
open Go
theorem Rvs.refine {E : Env} : ∀ {xs : List SV} {vs : List Value} (i : Nat) {x : SV}, Rvs E xs vs -> Rv E x (vs.getD i undef) -> Rvs E (Vg.st xs i x) vs
 | [], [], i, x, .nil, _ => .nil
 | _ :: _, _ :: _, 0, x, .cons _ _ _ _ _ h, hv => .cons _ _ _ _ (by simpa using hv) h
 | _ :: _, _ :: _, i + 1, x, .cons _ _ _ _ h0 h, hv => .cons _ _ _ _ h0 (h.refine i (by simpa using hv))
theorem xKs {E : Env} {ops : Array Oper} {op : Oper} {o : Opr} {s : St} {a : Act} {run skip : St -> Prop} (hg : GRel ops op o) (hr : Rep E s a) (hev : gd s run skip o.g) :
  (Region.wanted op (yielded ops a.tmps) = true /\ ∃ s', Rep E s' a /\ run s') \/ (Region.wanted op (yielded ops a.tmps) = false /\ ∃ s', Rep E s' a /\ skip s') := by
 rcases hg with ⟨h1, h2⟩ | ⟨j, want, d, h1, h2, h3⟩
 ·rw [h2] at hev
  exact .inl ⟨by simp [Region.wanted, h1], s, hr, hev⟩
 ·rw [h3] at hev
  have hy := xKr (tmps := a.tmps) h2
  have hx := hr.fr.gt d
  simp only [Region.wanted, h1]
  simp only [gd, gdK] at hev
  have same : ∀ b, a.tmps.toList.getD d undef = .bool b -> Rep E ⟨st s.fr d (.lit (.bool b)), s.hp⟩ a := fun b hb =>
   ⟨hr.fr.refine d (by rw [hb]; exact .lit _), hr.hp, hr.df⟩
  split at hev
  ·rename_i hgt
   rw [hgt] at hx; rw [hx.litE] at hy; rw [hy]
   cases want with
   | true => exact .inl ⟨rfl, s, hr, hev⟩
   | false => exact .inr ⟨rfl, s, hr, hev⟩
  ·rename_i hgt
   rw [hgt] at hx; rw [hx.litE] at hy; rw [hy]
   cases want with
   | true => exact .inr ⟨rfl, s, hr, hev⟩
   | false => exact .inl ⟨rfl, s, hr, hev⟩
  ·rename_i hgt
   rw [hgt] at hx; rw [hx.litE] at hy; rw [hy]
   exact .inr ⟨rfl, s, hr, hev⟩
  ·rename_i b hgt
   rw [hgt] at hx
   have hx := hx.boolE
   rw [hx] at hy; rw [hy]
   cases want <;> cases b
   ·exact .inl ⟨rfl, _, same false hx, hev.1 rfl⟩
   ·exact .inr ⟨rfl, _, same true hx, hev.2 rfl⟩
   ·exact .inr ⟨rfl, _, same false hx, hev.2 rfl⟩
   ·exact .inl ⟨rfl, _, same true hx, hev.1 rfl⟩
  ·exact hev.elim
section
variable {P : Program} {Γ : Gm} {Γq : Nat -> Option FC} (hΓ : GmOk P Γ) (hG : ∀ f C, Γ f = some C -> Known P f)
 (hΓq : ∀ f F, Γq f = some F -> FcOk P f F) (hGq : ∀ f F, Γq f = some F -> Known P f)
include hΓ hG in
theorem xIp {ro : Option Nat} {n : Nat} {ops : Array Oper} {Q : Exit -> Act -> World -> Prop} {i : Nat} {op : Oper} {o : Opr} (hi : ops[i]? = some op) (hc : c1w P op = some o.o) (hd : o.d = op.dst) (hg : GRel ops op o)
  {E : Env} {s : St} {a : Act} (hr : Rep E s a) {tl : List Opr} {k : St -> Prop} (hev : evops Γ k (o :: tl) s) {K : Act -> World -> Prop}
  (hK : ∀ E' s' v, E.Le E' -> Rep E' s' (a.put op.dst v) -> evops Γ k tl s' -> K (a.put op.dst v) E'.w) : wpOpIn (fen ro) n P ops Q i K a E.w := by
 unfold wpOpIn
 simp only [hi]
 simp only [evops] at hev
 rcases xKs hg hr hev with ⟨hw, s', hr', hrun⟩ | ⟨hw, s', hr', hskip⟩
 ·rw [if_pos hw]
  refine ⟨fun _ _ => trivial, ?_⟩
  rw [Oper.semAt_eq _ _ _ (c1w_nodefer hc)]
  refine xCs hΓ hG hc hr' hrun fun E' hp' x v hle hh hx hk => ?_
  refine hK E' _ v hle (hr'.put hle hh hx op.dst) (by rw [<- hd]; exact hk)
 ·rw [if_neg (by simp [hw])]
  exact ⟨fun _ _ => trivial, hK E _ undef (.refl E) (hr'.put (.refl E) hr'.hp (.lit undef) op.dst) (by rw [<- hd]; exact hskip)⟩
abbrev LS (lst : Array Bool) : Nat -> Bool := fun j => lst.getD j false
theorem xAd {ops : Array Oper} {lst : Array Bool} (hsz : lst.size = ops.size) (hs : Shut ops (LS lst)) {i : Nat} (hi : i ∈ Region.ready .any ops lst) :
  i < ops.size /\ LS lst i = false /\ (∀ j, ((masks ops.toList []).getD i 0).testBit j = true -> LS lst j = true) /\ Shut ops (LS (lst.setIfInBounds i true)) /\
   (∀ j, LS (lst.setIfInBounds i true) j = (j == i || LS lst j)) /\ left (lst.setIfInBounds i true) + 1 = left lst := by
 obtain ⟨h1, op, h2, h3⟩ := mem_ready.1 hi
 have hlt : i < ops.size := (Array.getElem?_eq_some_iff.1 h2).1
 have hL : LS lst i = false := by rw [LS, <- xBh (by omega)]; exact h1
 have hset : ∀ j, LS (lst.setIfInBounds i true) j = (j == i || LS lst j) := by
  intro j
  by_cases hj : j = i
  ·subst hj; simp [LS, Array.getD_eq_getD_getElem?, Array.getElem?_setIfInBounds, hsz, hlt]
  ·simp [LS, Array.getD_eq_getD_getElem?, Array.getElem?_setIfInBounds, Ne.symm hj, hj]
 refine ⟨hlt, hL, fun j hj => xBx hs i op h2 h3 j hj, ?_, hset, xEh h1⟩
 intro k o ho hk e he hb
 rw [hset] at hk ⊢
 rw [Bool.or_eq_true] at hk ⊢
 rcases hk with hk | hk
 ·have : k = i := by simpa using hk
  subst this
  rw [h2] at ho; cases ho
  exact .inr (h3 e he hb)
 ·exact .inr (hs k o ho hk e he hb)
include hΓ hG in
theorem xKt {ro : Option Nat} {n : Nat} {ops : Array Oper} {Q : Exit -> Act -> World -> Prop} {lo : List Opr} {h : Nat} (hc : cops P ops ops.toList = some lo) (he : edgesOk ops.toList = true)
  (hm : ∀ i, h <= i -> i < ops.size -> ∀ j, j < i -> ((masks ops.toList []).getD i 0).testBit j = true) {k0 : St -> Prop} (E0 : Env) :
  ∀ (fuel : Nat) (lst : Array Bool) (k : Nat) (E : Env) (s : St) (a : Act), left lst <= fuel -> lst.size = ops.size -> Shut ops (LS lst) -> (∀ j, j < ops.size -> (LS lst j = true ↔ j < h + k)) -> E0.Le E -> Rep E s a ->
   evops Γ k0 (lo.drop (h + k)) s -> (∀ E' s' a', E0.Le E' -> Rep E' s' a' -> k0 s' -> Q .normal a' E'.w) -> wpAnyIn (fen ro) n P .any ops Q fuel lst a E.w := by
 intro fuel
 induction fuel with
 | zero =>
  intro lst k E s a hleft hsz hs hk h0 hr hev hq'
  have hall : ∀ j, j < ops.size -> j < h + k := fun j hj => (hk j hj).1 (by have := xCm (by omega) (lst := lst) j; rw [xBh (by omega)] at this; exact this)
  have hdrop : lo.drop (h + k) = [] := List.drop_eq_nil_of_le (by
   rw [xAw hc]
   rcases Nat.lt_or_ge (h + k) ops.toList.length with h1 | h1
   ·have := hall (h + k) (by simpa using h1); omega
   ·exact h1)
  rw [hdrop] at hev
  refine ⟨?_, hq' E s a h0 hr hev⟩
  apply List.eq_nil_iff_forall_not_mem.2
  intro i hi
  obtain ⟨h1, h2, _⟩ := xAd hsz hs hi
  have := (hk i h1).2 (hall i h1)
  rw [h2] at this; cases this
 | succ fuel ih =>
  intro lst k E s a hleft hsz hs hk h0 hr hev hq'
  have hone : ∀ i, i ∈ Region.ready .any ops lst -> i = h + k := by
   intro i hi
   obtain ⟨h1, h2, h3, _⟩ := xAd hsz hs hi
   have h4 : ¬ i < h + k := fun hlt => by have := (hk i h1).2 hlt; rw [h2] at this; cases this
   rcases Nat.lt_or_ge (h + k) i with h5 | h5
   ·have h6 := h3 (h + k) (hm i (by omega) h1 (h + k) h5)
    have := (hk (h + k) (by omega)).1 h6
    omega
   ·omega
  constructor
  ·intro hnil
   have hge : ops.size <= h + k := by
    rcases Nat.lt_or_ge (h + k) ops.size with h1 | h1
    ·have h2 : LS lst (h + k) = false := by
      cases hv : LS lst (h + k)
      ·rfl
      ·have := (hk _ h1).1 hv; omega
     obtain ⟨j, _, hj⟩ := xAk hsz he (h + k) h1 (by rw [xBh (by omega)]; exact h2)
     rw [hnil] at hj; cases hj
    ·exact h1
   have hdrop : lo.drop (h + k) = [] := List.drop_eq_nil_of_le (by rw [xAw hc]; simpa using hge)
   rw [hdrop] at hev
   exact hq' E s a h0 hr hev
  ·intro i hi
   have hik := hone i hi
   obtain ⟨h1, h2, h3, h4, h5, h6⟩ := xAd hsz hs hi
   have hop : ops.toList[i]? = some ops[i] := by simp [h1]
   obtain ⟨o, ho, hco, hod, hog⟩ := xCw hc i ops[i] hop
   have hdrop : lo.drop (h + k) = o :: lo.drop (h + (k + 1)) := by
    have hlt : i < lo.length := (List.getElem?_eq_some_iff.1 ho).1
    have h7 : lo[i] = o := (List.getElem?_eq_some_iff.1 ho).2
    rw [<- hik, List.drop_eq_getElem_cons hlt, h7, <- Nat.add_assoc, <- hik]
   rw [hdrop] at hev
   refine xIp hΓ hG (by simp [h1]) hco hod hog hr hev fun E' s' v hle hr' hev' => ?_
   refine ih _ (k + 1) E' s' _ (by omega) (by simpa using hsz) h4 (fun j hj => ?_) (h0.trans hle) hr' hev' hq'
   rw [h5, Bool.or_eq_true]
   constructor
   ·rintro (hj' | hj')
    ·have : j = i := by simpa using hj'
     omega
    ·have := (hk j hj).1 hj'; omega
   ·intro hj'
    by_cases hji : j = i
    ·left; simpa using hji
    ·right; exact (hk j hj).2 (by omega)
theorem xEi {ms : List Nat} {n : Nat} {f : (Nat -> Bool) -> DT} {L : Nat -> Bool} {k : St -> Prop} {s : St} {o : Opr} {i : Nat} (hr : rdy ms n L i = true) : ∀ {l : List (Opr × Nat)}, (o, i) ∈ l -> exT Γ k (ordS ms n f L l) s ->
  evops Γ (exT Γ k (f fun j => j == i || L j)) [o] s
 | [], hm, _ => by cases hm
 | (o', i') :: t, hm, h => by
  rw [ordS] at h
  cases hm with
  | head => rw [if_pos hr] at h; exact h.1
  | tail _ hm =>
   split at h
   ·exact xEi hr hm h.2
   ·exact xEi hr hm h
theorem xJu {lst : Array Bool} (h : 0 < left lst) : ∃ i, i < lst.size /\ lst.getD i true = false := by
 unfold left at h
 obtain ⟨i, hi, he⟩ := List.getElem_of_mem (List.count_pos_iff.1 h)
 have hi' : i < lst.size := by simpa using hi
 exact ⟨i, hi', by simpa [Array.getD, hi'] using he⟩
include hΓ hG in
theorem xPq {ro : Option Nat} {n : Nat} {ops : Array Oper} {Q : Exit -> Act -> World -> Prop} {lo : List Opr} (hc : cops P ops ops.toList = some lo) (he : edgesOk ops.toList = true) {k0 : St -> Prop} (E0 : Env) :
  ∀ (fuel k : Nat) (lst : Array Bool) (E : Env) (s : St) (a : Act), left lst = k -> k <= fuel -> lst.size = ops.size -> Shut ops (LS lst) -> E0.Le E -> Rep E s a ->
   exT Γ k0 (ordT (masks ops.toList []) lo k (LS lst)) s -> (∀ E' s' a', E0.Le E' -> Rep E' s' a' -> k0 s' -> Q .normal a' E'.w) -> wpAnyIn (fen ro) n P .any ops Q fuel lst a E.w := by
 intro fuel
 induction fuel with
 | zero =>
  intro k lst E s a hk hf hsz hs h0 hr hev hq'
  have : k = 0 := by omega
  subst this
  refine ⟨?_, hq' E s a h0 hr hev⟩
  apply List.eq_nil_iff_forall_not_mem.2
  intro i hi
  obtain ⟨h1, h2, h3, h4, h5, h6⟩ := xAd hsz hs hi
  omega
 | succ fuel ih =>
  intro k lst E s a hk hf hsz hs h0 hr hev hq'
  cases k with
  | zero =>
   refine ⟨fun _ => hq' E s a h0 hr hev, fun i hi => ?_⟩
   obtain ⟨h1, h2, h3, h4, h5, h6⟩ := xAd hsz hs hi
   omega
  | succ k =>
   constructor
   ·intro hnil
    obtain ⟨i, h1, h2⟩ := xJu (lst := lst) (by omega)
    obtain ⟨j, _, hj⟩ := xAk hsz he i (by omega) h2
    rw [hnil] at hj; cases hj
   ·intro i hi
    obtain ⟨h1, h2, h3, h4, h5, h6⟩ := xAd hsz hs hi
    have hop : ops.toList[i]? = some ops[i] := by simp [h1]
    obtain ⟨o, ho, hco, hod, hog⟩ := xCw hc i ops[i] hop
    have hrd : rdy (masks ops.toList []) lo.length (LS lst) i = true := by
     unfold rdy
     rw [h2, Bool.not_false, Bool.true_and, List.all_eq_true]
     intro j _
     cases hb : ((masks ops.toList []).getD i 0).testBit j
     ·rfl
     ·rw [h3 j hb]; rfl
    rw [ordT] at hev
    have hst := xEi hrd (List.mem_zipIdx_iff_getElem?.2 (by simpa using ho)) hev
    have hL : (fun j => j == i || LS lst j) = LS (lst.setIfInBounds i true) := funext fun j => (h5 j).symm
    rw [hL] at hst
    refine xIp hΓ hG (by simp [h1]) hco hod hog hr hst fun E' s' v hle hr' hev' => ?_
    exact ih k _ E' s' _ (by omega) (by omega) (by simpa using hsz) h4 (h0.trans hle) hr' hev' hq'
theorem xMd {ms : List Nat} {lo : List Opr} {h : Nat} {c : Option Nat} (hd : drawOk ms lo h c = true) :
  (∀ i, h <= i -> i < lo.length -> ∀ j, j < i -> (ms.getD i 0).testBit j = true) /\
  (∀ i j o o' d, lo[i]? = some o -> lo[j]? = some o' -> i < h -> j < h -> i ≠ j -> o'.d = some d -> (o.d = some d \/ d ∈ usesR o) ->
   (some j ≠ c) /\ (some i = c -> j < i /\ (ms.getD i 0).testBit j = true /\ o.d ≠ some d) /\ (some i ≠ c -> if j < i then (ms.getD i 0).testBit j = true else (ms.getD j 0).testBit i = true)) /\
  (∀ k, c = some k -> ∃ o, lo[k]? = some o /\ o.g = none) := by
 unfold drawOk at hd
 simp only [Bool.and_eq_true, List.all_eq_true] at hd
 obtain ⟨⟨⟨_, h1⟩, h2⟩, h3⟩ := hd
 refine ⟨fun i hi hlt j hj => ?_, fun i j o o' d ho ho' hi hj hne hd' hu => ?_, fun k hk => ?_⟩
 ·have := h1 (lo[i], i) (by rw [List.mem_zipIdx_iff_getElem?]; simp [hlt])
  simp only [Bool.or_eq_true, Bool.not_eq_true', decide_eq_false_iff_not, List.all_eq_true, List.mem_range] at this
  rcases this with h | h
  ·omega
  ·exact h j hj
 ·have := h2 (o, i) (by rw [List.mem_zipIdx_iff_getElem?]; simpa using ho)
  simp only [Bool.or_eq_true, decide_eq_true_eq, List.all_eq_true] at this
  rcases this with h | h
  ·omega
  ·have := h (o', j) (by rw [List.mem_zipIdx_iff_getElem?]; simpa using ho')
   simp only [hd', Bool.or_eq_true, decide_eq_true_eq, beq_iff_eq] at this
   rcases this with (h | h) | h
   ·omega
   ·exact absurd h hne
   ·rw [if_pos (by
     rcases hu with hu | hu
     ·exact .inl hu.symm
     ·exact .inr (by simpa using hu))] at h
    by_cases hjc : some j = c
    ·rw [if_pos hjc] at h
     have h := beq_iff_eq.1 h
     rw [<- hjc, Option.some.injEq] at h
     exact absurd h hne
    ·rw [if_neg hjc] at h
     refine ⟨hjc, fun hic => ?_, fun hic => ?_⟩
     ·rw [if_pos hic] at h
      simp only [Bool.and_eq_true, decide_eq_true_eq, Bool.not_eq_true', beq_eq_false_iff_ne] at h
      exact ⟨h.1.1, h.1.2, fun e => h.2 e.symm⟩
     ·rw [if_neg hic] at h
      split at h <;> split <;> first | exact h | omega
 ·subst hk
  simp only at h3
  split at h3
  ·rename_i o ho; exact ⟨o, ho, by simpa using h3⟩
  ·cases h3
theorem xIq (lo : List Opr) (p : Opr × Nat -> Bool) : ((lo.zipIdx.filter p).map (·.2)).Pairwise (· < ·) := by
 have h : (lo.zipIdx.map (·.2)).Pairwise (· < ·) := by
  rw [List.zipIdx_map_snd]; exact List.pairwise_lt_range'
 exact h.sublist ((List.filter_sublist).map _)
include hΓ hG in
theorem tre_ok {N : Nat} {ro : Option Nat} {n : Nat} {id : Nat} {ops : Array Oper} {sc : SC} (hsc : ctre P ops = some sc) {K : Exit -> St -> Prop} {s : St} {E : Env} {a : Act} {Q : Exit -> Act -> World -> Prop} (hr : Rep E s a) (hev : exec N Γ Γq sc K s)
    (hq : ∀ e E' s' a', E.Le E' -> Rep E' s' a' -> K e s' -> Q e a' E'.w) : (Code.region id ops true).wpIn (fen ro) n P Q a E.w := by
  unfold ctre at hsc
  split at hsc
  . cases hsc
  rename_i lo hc
  split at hsc
  . rename_i hok
    simp only [Bool.and_eq_true] at hok
    obtain ⟨⟨hm, he⟩, _⟩ := hok
    cases hsc
    simp only [exec] at hev
    refine wpIn_region_any hm ?_
    have hE1 : E.Le (E.to { E.w with drawn := E.w.drawn + 1 }) := Env.to_le fun b hb => rfl
    have hr1 : RHp (E.to { E.w with drawn := E.w.drawn + 1 }) s.hp :=
      ⟨⟨hr.hp.g.fr, hr.hp.g.fz, hr.hp.g.sz, hr.hp.g.os, hr.hp.g.tape, hr.hp.g.output, hr.hp.g.imb, hr.hp.g.im0⟩,
       ⟨hr.hp.b.n, hr.hp.b.rs, fun l b hb => (hr.hp.b.blk l b hb).keep hE1 (hr.hp.has hb) (fun g _ => rfl), hr.hp.b.live, hr.hp.b.imx, hr.hp.b.base, hr.hp.b.dj⟩⟩
    have h0 : left (Array.replicate ops.size false) = ops.size := by
      unfold left; rw [Array.toList_replicate]; simp
    have hLf : LS (Array.replicate ops.size false) = fun _ => false := by
      funext j
      simp only [LS, Array.getD_eq_getD_getElem?, Array.getElem?_replicate]
      split <;> rfl
    have hlen : lo.length = ops.size := by rw [xAw hc]; simp
    refine xPq hΓ hG hc he E ops.size ops.size (Array.replicate ops.size false) (E.to _) s a h0 (Nat.le_refl _) (by simp) ?_ hE1 ⟨hr.fr.mono hE1, hr1, by rw [hr.df]; rfl⟩ (by rw [hLf, <- hlen]; exact hev) (fun E' s' a' => hq _ E' s' a')
    intro k o _ hk; rw [hLf] at hk; cases hk
  . cases hsc
include hΓ hG hΓq hGq in
theorem xNh {N : Nat} {ro : Option Nat} {n : Nat} {id : Nat} {ops : Array Oper} {sc : SC} (hsc : cdraw P ops = some sc) {K : Exit -> St -> Prop} {s : St} {E : Env} {a : Act} {Q : Exit -> Act -> World -> Prop} (hr : Rep E s a) (hev : exec N Γ Γq sc K s)
    (hq : ∀ e E' s' a', E.Le E' -> Rep E' s' a' -> K e s' -> Q e a' E'.w) : (Code.region id ops true).wpIn (fen ro) n P Q a E.w := by
  unfold cdraw at hsc
  split at hsc
  . cases hsc
  rename_i lo hc
  simp only at hsc
  split at hsc
  . rename_i hok
    generalize hcc : ((lo.zipIdx.filter fun (o, i) => decide (i < headLen (masks ops.toList [])) && o.creates).head?).map (·.2) = c at hsc hok
    generalize hh : headLen (masks ops.toList []) = h at hsc hok hcc
    simp only [Bool.and_eq_true] at hok
    obtain ⟨⟨hm, he⟩, hd⟩ := hok
    cases hsc
    obtain ⟨hd1, hd2, hd3⟩ := xMd hd
    simp only [exec] at hev
    obtain ⟨l, hdat, hk⟩ := xGy hev
    have hmap := xNe hdat
    have hmem : ∀ i o x, (i, o, x) ∈ l -> lo[i]? = some o /\ i < h /\ some i ≠ c := by
      intro i o x hm
      have h1 : (i, o) ∈ l.map (fun x => (x.1, x.2.1)) := List.mem_map.2 ⟨_, hm, rfl⟩
      rw [hmap] at h1
      simp only [List.map_map, List.mem_map, List.mem_filter, Function.comp] at h1
      obtain ⟨⟨o', i'⟩, ⟨h2, h3⟩, h4⟩ := h1
      simp only [Prod.mk.injEq] at h4
      obtain ⟨rfl, rfl⟩ := h4
      simp only [Bool.and_eq_true, decide_eq_true_eq, Bool.not_eq_true', beq_eq_false_iff_ne] at h3
      exact ⟨by simpa using List.mem_zipIdx_iff_getElem?.1 h2, h3.1, h3.2⟩
    have hhave : ∀ i o, lo[i]? = some o -> i < h -> some i ≠ c -> ∃ x, (i, o, x) ∈ l := by
      intro i o ho hi hic
      have h1 : (i, o) ∈ l.map (fun x => (x.1, x.2.1)) := by
        rw [hmap]
        simp only [List.map_map, List.mem_map, List.mem_filter, Function.comp]
        exact ⟨(o, i), ⟨List.mem_zipIdx_iff_getElem?.2 (by simpa using ho), by simp [hi, hic]⟩, rfl⟩
      obtain ⟨⟨i', o', x⟩, h2, h3⟩ := List.mem_map.1 h1
      simp only [Prod.mk.injEq] at h3
      obtain ⟨rfl, rfl⟩ := h3
      exact ⟨x, h2⟩
    have hsorted : (l.map (·.1)).Pairwise (· < ·) := by
      have h1 : l.map (·.1) = (l.map (fun x => (x.1, x.2.1))).map (·.1) := by rw [List.map_map]; rfl
      rw [h1, hmap]
      have := xIq lo (fun x => decide (x.2 < h) && !(some x.2 == c))
      rw [List.map_map, List.map_map]
      exact this
    have main : ∀ (l' : List (Nat × Opr × SV)) (HP : (Nat -> Bool) -> List Blk) (hF : List Blk), Diff l' -> (∀ i o x, (i, o, x) ∈ l' -> lo[i]? = some o /\ i < h) -> (∀ i o, lo[i]? = some o -> i < h -> ∃ x, (i, o, x) ∈ l') ->
        (∀ L, (∀ i, i < h -> i < ops.size -> L i = true) -> HP L = hF) ->
        (∀ l1 l2 i o x, l' = l1 ++ (i, o, x) :: l2 -> (∀ j o' x', (j, o', x') ∈ l1 -> (some i = c \/ j < i) /\ some j ≠ c) /\ (∀ j o' x', (j, o', x') ∈ l2 -> i < j \/ some j = c) /\ (some i = c -> l2 = [])) ->
        (∀ l1 l2 i o x (lst : Array Bool) (E1 : Env) (a1 : Act) (op : Oper) (fuel : Nat), l' = l1 ++ (i, o, x) :: l2 -> ops[i]? = some op -> c1w P op = some o.o -> o.d = op.dst -> GRel ops op o -> LS lst i = false ->
          Rvs E1 (mix (LS lst) l' s.fr) a1.tmps.toList -> RHp E1 (HP (LS lst)) -> a1.defers = E1.df -> (∀ t, t ∈ usesR o -> gt (mix (LS lst) l' s.fr) t = gt (mix (fun _ => true) l1 s.fr) t) ->
          ∀ (K' : Act -> World -> Prop), (∀ E' v, E1.Le E' -> RHp E' (HP (fun j => j == i || LS lst j)) -> Rv E' x v -> K' (a1.put op.dst v) E'.w) -> wpOpIn (fen ro) n P ops Q i K' a1 E1.w) ->
        HP (fun _ => false) = s.hp -> evops Γ (K .normal) (lo.drop h) ⟨mix (fun _ => true) l' s.fr, hF⟩ -> (Code.region id ops true).wpIn (fen ro) n P Q a E.w := by
      intro l' HP hF hdiff hin hhv hfin hord hstep hHP0 hfinal
      refine wpIn_region_any hm ?_
      have hE1 : E.Le (E.to { E.w with drawn := E.w.drawn + 1 }) := Env.to_le fun b hb => rfl
      have hr1 : RHp (E.to { E.w with drawn := E.w.drawn + 1 }) s.hp :=
        ⟨⟨hr.hp.g.fr, hr.hp.g.fz, hr.hp.g.sz, hr.hp.g.os, hr.hp.g.tape, hr.hp.g.output, hr.hp.g.imb, hr.hp.g.im0⟩,
         ⟨hr.hp.b.n, hr.hp.b.rs, fun l b hb => (hr.hp.b.blk l b hb).keep hE1 (hr.hp.has hb) (fun g _ => rfl), hr.hp.b.live, hr.hp.b.imx, hr.hp.b.base, hr.hp.b.dj⟩⟩
      have key : ∀ (fuel : Nat) (lst : Array Bool) (E1 : Env) (a1 : Act), left lst <= fuel -> lst.size = ops.size -> Shut ops (LS lst) -> E.Le E1 -> a1.defers = E1.df -> Rvs E1 (mix (LS lst) l' s.fr) a1.tmps.toList -> RHp E1 (HP (LS lst)) ->
          (∀ j, h <= j -> LS lst j = false) -> wpAnyIn (fen ro) n P .any ops Q fuel lst a1 E1.w := by
        intro fuel
        induction fuel with
        | zero =>
          intro lst E1 a1 hleft hsz hs hle hdf hF1 hr1 hno
          have hall : ∀ i, i < ops.size -> LS lst i = true := fun i hi => by rw [LS, <- xBh (by omega)]; exact xCm (by omega) i
          have hmx : mix (LS lst) l' s.fr = mix (fun _ => true) l' s.fr := by
            have := xAz (p := LS lst) l' [] s.fr (fun i o x hm => hall i (by
              obtain ⟨h1, _⟩ := hin i o x hm
              have := (List.getElem?_eq_some_iff.1 h1).1
              rw [xAw hc] at this; simpa using this)) (fun i o x hm => by cases hm)
            simpa using this
          have hHPF := hfin (LS lst) (fun i _ hi => hall i hi)
          rw [hmx] at hF1; rw [hHPF] at hr1
          exact xKt hΓ hG hc he (fun i hi hlt j hj => hd1 i hi (by rw [xAw hc]; simpa using hlt) j hj) E 0 lst 0 E1 ⟨_, hF⟩ a1 hleft hsz hs
            (fun j hj => ⟨fun hj' => (by
              rcases Nat.lt_or_ge j h with h1 | h1
              . simpa using h1
              . have := hno j h1; rw [hj'] at this; cases this), fun _ => hall j hj⟩) hle ⟨hF1, hr1, hdf⟩ (by simpa using hfinal) (fun E' s' a' => hq _ E' s' a')
        | succ fuel ih =>
          intro lst E1 a1 hleft hsz hs hle hdf hF1 hr1 hno
          by_cases hall : ∀ i, i < h -> i < ops.size -> LS lst i = true
          . have hmx : mix (LS lst) l' s.fr = mix (fun _ => true) l' s.fr := by
              have := xAz (p := LS lst) l' [] s.fr (fun i o x hm => by
                obtain ⟨h1, h2⟩ := hin i o x hm
                refine hall i h2 ?_
                have := (List.getElem?_eq_some_iff.1 h1).1
                rw [xAw hc] at this; simpa using this) (fun i o x hm => by cases hm)
              simpa using this
            have hHPF := hfin (LS lst) hall
            rw [hmx] at hF1; rw [hHPF] at hr1
            exact xKt hΓ hG hc he (fun i hi hlt j hj => hd1 i hi (by rw [xAw hc]; simpa using hlt) j hj) E (fuel + 1) lst 0 E1 ⟨_, hF⟩ a1 hleft hsz hs
              (fun j hj => ⟨fun hj' => (by
                rcases Nat.lt_or_ge j h with h1 | h1
                . simpa using h1
                . have := hno j h1; rw [hj'] at this; cases this), fun hj' => hall j (by simpa using hj') hj⟩) hle ⟨hF1, hr1, hdf⟩ (by simpa using hfinal) (fun E' s' a' => hq _ E' s' a')
          . have hex : ∃ i, i < h /\ i < ops.size /\ LS lst i = false := by
              apply Classical.byContradiction
              intro hc'
              refine hall fun i h1 h2 => ?_
              cases hv : LS lst i
              . exact absurd ⟨i, h1, h2, hv⟩ hc'
              . rfl
            constructor
            . intro hnil
              obtain ⟨i, h1, h2, h3⟩ := hex
              obtain ⟨j, _, hj⟩ := xAk hsz he i h2 (by rw [xBh (by omega)]; exact h3)
              rw [hnil] at hj; cases hj
            . intro i hi
              obtain ⟨h1, h2, h3, h4, h5, h6⟩ := xAd hsz hs hi
              have hih : i < h := by
                rcases Nat.lt_or_ge i h with h7 | h7
                . exact h7
                . obtain ⟨i', h8, h9, h10⟩ := hex
                  have := h3 i' (hd1 i h7 (by rw [xAw hc]; simpa using h1) i' (by omega))
                  rw [h10] at this; cases this
              obtain ⟨o, ho, hco, hod, hog⟩ := xCw hc i ops[i] (by simp [h1])
              obtain ⟨x, hx⟩ := hhv i o ho hih
              obtain ⟨l1, l2, hl⟩ := List.append_of_mem hx
              obtain ⟨o1, o2, o3⟩ := hord l1 l2 i o x hl
              have in1 : ∀ j o' x', (j, o', x') ∈ l1 -> lo[j]? = some o' /\ j < h := fun j o' x' hm => hin j o' x' (by rw [hl]; exact List.mem_append_left _ hm)
              have in2 : ∀ j o' x', (j, o', x') ∈ l2 -> lo[j]? = some o' /\ j < h := fun j o' x' hm => hin j o' x' (by rw [hl]; exact List.mem_append_right _ (List.mem_cons_of_mem _ hm))
              obtain ⟨df1, df2, _⟩ := (hl ▸ hdiff : Diff (l1 ++ (i, o, x) :: l2)).split
              have w1 : ∀ t, (o.d = some t \/ t ∈ usesR o) -> (some i = c -> o.d ≠ some t) -> ∀ j o' x', (j, o', x') ∈ l1 -> o'.d = some t -> LS lst j = true := by
                intro t ht hct j o' x' hm hd'
                obtain ⟨ho', hj⟩ := in1 j o' x' hm
                obtain ⟨e1, e2, e3⟩ := hd2 i j o o' t ho ho' hih hj (Ne.symm (df1 j o' x' hm)) hd' ht
                by_cases hic : some i = c
                . exact h3 j (e2 hic).2.1
                . have := e3 hic
                  rcases (o1 j o' x' hm).1 with h7 | h7
                  . exact absurd h7 hic
                  . rw [if_pos h7] at this; exact h3 j this
              have w2 : ∀ t, (o.d = some t \/ t ∈ usesR o) -> ∀ j o' x', (j, o', x') ∈ l2 -> o'.d = some t -> LS lst j = false := by
                intro t ht j o' x' hm hd'
                obtain ⟨ho', hj⟩ := in2 j o' x' hm
                obtain ⟨e1, e2, e3⟩ := hd2 i j o o' t ho ho' hih hj (Ne.symm (df2 j o' x' hm)) hd' ht
                have hic : some i ≠ c := fun hic => by have := o3 hic; subst this; cases hm
                have := e3 hic
                rcases o2 j o' x' hm with h7 | h7
                . rw [if_neg (by omega)] at this
                  cases hv : LS lst j
                  . rfl
                  . have hjs : j < ops.size := by
                      have := (List.getElem?_eq_some_iff.1 ho').1
                      rw [xAw hc] at this; simpa using this
                    have := xBx hs j ops[j] (by simp [hjs]) (hs j ops[j] (by simp [hjs]) hv) i this
                    rw [h2] at this; cases this
                . exact absurd h7 e1
              have hview : ∀ t, t ∈ usesR o -> gt (mix (LS lst) l' s.fr) t = gt (mix (fun _ => true) l1 s.fr) t := by
                intro t ht
                by_cases hcd : some i = c /\ o.d = some t
                . -- its own slot, if it lays a block: nothing else writes it
                  refine xJt hl hdiff h2 (fun j o' x' hm hd' => ?_) (fun j o' x' hm hd' => w2 t (.inr ht) j o' x' hm hd')
                  obtain ⟨ho', hj⟩ := in1 j o' x' hm
                  obtain ⟨e1, e2, e3⟩ := hd2 i j o o' t ho ho' hih hj (Ne.symm (df1 j o' x' hm)) hd' (.inr ht)
                  exact h3 j (e2 hcd.1).2.1
                . exact xJt hl hdiff h2 (fun j o' x' hm hd' => w1 t (.inr ht) (fun hic e => hcd ⟨hic, e⟩) j o' x' hm hd') (fun j o' x' hm hd' => w2 t (.inr ht) j o' x' hm hd')
              refine hstep l1 l2 i o x lst E1 a1 ops[i] fuel hl (by simp [h1]) hco hod hog h2 hF1 hr1 hdf hview _ fun E' v hle' hrr hxv => ?_
              have hL : (fun j => j == i || LS lst j) = LS (lst.setIfInBounds i true) := funext fun j => (h5 j).symm
              refine ih _ E' _ (by omega) (by simpa using hsz) h4 (hle.trans hle') (by rw [xAm, hdf, hle'.df]) ?_ (by rw [<- hL]; exact hrr) (fun j hj => by
                rw [h5, hno j hj, Bool.or_false]; simp; omega)
              rw [<- hL, <- hod]
              exact xFx hl hdiff h2 (fun t j o' x' hm hd' hd'' => w2 t (.inl hd') j o' x' hm hd'') (hF1.mono hle') hxv
      have h0 : left (Array.replicate ops.size false) <= ops.size := by
        unfold left; rw [Array.toList_replicate]; simp
      have hLf : LS (Array.replicate ops.size false) = fun _ => false := by
        funext j
        simp only [LS, Array.getD_eq_getD_getElem?, Array.getElem?_replicate]
        split <;> rfl
      refine key ops.size _ (E.to _) a h0 (by simp) ?_ hE1 (by rw [hr.df]; rfl) ?_ (by rw [hLf, hHP0]; exact hr1) (fun j _ => by rw [hLf])
      . intro k o _ hk; rw [hLf] at hk; cases hk
      . rw [hLf]
        have := xAz (p := fun _ => false) [] l' s.fr (fun _ _ _ hm => by cases hm) (fun _ _ _ _ => rfl)
        simp only [List.nil_append, mix] at this
        rw [this]
        exact hr.fr.mono hE1
    have hdl : Diff l := by
      unfold Diff
      exact hsorted.imp (fun h => Nat.ne_of_lt h)
    have hsp : ∀ {l1 l2 : List (Nat × Opr × SV)} {i o x}, l = l1 ++ (i, o, x) :: l2 -> (∀ j o' x', (j, o', x') ∈ l1 -> j < i) /\ (∀ j o' x', (j, o', x') ∈ l2 -> i < j) := by
      intro l1 l2 i o x hl
      rw [hl, List.map_append, List.map_cons, List.pairwise_append, List.pairwise_cons] at hsorted
      obtain ⟨_, ⟨h2, _⟩, h3⟩ := hsorted
      exact ⟨fun j o' x' hm => h3 j (List.mem_map.2 ⟨_, hm, rfl⟩) i (List.mem_cons_self ..), fun j o' x' hm => h2 j (List.mem_map.2 ⟨_, hm, rfl⟩)⟩
    cases hcv : c with
    | none =>
      simp only [hcv, Option.bind_none, tlK] at hk
      refine main l (fun _ => s.hp) s.hp hdl (fun i o x hm => ⟨(hmem i o x hm).1, (hmem i o x hm).2.1⟩) (fun i o ho hi => hhave i o ho hi (by rw [hcv]; simp)) (fun _ _ => rfl) ?_ ?_ rfl hk
      . intro l1 l2 i o x hl
        obtain ⟨s1, s2⟩ := hsp hl
        exact ⟨fun j o' x' hm => ⟨.inr (s1 j o' x' hm), by rw [hcv]; simp⟩, fun j o' x' hm => .inl (s2 j o' x' hm), fun hic => by rw [hcv] at hic; cases hic⟩
      . intro l1 l2 i o x lst E1 a1 op fuel hl hop hco hod hog hLi hF1 hr1 hdf hview K' hK'
        have hst := xJr hdat hl
        exact xIo hΓq hGq hop hco hod hog (.inl rfl) hF1 hr1 hdf hst hview (by rw [xBg, xBg]) hK'
    | some k =>
      subst hcv
      obtain ⟨oc, hoc, hocg⟩ := hd3 k rfl
      simp only [Option.bind_some, hoc, tlK] at hk
      unfold evc creK at hk
      split at hk
      . rename_i xc bc hcr
        have hkh : k < h := by
          cases hh' : (lo.zipIdx.filter fun (o, i) => decide (i < h) && o.creates).head? with
          | none => rw [hh'] at hcc; cases hcc
          | some oi =>
            rw [hh'] at hcc
            have h1 := List.mem_of_head? hh'
            rw [List.mem_filter] at h1
            simp only [Option.map_some, Option.some.injEq] at hcc
            have := h1.2
            simp only [Bool.and_eq_true, decide_eq_true_eq] at this
            omega
        have hkl : ∀ o x, (k, o, x) ∉ l := fun o x hm => (hmem k o x hm).2.2 rfl
        have hmixc : ∀ L fr, mix L (l ++ [(k, oc, xc)]) fr = if L k then putf (mix L l fr) oc.d xc else mix L l fr := by
          intro L fr
          have : ∀ (l : List (Nat × Opr × SV)) fr, mix L (l ++ [(k, oc, xc)]) fr = if L k then putf (mix L l fr) oc.d xc else mix L l fr := by
            intro l
            induction l with
            | nil => intro fr; rfl
            | cons y l ih => intro fr; obtain ⟨i, o, x⟩ := y; simp only [List.cons_append, mix, ih]
          exact this l fr
        have hsp' : ∀ {l1 l2 : List (Nat × Opr × SV)} {i o x}, l ++ [(k, oc, xc)] = l1 ++ (i, o, x) :: l2 -> (i = k /\ o = oc /\ x = xc /\ l1 = l /\ l2 = []) \/ (∃ l2', l2 = l2' ++ [(k, oc, xc)] /\ l = l1 ++ (i, o, x) :: l2') := by
          intro l1 l2 i o x hl
          rcases List.eq_nil_or_concat l2 with rfl | ⟨l2', y, rfl⟩
          . have := List.append_inj' hl rfl
            obtain ⟨h1, h2⟩ := this
            simp only [List.cons.injEq, Prod.mk.injEq, and_true] at h2
            exact .inl ⟨h2.1.symm, h2.2.1.symm, h2.2.2.symm, h1.symm, rfl⟩
          . rw [List.concat_eq_append, <- List.cons_append, <- List.append_assoc] at hl
            obtain ⟨h1, h2⟩ := List.append_inj' hl rfl
            simp only [List.cons.injEq, and_true] at h2
            exact .inr ⟨l2', by rw [List.concat_eq_append, h2], h1⟩
        refine main (l ++ [(k, oc, xc)]) (fun L => if L k then pb s.hp bc else s.hp) (pb s.hp bc) ?_ ?_ ?_ ?_ ?_ ?_ rfl ?_
        . unfold Diff at hdl ⊢
          rw [List.map_append, List.nodup_append]
          refine ⟨hdl, by simp, fun a ha b hb => ?_⟩
          simp at hb; subst hb
          obtain ⟨⟨i, o, x⟩, h1, rfl⟩ := List.mem_map.1 ha
          intro e; simp only at e; subst e; exact hkl o x h1
        . intro i o x hm
          rcases List.mem_append.1 hm with hm | hm
          . exact ⟨(hmem i o x hm).1, (hmem i o x hm).2.1⟩
          . simp only [List.mem_singleton, Prod.mk.injEq] at hm; obtain ⟨rfl, rfl, rfl⟩ := hm; exact ⟨hoc, hkh⟩
        . intro i o ho hi
          by_cases hik : i = k
          . subst hik; rw [hoc] at ho; cases ho; exact ⟨xc, by simp⟩
          . obtain ⟨x, hx⟩ := hhave i o ho hi (by simpa using hik); exact ⟨x, List.mem_append_left _ hx⟩
        . intro L hL
          rw [if_pos (hL k hkh (by
            have := (List.getElem?_eq_some_iff.1 hoc).1
            rw [xAw hc] at this; simpa using this))]
        . intro l1 l2 i o x hl
          rcases hsp' hl with ⟨rfl, rfl, rfl, rfl, rfl⟩ | ⟨l2', rfl, hl'⟩
          . exact ⟨fun j o' x' hm => ⟨.inl rfl, (hmem j o' x' hm).2.2⟩, fun j o' x' hm => (by cases hm), fun _ => rfl⟩
          . obtain ⟨s1, s2⟩ := hsp hl'
            have hil := hmem i o x (by rw [hl']; simp)
            refine ⟨fun j o' x' hm => ⟨.inr (s1 j o' x' hm), (hmem j o' x' (by rw [hl']; exact List.mem_append_left _ hm)).2.2⟩, fun j o' x' hm => ?_, fun hic => absurd hic hil.2.2⟩
            rcases List.mem_append.1 hm with hm | hm
            . exact .inl (s2 j o' x' hm)
            . simp only [List.mem_singleton, Prod.mk.injEq] at hm; exact .inr (by rw [hm.1])
        . intro l1 l2 i o x lst E1 a1 op fuel hl hop hco hod hog hLi hF1 hr1 hdf hview K' hK'
          rcases hsp' hl with ⟨rfl, rfl, rfl, rfl, rfl⟩ | ⟨l2', rfl, hl'⟩
          . simp only [hLi] at hr1
            refine xPp hΓq hGq hop hco hog hocg hF1 hr1 hdf (b := bc) hcr hview fun E' v hle' hrr hxv => hK' E' v hle' ?_ hxv
            simpa using hrr
          . have hst := xJr hdat hl'
            have hik : i ≠ k := fun e => hkl o x (by rw [<- e, hl']; simp)
            refine xIo hΓq hGq hop hco hod hog (by
              cases LS lst k
              . exact .inl rfl
              . exact .inr ⟨bc, rfl⟩) hF1 hr1 hdf hst hview (by rw [xBg, xBg]) fun E' v hle' hrr hxv => hK' E' v hle' ?_ hxv
            have : ((k == i) || LS lst k) = LS lst k := by
              have : (k == i) = false := by simpa using Ne.symm hik
              rw [this, Bool.false_or]
            simp only [this]; exact hrr
        . rw [hmixc]; exact hk
      . exact hk.elim
  . cases hsc
end
end Go.Vg
end
section
namespace Go.Vg
open Go
abbrev nq : Nat -> Option FC := fun _ => none
def Dt (hp : List Blk) : List (Nat × Opr × SV) -> List SV -> List SV -> Prop
 | [], fr, fr' => fr' = fr
 | (i, o, x) :: t, fr, fr' => (∃ p, evq nq fr hp o.o = some (p, x) /\ p) /\ Dt hp t (putf fr o.d x) fr'
theorem xKu {hp : List Blk} : ∀ {A B : List (Nat × Opr × SV)} {fr fr' : List SV}, Dt hp (A ++ B) fr fr' ↔ ∃ fr1, Dt hp A fr fr1 /\ Dt hp B fr1 fr'
 | [], B, fr, fr' => by simp [Dt]
 | (i, o, x) :: A, B, fr, fr' => by
  simp only [List.cons_append, Dt, xKu (A := A)]
  constructor
  ·rintro ⟨h, fr1, h1, h2⟩; exact ⟨fr1, ⟨h, h1⟩, h2⟩
  ·rintro ⟨fr1, ⟨h, h1⟩, h2⟩; exact ⟨h, fr1, h1, h2⟩
theorem xBq {fr : List SV} {d : Option Nat} {x : SV} {t : Nat} (h : d ≠ some t) : gt (putf fr d x) t = gt fr t := by
 rw [xBs, if_neg (fun h' => h h'.1)]
theorem xRb : ∀ {a b : List SV}, a.length = b.length -> (∀ t, t < a.length -> gt a t = gt b t) -> a = b
 | [], [], _, _ => rfl
 | [], _ :: _, h, _ => by simp at h
 | _ :: _, [], h, _ => by simp at h
 | x :: a, y :: b, h, hg => by
  have h0 := hg 0 (by simp)
  simp only [gt] at h0
  rw [h0, xRb (a := a) (b := b) (by simpa using h) (fun t ht => by have := hg (t + 1) (by simp; omega); simpa [gt] using this)]
theorem xNi {fr : List SV} {d d' : Option Nat} {x y : SV} (h : ∀ t, d = some t -> d' ≠ some t) : putf (putf fr d x) d' y = putf (putf fr d' y) d x := by
 refine xRb (by simp [xCd]) fun t _ => ?_
 by_cases h1 : d = some t
 ·have h2 := h t h1
  rw [xBq h2, xBs, xBs, xCd]
  rw [xBq h2]
 ·rw [xBq (d := d) (fr := putf fr d' y) h1, xBs, xBs (fr := fr) (d := d'), xCd, xBq (fr := fr) h1]
theorem xNj {hp hp' : List Blk} {d : Option Nat} {x : SV} : ∀ {A : List (Nat × Opr × SV)} {fr fr' : List SV}, (∀ y ∈ A, silK y.2.1.o = true /\ (∀ t, d = some t -> t ∉ uses1 y.2.1.o /\ y.2.1.d ≠ some t) /\ (rdK y.2.1.o = true -> hp' = hp \/ ∃ b, hp' = pb hp b)) ->
  Dt hp A fr fr' -> Dt hp' A (putf fr d x) (putf fr' d x)
 | [], fr, fr', _, h => by simp only [Dt] at h ⊢; rw [h]
 | (i, o, y) :: A, fr, fr', hA, h => by
  obtain ⟨⟨p, h1, h2⟩, h3⟩ := h
  obtain ⟨a1, a2, a3⟩ := hA _ (List.mem_cons_self ..)
  refine ⟨⟨p, ?_, h2⟩, ?_⟩
  ·have e1 : evq nq (putf fr d x) hp o.o = some (p, y) := by
    rw [<- h1]
    exact xEw fun t ht => xBq fun e => (a2 t e).1 ht
   cases hr : rdK o.o with
   | true =>
    rcases a3 hr with rfl | ⟨b, rfl⟩
    ·exact e1
    ·exact xRa e1
   | false =>
    rw [<- e1]
    obtain ⟨od, og, oo⟩ := o
    simp only at a1 hr ⊢
    cases oo <;> first | (simp [silK] at a1; done) | rfl | skip
    rename_i vo
    cases vo <;> first | (simp [rdK] at hr; done) | rfl
  ·rw [xNi fun t e => (a2 t e).2]
   exact xNj (fun z hz => hA z (List.mem_cons_of_mem _ hz)) h3
theorem xRz {hp : List Blk} {t : Nat} : ∀ {A : List (Nat × Opr × SV)} {fr fr' : List SV}, (∀ y ∈ A, y.2.1.d ≠ some t) -> Dt hp A fr fr' -> gt fr' t = gt fr t
 | [], fr, fr', _, h => by simp only [Dt] at h; rw [h]
 | (i, o, y) :: A, fr, fr', hA, h => by
  obtain ⟨_, h3⟩ := h
  rw [xRz (fun z hz => hA z (List.mem_cons_of_mem _ hz)) h3]
  exact xBq (hA _ (List.mem_cons_self ..))
def OkA (ms : List Nat) (lo : List Opr) : (Nat -> Bool) -> List (Nat × Opr × SV) -> Prop
 | _, [] => True
 | L, (i, o, _) :: t => lo[i]? = some o /\ sil ms lo i = true /\ L i = false /\ (∀ j, j < lo.length -> (ms.getD i 0).testBit j = true -> L j = true) /\ OkA ms lo (fun j => j == i || L j) t
def adL : (Nat -> Bool) -> List (Nat × Opr × SV) -> Nat -> Bool
 | L, [] => L
 | L, (i, _, _) :: t => adL (fun j => j == i || L j) t
theorem xDb : ∀ {A : List (Nat × Opr × SV)} {L : Nat -> Bool} {j : Nat}, adL L A j = (A.any (fun y => j == y.1) || L j)
 | [], L, j => by simp [adL]
 | (i, o, x) :: A, L, j => by
  rw [adL, xDb (A := A)]
  simp only [List.any_cons]
  cases A.any (fun y => j == y.1) <;> cases (j == i) <;> rfl
theorem xNk : ∀ {A B : List (Nat × Opr × SV)} {L : Nat -> Bool}, adL L (A ++ B) = adL (adL L A) B
 | [], B, L => rfl
 | (i, o, x) :: A, B, L => by simp only [List.cons_append, adL, xNk (A := A)]
section
variable {ms : List Nat} {lo : List Opr}
theorem xGz : ∀ {A B : List (Nat × Opr × SV)} {L : Nat -> Bool}, OkA ms lo L (A ++ B) ↔ OkA ms lo L A /\ OkA ms lo (adL L A) B
 | [], B, L => by simp [OkA, adL]
 | (i, o, x) :: A, B, L => by
  simp only [List.cons_append, OkA, adL, xGz (A := A)]
  constructor
  ·rintro ⟨h1, h2, h3, h4, h5, h6⟩; exact ⟨⟨h1, h2, h3, h4, h5⟩, h6⟩
  ·rintro ⟨⟨h1, h2, h3, h4, h5⟩, h6⟩; exact ⟨h1, h2, h3, h4, h5, h6⟩
theorem xJv {j : Nat} : ∀ {A : List (Nat × Opr × SV)} {L : Nat -> Bool}, (∀ y ∈ A, y.1 ≠ j) -> OkA ms lo L A -> OkA ms lo (fun t => t == j || L t) A
 | [], L, _, _ => trivial
 | (i, o, x) :: A, L, hA, h => by
  obtain ⟨h1, h2, h3, h4, h5⟩ := h
  have hij : i ≠ j := hA _ (List.mem_cons_self ..)
  refine ⟨h1, h2, ?_, fun t hl ht => ?_, ?_⟩
  ·simp only [h3, Bool.or_false]; simpa using hij
  ·simp only [h4 t hl ht, Bool.or_true]
  ·have := xJv (j := j) (fun y hy => hA y (List.mem_cons_of_mem _ hy)) h5
   have e : (fun t => t == i || (t == j || L t)) = (fun t => t == j || (t == i || L t)) := by
    funext t; cases (t == i) <;> cases (t == j) <;> rfl
   rw [e]; exact this
theorem xNl {A : List (Nat × Opr × SV)} {L : Nat -> Bool} : OkA ms lo L A -> ∀ y ∈ A, L y.1 = false := by
 induction A generalizing L with
 | nil => intro _ y hy; cases hy
 | cons z A ih =>
  obtain ⟨i, o, x⟩ := z
  rintro ⟨h1, h2, h3, h4, h5⟩ y hy
  cases hy with
  | head => exact h3
  | tail _ hy => have := ih h5 y hy; simp only [Bool.or_eq_false_iff] at this; exact this.2
theorem xNm {A : List (Nat × Opr × SV)} {L : Nat -> Bool} : OkA ms lo L A -> ∀ y ∈ A, lo[y.1]? = some y.2.1 /\ sil ms lo y.1 = true := by
 induction A generalizing L with
 | nil => intro _ y hy; cases hy
 | cons z A ih =>
  obtain ⟨i, o, x⟩ := z
  rintro ⟨h1, h2, h3, h4, h5⟩ y hy
  cases hy with
  | head => exact ⟨h1, h2⟩
  | tail _ hy => exact ih h5 y hy
theorem xKv {A : List (Nat × Opr × SV)} {L : Nat -> Bool} {j : Nat} (hl : j < lo.length) : OkA ms lo L A -> L j = false -> (∀ y ∈ A, y.1 ≠ j) -> ∀ y ∈ A, (ms.getD y.1 0).testBit j = false := by
 induction A generalizing L with
 | nil => intro _ _ _ y hy; cases hy
 | cons z A ih =>
  obtain ⟨i, o, x⟩ := z
  rintro ⟨h1, h2, h3, h4, h5⟩ hj hA y hy
  cases hy with
  | head =>
   cases hb : (ms.getD i 0).testBit j with
   | false => rfl
   | true => have := h4 j hl hb; rw [hj] at this; cases this
  | tail _ hy =>
   have hij : i ≠ j := hA _ (List.mem_cons_self ..)
   exact ih h5 (by simp only [hj, Bool.or_false]; simpa using Ne.symm hij) (fun y hy => hA y (List.mem_cons_of_mem _ hy)) y hy
theorem xHa {i : Nat} {o : Opr} (ho : lo[i]? = some o) (h : sil ms lo i = true) : silK o.o = true /\ ∀ j o', lo[j]? = some o' -> i ≠ j -> (ms.getD i 0).testBit j = false -> (ms.getD j 0).testBit i = false -> cmt o o' = true := by
 unfold sil at h
 rw [ho] at h
 simp only [Bool.and_eq_true, List.all_eq_true] at h
 refine ⟨h.1, fun j o' ho' hne h1 h2 => ?_⟩
 have := h.2 (o', j) (by rw [List.mem_zipIdx_iff_getElem?]; simpa using ho')
 simp only [uno, h1, h2, Bool.not_false, Bool.and_self, Bool.not_true, Bool.or_false, Bool.or_eq_true, beq_iff_eq] at this
 exact this.resolve_left hne
theorem xEz {o o' : Opr} (h : cmt o o' = true) : (∀ t, o.d = some t -> o'.d ≠ some t /\ t ∉ uses1 o'.o) /\ (∀ t, o'.d = some t -> t ∉ uses1 o.o /\ o.d ≠ some t) /\ (rdK o.o = true -> mildK o'.o = true) := by
 unfold cmt at h
 simp only [Bool.and_eq_true, Bool.or_eq_true, Bool.not_eq_true'] at h
 obtain ⟨⟨h1, h2⟩, h3⟩ := h
 have k1 : ∀ t, o.d = some t -> o'.d ≠ some t /\ t ∉ uses1 o'.o := by
  intro t e
  rw [e] at h1
  simp only [Bool.and_eq_true, Bool.not_eq_true', beq_eq_false_iff_ne, ne_eq, List.contains_eq_mem, decide_eq_false_iff_not] at h1
  exact ⟨fun e' => h1.1 e'.symm, h1.2⟩
 refine ⟨k1, fun t e => ⟨?_, fun e' => (k1 t e').1 e⟩, fun hr => h3.resolve_left (by rw [hr]; simp)⟩
 rw [e] at h2
 simpa using h2
end
theorem xNn {Γ : Gm} {fr fr' : List SV} {hp : List Blk} {k : SV -> List Blk -> Prop} {o : Op1} (h : ∀ t, t ∈ uses1 o -> gt fr t = gt fr' t) : evh Γ ⟨fr, hp⟩ k o = evh Γ ⟨fr', hp⟩ k o := by
 have bc : ∀ o : Option X, (∀ t, t ∈ usesO o -> gt fr t = gt fr' t) -> bnd fr o = bnd fr' o := by
  intro o ho
  cases o with
  | none => rfl
  | some o => simp only [bnd, X.congr (x := o) ho]
 cases o <;> simp only [uses1, List.mem_append] at h
 case v vo => simp only [evh, xIm h]
 case new => rfl
 case emp => rfl
 case nck x => simp only [evh, X.congr h]
 case box t x => simp only [evh, X.congr h]
 case bsl e len z ps => simp only [evh, xAv h]
 case bld z ps => simp only [evh, xAv h]
 case store sz x v => simp only [evh, X.congr (x := x) (fun t ht => h t (.inl ht)), X.congr (x := v) (fun t ht => h t (.inr ht))]
 case app e sz b x v => simp only [evh, X.congr (x := x) (fun t ht => h t (.inl ht)), X.congr (x := v) (fun t ht => h t (.inr ht))]
 case call f xs => simp only [evh, X.congr (x := f) (fun t ht => h t (.inl ht)), xAe (xs := xs) (fun t ht => h t (.inr ht))]
 case inv mt f xs => simp only [evh, X.congr (x := f) (fun t ht => h t (.inl ht)), xAe (xs := xs) (fun t ht => h t (.inr ht))]
 case mki a b x v => simp only [evh, X.congr (x := x) (fun t ht => h t (.inl ht)), X.congr (x := v) (fun t ht => h t (.inr ht))]
 case slc x lo hi mx sz => simp only [evh, X.congr (x := x) (fun t ht => h t (.inl ht)), bc lo (fun t ht => h t (.inr (.inl ht))), bc hi (fun t ht => h t (.inr (.inr (.inl ht)))), bc mx (fun t ht => h t (.inr (.inr (.inr ht))))]
theorem xPr {Γ : Gm} {s : St} {k : SV -> List Blk -> Prop} {o : Op1} (hm : mildK o = true) (h : evh Γ s k o) : evh Γ s (fun x hp' => k x hp' /\ (hp' = s.hp \/ ∃ b, hp' = pb s.hp b)) o := by
 cases o <;> first | (simp [mildK] at hm; done) | skip
 case v vo =>
  simp only [evh] at h ⊢
  unfold vK at h ⊢
  split at h
  ·exact ⟨h.1, h.2, .inl rfl⟩
  ·cases h
 case new t z => exact ⟨h, .inr ⟨_, rfl⟩⟩
 case box t x =>
  simp only [evh] at h ⊢
  unfold boxK at h ⊢
  split at h
  ·exact ⟨h, .inr ⟨_, rfl⟩⟩
  ·cases h
 case bsl e len z ps =>
  simp only [evh] at h ⊢
  unfold bslK at h ⊢
  split at h
  ·exact ⟨h, .inr ⟨_, rfl⟩⟩
  ·cases h
 case bld z ps =>
  simp only [evh] at h ⊢
  unfold bldK at h ⊢
  split at h
  ·exact ⟨h, .inl rfl⟩
  ·cases h
theorem xSa {Γ : Gm} {fr : List SV} {hp : List Blk} {k : SV -> List Blk -> Prop} {o : Op1} (hm : silK o = true) (h : evh Γ ⟨fr, hp⟩ k o) : ∃ p x, evq nq fr hp o = some (p, x) /\ p /\ k x hp := by
 cases o <;> first | (simp [silK] at hm; done) | skip
 case v vo =>
  simp only [evh] at h
  unfold vK at h
  split at h
  ·rename_i p x e; exact ⟨p, x, e, h.1, h.2⟩
  ·cases h
 case bld z ps =>
  simp only [evh] at h
  unfold bldK at h
  split at h
  ·rename_i cs e; exact ⟨True, _, by simp only [evq, e], trivial, h⟩
  ·cases h
theorem xSb {Γ : Gm} {fr : List SV} {hp : List Blk} {k : SV -> List Blk -> Prop} {o : Op1} {p : Prop} {x : SV} (hm : silK o = true) (e : evq nq fr hp o = some (p, x)) (hp1 : p) (hk : k x hp) : evh Γ ⟨fr, hp⟩ k o := by
 cases o <;> first | (simp [silK] at hm; done) | skip
 case v vo => simp only [evq] at e; simp only [evh, vK, e]; exact ⟨hp1, hk⟩
 case bld z ps =>
  simp only [evq] at e
  split at e
  ·rename_i cs h1; cases e; simp only [evh, bldK, h1]; exact hk
  ·cases e
section
variable {P : Program} {Γ : Gm} (hΓ : GmOk P Γ) (hG : ∀ f C, Γ f = some C -> Known P f)
include hΓ hG in
theorem xHb {ro : Option Nat} {n : Nat} {ops : Array Oper} {Q : Exit -> Act -> World -> Prop} {i : Nat} {op : Oper} {o : Opr} (hi : ops[i]? = some op) (hc : c1w P op = some o.o) (hd : o.d = op.dst) (hg : GRel ops op o) (hng : o.g = none)
  {E : Env} {s : St} {a : Act} (hr : Rep E s a) {k : SV -> List Blk -> Prop} (hev : evh Γ s k o.o) {K : Act -> World -> Prop}
  (hK : ∀ E' x hp' v, E.Le E' -> Rep E' ⟨putf s.fr o.d x, hp'⟩ (a.put op.dst v) -> k x hp' -> K (a.put op.dst v) E'.w) : wpOpIn (fen ro) n P ops Q i K a E.w := by
 unfold wpOpIn
 simp only [hi]
 have hgd : gd s (fun s' => s' = s) (fun _ => False) o.g := by rw [hng]; rfl
 rcases xKs hg hr hgd with ⟨hw, s', hr', hrun⟩ | ⟨hw, s', hr', hskip⟩
 ·subst hrun
  rw [if_pos hw]
  refine ⟨fun _ _ => trivial, ?_⟩
  rw [Oper.semAt_eq _ _ _ (c1w_nodefer hc)]
  refine xCs hΓ hG hc hr hev fun E' hp' x v hle hh hx hk => ?_
  exact hK E' x hp' v hle (by rw [hd]; exact hr.put hle hh hx op.dst) hk
 ·cases hskip
theorem xKw {lst : Array Bool} {j : Nat} (hj : j < lst.size) : LS (lst.setIfInBounds j true) = fun t => t == j || LS lst t := by
 funext t
 by_cases ht : t = j
 ·subst ht; simp [LS, Array.getD_eq_getD_getElem?, Array.getElem?_setIfInBounds, hj]
 ·simp [LS, Array.getD_eq_getD_getElem?, Array.getElem?_setIfInBounds, Ne.symm ht, ht]
theorem cntA {ms : List Nat} {lo : List Opr} {i : Nat} : ∀ {A : List (Nat × Opr × SV)} {lst : Array Bool}, lst.size = lo.length -> i < lst.size -> LS lst i = false -> (∀ y ∈ A, y.1 ≠ i) -> OkA ms lo (LS lst) A -> A.length + 1 <= left lst
 | [], lst, hs, hi, hL, _, _ => by
  have := xEh (lst := lst) (i := i) (by rw [xBh hi]; exact hL)
  simp; omega
 | (j, o, x) :: A, lst, hs, hi, hL, hA, h => by
  obtain ⟨h1, h2, h3, h4, h5⟩ := h
  have hj : j < lst.size := by rw [hs]; exact (List.getElem?_eq_some_iff.1 h1).1
  have hij : j ≠ i := hA _ (List.mem_cons_self ..)
  have e := xEh (lst := lst) (i := j) (by rw [xBh hj]; exact h3)
  rw [<- xKw hj] at h5
  have := cntA (A := A) (lst := lst.setIfInBounds j true) (by simpa using hs) (by simpa using hi) (by
   rw [xKw hj]; simp only [hL, Bool.or_false]; simpa using Ne.symm hij) (fun y hy => hA y (List.mem_cons_of_mem _ hy)) h5
  simp only [List.length_cons]; omega
include hΓ hG in
theorem xSc {ro : Option Nat} {n : Nat} {ops : Array Oper} {Q : Exit -> Act -> World -> Prop} {lo : List Opr} (hc : cops P ops ops.toList = some lo) (he : edgesOk ops.toList = true) (hgs : ∀ o ∈ lo, o.g = none) {k0 : St -> Prop} (E0 : Env) :
  ∀ (fuel k : Nat) (lst : Array Bool) (A : List (Nat × Opr × SV)) (E : Env) (s : St) (a : Act) (fr' : List SV), left lst = k + A.length -> left lst <= fuel -> lst.size = ops.size -> Shut ops (LS lst) -> OkA (masks ops.toList []) lo (LS lst) A -> E0.Le E -> Rep E s a ->
   Dt s.hp A s.fr fr' -> exT Γ k0 (cutT (masks ops.toList []) lo k (adL (LS lst) A)) ⟨fr', s.hp⟩ -> (∀ E' s' a', E0.Le E' -> Rep E' s' a' -> k0 s' -> Q .normal a' E'.w) -> wpAnyIn (fen ro) n P .any ops Q fuel lst a E.w := by
 have hlen : lo.length = ops.size := by rw [xAw hc]; simp
 intro fuel
 induction fuel with
 | zero =>
  intro k lst A E s a fr' hk hf hsz hs hA h0 hr hd hev hq'
  have : k = 0 := by omega
  subst this
  have hA0 : A = [] := by cases A with
   | nil => rfl
   | cons _ _ => simp at hk; omega
  subst hA0
  simp only [Dt] at hd
  subst hd
  refine ⟨?_, hq' E s a h0 hr hev⟩
  apply List.eq_nil_iff_forall_not_mem.2
  intro i hi
  obtain ⟨h1, h2, h3, h4, h5, h6⟩ := xAd hsz hs hi
  omega
 | succ fuel ih =>
  have inA : ∀ (k : Nat) (lst : Array Bool) (A : List (Nat × Opr × SV)) (E : Env) (s : St) (a : Act) (fr' : List SV), left lst = k + A.length -> left lst <= fuel + 1 -> lst.size = ops.size -> Shut ops (LS lst) -> OkA (masks ops.toList []) lo (LS lst) A -> E0.Le E -> Rep E s a ->
    Dt s.hp A s.fr fr' -> exT Γ k0 (cutT (masks ops.toList []) lo k (adL (LS lst) A)) ⟨fr', s.hp⟩ -> (∀ E' s' a', E0.Le E' -> Rep E' s' a' -> k0 s' -> Q .normal a' E'.w) ->
    ∀ i, i ∈ Region.ready .any ops lst -> (∃ y ∈ A, y.1 = i) -> wpOpIn (fen ro) n P ops Q i (fun a' w' => wpAnyIn (fen ro) n P .any ops Q fuel (lst.setIfInBounds i true) a' w') a E.w := by
   intro k lst A E s a fr' hk hf hsz hs hA h0 hr hd hev hq' i hi hy
   obtain ⟨⟨i', o, x⟩, hy1, rfl⟩ := hy
   simp only at hi ⊢
   obtain ⟨A1, A2, rfl⟩ := List.append_of_mem hy1
   obtain ⟨h1, h2, h3, h4, h5, h6⟩ := xAd hsz hs hi
   obtain ⟨hA1, g1, g2, g3, g4, g5⟩ := xGz.1 hA
   obtain ⟨o', ho, hco, hod, hog⟩ := xCw hc i' ops[i'] (by simp [h1])
   rw [g1] at ho; cases ho
   obtain ⟨fr1, d1, ⟨p, d2, d3⟩, d4⟩ := xKu.1 hd
   rw [xDb, Bool.or_eq_false_iff] at g3
   have hn1 : ∀ y ∈ A1, y.1 ≠ i' := fun y hy e => by
    have := List.any_eq_false.1 g3.1 y hy
    simp [e] at this
   have hsil := (xHa g1 g2).1
   have hcm : ∀ y ∈ A1, silK y.2.1.o = true /\ cmt y.2.1 o = true := fun y hy => by
    obtain ⟨e1, e2⟩ := xNm hA1 y hy
    obtain ⟨e3, e4⟩ := xHa e1 e2
    refine ⟨e3, e4 i' o g1 (hn1 y hy) (xKv (by rw [hlen]; exact h1) hA1 h2 hn1 y hy) ?_⟩
    cases hb : ((masks ops.toList []).getD i' 0).testBit y.1 with
    | false => rfl
    | true => have := h3 _ hb; rw [xNl hA1 y hy] at this; cases this
   have hev1 : evq nq s.fr s.hp o.o = some (p, x) := by
    rw [<- d2]
    exact xEw fun t ht => (xRz (fun y hy e => ((xEz (hcm y hy).2).1 t e).2 ht) d1).symm
   refine xHb hΓ hG (by simp [h1]) hco hod hog (hgs o (List.mem_of_getElem? g1)) hr (xSb (k := fun x' hp' => x' = x /\ hp' = s.hp) hsil hev1 d3 ⟨rfl, rfl⟩) fun E' x' hp' v hle hr' hk' => ?_
   obtain ⟨rfl, rfl⟩ := hk'
   have hLS := xKw (lst := lst) (j := i') (by rw [hsz]; exact h1)
   refine ih k _ (A1 ++ A2) E' _ _ fr' ?_ (by omega) (by simpa using hsz) h4 ?_ (h0.trans hle) hr' ?_ ?_ hq'
   ·simp only [List.length_append, List.length_cons] at hk ⊢; omega
   ·rw [hLS]
    refine xGz.2 ⟨xJv hn1 hA1, ?_⟩
    have e : adL (fun t => t == i' || LS lst t) A1 = fun j => j == i' || adL (LS lst) A1 j := by
     funext j
     rw [xDb, xDb]
     cases A1.any (fun y => j == y.1) <;> cases (j == i') <;> rfl
    rw [e]; exact g5
   ·exact xKu.2 ⟨_, xNj (fun y hy => ⟨(hcm y hy).1, (xEz (hcm y hy).2).2.1, fun _ => .inl rfl⟩) d1, d4⟩
   ·have e : adL (LS (lst.setIfInBounds i' true)) (A1 ++ A2) = adL (LS lst) (A1 ++ (i', o, x') :: A2) := by
     funext j
     rw [xDb, xDb, hLS]
     simp only [List.any_append, List.any_cons]
     cases A1.any (fun y => j == y.1) <;> cases A2.any (fun y => j == y.1) <;> cases (j == i') <;> rfl
    rw [e]; exact hev
  intro k
  induction k with
  | zero =>
   intro lst A E s a fr' hk hf hsz hs hA h0 hr hd hev hq'
   constructor
   ·intro hnil
    cases A with
    | nil => simp only [Dt] at hd; subst hd; exact hq' E s a h0 hr hev
    | cons y A =>
     obtain ⟨i, h1, h2⟩ := xJu (lst := lst) (by simp at hk; omega)
     obtain ⟨j, _, hj⟩ := xAk hsz he i (by omega) h2
     rw [hnil] at hj; cases hj
   ·intro i hi
    obtain ⟨h1, h2, h3, h4, h5, h6⟩ := xAd hsz hs hi
    by_cases hy : ∃ y ∈ A, y.1 = i
    ·exact inA 0 lst A E s a fr' hk hf hsz hs hA h0 hr hd hev hq' i hi hy
    ·have := cntA (i := i) (by rw [hsz, hlen]) (by rw [hsz]; exact h1) h2 (fun y hy' e => hy ⟨y, hy', e⟩) hA
     omega
  | succ k ihk =>
   intro lst A E s a fr' hk hf hsz hs hA h0 hr hd hev hq'
   rw [cutT] at hev
   cases hfs : fstS (masks ops.toList []) lo (adL (LS lst) A) with
   | some oi =>
    obtain ⟨o, i⟩ := oi
    rw [hfs] at hev
    have hp1 := List.find?_some hfs
    have hm1 := List.mem_zipIdx_iff_getElem?.1 (List.mem_of_find?_eq_some hfs)
    simp only [Bool.and_eq_true] at hp1
    obtain ⟨hrd, hsl⟩ := hp1
    have ho : lo[i]? = some o := by simpa using hm1
    have hng := hgs o (List.mem_of_getElem? ho)
    have hev1 := hev.1
    obtain ⟨od, og, oo⟩ := o
    simp only at hng
    subst hng
    simp only [evops, gd, runK] at hev1
    obtain ⟨p, x, e1, e2, e3⟩ := xSa (xHa ho hsl).1 hev1
    unfold rdy at hrd
    simp only [Bool.and_eq_true, Bool.not_eq_true', List.all_eq_true, List.mem_range, Bool.or_eq_true] at hrd
    refine ihk lst (A ++ [(i, ⟨od, none, oo⟩, x)]) E s a (putf fr' od x) (by simp only [List.length_append, List.length_cons, List.length_nil]; omega) hf hsz hs (xGz.2 ⟨hA, ho, hsl, hrd.1, fun j hj hb => ?_, trivial⟩) h0 hr (xKu.2 ⟨fr', hd, (show Dt s.hp [(i, ⟨od, none, oo⟩, x)] fr' (putf fr' od x) from ⟨⟨p, e1, e2⟩, rfl⟩)⟩) ?_ hq'
    ·rcases hrd.2 j hj with h | h
     ·rw [hb] at h; cases h
     ·exact h
    ·rw [xNk]; exact e3
   | none =>
    rw [hfs] at hev
    constructor
    ·intro hnil
     obtain ⟨i, h1, h2⟩ := xJu (lst := lst) (by omega)
     obtain ⟨j, _, hj⟩ := xAk hsz he i (by omega) h2
     rw [hnil] at hj; cases hj
    ·intro i hi
     by_cases hy : ∃ y ∈ A, y.1 = i
     ·exact inA (k + 1) lst A E s a fr' hk hf hsz hs hA h0 hr hd (by rw [cutT, hfs]; exact hev) hq' i hi hy
     obtain ⟨h1, h2, h3, h4, h5, h6⟩ := xAd hsz hs hi
     obtain ⟨o, ho, hco, hod, hog⟩ := xCw hc i ops[i] (by simp [h1])
     have hnA : ∀ y ∈ A, y.1 ≠ i := fun y hy' e => hy ⟨y, hy', e⟩
     have hrd : rdy (masks ops.toList []) lo.length (adL (LS lst) A) i = true := by
      unfold rdy
      rw [xDb, h2, Bool.or_false]
      have : A.any (fun y => i == y.1) = false := List.any_eq_false.2 fun y hy' => by simpa using Ne.symm (hnA y hy')
      rw [this, Bool.not_false, Bool.true_and, List.all_eq_true]
      intro j _
      cases hb : ((masks ops.toList []).getD i 0).testBit j
      ·rfl
      ·rw [xDb, h3 j hb]; simp
     have hst := xEi hrd (List.mem_zipIdx_iff_getElem?.2 (by simpa using ho)) hev
     have hng := hgs o (List.mem_of_getElem? ho)
     have hcm : ∀ y ∈ A, silK y.2.1.o = true /\ cmt y.2.1 o = true := fun y hy' => by
      obtain ⟨e1, e2⟩ := xNm hA y hy'
      obtain ⟨e3, e4⟩ := xHa e1 e2
      refine ⟨e3, e4 i o ho (hnA y hy') (xKv (by rw [hlen]; exact h1) hA h2 hnA y hy') ?_⟩
      cases hb : ((masks ops.toList []).getD i 0).testBit y.1 with
      | false => rfl
      | true => have := h3 _ hb; rw [xNl hA y hy'] at this; cases this
     have hst2 : evh Γ ⟨fr', s.hp⟩ (fun x hp' => exT Γ k0 (cutT (masks ops.toList []) lo k fun j => j == i || adL (LS lst) A j) ⟨putf fr' o.d x, hp'⟩) o.o := by
      obtain ⟨od, og, oo⟩ := o
      simp only at hng
      subst hng
      simp only [evops, gd, runK] at hst
      exact hst
     rw [xNn (fr' := s.fr) (fun t ht => xRz (fun y hy' e => ((xEz (hcm y hy').2).1 t e).2 ht) hd)] at hst2
     have hLS := xKw (lst := lst) (j := i) (by rw [hsz]; exact h1)
     have fin : ∀ E' x hp' v, E.Le E' -> Rep E' ⟨putf s.fr o.d x, hp'⟩ (a.put ops[i].dst v) -> exT Γ k0 (cutT (masks ops.toList []) lo k fun j => j == i || adL (LS lst) A j) ⟨putf fr' o.d x, hp'⟩ ->
       ((∃ y ∈ A, rdK y.2.1.o = true) -> hp' = s.hp \/ ∃ b, hp' = pb s.hp b) -> wpAnyIn (fen ro) n P .any ops Q fuel (lst.setIfInBounds i true) (a.put ops[i].dst v) E'.w := by
      intro E' x hp' v hle hr' hk' hmh
      refine ih k _ A E' _ _ (putf fr' o.d x) (by omega) (by omega) (by simpa using hsz) h4 (by rw [hLS]; exact xJv hnA hA) (h0.trans hle) hr' ?_ ?_ hq'
      ·exact xNj (fun y hy' => ⟨(hcm y hy').1, (xEz (hcm y hy').2).2.1, fun hr => hmh ⟨y, hy', hr⟩⟩) hd
      ·have e : adL (LS (lst.setIfInBounds i true)) A = fun j => j == i || adL (LS lst) A j := by
        funext j
        rw [xDb, xDb, hLS]
        show (A.any (fun y => j == y.1) || (j == i || LS lst j)) = (j == i || (A.any (fun y => j == y.1) || LS lst j))
        cases A.any (fun y => j == y.1) <;> cases (j == i) <;> rfl
       rw [e]; exact hk'
     by_cases hrdA : ∃ y ∈ A, rdK y.2.1.o = true
     ·obtain ⟨y, hy', hry⟩ := hrdA
      refine xHb hΓ hG (by simp [h1]) hco hod hog hng hr (xPr ((xEz (hcm y hy').2).2.2 hry) hst2) fun E' x hp' v hle hr' hk' => fin E' x hp' v hle hr' hk'.1 fun _ => hk'.2
     ·exact xHb hΓ hG (by simp [h1]) hco hod hog hng hr hst2 fun E' x hp' v hle hr' hk' => fin E' x hp' v hle hr' hk' fun h => absurd h hrdA
include hΓ hG in
theorem xSd {N : Nat} {Γq : Nat -> Option FC} {ro : Option Nat} {n : Nat} {id : Nat} {ops : Array Oper} {sc : SC} (hsc : ctrc P ops = some sc) {K : Exit -> St -> Prop} {s : St} {E : Env} {a : Act} {Q : Exit -> Act -> World -> Prop} (hr : Rep E s a) (hev : exec N Γ Γq sc K s)
    (hq : ∀ e E' s' a', E.Le E' -> Rep E' s' a' -> K e s' -> Q e a' E'.w) : (Code.region id ops true).wpIn (fen ro) n P Q a E.w := by
  unfold ctrc at hsc
  split at hsc
  . cases hsc
  rename_i lo hc
  split at hsc
  . rename_i hok
    simp only [Bool.and_eq_true, List.all_eq_true] at hok
    obtain ⟨⟨hm, he⟩, hgs, _⟩ := hok
    cases hsc
    simp only [exec] at hev
    refine wpIn_region_any hm ?_
    have hE1 : E.Le (E.to { E.w with drawn := E.w.drawn + 1 }) := Env.to_le fun b hb => rfl
    have hr1 : RHp (E.to { E.w with drawn := E.w.drawn + 1 }) s.hp :=
      ⟨⟨hr.hp.g.fr, hr.hp.g.fz, hr.hp.g.sz, hr.hp.g.os, hr.hp.g.tape, hr.hp.g.output, hr.hp.g.imb, hr.hp.g.im0⟩,
       ⟨hr.hp.b.n, hr.hp.b.rs, fun l b hb => (hr.hp.b.blk l b hb).keep hE1 (hr.hp.has hb) (fun g _ => rfl), hr.hp.b.live, hr.hp.b.imx, hr.hp.b.base, hr.hp.b.dj⟩⟩
    have h0 : left (Array.replicate ops.size false) = ops.size := by
      unfold left; rw [Array.toList_replicate]; simp
    have hLf : LS (Array.replicate ops.size false) = fun _ => false := by
      funext j
      simp only [LS, Array.getD_eq_getD_getElem?, Array.getElem?_replicate]
      split <;> rfl
    have hlen : lo.length = ops.size := by rw [xAw hc]; simp
    refine xSc hΓ hG hc he (fun o ho => by simpa using hgs o ho) E ops.size ops.size (Array.replicate ops.size false) [] (E.to _) s a s.fr (by rw [h0]; rfl) (by omega) (by simp) ?_ trivial hE1 ⟨hr.fr.mono hE1, hr1, by rw [hr.df]; rfl⟩ rfl (by rw [adL, hLf, <- hlen]; exact hev) (fun E' s' a' => hq _ E' s' a')
    intro k o _ hk; rw [hLf] at hk; cases hk
  . cases hsc
end
end Go.Vg
end
