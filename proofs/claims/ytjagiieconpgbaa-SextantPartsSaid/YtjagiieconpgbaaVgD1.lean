import Derived.Test.YtjagiieconpgbaaVgV4
import Derived.OrdersIn
namespace Go.Vg
open Go
set_option linter.unusedVariables false
set_option linter.unusedSimpArgs false
def FcOk (P : Program) (f : FuncId) (F : FC) : Prop :=
 ConOk P f fun args hp K => clo.clos 8 args = true ∧ match F args with
  | some (p, r) => p ∧ K r hp
  | none => False
section
variable {fr fr' : List SV}
theorem X.congr {x : X} (h : ∀ t, t ∈ usesX x → gt fr t = gt fr' t) : x.get fr = x.get fr' := by
 cases x with
 | t n => exact h n (by simp [usesX])
 | c x => rfl
theorem gets_congr : ∀ {xs : List X}, (∀ t, t ∈ usesXs xs → gt fr t = gt fr' t) → gets fr xs = gets fr' xs
 | [], _ => rfl
 | x :: xs, h => by
  simp only [gets]
  rw [X.congr (fun t ht => h t (by simp [usesXs, ht])), gets_congr (fun t ht => h t (by simp [usesXs, ht]))]
theorem getp_congr : ∀ {xs : List (Nat × Nat × X)}, (∀ t, t ∈ usesP xs → gt fr t = gt fr' t) → getp fr xs = getp fr' xs
 | [], _ => rfl
 | (a, b, x) :: xs, h => by
  simp only [getp]
  rw [X.congr (fun t ht => h t (by simp [usesP, ht])), getp_congr (fun t ht => h t (by simp [usesP, ht]))]
theorem evp_congr {hp : List Blk} {vo : VOp} (h : ∀ t, t ∈ usesV vo → gt fr t = gt fr' t) : evp fr hp vo = evp fr' hp vo := by
 cases vo <;> simp only [usesV, List.mem_append] at h
 case mov x => simp only [evp, X.congr h]
 case neg x => simp only [evp, X.congr h]
 case not x => simp only [evp, X.congr h]
 case conv k x => simp only [evp, X.congr h]
 case ifc t x => simp only [evp, X.congr h]
 case off x k => simp only [evp, X.congr h]
 case fld x o n => simp only [evp, X.congr h]
 case load x n => simp only [evp, X.congr h]
 case len x => simp only [evp, X.congr h]
 case ext x i => simp only [evp, X.congr h]
 case isnil ng x => simp only [evp, X.congr h]
 case mkfn f xs => simp only [evp, gets_congr h]
 case mkmv f a b => simp only [evp, gets_congr (xs := a) (fun t ht => h t (.inl ht)), gets_congr (xs := b) (fun t ht => h t (.inr ht))]
 case pick a b c => simp only [evp, X.congr (x := a) (fun t ht => h t (.inl ht)), X.congr (x := b) (fun t ht => h t (.inr (.inl ht))), X.congr (x := c) (fun t ht => h t (.inr (.inr ht)))]
 case slc => rfl
 case bin op x y => simp only [evp, X.congr (x := x) (fun t ht => h t (.inl ht)), X.congr (x := y) (fun t ht => h t (.inr ht))]
 case binb op x y => simp only [evp, X.congr (x := x) (fun t ht => h t (.inl ht)), X.congr (x := y) (fun t ht => h t (.inr ht))]
 case ixa x y sz => simp only [evp, X.congr (x := x) (fun t ht => h t (.inl ht)), X.congr (x := y) (fun t ht => h t (.inr ht))]
 case ixarr x y a b => simp only [evp, X.congr (x := x) (fun t ht => h t (.inl ht)), X.congr (x := y) (fun t ht => h t (.inr ht))]
 case ixv x y a b n => simp only [evp, X.congr (x := x) (fun t ht => h t (.inl ht)), X.congr (x := y) (fun t ht => h t (.inr ht))]
 case max2 x y => simp only [evp, X.congr (x := x) (fun t ht => h t (.inl ht)), X.congr (x := y) (fun t ht => h t (.inr ht))]
 case eqs ks ng x y => simp only [evp, X.congr (x := x) (fun t ht => h t (.inl ht)), X.congr (x := y) (fun t ht => h t (.inr ht))]
 case mx3 mn x y z => simp only [evp, X.congr (x := x) (fun t ht => h t (.inl ht)), X.congr (x := y) (fun t ht => h t (.inr (.inl ht))), X.congr (x := z) (fun t ht => h t (.inr (.inr ht)))]
 case min2 x y => simp only [evp, X.congr (x := x) (fun t ht => h t (.inl ht)), X.congr (x := y) (fun t ht => h t (.inr ht))]
theorem evq_congr {Γq : Nat → Option FC} {hp : List Blk} {o : Op1} (h : ∀ t, t ∈ uses1 o → gt fr t = gt fr' t) : evq Γq fr hp o = evq Γq fr' hp o := by
 cases o <;> simp only [uses1, List.mem_append] at h
 case v vo => simp only [evq, evp_congr h]
 case bld z ps => simp only [evq, getp_congr h]
 case call f xs => simp only [evq, X.congr (x := f) (fun t ht => h t (.inl ht)), gets_congr (xs := xs) (fun t ht => h t (.inr ht))]
 case slc x lo hi mx sz =>
  have bc : ∀ o : Option X, (∀ t, t ∈ usesO o → gt fr t = gt fr' t) → bnd fr o = bnd fr' o := by
   intro o ho
   cases o with
   | none => rfl
   | some o => simp only [bnd, X.congr (x := o) ho]
  simp only [evq, X.congr (x := x) (fun t ht => h t (.inl ht)), bc lo (fun t ht => h t (.inr (.inl ht))), bc hi (fun t ht => h t (.inr (.inr (.inl ht)))), bc mx (fun t ht => h t (.inr (.inr (.inr ht))))]
 all_goals rfl
end
def msk (us : List Nat) : Nat → List SV → List SV
 | _, [] => []
 | k, x :: t => (if us.contains k then x else .any) :: msk us (k + 1) t
theorem gt_msk (us : List Nat) : ∀ (fr : List SV) (k i : Nat), gt (msk us k fr) i = if us.contains (k + i) then gt fr i else .any
 | [], k, i => by simp [msk, gt]
 | x :: t, k, 0 => by simp [msk, gt]
 | x :: t, k, i + 1 => by
  simp only [msk, gt]
  rw [gt_msk us t (k + 1) i, show k + 1 + i = k + (i + 1) by omega]
theorem len_msk (us : List Nat) : ∀ (fr : List SV) (k : Nat), (msk us k fr).length = fr.length
 | [], _ => rfl
 | x :: t, k => by simp [msk, len_msk us t]
theorem Rvs_iff {E : Env} : ∀ {fr : List SV} {vs : List Value}, Rvs E fr vs ↔ fr.length = vs.length ∧ ∀ t, t < fr.length → Rv E (gt fr t) (vs.getD t undef)
 | [], [] => ⟨fun _ => ⟨rfl, fun t ht => by simp at ht⟩, fun _ => .nil⟩
 | [], _ :: _ => ⟨fun h => (by cases h), fun h => by simp at h⟩
 | _ :: _, [] => ⟨fun h => (by cases h), fun h => by simp at h⟩
 | x :: fr, v :: vs => by
  constructor
  ·intro h; exact ⟨h.length, fun t _ => h.gt t⟩
  ·rintro ⟨h1, h2⟩
   refine .cons _ _ _ _ (by simpa [gt] using h2 0 (by simp)) (Rvs_iff.2 ⟨by simpa using h1, fun t ht => ?_⟩)
   simpa [gt] using h2 (t + 1) (by simp; omega)
theorem len_st : ∀ (fr : List SV) (d : Nat) (x : SV), (st fr d x).length = fr.length
 | [], _, _ => rfl
 | _ :: t, 0, _ => rfl
 | _ :: t, d + 1, x => by simp [st, len_st t]
theorem gt_st : ∀ (fr : List SV) (d t : Nat) (x : SV), gt (st fr d x) t = if d = t ∧ t < fr.length then x else gt fr t
 | [], d, t, x => by simp [st, gt]
 | y :: fr, 0, 0, x => by simp [st, gt]
 | y :: fr, 0, t + 1, x => by simp [st, gt]
 | y :: fr, d + 1, 0, x => by simp [st, gt]
 | y :: fr, d + 1, t + 1, x => by simp [st, gt, gt_st fr d t x]
theorem len_putf (fr : List SV) (d : Option Nat) (x : SV) : (putf fr d x).length = fr.length := by cases d <;> simp [putf, len_st]
theorem gt_putf (fr : List SV) (d : Option Nat) (t : Nat) (x : SV) : gt (putf fr d x) t = if d = some t ∧ t < fr.length then x else gt fr t := by
 cases d with
 | none => simp [putf]
 | some d => simp [putf, gt_st]
def mix (p : Nat → Bool) : List (Nat × Opr × SV) → List SV → List SV
 | [], fr => fr
 | (i, o, x) :: t, fr => mix p t (if p i then putf fr o.d x else fr)
theorem len_mix (p : Nat → Bool) : ∀ (l : List (Nat × Opr × SV)) (fr : List SV), (mix p l fr).length = fr.length
 | [], _ => rfl
 | (i, o, x) :: t, fr => by
  simp only [mix]
  rw [len_mix p t]
  split <;> simp [len_putf]
theorem gt_mix_congr {p q : Nat → Bool} {t : Nat} : ∀ (l : List (Nat × Opr × SV)) (fr fr' : List SV), fr.length = fr'.length → gt fr t = gt fr' t → (∀ i o x, (i, o, x) ∈ l → o.d = some t → p i = q i) →
  gt (mix p l fr) t = gt (mix q l fr') t
 | [], fr, fr', _, h, _ => h
 | (i, o, x) :: l, fr, fr', hl, h, hw => by
  simp only [mix]
  refine gt_mix_congr l _ _ ?_ ?_ (fun i o x hm => hw i o x (List.mem_cons_of_mem _ hm))
  ·split <;> split <;> simp [len_putf, hl]
  ·by_cases hd : o.d = some t
   ·rw [hw i o x (List.mem_cons_self ..) hd]
    split
    ·rw [gt_putf, gt_putf, hl, h]
    ·exact h
   ·have e : ∀ fr : List SV, gt (putf fr o.d x) t = gt fr t := fun fr => by rw [gt_putf]; simp [hd]
    split <;> split <;> simp [e, h]
theorem gt_mix_last {p : Nat → Bool} {t : Nat} : ∀ (l : List (Nat × Opr × SV)) (fr : List SV) (l1 l2 : List (Nat × Opr × SV)) (i : Nat) (o : Opr) (x : SV), l = l1 ++ (i, o, x) :: l2 → p i = true → o.d = some t → t < fr.length →
  (∀ j o' x', (j, o', x') ∈ l2 → o'.d = some t → p j = false) → gt (mix p l fr) t = x
 | [], _, l1, l2, _, _, _, e, _, _, _, _ => by simp at e
 | (i', o', x') :: l, fr, [], l2, i, o, x, e, hp, hd, ht, hw => by
  simp only [List.nil_append, List.cons.injEq, Prod.mk.injEq] at e
  obtain ⟨⟨rfl, rfl, rfl⟩, rfl⟩ := e
  simp only [mix, hp, if_true]
  have : gt (mix p l (putf fr o'.d x')) t = gt (mix (fun _ => false) l (putf fr o'.d x')) t :=
   gt_mix_congr l _ _ rfl rfl (fun j o'' x'' hm hd' => hw j o'' x'' hm hd')
  rw [this]
  have hn : ∀ (l : List (Nat × Opr × SV)) (fr : List SV), mix (fun _ => false) l fr = fr := by
   intro l
   induction l with
   | nil => intro fr; rfl
   | cons a l ih => intro fr; obtain ⟨a, b, c⟩ := a; simp [mix, ih]
  rw [hn, gt_putf]
  simp [hd, ht]
 | (i', o', x') :: l, fr, y :: l1, l2, i, o, x, e, hp, hd, ht, hw => by
  simp only [List.cons_append, List.cons.injEq] at e
  simp only [mix]
  exact gt_mix_last l _ l1 l2 i o x e.2 hp hd (by split <;> simp [len_putf, ht]) hw
end Go.Vg
