import Derived.Test.YtgdihdiadlmjiaaVgR4n
set_option linter.all false
namespace Go.Vg
open Go
def eqZ (a b : Int) : Bool :=
 match a, b with
 | .ofNat a, .ofNat b => Nat.beq a b
 | .negSucc a, .negSucc b => Nat.beq a b
 | _, _ => false
theorem xRl {a b : Int} (h : eqZ a b = true) : a = b := by
 unfold eqZ at h
 split at h
 ·have := xAc h; subst this; rfl
 ·have := xAc h; subst this; rfl
 ·cases h
def eqJ : List Int -> List Int -> Bool
 | [], [] => true
 | a :: s, b :: t => match eqZ a b with
  | true => eqJ s t
  | false => false
 | _, _ => false
theorem xPb : ∀ {a b : List Int}, eqJ a b = true -> a = b
 | [], [], _ => rfl
 | [], _ :: _, h => by cases h
 | _ :: _, [], h => by cases h
 | a :: s, b :: t, h => by
  simp only [eqJ] at h
  split at h
  ·rename_i h1; rw [xRl h1, xPb h]
  ·cases h
def eqV (a b : Value) : Bool :=
 match a, b with
 | .bool true, .bool true => true
 | .bool false, .bool false => true
 | .slice none 0 0, .slice none 0 0 => true
 | .nilFunc, .nilFunc => true
 | .nilIface, .nilIface => true
 | .pointer none, .pointer none => true
 | .string a, .string b => eqBs a.data.toList b.data.toList
 | _, _ => false
theorem eqV_ok {a b : Value} (h : eqV a b = true) : a = b := by
 unfold eqV at h
 split at h <;> first | rfl | (cases h; done) | skip
 rename_i x y
 rw [xKa, beq_iff_eq] at h
 cases x; cases y
 simp only [Value.string.injEq, ByteArray.mk.injEq]
 exact Array.ext' h
def alB (f : Nat -> Bool) : Nat -> Bool
 | 0 => true
 | n + 1 => match f n with
  | true => alB f n
  | false => false
theorem xPc {f : Nat -> Bool} : ∀ {n : Nat}, alB f n = true -> ∀ i, i < n -> f i = true
 | 0, _, i, h => by omega
 | n + 1, e, i, h => by
  simp only [alB] at e
  split at e
  ·rename_i h1
   by_cases hi : i = n
   ·subst hi; exact h1
   ·exact xPc e i (by omega)
  ·cases e
def eqL (f : SV -> SV -> Bool) : List SV -> List SV -> Bool
 | [], [] => true
 | a :: s, b :: t => match f a b with
  | true => eqL f s t
  | false => false
 | _, _ => false
def eqS : Nat -> SV -> SV -> Bool
 | 0, _, _ => false
 | n + 1, a, b => match a, b with
  | .int k x, .int k' y => match ikq k k' with
   | true => eqZ x y
   | false => false
  | .lit v, .lit v' => eqV v v'
  | .ints k xs, .ints k' ys => match ikq k k' with
   | true => eqJ xs ys
   | false => false
  | .agg cs, .agg cs' => eqL (eqS n) cs cs'
  | .tup cs, .tup cs' => eqL (eqS n) cs cs'
  | .rd sz len f, .rd sz' len' g => match Nat.beq sz sz', Nat.beq len len' with
   | true, true => alB (fun i => eqL (eqS n) (f i) (g i)) len
   | _, _ => false
  | .fn f cs, .fn f' cs' => match Nat.beq f f' with
   | true => eqL (eqS n) cs cs'
   | false => false
  | .ifc t x, .ifc t' y => match Nat.beq t t' with
   | true => eqS n x y
   | false => false
  | .rp cs off, .rp cs' off' => match Nat.beq off off' with
   | true => eqL (eqS n) cs cs'
   | false => false
  | .cm ks vs, .cm ks' vs' => match eqL (eqS n) ks ks' with
   | true => eqL (eqS n) vs vs'
   | false => false
  | .clip k xs, .clip k' ys => match ikq k k' with
   | true => eqJ xs ys
   | false => false
  | .clipr sz len f, .clipr sz' len' g => match Nat.beq sz sz', Nat.beq len len' with
   | true, true => alB (fun i => eqL (eqS n) (f i) (g i)) len
   | _, _ => false
  | _, _ => false
theorem xCt {w : World} {im : Nat -> Prop} {f : SV -> SV -> Bool} (hf : ∀ {a b : SV} {v : Value}, f a b = true -> Cv w im a v -> Cv w im b v) : ∀ {a b : List SV} {vs : List Value}, eqL f a b = true -> Cvs w im a vs -> Cvs w im b vs
 | [], [], vs, _, hv => hv
 | [], _ :: _, vs, h, _ => by simp [eqL] at h
 | _ :: _, [], vs, h, _ => by simp [eqL] at h
 | a :: s, b :: t, vs, h, hv => by
  simp only [eqL] at h
  split at h
  ·rename_i h1
   cases hv with
   | cons _ v _ vs h2 h3 => exact .cons _ _ _ _ (hf h1 h2) (xCt hf h h3)
  ·cases h
theorem xJb {w : World} {im : Nat -> Prop} : ∀ (n : Nat) {a b : SV} {v : Value}, eqS n a b = true -> Cv w im a v -> Cv w im b v
 | 0, a, b, v, h, _ => by simp [eqS] at h
 | n + 1, a, b, v, h, hv => by
  have ih : ∀ {a b : SV} {v : Value}, eqS n a b = true -> Cv w im a v -> Cv w im b v := fun h hv => xJb n h hv
  unfold eqS at h
  split at h
  ·split at h
   ·rename_i h1; rw [<- xBt h1, <- xRl h]; exact hv
   ·cases h
  ·rw [<- eqV_ok h]; exact hv
  ·split at h
   ·rename_i h1; rw [<- xBt h1, <- xPb h]; exact hv
   ·cases h
  ·cases hv with
   | agg cs vs hc => exact .agg _ _ (xCt ih h hc)
  ·cases hv with
   | tup cs vs hc => exact .tup _ _ (xCt ih h hc)
  ·split at h
   ·rename_i h1 h2
    have h1 := xAc h1
    have h2 := xAc h2
    subst h1
    subst h2
    have hall := xPc h
    cases hv with
    | rdNil => exact .rdNil _ _
    | rdE => exact .rdE _ _ _ _
    | rd sz len f b off cap vs hb h3 h4 h5 h6 => exact .rd _ _ _ b off cap vs hb (fun i hi => xCt ih (hall i hi) (h3 i hi)) h4 h5 h6
   ·cases h
  ·split at h
   ·rename_i h1
    have h1 := xAc h1
    subst h1
    cases hv with
    | fn f cs vs hc => exact .fn _ _ _ (xCt ih h hc)
   ·cases h
  ·split at h
   ·rename_i h1
    have h1 := xAc h1
    subst h1
    cases hv with
    | ifc t x v hc => exact .ifc _ _ _ (ih h hc)
   ·cases h
  ·split at h
   ·rename_i h1
    have h1 := xAc h1
    subst h1
    cases hv with
    | rp cs vs off b base hc hb hx => exact .rp _ vs _ b base (xCt ih h hc) hb hx
   ·cases h
  ·split at h
   ·rename_i h1
    cases hv with
    | cm ks vs kv vv xs b g1 g2 g3 g4 g5 g6 g7 => exact .cm _ _ kv vv xs b (xCt ih h1 g1) (xCt ih h g2) g3 g4 g5 g6 g7
   ·cases h
  ·split at h
   ·rename_i h1; rw [<- xBt h1, <- xPb h]; exact hv
   ·cases h
  ·split at h
   ·rename_i h1 h2
    have h1 := xAc h1
    have h2 := xAc h2
    subst h1
    subst h2
    have hall := xPc h
    cases hv with
    | cliprNil => exact .cliprNil _ _
    | cliprE => exact .cliprE _ _ _
    | clipr sz len f b off vs hb h3 h4 h5 => exact .clipr _ _ _ b off vs hb (fun i hi => xCt ih (hall i hi) (h3 i hi)) h4 h5
   ·cases h
  ·cases h
abbrev eqSs (as bs : List SV) : Bool := eqL (eqS 12) as bs
def findK : List (List SV × SV) -> List SV -> Option SV
 | [], _ => none
 | (bs, x) :: t, as => match eqSs as bs with
  | true => some x
  | false => findK t as
theorem xJc {l : List (List SV × SV)} {as : List SV} {x : SV} (h : findK l as = some x) : ∃ bs, (bs, x) ∈ l /\ eqSs as bs = true := by
 induction l with
 | nil => cases h
 | cons p t ih =>
  obtain ⟨bs, y⟩ := p
  simp only [findK] at h
  split at h
  ·rename_i h1; cases h; exact ⟨bs, List.mem_cons_self .., h1⟩
  ·obtain ⟨cs, h2, h3⟩ := ih h; exact ⟨cs, List.mem_cons_of_mem _ h2, h3⟩
end Go.Vg
