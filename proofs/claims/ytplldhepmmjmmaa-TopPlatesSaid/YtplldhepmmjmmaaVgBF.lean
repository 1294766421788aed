
namespace Go.BF
set_option linter.unusedVariables false
structure Ed where
 (to fr : Nat) (w : Int)
def relax (x : Nat → Int) (e : Ed) : Nat → Int := fun v => if v = e.to then min (x v) (x e.fr + e.w) else x v
def rnd (E : List Ed) (x : Nat → Int) : Nat → Int := E.foldl relax x
def it (E : List Ed) (x0 : Nat → Int) : Nat → Nat → Int
 | 0 => x0
 | k + 1 => rnd E (it E x0 k)
theorem relax_le (x : Nat → Int) (e : Ed) (v : Nat) : relax x e v ≤ x v := by
 unfold relax; split <;> omega
theorem rnd_le (E : List Ed) : ∀ (x : Nat → Int) (v : Nat), rnd E x v ≤ x v := by
 induction E with
 | nil => exact fun x v => Int.le_refl _
 | cons e t ih => exact fun x v => Int.le_trans (ih (relax x e) v) (relax_le x e v)
theorem rnd_edge (E : List Ed) : ∀ (x : Nat → Int) (e : Ed), e ∈ E → rnd E x e.to ≤ x e.fr + e.w := by
 induction E with
 | nil => intro x e h; cases h
 | cons a t ih =>
  intro x e h
  rcases List.mem_cons.1 h with rfl | h
  ·refine Int.le_trans (rnd_le t (relax x e) e.to) ?_
   simp only [relax, if_true]; omega
  ·refine Int.le_trans (ih (relax x a) e h) ?_
   have := relax_le x a e.fr; omega
theorem it_le {E : List Ed} {x0 : Nat → Int} {k : Nat} (v : Nat) : it E x0 (k + 1) v ≤ it E x0 k v := rnd_le E _ v
theorem it_mono {E : List Ed} {x0 : Nat → Int} {j k : Nat} (h : j ≤ k) (v : Nat) : it E x0 k v ≤ it E x0 j v := by
 induction h with
 | refl => exact Int.le_refl _
 | step h ih => exact Int.le_trans (it_le v) ih
inductive Walk (E : List Ed) (x0 : Nat → Int) : List Nat → Nat → Int → Prop
 | start (v : Nat) : Walk E x0 [v] v (x0 v)
 | step {vs : List Nat} {u : Nat} {c : Int} (e : Ed) : Walk E x0 vs u c → e ∈ E → e.fr = u → Walk E x0 (e.to :: vs) e.to (c + e.w)
theorem Walk.len {E : List Ed} {x0 : Nat → Int} {vs : List Nat} {v : Nat} {c : Int} (h : Walk E x0 vs v c) : 1 ≤ vs.length := by cases h <;> simp
theorem walk_le {E : List Ed} {x0 : Nat → Int} {vs : List Nat} {v : Nat} {c : Int} (h : Walk E x0 vs v c) : ∀ k, vs.length ≤ k + 1 → it E x0 k v ≤ c := by
 induction h with
 | start v => exact fun k _ => it_mono (Nat.zero_le k) v
 | @step vs u c e h he hu ih =>
  intro k hk
  have := h.len
  cases k with
  | zero => simp only [List.length_cons] at hk; omega
  | succ k =>
   have := ih k (by simpa using hk)
   have := rnd_edge E (it E x0 k) e he
   rw [hu] at this
   show rnd E (it E x0 k) e.to ≤ _
   omega
theorem rnd_walk {E F : List Ed} {x0 : Nat → Int} (hF : ∀ e, e ∈ F → e ∈ E) : ∀ (x : Nat → Int), (∀ v, ∃ vs, Walk E x0 vs v (x v)) → ∀ v, ∃ vs, Walk E x0 vs v (rnd F x v) := by
 induction F with
 | nil => exact fun x h v => h v
 | cons e t ih =>
  intro x h
  refine ih (fun e' he => hF e' (List.mem_cons_of_mem _ he)) (relax x e) fun v => ?_
  unfold relax
  split
  ·rename_i hv
   subst hv
   by_cases hm : x e.to ≤ x e.fr + e.w
   ·rw [Int.min_eq_left hm]; exact h _
   ·rw [Int.min_eq_right (by omega)]
    obtain ⟨vs, hw⟩ := h e.fr
    exact ⟨_, .step e hw (hF e (List.mem_cons_self ..)) rfl⟩
  ·exact h v
theorem it_walk {E : List Ed} {x0 : Nat → Int} : ∀ k v, ∃ vs, Walk E x0 vs v (it E x0 k v)
 | 0, v => ⟨[v], .start v⟩
 | k + 1, v => rnd_walk (fun _ h => h) _ (it_walk k) v
theorem Walk.cut {E : List Ed} {x0 p : Nat → Int} (hp : ∀ e, e ∈ E → p e.to ≤ p e.fr + e.w) {vs : List Nat} {v : Nat} {c : Int} (h : Walk E x0 vs v c) : ∀ a, a ∈ vs → ∃ vs' c', Walk E x0 vs' a c' ∧ vs' <:+ vs ∧ c' + (p v - p a) ≤ c := by
 induction h with
 | start v =>
  intro a ha
  obtain rfl : a = v := by simpa using ha
  exact ⟨[a], _, .start a, List.suffix_refl _, by omega⟩
 | @step vs u c e h he hu ih =>
  intro a ha
  rcases List.mem_cons.1 ha with rfl | ha
  ·exact ⟨_, _, .step e h he hu, List.suffix_refl _, by omega⟩
  ·obtain ⟨vs', c', h1, h2, h3⟩ := ih a ha
   have := hp e he
   rw [hu] at this
   exact ⟨vs', c', h1, h2.trans (List.suffix_cons ..), by omega⟩
theorem Walk.simple {E : List Ed} {x0 p : Nat → Int} (hp : ∀ e, e ∈ E → p e.to ≤ p e.fr + e.w) {N : Nat} (hN : ∀ e, e ∈ E → e.to < N ∧ e.fr < N) {vs : List Nat} {v : Nat} {c : Int} (h : Walk E x0 vs v c) (hv : v < N) : ∃ vs' c', Walk E x0 vs' v c' ∧ c' ≤ c ∧ vs'.Nodup ∧ ∀ y, y ∈ vs' → y < N := by
 induction h with
 | start v => exact ⟨[v], _, .start v, Int.le_refl _, by simp, by simpa using hv⟩
 | @step vs u c e h he hu ih =>
  obtain ⟨vs', c', h1, h2, h3, h4⟩ := ih (by rw [← hu]; exact (hN e he).2)
  by_cases hm : e.to ∈ vs'
  ·obtain ⟨vs2, c2, k1, k2, k3⟩ := h1.cut hp _ hm
   have := hp e he
   rw [hu] at this
   exact ⟨vs2, c2, k1, by omega, h3.sublist k2.sublist, fun y hy => h4 y (k2.subset hy)⟩
  ·refine ⟨e.to :: vs', c' + e.w, .step e h1 he hu, by omega, List.nodup_cons.2 ⟨hm, h3⟩, fun y hy => ?_⟩
   rcases List.mem_cons.1 hy with rfl | hy
   ·exact hv
   ·exact h4 y hy
theorem nodup_le : ∀ (N : Nat) (l : List Nat), l.Nodup → (∀ y, y ∈ l → y < N) → l.length ≤ N
 | 0, l, _, h => by
  cases l with
  | nil => simp
  | cons a t => exact absurd (h a (List.mem_cons_self ..)) (by omega)
 | N + 1, l, hd, h => by
  have key : (l.erase N).length ≤ N := nodup_le N (l.erase N) (hd.erase N) fun y hy => by
   have := (hd.mem_erase_iff).1 hy
   have := h y this.2
   omega
  by_cases hm : N ∈ l
  ·rw [List.length_erase_of_mem hm] at key; omega
  ·rw [List.erase_of_not_mem hm] at key; omega
theorem rest {E : List Ed} {x0 p : Nat → Int} {N : Nat} (hp : ∀ e, e ∈ E → p e.to ≤ p e.fr + e.w) (hN : ∀ e, e ∈ E → e.to < N ∧ e.fr < N) {v : Nat} (hv : v < N) {k : Nat} (hk : N ≤ k + 1) : it E x0 (k + 1) v = it E x0 k v := by
 obtain ⟨vs, hw⟩ := it_walk (E := E) (x0 := x0) (k + 1) v
 obtain ⟨vs', c', h1, h2, h3, h4⟩ := hw.simple hp hN hv
 have := nodup_le N vs' h3 h4
 have := walk_le h1 k (by omega)
 have := it_le (E := E) (x0 := x0) (k := k) v
 omega
theorem rnd_ge {E : List Ed} {p : Nat → Int} (hp : ∀ e, e ∈ E → p e.to ≤ p e.fr + e.w) : ∀ (F : List Ed) (x : Nat → Int), (∀ e, e ∈ F → e ∈ E) → (∀ v, p v ≤ x v) → ∀ v, p v ≤ rnd F x v := by
 intro F
 induction F with
 | nil => exact fun x _ h v => h v
 | cons e t ih =>
  intro x hF h
  refine ih (relax x e) (fun e' he => hF e' (List.mem_cons_of_mem _ he)) fun v => ?_
  unfold relax
  split
  ·rename_i hv
   subst hv
   have := hp e (hF e (List.mem_cons_self ..))
   have := h e.to
   have := h e.fr
   omega
  ·exact h v
theorem it_ge {E : List Ed} {x0 p : Nat → Int} (hp : ∀ e, e ∈ E → p e.to ≤ p e.fr + e.w) (h0 : ∀ v, p v ≤ x0 v) : ∀ k v, p v ≤ it E x0 k v
 | 0, v => h0 v
 | k + 1, v => rnd_ge hp E _ (fun _ h => h) (it_ge hp h0 k) v
theorem kept {E : List Ed} {x : Nat → Int} (h : ∀ v, rnd E x v = x v) : ∀ e, e ∈ E → x e.to ≤ x e.fr + e.w := fun e he => by
 have := rnd_edge E x e he
 rw [h] at this
 exact this
end Go.BF
