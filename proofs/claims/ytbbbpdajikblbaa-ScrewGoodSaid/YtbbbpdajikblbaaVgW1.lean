/- Windows of a list: their sums, spreads; lists of a period. -/
import Derived.Test.YtbbbpdajikblbaaVgN5
namespace Go.Proofs.Ytbbbpdajikblbaa
open Go Go.Vg
set_option linter.unusedSimpArgs false
set_option linter.unusedVariables false

theorem mxL_le {M : Int} : ∀ {l : List Int} {a : Int}, a ≤ M → (∀ x, x ∈ l → x ≤ M) → mxL a l ≤ M
  | [], a, h, _ => h
  | x :: t, a, h, k => mxL_le (l := t) (a := max a x) (by have := k x (List.mem_cons_self ..); omega) (fun y hy => k y (List.mem_cons_of_mem _ hy))
theorem le_mnL {M : Int} : ∀ {l : List Int} {a : Int}, M ≤ a → (∀ x, x ∈ l → M ≤ x) → M ≤ mnL a l
  | [], a, h, _ => h
  | x :: t, a, h, k => le_mnL (l := t) (a := min a x) (by have := k x (List.mem_cons_self ..); omega) (fun y hy => k y (List.mem_cons_of_mem _ hy))
theorem fst_mxL : ∀ (l : List Int) (a : Int), a ≤ mxL a l
  | [], a => Int.le_refl _
  | x :: t, a => by have := fst_mxL t (max a x); simp only [mxL, List.foldl_cons] at *; omega
theorem mnL_fst : ∀ (l : List Int) (a : Int), mnL a l ≤ a
  | [], a => Int.le_refl _
  | x :: t, a => by have := mnL_fst t (min a x); simp only [mnL, List.foldl_cons] at *; omega
theorem mem_mxL : ∀ {l : List Int} {a x : Int}, x ∈ l → x ≤ mxL a l
  | y :: t, a, x, h => by
    rcases List.mem_cons.1 h with rfl | h
    · have := fst_mxL t (max a x); simp only [mxL, List.foldl_cons] at *; omega
    · exact mem_mxL (l := t) (a := max a y) h
theorem mnL_mem : ∀ {l : List Int} {a x : Int}, x ∈ l → mnL a l ≤ x
  | y :: t, a, x, h => by
    rcases List.mem_cons.1 h with rfl | h
    · have := mnL_fst t (min a x); simp only [mnL, List.foldl_cons] at *; omega
    · exact mnL_mem (l := t) (a := min a y) h
/-- The greatest and the least of a list that is not empty. -/
def gr (l : List Int) : Int := mxL (l.getD 0 0) (l.drop 1)
def le0 (l : List Int) : Int := mnL (l.getD 0 0) (l.drop 1)
theorem spreadL_eq (l : List Int) : spreadL l = gr l - le0 l := rfl
theorem mem_gr {l : List Int} {x : Int} (h : x ∈ l) : le0 l ≤ x ∧ x ≤ gr l := by
  cases l with
  | nil => cases h
  | cons y t =>
    simp only [gr, le0, List.getD_cons_zero, List.drop_succ_cons, List.drop_zero]
    rcases List.mem_cons.1 h with rfl | h
    · exact ⟨mnL_fst .., fst_mxL ..⟩
    · exact ⟨mnL_mem h, mem_mxL h⟩
theorem gr_le {l : List Int} {M : Int} (h0 : 0 < l.length) (h : ∀ x, x ∈ l → x ≤ M) : gr l ≤ M := by
  cases l with
  | nil => simp at h0
  | cons y t => exact mxL_le (h y (List.mem_cons_self ..)) (fun x hx => h x (List.mem_cons_of_mem _ hx))
theorem le_le0 {l : List Int} {M : Int} (h0 : 0 < l.length) (h : ∀ x, x ∈ l → M ≤ x) : M ≤ le0 l := by
  cases l with
  | nil => simp at h0
  | cons y t => exact le_mnL (h y (List.mem_cons_self ..)) (fun x hx => h x (List.mem_cons_of_mem _ hx))
theorem sum_le {M : Int} : ∀ {l : List Int}, (∀ x, x ∈ l → x ≤ M) → l.sum ≤ l.length * M
  | [], _ => by simp
  | x :: t, h => by
    have h1 := h x (List.mem_cons_self ..)
    have h2 := sum_le (l := t) (fun y hy => h y (List.mem_cons_of_mem _ hy))
    simp only [List.sum_cons, List.length_cons, Int.natCast_add, Int.natCast_one, Int.add_mul, Int.one_mul]
    omega
theorem le_sum {M : Int} : ∀ {l : List Int}, (∀ x, x ∈ l → M ≤ x) → l.length * M ≤ l.sum
  | [], _ => by simp
  | x :: t, h => by
    have h1 := h x (List.mem_cons_self ..)
    have h2 := le_sum (l := t) (fun y hy => h y (List.mem_cons_of_mem _ hy))
    simp only [List.sum_cons, List.length_cons, Int.natCast_add, Int.natCast_one, Int.add_mul, Int.one_mul]
    omega
def win (l : List Int) (n j : Nat) : Int := ((l.drop j).take n).sum
theorem mem_wins {l : List Int} {n k : Nat} {x : Int} (h : x ∈ wins l n k) : ∃ j, j < k ∧ x = win l n j := by
  simp only [wins, List.mem_map, List.mem_range] at h
  obtain ⟨j, hj, rfl⟩ := h
  exact ⟨j, hj, rfl⟩
theorem wins_getD {l : List Int} {n k j : Nat} (h : j < k) : (wins l n k).getD j 0 = win l n j := by
  simp [wins, List.getD, h, win]
/-- Lapping makes a spread at most the nut times as great. -/
theorem spread_win {l : List Int} {m : Nat} (h1 : 1 ≤ m) (h2 : m ≤ l.length) : spreadL (winL l m) ≤ m * spreadL l := by
  have hl : (winL l m).length = l.length + 1 - m := len_wins ..
  have hm : ∀ x, x ∈ winL l m → m * le0 l ≤ x ∧ x ≤ m * gr l := by
    intro x hx
    obtain ⟨j, hj, rfl⟩ := mem_wins hx
    have e : ((m : Int)).toNat = m := by omega
    rw [e] at hj ⊢
    have hlen : ((l.drop j).take m).length = m := by simp; omega
    have a1 := sum_le (M := gr l) (l := (l.drop j).take m) (fun y hy => (mem_gr (List.mem_of_mem_drop (List.mem_of_mem_take hy))).2)
    have a2 := le_sum (M := le0 l) (l := (l.drop j).take m) (fun y hy => (mem_gr (List.mem_of_mem_drop (List.mem_of_mem_take hy))).1)
    rw [hlen] at a1 a2
    exact ⟨a2, a1⟩
  have b1 := gr_le (l := winL l m) (by omega) (fun x hx => (hm x hx).2)
  have b2 := le_le0 (l := winL l m) (by omega) (fun x hx => (hm x hx).1)
  rw [spreadL_eq, spreadL_eq, Int.mul_sub]
  omega
theorem drop_getD {l : List Int} {j : Nat} (h : j < l.length) : l.drop j = l.getD j 0 :: l.drop (j + 1) := by
  rw [List.drop_eq_getElem_cons h]; simp [List.getD, h]
/-- What one place more takes in, and loses. -/
theorem win_step {l : List Int} {m j : Nat} (h1 : 1 ≤ m) (h2 : j + m < l.length) : win l m (j + 1) - win l m j = l.getD (j + m) 0 - l.getD j 0 := by
  obtain ⟨k, rfl⟩ : ∃ k, m = k + 1 := ⟨m - 1, by omega⟩
  have e1 : win l (k + 1) j = l.getD j 0 + ((l.drop (j + 1)).take k).sum := by
    unfold win; rw [drop_getD (by omega)]; simp
  have e2 : win l (k + 1) (j + 1) = ((l.drop (j + 1)).take k).sum + l.getD (j + (k + 1)) 0 := by
    unfold win
    rw [sum_snoc (by simp; omega)]
    congr 1
    simp only [List.getD, List.getElem?_drop]
    rw [show j + 1 + k = j + (k + 1) by omega]
  rw [e1, e2]; omega
/-- A list of a period that divides the nut has one window. -/
theorem win_same {l : List Int} {m : Nat} (h1 : 1 ≤ m) (h : ∀ j, j + m < l.length → l.getD (j + m) 0 = l.getD j 0) : ∀ j, j + m ≤ l.length → win l m j = win l m 0
  | 0, _ => rfl
  | j + 1, hj => by
    have e := win_step (l := l) (m := m) (j := j) h1 (by omega)
    rw [h j (by omega)] at e
    have := win_same h1 h j (by omega)
    omega
theorem spread_same {l : List Int} {m : Nat} (h1 : 1 ≤ m) (h2 : m ≤ l.length) (h : ∀ j, j + m < l.length → l.getD (j + m) 0 = l.getD j 0) : spreadL (winL l m) = 0 := by
  have hl : (winL l m).length = l.length + 1 - m := len_wins ..
  have hm : ∀ x, x ∈ winL l m → x = win l m 0 := by
    intro x hx
    obtain ⟨j, hj, rfl⟩ := mem_wins hx
    have e : ((m : Int)).toNat = m := by omega
    rw [e] at hj ⊢
    exact win_same h1 h j (by omega)
  have b1 := gr_le (l := winL l m) (M := win l m 0) (by omega) (fun x hx => by rw [hm x hx]; exact Int.le_refl _)
  have b2 := le_le0 (l := winL l m) (M := win l m 0) (by omega) (fun x hx => by rw [hm x hx]; exact Int.le_refl _)
  have b3 : le0 (winL l m) ≤ gr (winL l m) := by
    have hx := getD_mem (cs := winL l m) (i := 0) (by omega)
    have := mem_gr hx
    omega
  rw [spreadL_eq]
  omega
/-- The first i of a list of period p, from another one. -/
def perL (l : List Int) (p i : Nat) : List Int := (List.range i).map fun j => l.getD (j % p) 0
theorem perL_snoc (l : List Int) (p i : Nat) : perL l p (i + 1) = perL l p i ++ [l.getD (i % p) 0] := by simp [perL, List.range_succ]
theorem len_perL (l : List Int) (p i : Nat) : (perL l p i).length = i := by simp [perL]
theorem perL_getD {l : List Int} {p i j : Nat} (h : j < i) : (perL l p i).getD j 0 = l.getD (j % p) 0 := by simp [perL, List.getD, h]
theorem perL_mem {l : List Int} {p i : Nat} (hp : 0 < p) (h : p ≤ l.length) {x : Int} (hx : x ∈ perL l p i) : x ∈ l := by
  simp only [perL, List.mem_map, List.mem_range] at hx
  obtain ⟨j, _, rfl⟩ := hx
  exact getD_mem (Nat.lt_of_lt_of_le (Nat.mod_lt _ hp) h)
theorem perL_period {l : List Int} {p i m : Nat} (hd : p ∣ m) (j : Nat) (h : j + m < i) : (perL l p i).getD (j + m) 0 = (perL l p i).getD j 0 := by
  rw [perL_getD h, perL_getD (by omega)]
  obtain ⟨k, rfl⟩ := hd
  rw [Nat.add_mul_mod_self_left]
end Go.Proofs.Ytbbbpdajikblbaa
