import Derived.Test.YtgdihdiadlmjiaaVgLM4
set_option linter.all false
namespace Go.Proofs.Ytgdihdiadlmjiaa
open Go Go.Vg
set_option maxRecDepth 10000
def agrJ (L : Evs) (a z t : Int) (j : Nat) : Prop := a * (mvE (ev0 L j) z).1 ≤ t ∧ t ≤ a * (mvE (ev0 L j) z).2
instance (L : Evs) (a z t : Int) (j : Nat) : Decidable (agrJ L a z t j) := by unfold agrJ; infer_instance
def sm4 (x : Int) : Prop := -10000 ≤ x ∧ x ≤ 10000
def Mp.bd : Mp → Prop
 | .e0 => True
 | .d1 a b => sm4 a ∧ sm4 b
 | .t1 a b => sm4 a ∧ sm4 b
 | .dt a b c e => (sm4 a ∧ sm4 b) ∧ sm4 c ∧ sm4 e
 | .td a b c e => (sm4 a ∧ sm4 b) ∧ sm4 c ∧ sm4 e
theorem cm_4 {a b c d : Int} (hc : sm4 c) (hd : sm4 d) (ha : sm4 a) (hb : sm4 b) : sm4 (cmL a b c d) ∧ sm4 (cmH a b c d) := by
 unfold sm4 at *
 unfold cmL cmH
 by_cases h : max a c ≤ min b d
 ·rw [if_pos h, if_pos h]; omega
 ·rw [if_neg h, if_neg h]; omega
theorem bd_wth {M : Mp} (h : M.bd) {t : Bool} {x y : Int} (hx : sm4 x) (hy : sm4 y) : (M.wth t x y).bd := by
 cases M <;> cases t <;> simp only [Mp.wth, Mp.bd] at h ⊢
 ·exact ⟨hx, hy⟩
 ·exact ⟨hx, hy⟩
 ·exact cm_4 hx hy h.1 h.2
 ·exact ⟨h, hx, hy⟩
 ·exact ⟨⟨hx, hy⟩, h⟩
 ·exact cm_4 hx hy h.1 h.2
 ·exact ⟨cm_4 hx hy h.1.1 h.1.2, h.2⟩
 ·exact ⟨h.1, cm_4 hx hy h.2.1 h.2.2⟩
 ·exact ⟨cm_4 hx hy h.1.1 h.1.2, h.2⟩
 ·exact ⟨h.1, cm_4 hx hy h.2.1 h.2.2⟩
theorem wth_ne {M : Mp} {t : Bool} {x y : Int} : M.wth t x y ≠ .e0 := by
 cases M <;> cases t <;> simp [Mp.wth]
theorem ok_of {M : Mp} (h : M.bd) (h0 : M ≠ .e0) : M.ok := by
 cases M
 ·exact absurd rfl h0
 all_goals
  unfold Mp.ok okE Mp.ev ev0
  simp only [Mp.bd, sm4] at h
  refine ⟨by simp, fun k hk => ?_⟩
  simp only [List.length_cons, List.length_nil] at hk
 ·obtain rfl : k = 0 := by omega
  exact ⟨.inl rfl, h⟩
 ·obtain rfl : k = 0 := by omega
  exact ⟨.inr rfl, h⟩
 ·rcases (show k = 0 ∨ k = 1 by omega) with rfl | rfl
  ·exact ⟨.inl rfl, h.1⟩
  ·exact ⟨.inr rfl, h.2⟩
 ·rcases (show k = 0 ∨ k = 1 by omega) with rfl | rfl
  ·exact ⟨.inl rfl, h.1⟩
  ·exact ⟨.inr rfl, h.2⟩
def noT : (Int × Int) × (Int × Int) := ((1, 0), (1, 0))
end Go.Proofs.Ytgdihdiadlmjiaa
