import Derived.Test.YtgdihdiadlmjiaaVgLM5
set_option linter.all false
namespace Go.Proofs.Ytgdihdiadlmjiaa
open Go Go.Vg
set_option maxRecDepth 10000
theorem cm_in {a t : Int} {p q : Int × Int} (ha : 0 < a) (h1 : a * p.1 ≤ t) (h2 : t ≤ a * p.2) (h3 : a * q.1 ≤ t) (h4 : t ≤ a * q.2) : a * (cmP p q).1 ≤ t ∧ t ≤ a * (cmP p q).2 := by
 have hmax : a * max p.1 q.1 ≤ t := by
  rcases Int.le_total p.1 q.1 with h | h
  ·rw [Int.max_eq_right h]; exact h3
  ·rw [Int.max_eq_left h]; exact h1
 have hmin : t ≤ a * min p.2 q.2 := by
  rcases Int.le_total p.2 q.2 with h | h
  ·rw [Int.min_eq_left h]; exact h2
  ·rw [Int.min_eq_right h]; exact h4
 have hle : max p.1 q.1 ≤ min p.2 q.2 := Int.le_of_mul_le_mul_left (Int.le_trans hmax hmin) ha
 unfold cmP cmL cmH
 simp only
 rw [if_pos hle, if_pos hle]
 exact ⟨hmax, hmin⟩
theorem cm_full {q : Int × Int} (h1 : -20000 ≤ q.1 ∧ q.1 ≤ 20000) (h2 : -20000 ≤ q.2 ∧ q.2 ≤ 20000) (h : q.1 ≤ q.2) : cmP (-9223372036854775808, 9223372036854775807) q = q := by
 unfold cmP cmL cmH
 have h2 : max (-9223372036854775808) q.1 ≤ min 9223372036854775807 q.2 := by omega
 simp only
 rw [if_pos h2, if_pos h2]
 exact Prod.ext (by simp only; omega) (by simp only; omega)
theorem now_in {L : Evs} (hL : okE L) {a z t : Int} (ha : 1 ≤ a) (hz : 0 ≤ z ∧ z ≤ 400) (h : ∀ j, j < L.length → agrJ L a z t j) : ∀ k, k < L.length → a * (nowM L z (k + 1)).1 ≤ t ∧ t ≤ a * (nowM L z (k + 1)).2
 | 0, hk => by
  have hj := h 0 hk
  unfold agrJ at hj
  have hb := mvE_bnd hL hk hz
  have hle : (mvE (ev0 L 0) z).1 ≤ (mvE (ev0 L 0) z).2 := Int.le_of_mul_le_mul_left (Int.le_trans hj.1 hj.2) (show 0 < a by omega)
  have e : nowM L z (0 + 1) = mvE (ev0 L 0) z := cm_full hb.1 hb.2 hle
  rw [e]
  exact hj
 | k + 1, hk => by
  have h1 := now_in hL ha hz h k (by omega)
  have hj := h (k + 1) hk
  unfold agrJ at hj
  exact cm_in (by omega) h1.1 h1.2 hj.1 hj.2
end Go.Proofs.Ytgdihdiadlmjiaa
