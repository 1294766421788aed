import Derived.Test.YtgdihdiadlmjiaaVgLM8
set_option linter.all false
namespace Go.Proofs.Ytgdihdiadlmjiaa
open Go Go.Vg
set_option maxRecDepth 10000
theorem ar_at {p q : Int × Int} : ((arP p q).1 = p.1 ∨ (arP p q).1 = q.1) ∧ ((arP p q).2 = p.2 ∨ (arP p q).2 = q.2) := by
 unfold arP arL arH
 simp only
 by_cases h : p.1 = 1 ∧ p.2 = 0
 ·rw [if_pos h, if_pos h]; exact ⟨.inr rfl, .inr rfl⟩
 ·rw [if_neg h, if_neg h]; omega
def atE (v : Vl) (L : Evs) (n : Nat) (f : Int → Int × Int → Int) (x : Int) : Prop := ∃ i, i < n ∧ nowM L (v.z1 + i) L.length ≠ (1, 0) ∧ x = f (v.z1 + i) (nowM L (v.z1 + i) L.length)
theorem atE_s {v : Vl} {L : Evs} {n : Nat} {f : Int → Int × Int → Int} {x : Int} (h : atE v L n f x) : atE v L (n + 1) f x := by
 obtain ⟨i, h1, h2⟩ := h
 exact ⟨i, by omega, h2⟩
theorem acc_at {v : Vl} {L : Evs} : ∀ n : Nat, accM v L n = noT ∨ ((atE v L n (fun _ p => v.tl p.1) (accM v L n).1.1 ∧ atE v L n (fun _ p => v.th p.2) (accM v L n).1.2) ∧ atE v L n (fun z _ => z) (accM v L n).2.1 ∧ atE v L n (fun z _ => z) (accM v L n).2.2)
 | 0 => .inl rfl
 | n + 1 => by
  have ih := acc_at (v := v) (L := L) n
  simp only [accM]
  by_cases hn : nowM L (v.z1 + n) L.length = (1, 0)
  ·rw [if_pos hn]
   rcases ih with h | ⟨⟨h1, h2⟩, h3, h4⟩
   ·exact .inl h
   ·exact .inr ⟨⟨atE_s h1, atE_s h2⟩, atE_s h3, atE_s h4⟩
  ·rw [if_neg hn]
   refine .inr ?_
   have own : ∀ f : Int → Int × Int → Int, atE v L (n + 1) f (f (v.z1 + n) (nowM L (v.z1 + n) L.length)) := fun f => ⟨n, by omega, hn, rfl⟩
   rcases ih with h | ⟨⟨h1, h2⟩, h3, h4⟩
   ·rw [h]
    simp only [noT, ar_no]
    exact ⟨⟨own fun _ p => v.tl p.1, own fun _ p => v.th p.2⟩, own fun z _ => z, own fun z _ => z⟩
   ·have a := @ar_at (accM v L n).1 (v.tl (nowM L (v.z1 + n) L.length).1, v.th (nowM L (v.z1 + n) L.length).2)
    have b := @ar_at (accM v L n).2 (v.z1 + n, v.z1 + n)
    have two : ∀ {x y z : Int} {f : Int → Int × Int → Int}, (x = y ∨ x = z) → atE v L n f y → atE v L (n + 1) f z → atE v L (n + 1) f x := fun h a b => by
     rcases h with rfl | rfl
     ·exact atE_s a
     ·exact b
    exact ⟨⟨two a.1 h1 (own fun _ p => v.tl p.1), two a.2 h2 (own fun _ p => v.th p.2)⟩, two b.1 h3 (own fun z _ => z), two b.2 h4 (own fun z _ => z)⟩
theorem now_ne {v : Vl} (hv : v.ok) {R : List Rg} (hR : okRs v R) {z : Int} (hz : 0 ≤ z ∧ z ≤ 400) (h : now' v R z ≠ (1, 0)) : loW v.w z (R.map midR) ≤ hiW v.w z (R.map midR) ∧ now' v R z = (loW v.w z (R.map midR), hiW v.w z (R.map midR)) := by
 have e := now_eq hv hR hz
 by_cases hc : loW v.w z (R.map midR) ≤ hiW v.w z (R.map midR)
 ·rw [if_pos hc] at e
  exact ⟨hc, e⟩
 ·rw [if_neg hc] at e
  exact absurd e h
theorem lo_408 {v : Vl} (hv : v.ok) {R : List Rg} (hR : okRs v R) {z : Int} (hz : 0 ≤ z ∧ z ≤ 400) (hc : loW v.w z (R.map midR) ≤ hiW v.w z (R.map midR)) : -408 ≤ loW v.w z (R.map midR) ∧ loW v.w z (R.map midR) ≤ 408 := by
 obtain ⟨e0, he0⟩ : ∃ e, e ∈ R := by
  cases R with
  | nil => have := hR.1; simp at this
  | cons e R => exact ⟨e, List.mem_cons_self⟩
 have hv2 := hv
 unfold Vl.ok at hv2
 have he1 := hR.2 e0 he0
 unfold okR at he1
 have hn0 : -400 ≤ nz z (midR e0) ∧ nz z (midR e0) ≤ 400 := by
  unfold nz midR
  simp only
  split <;> omega
 have a := (lo_in (w := v.w) (z := z) (L := R.map midR) (x := loW v.w z (R.map midR))).1 (Int.le_refl _)
 have b := (hi_in (w := v.w) (z := z) (L := R.map midR) (x := hiW v.w z (R.map midR))).1 (Int.le_refl _)
 have a1 := a.2 (midR e0) (List.mem_map_of_mem he0)
 have b1 := b.2 (midR e0) (List.mem_map_of_mem he0)
 omega
theorem tl_at {v : Vl} (x : Int) : v.tl x = v.v1 * x ∨ v.tl x = v.v2 * x := by unfold Vl.tl; omega
theorem th_at {v : Vl} (x : Int) : v.th x = v.v1 * x ∨ v.th x = v.v2 * x := by unfold Vl.th; omega
theorem can_lo {v : Vl} (hv : v.ok) {R : List Rg} (hR : okRs v R) {a z : Int} (ht : truP v a z) (h : now' v R z ≠ (1, 0)) : agrB (Mp.mid v.w R).ev a z (a * (now' v R z).1) = true ∧ agrB (Mp.mid v.w R).ev a z (a * (now' v R z).2) = true := by
 have hv2 := hv
 unfold Vl.ok at hv2
 have ht2 := ht
 unfold truP at ht2
 obtain ⟨hc, e⟩ := now_ne hv hR (z := z) (by omega) h
 rw [agr_can hv hR ht, agr_can hv hR ht, decide_eq_true_eq, decide_eq_true_eq, e]
 have := Int.mul_le_mul_of_nonneg_left hc (show 0 ≤ a by omega)
 unfold canP
 simp only
 rw [Int.mul_comm _ a, Int.mul_comm _ a]
 exact ⟨⟨hc, Int.le_refl _, this⟩, hc, this, Int.le_refl _⟩
theorem end_t {v : Vl} (hv : v.ok) {R : List Rg} (hR : okRs v R) (h : trM v R ≠ noT) :
  (∃ a z, (a = v.v1 ∨ a = v.v2) ∧ (v.z1 ≤ z ∧ z ≤ v.z2) ∧ agrB (Mp.mid v.w R).ev a z (trM v R).1.1 = true) ∧
  (∃ a z, (a = v.v1 ∨ a = v.v2) ∧ (v.z1 ≤ z ∧ z ≤ v.z2) ∧ agrB (Mp.mid v.w R).ev a z (trM v R).1.2 = true) ∧
  (∃ s : Int, (-408 ≤ s ∧ s ≤ 408) ∧ agrB (Mp.mid v.w R).ev v.v1 (trM v R).2.1 (s * v.v1) = true) ∧
  (∃ s : Int, (-408 ≤ s ∧ s ≤ 408) ∧ agrB (Mp.mid v.w R).ev v.v1 (trM v R).2.2 (s * v.v1) = true) ∧
  (v.z1 ≤ (trM v R).2.1 ∧ (trM v R).2.1 ≤ v.z2) ∧ v.z1 ≤ (trM v R).2.2 ∧ (trM v R).2.2 ≤ v.z2 := by
 have hv2 := hv
 unfold Vl.ok at hv2
 have hn : (nzV v : Int) = v.z2 - v.z1 + 1 := by unfold nzV; omega
 rcases acc_at (v := v) (L := (Mp.mid v.w R).ev) (nzV v) with h0 | ⟨⟨h1, h2⟩, h3, h4⟩
 ·exact absurd h0 h
 ·change atE v _ _ _ (trM v R).1.1 at h1
  change atE v _ _ _ (trM v R).1.2 at h2
  change atE v _ _ _ (trM v R).2.1 at h3
  change atE v _ _ _ (trM v R).2.2 at h4
  have tru : ∀ a z, (a = v.v1 ∨ a = v.v2) → (v.z1 ≤ z ∧ z ≤ v.z2) → truP v a z := fun a z ha hz => by unfold truP; omega
  have T : ∀ z, (v.z1 ≤ z ∧ z ≤ v.z2) → now' v R z ≠ (1, 0) → ∃ s : Int, (-408 ≤ s ∧ s ≤ 408) ∧ agrB (Mp.mid v.w R).ev v.v1 z (s * v.v1) = true := fun z hz hne => by
   have c := (can_lo hv hR (tru _ z (.inl rfl) hz) hne).1
   obtain ⟨hc, e⟩ := now_ne hv hR (z := z) (by omega) hne
   rw [e] at c
   exact ⟨_, lo_408 hv hR (by omega) hc, by rw [Int.mul_comm]; exact c⟩
  refine ⟨?_, ?_, ?_, ?_, ?_, ?_⟩
  ·obtain ⟨i, hi, hne, e⟩ := h1
   rw [e]
   rcases tl_at (v := v) (nowM (Mp.mid v.w R).ev (v.z1 + i) (Mp.mid v.w R).ev.length).1 with e2 | e2
   ·exact ⟨v.v1, v.z1 + i, .inl rfl, by omega, by simp only [e2]; exact (can_lo hv hR (tru _ _ (.inl rfl) (by omega)) hne).1⟩
   ·exact ⟨v.v2, v.z1 + i, .inr rfl, by omega, by simp only [e2]; exact (can_lo hv hR (tru _ _ (.inr rfl) (by omega)) hne).1⟩
  ·obtain ⟨i, hi, hne, e⟩ := h2
   rw [e]
   rcases th_at (v := v) (nowM (Mp.mid v.w R).ev (v.z1 + i) (Mp.mid v.w R).ev.length).2 with e2 | e2
   ·exact ⟨v.v1, v.z1 + i, .inl rfl, by omega, by simp only [e2]; exact (can_lo hv hR (tru _ _ (.inl rfl) (by omega)) hne).2⟩
   ·exact ⟨v.v2, v.z1 + i, .inr rfl, by omega, by simp only [e2]; exact (can_lo hv hR (tru _ _ (.inr rfl) (by omega)) hne).2⟩
  ·obtain ⟨i, hi, hne, e⟩ := h3
   simp only at e
   rw [e]
   exact T _ (by omega) hne
  ·obtain ⟨i, hi, hne, e⟩ := h4
   simp only at e
   rw [e]
   exact T _ (by omega) hne
  ·obtain ⟨i, hi, hne, e⟩ := h3
   simp only at e
   omega
  ·obtain ⟨i, hi, hne, e⟩ := h4
   simp only at e
   omega
end Go.Proofs.Ytgdihdiadlmjiaa
