import Derived.Test.YtgdihdiadlmjiaaVgLM8
set_option linter.all false
namespace Go.Proofs.Ytgdihdiadlmjiaa
open Go Go.Vg
set_option maxRecDepth 10000
theorem ar_at {p q : Int × Int} : ((arP p q).1 = p.1 ∨ (arP p q).1 = q.1) ∧ ((arP p q).2 = p.2 ∨ (arP p q).2 = q.2) := by
 unfold arP arL arH
 simp only
 by_cases h : p.1 = 1 ∧ p.2 = 0
 ·rw [if_pos h, if_pos h]; exact ⟨.inr rfl, .inr rfl⟩
 ·rw [if_neg h, if_neg h]; omega
def atE (v : Vl) (L : Evs) (n : Nat) (f : Int → Int × Int → Int) (x : Int) : Prop := ∃ i, i < n ∧ nowM L (v.z1 + i) L.length ≠ (1, 0) ∧ x = f (v.z1 + i) (nowM L (v.z1 + i) L.length)
theorem atE_s {v : Vl} {L : Evs} {n : Nat} {f : Int → Int × Int → Int} {x : Int} (h : atE v L n f x) : atE v L (n + 1) f x := by
 obtain ⟨i, h1, h2⟩ := h
 exact ⟨i, by omega, h2⟩
theorem acc_at {v : Vl} {L : Evs} : ∀ n : Nat, accM v L n = noT ∨ ((atE v L n (fun _ p => v.tl p.1) (accM v L n).1.1 ∧ atE v L n (fun _ p => v.th p.2) (accM v L n).1.2) ∧ atE v L n (fun z _ => z) (accM v L n).2.1 ∧ atE v L n (fun z _ => z) (accM v L n).2.2)
 | 0 => .inl rfl
 | n + 1 => by
  have ih := acc_at (v := v) (L := L) n
  simp only [accM]
  by_cases hn : nowM L (v.z1 + n) L.length = (1, 0)
  ·rw [if_pos hn]
   rcases ih with h | ⟨⟨h1, h2⟩, h3, h4⟩
   ·exact .inl h
   ·exact .inr ⟨⟨atE_s h1, atE_s h2⟩, atE_s h3, atE_s h4⟩
  ·rw [if_neg hn]
   refine .inr ?_
   have own : ∀ f : Int → Int × Int → Int, atE v L (n + 1) f (f (v.z1 + n) (nowM L (v.z1 + n) L.length)) := fun f => ⟨n, by omega, hn, rfl⟩
   rcases ih with h | ⟨⟨h1, h2⟩, h3, h4⟩
   ·rw [h]
    simp only [noT, ar_no]
    exact ⟨⟨own fun _ p => v.tl p.1, own fun _ p => v.th p.2⟩, own fun z _ => z, own fun z _ => z⟩
   ·have a := @ar_at (accM v L n).1 (v.tl (nowM L (v.z1 + n) L.length).1, v.th (nowM L (v.z1 + n) L.length).2)
    have b := @ar_at (accM v L n).2 (v.z1 + n, v.z1 + n)
    have two : ∀ {x y z : Int} {f : Int → Int × Int → Int}, (x = y ∨ x = z) → atE v L n f y → atE v L (n + 1) f z → atE v L (n + 1) f x := fun h a b => by
     rcases h with rfl | rfl
     ·exact atE_s a
     ·exact b
    exact ⟨⟨two a.1 h1 (own fun _ p => v.tl p.1), two a.2 h2 (own fun _ p => v.th p.2)⟩, two b.1 h3 (own fun z _ => z), two b.2 h4 (own fun z _ => z)⟩
theorem now_ne {v : Vl} (hv : v.ok) {R : List Rg} (hR : okRs v R) {z : Int} (hz : 0 ≤ z ∧ z ≤ 400) (h : now' v R z ≠ (1, 0)) : loW v.w z (R.map midR) ≤ hiW v.w z (R.map midR) ∧ now' v R z = (loW v.w z (R.map midR), hiW v.w z (R.map midR)) := by
 have e := now_eq hv hR hz
 by_cases hc : loW v.w z (R.map midR) ≤ hiW v.w z (R.map midR)
 ·rw [if_pos hc] at e
  exact ⟨hc, e⟩
 ·rw [if_neg hc] at e
  exact absurd e h
theorem zero_in {w z : Int} {R : List Rg} (hc : loW w z (R.map midR) ≤ hiW w z (R.map midR)) {a b : Rg} (ha : a ∈ R) (hb : b ∈ R) (h1 : a.2.2 = false) (h2 : b.2.2 = true) : a.1 + a.2.1 + (b.1 + b.2.1) - 2 * w ≤ 2 * z ∧ 2 * z ≤ a.1 + a.2.1 + (b.1 + b.2.1) + 2 * w := by
 have l := ((lo_in (w := w) (z := z) (L := R.map midR) (x := loW w z (R.map midR))).1 (Int.le_refl _)).2
 have h := ((hi_in (w := w) (z := z) (L := R.map midR) (x := hiW w z (R.map midR))).1 (Int.le_refl _)).2
 have la := l _ (List.mem_map_of_mem ha)
 have lb := l _ (List.mem_map_of_mem hb)
 have h3 := h _ (List.mem_map_of_mem ha)
 have h4 := h _ (List.mem_map_of_mem hb)
 simp only [nz, midR, h1, h2, Bool.false_eq_true, if_false, if_true] at la lb h3 h4
 omega
theorem zero_all {v : Vl} (hv : v.ok) {R : List Rg} (hR : okRs v R) (h : trM v R ≠ noT) {a b : Rg} (ha : a ∈ R) (hb : b ∈ R) (h1 : a.2.2 = false) (h2 : b.2.2 = true) :
  (a.1 + a.2.1 + (b.1 + b.2.1) - 2 * v.w ≤ 2 * (trM v R).2.1) ∧ 2 * (trM v R).2.2 ≤ a.1 + a.2.1 + (b.1 + b.2.1) + 2 * v.w := by
 have hv2 := hv
 unfold Vl.ok at hv2
 have hn : (nzV v : Int) = v.z2 - v.z1 + 1 := by unfold nzV; omega
 rcases acc_at (v := v) (L := (Mp.mid v.w R).ev) (nzV v) with h0 | ⟨_, h3, h4⟩
 ·exact absurd h0 h
 ·obtain ⟨i, hi, hne, e⟩ := h3
  obtain ⟨j, hj, hne2, e2⟩ := h4
  change (trM v R).2.1 = v.z1 + i at e
  change (trM v R).2.2 = v.z1 + j at e2
  have c := zero_in (now_ne hv hR (z := v.z1 + i) (by omega) hne).1 ha hb h1 h2
  have d := zero_in (now_ne hv hR (z := v.z1 + j) (by omega) hne2).1 ha hb h1 h2
  omega
end Go.Proofs.Ytgdihdiadlmjiaa
