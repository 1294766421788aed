import Derived.Test.YtplldhepmmjmmaaVgTP5
namespace Go.Proofs.Ytplldhepmmjmmaa
open Go Go.Vg
set_option linter.unusedSimpArgs false
set_option linter.unusedVariables false
set_option maxRecDepth 10000
def errE (N : Nat) (Y : Nat → List Int) : Nat → Int := fun n => if n / 9 < N then (Y (n / 9)).getD (n % 9) 0 else 0
theorem okS_all {T : List Int} {m : Int} (h : okS T m = true) : (1 ≤ T.length ∧ T.length ≤ 4) ∧ (0 ≤ m ∧ m ≤ 100000) ∧ ∀ i, i < T.length → 1 ≤ T.getD i 0 ∧ T.getD i 0 ≤ 8 := by
 have h' := h
 simp only [okS, Bool.and_eq_true, decide_eq_true_eq] at h'
 exact ⟨⟨by omega, by omega⟩, h'.2.1, fun i hi => of_decide_eq_true (allI_get hi h'.2.2)⟩
theorem okL_row {T : List Int} {L : List Rdg} (h : okL T L = true) : ∀ r, r ∈ L → ((0 ≤ r.A ∧ r.A ≤ (T.length : Int) - 1) ∧ (0 ≤ r.I ∧ r.I ≤ T.getD r.A.toNat 0)) ∧ (0 ≤ r.B ∧ r.B ≤ (T.length : Int) - 1) ∧ (0 ≤ r.J ∧ r.J ≤ T.getD r.B.toNat 0) := fun r hr => by
 simp only [okL, Bool.and_eq_true, List.all_eq_true] at h
 have := h.2 r hr
 simp only [okR, hE, Bool.and_eq_true, decide_eq_true_eq] at this
 exact this.1
theorem no_ab {T : List Int} {m a i : Int} (hs : okS T m = true) (ha : 0 ≤ a ∧ a ≤ (T.length : Int) - 1) (hi : 0 ≤ i ∧ i ≤ T.getD a.toNat 0) : (a * 9 + i).toNat = a.toNat * 9 + i.toNat ∧ (a * 9 + i).toNat / 9 = a.toNat ∧ (a * 9 + i).toNat % 9 = i.toNat := by
 obtain ⟨h1, _, h2⟩ := okS_all hs
 have := h2 a.toNat (by omega)
 omega
theorem true_isT {T : List Int} {m : Int} {L : List Rdg} {N : Nat} {Y : Nat → List Int} (h : truE T m L N Y = true) : isT T m L (errE N Y) := by
 simp only [truE, Bool.and_eq_true, decide_eq_true_eq] at h
 obtain ⟨h0, hh, hL2⟩ := h
 obtain ⟨hs, hL⟩ := chk_0.1 h0
 obtain ⟨hT1, hm, hT⟩ := okS_all hs
 obtain ⟨hN, hrow⟩ := haveE_row hh
 refine ⟨fun n => ?_, fun r hr => ?_⟩
 ·have q : n / 9 < N → ((Y (n / 9)).length : Int) = T.getD (n / 9) 0 + 1 ∧ (Y (n / 9)).getD 0 0 = 0 ∧ ∀ j, j < (Y (n / 9)).length → -m ≤ (Y (n / 9)).getD j 0 ∧ (Y (n / 9)).getD j 0 ≤ m := hrow _
  show (wd T m T.length 0 n).1 ≤ errE N Y n ∧ errE N Y n ≤ (wd T m T.length 0 n).2
  unfold wd errE
  by_cases hn : n / 9 < N
  ·obtain ⟨q1, q2, q3⟩ := q hn
   rw [if_pos hn]
   by_cases hc : (n / 9 < T.length ∨ n / 9 = T.length ∧ n % 9 ≤ 0) ∧ 1 ≤ n % 9 ∧ ((n % 9 : Nat) : Int) ≤ T.getD (n / 9) 0
   ·rw [if_pos hc]
    exact q3 _ (by omega)
   ·rw [if_neg hc]
    have hz : (Y (n / 9)).getD (n % 9) 0 = 0 := by
     by_cases h9 : n % 9 = 0
     ·rw [h9]; exact q2
     ·have : (Y (n / 9)).length ≤ n % 9 := by
       by_cases h8 : (Y (n / 9)).length ≤ n % 9
       ·exact h8
       ·exact absurd ⟨.inl (by omega), by omega, by omega⟩ hc
      rw [List.getD_eq_getElem?_getD, List.getElem?_eq_none this]; rfl
    rw [hz]; exact ⟨Int.le_refl _, Int.le_refl _⟩
  ·rw [if_neg hn]
   by_cases hc : (n / 9 < T.length ∨ n / 9 = T.length ∧ n % 9 ≤ 0) ∧ 1 ≤ n % 9 ∧ ((n % 9 : Nat) : Int) ≤ T.getD (n / 9) 0
   ·obtain ⟨hc1, hc2, hc3⟩ := hc
    exfalso; omega
   ·rw [if_neg hc]; exact ⟨Int.le_refl _, Int.le_refl _⟩
 ·obtain ⟨⟨a1, a2⟩, b1, b2⟩ := okL_row hL r hr
  obtain ⟨_, na1, na2⟩ := no_ab hs a1 a2
  obtain ⟨_, nb1, nb2⟩ := no_ab hs b1 b2
  have this : -r.W ≤ hdE Y r - r.V ∧ hdE Y r - r.V ≤ r.W := of_decide_eq_true (List.all_eq_true.1 hL2 r hr)
  unfold hdE at this
  have ea : errE N Y r.na = (Y r.A.toNat).getD r.I.toNat 0 := by
   unfold errE Rdg.na; rw [na1, na2, if_pos (by omega)]
  have eb : errE N Y r.nb = (Y r.B.toNat).getD r.J.toNat 0 := by
   unfold errE Rdg.nb; rw [nb1, nb2, if_pos (by omega)]
  unfold hld
  rw [ea, eb]; omega
end Go.Proofs.Ytplldhepmmjmmaa
