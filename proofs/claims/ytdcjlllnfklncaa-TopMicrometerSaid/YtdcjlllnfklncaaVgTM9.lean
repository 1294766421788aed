import Derived.Test.YtdcjlllnfklncaaVgTM8
namespace Go.Proofs.Ytdcjlllnfklncaa
open Go Go.Vg
set_option linter.unusedSimpArgs false
set_option linter.unusedVariables false
set_option maxRecDepth 10000
def F9 : FC := fun args => match args with
 | [.agg [.int .i64 f, .int .i64 l, .int .i64 t, .int .i64 a, .int .i64 b, .int .i64 w]] => some (True, .tup [.rd 2 (Rp.R ⟨f, l, t, a, b, w⟩).length (rowsS (Rp.R ⟨f, l, t, a, b, w⟩)), .int .i64 (Rp.e ⟨f, l, t, a, b, w⟩)])
 | _ => none
theorem p9' : PureOk Try.prog 9 (fcC F9) := by
 intro w im args vs K him ha hC
 unfold fcC F9 at hC
 split at hC <;> first | (exact hC.elim) | skip
 rename_i h
 split at h <;> first | (cases h; done) | skip
 cases h
 exact p9 w im _ vs K him ha ⟨⟨_, _, _, _, _, _⟩, rfl, hC.2⟩
theorem acc_in {w : Nat → Int × Int} : ∀ {n i : Nat}, i < n → (w i).1 ≤ (w i).2 → w i ∈ acc w n
 | 0, i, hi, _ => by omega
 | n + 1, i, hi, h => by
  unfold acc
  by_cases hn : i = n
  ·subst hn; rw [if_pos h]; simp
  ·have := acc_in (n := n) (i := i) (by omega) h
   split
   ·exact List.mem_append_left _ this
   ·exact this
theorem acc_gap {w : Nat → Int × Int} (h : ∀ i j, i < j → (w i).2 + 1 < (w j).1) : ∀ n, (acc w n).Pairwise fun e e' => e.2 + 1 < e'.1
 | 0 => .nil
 | n + 1 => by
  unfold acc
  split
  ·rw [List.pairwise_append]
   refine ⟨acc_gap h n, List.pairwise_singleton _ _, fun e he e' he' => ?_⟩
   obtain ⟨i, hi, rfl⟩ := acc_mem he
   have : e' = w n := by simpa using he'
   subst this
   exact h i n hi
  ·exact acc_gap h n
structure RpF (v : Rp) (A : Int) : Prop where
 e : v.e = 0
 in_ : ∃ i, i < v.R.length ∧ lo v.R i ≤ A ∧ A ≤ hi v.R i
 b : ∀ i, i < v.R.length → v.a ≤ lo v.R i ∧ hi v.R i ≤ v.b ∧ lo v.R i ≤ hi v.R i ∧ (hi v.R i - lo v.R i) * v.t ≤ 4 * v.w
 gap : ∀ i, i + 1 < v.R.length → hi v.R i + 1 < lo v.R (i + 1)
theorem Rp.facts {v : Rp} (ho : v.ok) {A : Int} (hA : v.a ≤ A ∧ A ≤ v.b) (hd : ∃ c : Nat, c < (v.t + 2).toNat ∧ A * v.t - 2 * v.w ≤ v.d + ((c : Int) - 1) * 1296000 ∧ v.d + ((c : Int) - 1) * 1296000 ≤ A * v.t + 2 * v.w) : RpF v A := by
 have hR : v.R = v.pl := by unfold Rp.R; rw [if_pos ho]
 have h0 := ho
 unfold Rp.ok at h0
 have mem : ∀ i, i < v.pl.length → ∃ k, v.pl.getD i (0, 0) = v.pw k ∧ (v.pw k).1 ≤ (v.pw k).2 := fun i hi => by
  have hm : v.pl.getD i (0, 0) ∈ v.pl := by simp [List.getD, hi]
  have h2 := acc_lt hm
  obtain ⟨k, _, e⟩ := acc_mem hm
  exact ⟨k, e, by rw [← e]; exact h2⟩
 obtain ⟨c, hc, h1, h2⟩ := hd
 have hw : (v.pw c).1 ≤ A ∧ A ≤ (v.pw c).2 := by
  have t0 : 0 < v.t := by omega
  have e1 : -(v.d + ((c : Int) - 1) * 1296000 - 2 * v.w) / v.t ≥ -A := by
   rw [ge_iff_le, Int.le_ediv_iff_mul_le t0]
   rw [Int.neg_mul]; omega
  have e2 : A ≤ (v.d + ((c : Int) - 1) * 1296000 + 2 * v.w) / v.t := by
   rw [Int.le_ediv_iff_mul_le t0]; omega
  unfold Rp.pw Rp.win
  simp only
  omega
 have hin := acc_in (w := v.pw) hc (by omega)
 obtain ⟨i, hi1, hi2⟩ := List.getElem_of_mem hin
 have hpl : acc v.pw (v.t + 2).toNat = v.pl := rfl
 refine ⟨?_, ?_, ?_, ?_⟩
 ·unfold Rp.e
  rw [if_pos ho, if_neg]
  rw [← hpl]; omega
 ·rw [hR]
  refine ⟨i, hi1, ?_⟩
  have : v.pl.getD i (0, 0) = v.pw c := by rw [← hi2]; simp [List.getD, ← hpl, hi1]
  unfold lo hi
  rw [this]; exact hw
 ·rw [hR]
  intro i hi'
  obtain ⟨k, e, h3⟩ := mem i hi'
  unfold lo hi
  rw [e]
  have h4 : v.a ≤ (v.pw k).1 ∧ (v.pw k).2 ≤ v.b := v.win_b _
  have h5 := v.win_hi ho (v.d + ((k : Int) - 1) * 1296000)
  have h6 := v.win_lo ho (v.d + ((k : Int) - 1) * 1296000)
  refine ⟨h4.1, h4.2, h3, ?_⟩
  show ((v.win (v.d + ((k : Int) - 1) * 1296000)).2 - (v.win (v.d + ((k : Int) - 1) * 1296000)).1) * v.t ≤ 4 * v.w
  rw [Int.sub_mul]
  omega
 ·rw [hR]
  intro i hi'
  have hp := acc_gap (w := v.pw) (fun i j hij => by
   have := v.gap ho (v.d + ((i : Int) - 1) * 1296000) (v.d + ((j : Int) - 1) * 1296000) (by omega)
   show (v.win _).2 + 1 < (v.win _).1
   omega) (v.t + 2).toNat
  have := List.pairwise_iff_getElem.1 hp i (i + 1) (by rw [hpl]; omega) (by rw [hpl]; omega) (by omega)
  unfold lo hi
  simp only [List.getD, hpl] at this ⊢
  rw [List.getElem?_eq_getElem (by omega), List.getElem?_eq_getElem (by omega)]
  exact this
theorem Rp.same {v u : Rp} (hv : v.ok) (hu : u.ok) (hd : v.d = u.d) (ht : v.t = u.t) (ha : v.a = u.a) (hb : v.b = u.b) (hw : v.w = u.w) : v.R = u.R ∧ v.e = u.e := by
 have : v.pl = u.pl := by
  have e : v.pw = u.pw := by
   funext c
   unfold Rp.pw Rp.win
   rw [hd, ht, ha, hb, hw]
  unfold Rp.pl
  rw [e, ht]
 unfold Rp.R Rp.e
 rw [if_pos hv, if_pos hu, if_pos hv, if_pos hu, this]
 exact ⟨rfl, rfl⟩
end Go.Proofs.Ytdcjlllnfklncaa
