import Derived.Test.YtgdihdiadlmjiaaVgLM6
set_option linter.all false
namespace Go.Proofs.Ytgdihdiadlmjiaa
open Go Go.Vg
set_option maxRecDepth 10000
def inS (p : Int × Int) (x : Int) : Prop := p.1 ≤ x ∧ x ≤ p.2
def nrm (p : Int × Int) : Prop := p.1 ≤ p.2 ∨ p = (1, 0)
theorem inS_cm {p q : Int × Int} {x : Int} : inS (cmP p q) x ↔ inS p x ∧ inS q x := by
 unfold inS cmP cmL cmH
 simp only
 by_cases h : max p.1 q.1 ≤ min p.2 q.2
 ·rw [if_pos h, if_pos h]; omega
 ·rw [if_neg h, if_neg h]; omega
theorem nrm_cm {p q : Int × Int} : nrm (cmP p q) := by
 unfold nrm cmP cmL cmH
 simp only
 by_cases h : max p.1 q.1 ≤ min p.2 q.2
 ·rw [if_pos h, if_pos h]; exact .inl h
 ·rw [if_neg h, if_neg h]; exact .inr rfl
theorem nrm_ext {p q : Int × Int} (hp : nrm p) (hq : nrm q) (h : ∀ x, inS p x ↔ inS q x) : p = q := by
 unfold inS at h
 rcases hp with hp | rfl
 ·have h1 := (h p.1).1 ⟨Int.le_refl _, hp⟩
  have h2 := (h p.2).1 ⟨hp, Int.le_refl _⟩
  rcases hq with hq | rfl
  ·have h3 := (h q.1).2 ⟨Int.le_refl _, hq⟩
   have h4 := (h q.2).2 ⟨hq, Int.le_refl _⟩
   exact Prod.ext (by omega) (by omega)
  ·simp only at h1; omega
 ·rcases hq with hq | rfl
  ·have h3 := (h q.1).2 ⟨Int.le_refl _, hq⟩
   simp only at h3; omega
  ·rfl
theorem now_inS {L : Evs} {z x : Int} (hx : -9223372036854775808 ≤ x ∧ x ≤ 9223372036854775807) : ∀ k, inS (nowM L z k) x ↔ ∀ j, j < k → inS (mvE (ev0 L j) z) x
 | 0 => by simp [nowM, inS]; omega
 | k + 1 => by
  rw [nowM, inS_cm, now_inS hx k]
  exact ⟨fun h j hj => by
   rcases Nat.lt_or_eq_of_le (Nat.le_of_lt_succ hj) with h2 | rfl
   ·exact h.1 j h2
   ·exact h.2, fun h => ⟨fun j hj => h j (by omega), h k (by omega)⟩⟩
def Mp.inD : Mp → Int → Prop
 | .e0, _ => True
 | .t1 _ _, _ => True
 | .d1 a b, y => inS (a, b) y
 | .dt a b _ _, y => inS (a, b) y
 | .td a b _ _, y => inS (a, b) y
def Mp.inT : Mp → Int → Prop
 | .e0, _ => True
 | .d1 _ _, _ => True
 | .t1 a b, y => inS (a, b) y
 | .dt _ _ a b, y => inS (a, b) y
 | .td _ _ a b, y => inS (a, b) y
theorem cm4 {a b c d y : Int} : inS (cmL a b c d, cmH a b c d) y ↔ inS (a, b) y ∧ inS (c, d) y := inS_cm (p := (a, b)) (q := (c, d))
theorem wth_D {M : Mp} {t : Bool} {x1 x2 y : Int} : (M.wth t x1 x2).inD y ↔ M.inD y ∧ (t = false → inS (x1, x2) y) := by
 cases M <;> cases t <;> simp [Mp.wth, Mp.inD, cm4]
theorem wth_T {M : Mp} {t : Bool} {x1 x2 y : Int} : (M.wth t x1 x2).inT y ↔ M.inT y ∧ (t = true → inS (x1, x2) y) := by
 cases M <;> cases t <;> simp [Mp.wth, Mp.inT, cm4]
theorem ev_in {M : Mp} {z x : Int} : (∀ j, j < M.ev.length → inS (mvE (ev0 M.ev j) z) x) ↔ M.inD (x + z) ∧ M.inT (z - x) := by
 have two : ∀ P : Nat → Prop, (∀ j, j < 2 → P j) ↔ P 0 ∧ P 1 := fun P => ⟨fun h => ⟨h 0 (by omega), h 1 (by omega)⟩, fun h j hj => by rcases (show j = 0 ∨ j = 1 by omega) with rfl | rfl; exact h.1; exact h.2⟩
 have one : ∀ P : Nat → Prop, (∀ j, j < 1 → P j) ↔ P 0 := fun P => ⟨fun h => h 0 (by omega), fun h j hj => (show j = 0 by omega) ▸ h⟩
 have D : ∀ a b : Int, inS (mvE (145, a, b) z) x ↔ inS (a, b) (x + z) := fun a b => by simp only [inS, mvE, if_true]; omega
 have T : ∀ a b : Int, inS (mvE (146, a, b) z) x ↔ inS (a, b) (z - x) := fun a b => by simp only [inS, mvE, show ¬ ((146 : Nat) = 145) by decide, if_false]; omega
 cases M
 ·simp [Mp.ev, Mp.inD, Mp.inT]
 ·rename_i a b
  show (∀ j, j < 1 → _) ↔ _
  rw [one]
  exact (D a b).trans (by simp [Mp.inD, Mp.inT])
 ·rename_i a b
  show (∀ j, j < 1 → _) ↔ _
  rw [one]
  exact (T a b).trans (by simp [Mp.inD, Mp.inT])
 ·rename_i a b c e
  show (∀ j, j < 2 → _) ↔ _
  rw [two]
  exact and_congr (D a b) (T c e)
 ·rename_i a b c e
  show (∀ j, j < 2 → _) ↔ _
  rw [two]
  exact and_congr (D a b) (T c e)
theorem lo_in {w z x : Int} {L : List Md} : loW w z L ≤ x ↔ -10000 ≤ x ∧ ∀ e ∈ L, nz z e - w ≤ x := by
 unfold loW
 suffices h : ∀ a : Int, L.foldl (fun a e => max a (nz z e - w)) a ≤ x ↔ a ≤ x ∧ ∀ e ∈ L, nz z e - w ≤ x from h _
 induction L with
 | nil => intro a; simp
 | cons e L ih =>
  intro a
  rw [List.foldl_cons, ih]
  simp only [List.forall_mem_cons, ← and_assoc]
  exact and_congr_left fun _ => by omega
theorem hi_in {w z x : Int} {L : List Md} : x ≤ hiW w z L ↔ x ≤ 10000 ∧ ∀ e ∈ L, x ≤ nz z e + w := by
 unfold hiW
 suffices h : ∀ a : Int, x ≤ L.foldl (fun a e => min a (nz z e + w)) a ↔ x ≤ a ∧ ∀ e ∈ L, x ≤ nz z e + w from h _
 induction L with
 | nil => intro a; simp
 | cons e L ih =>
  intro a
  rw [List.foldl_cons, ih]
  simp only [List.forall_mem_cons, ← and_assoc]
  exact and_congr_left fun _ => by omega
abbrev now' (v : Vl) (R : List Rg) (z : Int) : Int × Int := nowM (Mp.mid v.w R).ev z (Mp.mid v.w R).ev.length
theorem lst_tl {v : Vl} {a : Int} : v.lst a = v.tl a := by
 unfold Vl.lst Vl.tl
 rw [Int.mul_comm v.v1, Int.mul_comm v.v2]
 split <;> omega
theorem mst_th {v : Vl} {a : Int} : v.mst a = v.th a := by
 unfold Vl.mst Vl.th
 rw [Int.mul_comm v.v1, Int.mul_comm v.v2]
 split <;> omega
theorem tl_th {v : Vl} (hv : v.ok) {a b : Int} (h : a ≤ b) : v.tl a ≤ v.th b := by
 unfold Vl.ok at hv
 have := Int.mul_le_mul_of_nonneg_left h (show 0 ≤ v.v1 by omega)
 unfold Vl.tl Vl.th
 omega
theorem ar_no {q : Int × Int} : arP (1, 0) q = q := by
 unfold arP arL arH; simp
theorem ar_yes {p q : Int × Int} (h : p.1 ≤ p.2) : arP p q = (min p.1 q.1, max p.2 q.2) := by
 unfold arP arL arH
 have h : ¬ (p.1 = 1 ∧ p.2 = 0) := by omega
 rw [if_neg h, if_neg h]
def tzP (s : Tz) : (Int × Int) × (Int × Int) := ((s.t1, s.t2), (s.u1, s.u2))
end Go.Proofs.Ytgdihdiadlmjiaa
