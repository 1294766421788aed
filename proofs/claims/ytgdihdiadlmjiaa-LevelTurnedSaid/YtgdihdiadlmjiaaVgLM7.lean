import Derived.Test.YtgdihdiadlmjiaaVgLM6
set_option linter.all false
namespace Go.Proofs.Ytgdihdiadlmjiaa
open Go Go.Vg
set_option maxRecDepth 10000
def inS (p : Int × Int) (x : Int) : Prop := p.1 ≤ x ∧ x ≤ p.2
def nrm (p : Int × Int) : Prop := p.1 ≤ p.2 ∨ p = (1, 0)
theorem inS_cm {p q : Int × Int} {x : Int} : inS (cmP p q) x ↔ inS p x ∧ inS q x := by
 unfold inS cmP cmL cmH
 simp only
 by_cases h : max p.1 q.1 ≤ min p.2 q.2
 ·rw [if_pos h, if_pos h]; omega
 ·rw [if_neg h, if_neg h]; omega
theorem nrm_cm {p q : Int × Int} : nrm (cmP p q) := by
 unfold nrm cmP cmL cmH
 simp only
 by_cases h : max p.1 q.1 ≤ min p.2 q.2
 ·rw [if_pos h, if_pos h]; exact .inl h
 ·rw [if_neg h, if_neg h]; exact .inr rfl
theorem nrm_ext {p q : Int × Int} (hp : nrm p) (hq : nrm q) (h : ∀ x, inS p x ↔ inS q x) : p = q := by
 unfold inS at h
 rcases hp with hp | rfl
 ·have h1 := (h p.1).1 ⟨Int.le_refl _, hp⟩
  have h2 := (h p.2).1 ⟨hp, Int.le_refl _⟩
  rcases hq with hq | rfl
  ·have h3 := (h q.1).2 ⟨Int.le_refl _, hq⟩
   have h4 := (h q.2).2 ⟨hq, Int.le_refl _⟩
   exact Prod.ext (by omega) (by omega)
  ·simp only at h1; omega
 ·rcases hq with hq | rfl
  ·have h3 := (h q.1).2 ⟨Int.le_refl _, hq⟩
   simp only at h3; omega
  ·rfl
theorem now_inS {L : Evs} {z x : Int} (hx : -9223372036854775808 ≤ x ∧ x ≤ 9223372036854775807) : ∀ k, inS (nowM L z k) x ↔ ∀ j, j < k → inS (mvE (ev0 L j) z) x
 | 0 => by simp [nowM, inS]; omega
 | k + 1 => by
  rw [nowM, inS_cm, now_inS hx k]
  exact ⟨fun h j hj => by
   rcases Nat.lt_or_eq_of_le (Nat.le_of_lt_succ hj) with h2 | rfl
   ·exact h.1 j h2
   ·exact h.2, fun h => ⟨fun j hj => h j (by omega), h k (by omega)⟩⟩
def Mp.inD : Mp → Int → Prop
 | .e0, _ => True
 | .t1 _ _, _ => True
 | .d1 a b, y => inS (a, b) y
 | .dt a b _ _, y => inS (a, b) y
 | .td a b _ _, y => inS (a, b) y
def Mp.inT : Mp → Int → Prop
 | .e0, _ => True
 | .d1 _ _, _ => True
 | .t1 a b, y => inS (a, b) y
 | .dt _ _ a b, y => inS (a, b) y
 | .td _ _ a b, y => inS (a, b) y
theorem cm4 {a b c d y : Int} : inS (cmL a b c d, cmH a b c d) y ↔ inS (a, b) y ∧ inS (c, d) y := inS_cm (p := (a, b)) (q := (c, d))
theorem wth_D {M : Mp} {t : Bool} {x1 x2 y : Int} : (M.wth t x1 x2).inD y ↔ M.inD y ∧ (t = false → inS (x1, x2) y) := by
 cases M <;> cases t <;> simp [Mp.wth, Mp.inD, cm4]
theorem wth_T {M : Mp} {t : Bool} {x1 x2 y : Int} : (M.wth t x1 x2).inT y ↔ M.inT y ∧ (t = true → inS (x1, x2) y) := by
 cases M <;> cases t <;> simp [Mp.wth, Mp.inT, cm4]
theorem mid_D {w y : Int} {R : List Rg} : (Mp.mid w R).inD y ↔ ∀ e ∈ R, e.2.2 = false → inS (e.1 + e.2.1 - w, e.1 + e.2.1 + w) y := by
 suffices h : ∀ M : Mp, (R.foldl (fun M e => M.rd w e) M).inD y ↔ M.inD y ∧ ∀ e ∈ R, e.2.2 = false → inS (e.1 + e.2.1 - w, e.1 + e.2.1 + w) y by
  have := h .e0
  unfold Mp.mid
  rw [this]; simp [Mp.inD]
 induction R with
 | nil => intro M; simp
 | cons e R ih =>
  intro M
  rw [List.foldl_cons, ih, Mp.rd, wth_D]
  simp only [List.forall_mem_cons, and_assoc]
theorem mid_T {w y : Int} {R : List Rg} : (Mp.mid w R).inT y ↔ ∀ e ∈ R, e.2.2 = true → inS (e.1 + e.2.1 - w, e.1 + e.2.1 + w) y := by
 suffices h : ∀ M : Mp, (R.foldl (fun M e => M.rd w e) M).inT y ↔ M.inT y ∧ ∀ e ∈ R, e.2.2 = true → inS (e.1 + e.2.1 - w, e.1 + e.2.1 + w) y by
  have := h .e0
  unfold Mp.mid
  rw [this]; simp [Mp.inT]
 induction R with
 | nil => intro M; simp
 | cons e R ih =>
  intro M
  rw [List.foldl_cons, ih, Mp.rd, wth_T]
  simp only [List.forall_mem_cons, and_assoc]
theorem ev_in {M : Mp} {z x : Int} : (∀ j, j < M.ev.length → inS (mvE (ev0 M.ev j) z) x) ↔ M.inD (x + z) ∧ M.inT (z - x) := by
 have two : ∀ P : Nat → Prop, (∀ j, j < 2 → P j) ↔ P 0 ∧ P 1 := fun P => ⟨fun h => ⟨h 0 (by omega), h 1 (by omega)⟩, fun h j hj => by rcases (show j = 0 ∨ j = 1 by omega) with rfl | rfl; exact h.1; exact h.2⟩
 have one : ∀ P : Nat → Prop, (∀ j, j < 1 → P j) ↔ P 0 := fun P => ⟨fun h => h 0 (by omega), fun h j hj => (show j = 0 by omega) ▸ h⟩
 have D : ∀ a b : Int, inS (mvE (145, a, b) z) x ↔ inS (a, b) (x + z) := fun a b => by simp only [inS, mvE, if_true]; omega
 have T : ∀ a b : Int, inS (mvE (146, a, b) z) x ↔ inS (a, b) (z - x) := fun a b => by simp only [inS, mvE, show ¬ ((146 : Nat) = 145) by decide, if_false]; omega
 cases M
 ·simp [Mp.ev, Mp.inD, Mp.inT]
 ·rename_i a b
  show (∀ j, j < 1 → _) ↔ _
  rw [one]
  exact (D a b).trans (by simp [Mp.inD, Mp.inT])
 ·rename_i a b
  show (∀ j, j < 1 → _) ↔ _
  rw [one]
  exact (T a b).trans (by simp [Mp.inD, Mp.inT])
 ·rename_i a b c e
  show (∀ j, j < 2 → _) ↔ _
  rw [two]
  exact and_congr (D a b) (T c e)
 ·rename_i a b c e
  show (∀ j, j < 2 → _) ↔ _
  rw [two]
  exact and_congr (D a b) (T c e)
theorem lo_in {w z x : Int} {L : List Md} : loW w z L ≤ x ↔ -10000 ≤ x ∧ ∀ e ∈ L, nz z e - w ≤ x := by
 unfold loW
 suffices h : ∀ a : Int, L.foldl (fun a e => max a (nz z e - w)) a ≤ x ↔ a ≤ x ∧ ∀ e ∈ L, nz z e - w ≤ x from h _
 induction L with
 | nil => intro a; simp
 | cons e L ih =>
  intro a
  rw [List.foldl_cons, ih]
  simp only [List.forall_mem_cons, ← and_assoc]
  exact and_congr_left fun _ => by omega
theorem hi_in {w z x : Int} {L : List Md} : x ≤ hiW w z L ↔ x ≤ 10000 ∧ ∀ e ∈ L, x ≤ nz z e + w := by
 unfold hiW
 suffices h : ∀ a : Int, x ≤ L.foldl (fun a e => min a (nz z e + w)) a ↔ x ≤ a ∧ ∀ e ∈ L, x ≤ nz z e + w from h _
 induction L with
 | nil => intro a; simp
 | cons e L ih =>
  intro a
  rw [List.foldl_cons, ih]
  simp only [List.forall_mem_cons, ← and_assoc]
  exact and_congr_left fun _ => by omega
theorem key_in {w z x : Int} {R : List Rg} : ((Mp.mid w R).inD (x + z) ∧ (Mp.mid w R).inT (z - x)) ↔ ∀ e ∈ R, nz z (midR e) - w ≤ x ∧ x ≤ nz z (midR e) + w := by
 rw [mid_D, mid_T]
 have h1 : ∀ e : Rg, ((e.2.2 = false → inS (e.1 + e.2.1 - w, e.1 + e.2.1 + w) (x + z)) ∧ (e.2.2 = true → inS (e.1 + e.2.1 - w, e.1 + e.2.1 + w) (z - x))) ↔ (nz z (midR e) - w ≤ x ∧ x ≤ nz z (midR e) + w) := by
  rintro ⟨l, r, t⟩
  unfold inS nz midR
  cases t <;> simp <;> omega
 exact ⟨fun h e he => (h1 e).1 ⟨h.1 e he, h.2 e he⟩, fun h => ⟨fun e he => ((h1 e).2 (h e he)).1, fun e he => ((h1 e).2 (h e he)).2⟩⟩
theorem len_k {v : Vl} (hv : v.ok) {R : List Rg} (hR : okRs v R) : ∃ k, (Mp.mid v.w R).ev.length = k + 1 := by
 have := (mid_ok hv hR).1
 exact ⟨(Mp.mid v.w R).ev.length - 1, by omega⟩
abbrev now' (v : Vl) (R : List Rg) (z : Int) : Int × Int := nowM (Mp.mid v.w R).ev z (Mp.mid v.w R).ev.length
theorem now_eq {v : Vl} (hv : v.ok) {R : List Rg} (hR : okRs v R) {z : Int} (hz : 0 ≤ z ∧ z ≤ 400) : now' v R z = if (loW v.w z (R.map midR)) ≤ (hiW v.w z (R.map midR)) then ((loW v.w z (R.map midR)), (hiW v.w z (R.map midR))) else (1, 0) := by
 have hM := mid_ok hv hR
 have hb : (-20000 ≤ (now' v R z).1 ∧ (now' v R z).1 ≤ 20000) ∧ (-20000 ≤ (now' v R z).2 ∧ (now' v R z).2 ≤ 20000) := nowM_end hM hz
 have hv2 := hv
 unfold Vl.ok at hv2
 obtain ⟨e0, he0⟩ : ∃ e, e ∈ R := by
  cases R with
  | nil => have := hR.1; simp at this
  | cons e R => exact ⟨e, List.mem_cons_self⟩
 have he1 := hR.2 e0 he0
 unfold okR at he1
 have hn0 : -400 ≤ nz z (midR e0) ∧ nz z (midR e0) ≤ 400 := by
  unfold nz midR
  simp only
  split <;> omega
 refine nrm_ext ?_ ?_ ?_
 ·obtain ⟨k, hk⟩ := len_k hv hR
  rw [now', hk, nowM]
  exact nrm_cm
 ·by_cases h : (loW v.w z (R.map midR)) ≤ (hiW v.w z (R.map midR))
  ·rw [if_pos h]; exact .inl h
  ·rw [if_neg h]; exact .inr rfl
 ·intro x
  have hr : inS (if (loW v.w z (R.map midR)) ≤ (hiW v.w z (R.map midR)) then ((loW v.w z (R.map midR)), (hiW v.w z (R.map midR))) else (1, 0)) x ↔ (loW v.w z (R.map midR)) ≤ x ∧ x ≤ (hiW v.w z (R.map midR)) := by
   by_cases h : (loW v.w z (R.map midR)) ≤ (hiW v.w z (R.map midR))
   ·rw [if_pos h]; rfl
   ·rw [if_neg h]; unfold inS; simp only; omega
  rw [hr, lo_in, hi_in]
  simp only [List.forall_mem_map]
  constructor
  ·intro h
   have hx : -9223372036854775808 ≤ x ∧ x ≤ 9223372036854775807 := by unfold inS at h; omega
   have h2 := key_in.1 (ev_in.1 ((now_inS hx _).1 h))
   have h3 := h2 e0 he0
   exact ⟨⟨by omega, fun e he => (h2 e he).1⟩, by omega, fun e he => (h2 e he).2⟩
  ·rintro ⟨⟨h1, h2⟩, h3, h4⟩
   have hx : -9223372036854775808 ≤ x ∧ x ≤ 9223372036854775807 := by omega
   exact (now_inS hx _).2 (ev_in.2 (key_in.2 fun e he => ⟨h2 e he, h4 e he⟩))
theorem ar_no {q : Int × Int} : arP (1, 0) q = q := by
 unfold arP arL arH; simp
end Go.Proofs.Ytgdihdiadlmjiaa
