import Derived.Test.YtgdihdiadlmjiaaVgLM6
set_option linter.all false
namespace Go.Proofs.Ytgdihdiadlmjiaa
open Go Go.Vg
set_option maxRecDepth 10000
def inS (p : Int × Int) (x : Int) : Prop := p.1 <= x /\ x <= p.2
def nrm (p : Int × Int) : Prop := p.1 <= p.2 \/ p = (1, 0)
theorem inS_cm {p q : Int × Int} {x : Int} : inS (cmP p q) x ↔ inS p x /\ inS q x := by
 unfold inS cmP cmL cmH
 simp only
 by_cases h : max p.1 q.1 <= min p.2 q.2
 ·rw [if_pos h, if_pos h]; omega
 ·rw [if_neg h, if_neg h]; omega
theorem nrm_cm {p q : Int × Int} : nrm (cmP p q) := by
 unfold nrm cmP cmL cmH
 simp only
 by_cases h : max p.1 q.1 <= min p.2 q.2
 ·rw [if_pos h, if_pos h]; exact .inl h
 ·rw [if_neg h, if_neg h]; exact .inr rfl
theorem nrm_ext {p q : Int × Int} (hp : nrm p) (hq : nrm q) (h : ∀ x, inS p x ↔ inS q x) : p = q := by
 unfold inS at h
 rcases hp with hp | rfl
 ·have h1 := (h p.1).1 ⟨Int.le_refl _, hp⟩
  have h2 := (h p.2).1 ⟨hp, Int.le_refl _⟩
  rcases hq with hq | rfl
  ·have h3 := (h q.1).2 ⟨Int.le_refl _, hq⟩
   have h4 := (h q.2).2 ⟨hq, Int.le_refl _⟩
   exact Prod.ext (by omega) (by omega)
  ·simp only at h1; omega
 ·rcases hq with hq | rfl
  ·have h3 := (h q.1).2 ⟨Int.le_refl _, hq⟩
   simp only at h3; omega
  ·rfl
theorem now_inS {L : Evs} {z x : Int} (hx : -9223372036854775808 <= x /\ x <= 9223372036854775807) : ∀ k, inS (nowM L z k) x ↔ ∀ j, j < k -> inS (mvE (ev0 L j) z) x
 | 0 => by simp [nowM, inS]; omega
 | k + 1 => by
  rw [nowM, inS_cm, now_inS hx k]
  exact ⟨fun h j hj => by
   rcases Nat.lt_or_eq_of_le (Nat.le_of_lt_succ hj) with h2 | rfl
   ·exact h.1 j h2
   ·exact h.2, fun h => ⟨fun j hj => h j (by omega), h k (by omega)⟩⟩
def Mp.inD : Mp -> Int -> Prop
 | .e0, _ => True
 | .t1 _ _, _ => True
 | .d1 a b, y => inS (a, b) y
 | .dt a b _ _, y => inS (a, b) y
 | .td a b _ _, y => inS (a, b) y
def Mp.inT : Mp -> Int -> Prop
 | .e0, _ => True
 | .d1 _ _, _ => True
 | .t1 a b, y => inS (a, b) y
 | .dt _ _ a b, y => inS (a, b) y
 | .td _ _ a b, y => inS (a, b) y
theorem cm4 {a b c d y : Int} : inS (cmL a b c d, cmH a b c d) y ↔ inS (a, b) y /\ inS (c, d) y := inS_cm (p := (a, b)) (q := (c, d))
theorem wth_D {M : Mp} {t : Bool} {x1 x2 y : Int} : (M.wth t x1 x2).inD y ↔ M.inD y /\ (t = false -> inS (x1, x2) y) := by
 cases M <;> cases t <;> simp [Mp.wth, Mp.inD, cm4]
theorem wth_T {M : Mp} {t : Bool} {x1 x2 y : Int} : (M.wth t x1 x2).inT y ↔ M.inT y /\ (t = true -> inS (x1, x2) y) := by
 cases M <;> cases t <;> simp [Mp.wth, Mp.inT, cm4]
theorem mid_D {w y : Int} {R : List Rg} : (Mp.mid w R).inD y ↔ ∀ e ∈ R, e.2.2 = false -> inS (e.1 + e.2.1 - w, e.1 + e.2.1 + w) y := by
 suffices h : ∀ M : Mp, (R.foldl (fun M e => M.rd w e) M).inD y ↔ M.inD y /\ ∀ e ∈ R, e.2.2 = false -> inS (e.1 + e.2.1 - w, e.1 + e.2.1 + w) y by
  have := h .e0
  unfold Mp.mid
  rw [this]; simp [Mp.inD]
 induction R with
 | nil => intro M; simp
 | cons e R ih =>
  intro M
  rw [List.foldl_cons, ih, Mp.rd, wth_D]
  simp only [List.forall_mem_cons, and_assoc]
theorem mid_T {w y : Int} {R : List Rg} : (Mp.mid w R).inT y ↔ ∀ e ∈ R, e.2.2 = true -> inS (e.1 + e.2.1 - w, e.1 + e.2.1 + w) y := by
 suffices h : ∀ M : Mp, (R.foldl (fun M e => M.rd w e) M).inT y ↔ M.inT y /\ ∀ e ∈ R, e.2.2 = true -> inS (e.1 + e.2.1 - w, e.1 + e.2.1 + w) y by
  have := h .e0
  unfold Mp.mid
  rw [this]; simp [Mp.inT]
 induction R with
 | nil => intro M; simp
 | cons e R ih =>
  intro M
  rw [List.foldl_cons, ih, Mp.rd, wth_T]
  simp only [List.forall_mem_cons, and_assoc]
theorem ev_in {M : Mp} {z x : Int} : (∀ j, j < M.ev.length -> inS (mvE (ev0 M.ev j) z) x) ↔ M.inD (x + z) /\ M.inT (z - x) := by
 have two : ∀ P : Nat -> Prop, (∀ j, j < 2 -> P j) ↔ P 0 /\ P 1 := fun P => ⟨fun h => ⟨h 0 (by omega), h 1 (by omega)⟩, fun h j hj => by rcases (show j = 0 \/ j = 1 by omega) with rfl | rfl; exact h.1; exact h.2⟩
 have one : ∀ P : Nat -> Prop, (∀ j, j < 1 -> P j) ↔ P 0 := fun P => ⟨fun h => h 0 (by omega), fun h j hj => (show j = 0 by omega) ▸ h⟩
 have D : ∀ a b : Int, inS (mvE (145, a, b) z) x ↔ inS (a, b) (x + z) := fun a b => by simp only [inS, mvE, if_true]; omega
 have T : ∀ a b : Int, inS (mvE (146, a, b) z) x ↔ inS (a, b) (z - x) := fun a b => by simp only [inS, mvE, show ¬ ((146 : Nat) = 145) by decide, if_false]; omega
 cases M
 ·simp [Mp.ev, Mp.inD, Mp.inT]
 ·rename_i a b
  show (∀ j, j < 1 -> _) ↔ _
  rw [one]
  exact (D a b).trans (by simp [Mp.inD, Mp.inT])
 ·rename_i a b
  show (∀ j, j < 1 -> _) ↔ _
  rw [one]
  exact (T a b).trans (by simp [Mp.inD, Mp.inT])
 ·rename_i a b c e
  show (∀ j, j < 2 -> _) ↔ _
  rw [two]
  exact and_congr (D a b) (T c e)
 ·rename_i a b c e
  show (∀ j, j < 2 -> _) ↔ _
  rw [two]
  exact and_congr (D a b) (T c e)
theorem lo_in {w z x : Int} {L : List Md} : loW w z L <= x ↔ -10000 <= x /\ ∀ e ∈ L, nz z e - w <= x := by
 unfold loW
 suffices h : ∀ a : Int, L.foldl (fun a e => max a (nz z e - w)) a <= x ↔ a <= x /\ ∀ e ∈ L, nz z e - w <= x from h _
 induction L with
 | nil => intro a; simp
 | cons e L ih =>
  intro a
  rw [List.foldl_cons, ih]
  simp only [List.forall_mem_cons, <- and_assoc]
  exact and_congr_left fun _ => by omega
theorem hi_in {w z x : Int} {L : List Md} : x <= hiW w z L ↔ x <= 10000 /\ ∀ e ∈ L, x <= nz z e + w := by
 unfold hiW
 suffices h : ∀ a : Int, x <= L.foldl (fun a e => min a (nz z e + w)) a ↔ x <= a /\ ∀ e ∈ L, x <= nz z e + w from h _
 induction L with
 | nil => intro a; simp
 | cons e L ih =>
  intro a
  rw [List.foldl_cons, ih]
  simp only [List.forall_mem_cons, <- and_assoc]
  exact and_congr_left fun _ => by omega
theorem key_in {w z x : Int} {R : List Rg} : ((Mp.mid w R).inD (x + z) /\ (Mp.mid w R).inT (z - x)) ↔ ∀ e ∈ R, nz z (midR e) - w <= x /\ x <= nz z (midR e) + w := by
 rw [mid_D, mid_T]
 have h1 : ∀ e : Rg, ((e.2.2 = false -> inS (e.1 + e.2.1 - w, e.1 + e.2.1 + w) (x + z)) /\ (e.2.2 = true -> inS (e.1 + e.2.1 - w, e.1 + e.2.1 + w) (z - x))) ↔ (nz z (midR e) - w <= x /\ x <= nz z (midR e) + w) := by
  rintro ⟨l, r, t⟩
  unfold inS nz midR
  cases t <;> simp <;> omega
 exact ⟨fun h e he => (h1 e).1 ⟨h.1 e he, h.2 e he⟩, fun h => ⟨fun e he => ((h1 e).2 (h e he)).1, fun e he => ((h1 e).2 (h e he)).2⟩⟩
theorem len_k {v : Vl} (hv : v.ok) {R : List Rg} (hR : okRs v R) : ∃ k, (Mp.mid v.w R).ev.length = k + 1 := by
 have := (mid_ok hv hR).1
 exact ⟨(Mp.mid v.w R).ev.length - 1, by omega⟩
abbrev now' (v : Vl) (R : List Rg) (z : Int) : Int × Int := nowM (Mp.mid v.w R).ev z (Mp.mid v.w R).ev.length
theorem now_eq {v : Vl} (hv : v.ok) {R : List Rg} (hR : okRs v R) {z : Int} (hz : 0 <= z /\ z <= 400) : now' v R z = if (loW v.w z (R.map midR)) <= (hiW v.w z (R.map midR)) then ((loW v.w z (R.map midR)), (hiW v.w z (R.map midR))) else (1, 0) := by
 have hM := mid_ok hv hR
 have hb : (-20000 <= (now' v R z).1 /\ (now' v R z).1 <= 20000) /\ (-20000 <= (now' v R z).2 /\ (now' v R z).2 <= 20000) := nowM_end hM hz
 have hv2 := hv
 unfold Vl.ok at hv2
 obtain ⟨e0, he0⟩ : ∃ e, e ∈ R := by
  cases R with
  | nil => have := hR.1; simp at this
  | cons e R => exact ⟨e, List.mem_cons_self⟩
 have he1 := hR.2 e0 he0
 unfold okR at he1
 have hn0 : -400 <= nz z (midR e0) /\ nz z (midR e0) <= 400 := by
  unfold nz midR
  simp only
  split <;> omega
 refine nrm_ext ?_ ?_ ?_
 ·obtain ⟨k, hk⟩ := len_k hv hR
  rw [now', hk, nowM]
  exact nrm_cm
 ·by_cases h : (loW v.w z (R.map midR)) <= (hiW v.w z (R.map midR))
  ·rw [if_pos h]; exact .inl h
  ·rw [if_neg h]; exact .inr rfl
 ·intro x
  have hr : inS (if (loW v.w z (R.map midR)) <= (hiW v.w z (R.map midR)) then ((loW v.w z (R.map midR)), (hiW v.w z (R.map midR))) else (1, 0)) x ↔ (loW v.w z (R.map midR)) <= x /\ x <= (hiW v.w z (R.map midR)) := by
   by_cases h : (loW v.w z (R.map midR)) <= (hiW v.w z (R.map midR))
   ·rw [if_pos h]; rfl
   ·rw [if_neg h]; unfold inS; simp only; omega
  rw [hr, lo_in, hi_in]
  simp only [List.forall_mem_map]
  constructor
  ·intro h
   have hx : -9223372036854775808 <= x /\ x <= 9223372036854775807 := by unfold inS at h; omega
   have h2 := key_in.1 (ev_in.1 ((now_inS hx _).1 h))
   have h3 := h2 e0 he0
   exact ⟨⟨by omega, fun e he => (h2 e he).1⟩, by omega, fun e he => (h2 e he).2⟩
  ·rintro ⟨⟨h1, h2⟩, h3, h4⟩
   have hx : -9223372036854775808 <= x /\ x <= 9223372036854775807 := by omega
   exact (now_inS hx _).2 (ev_in.2 (key_in.2 fun e he => ⟨h2 e he, h4 e he⟩))
theorem lst_tl {v : Vl} {a : Int} : v.lst a = v.tl a := by
 unfold Vl.lst Vl.tl
 rw [Int.mul_comm v.v1, Int.mul_comm v.v2]
 split <;> omega
theorem mst_th {v : Vl} {a : Int} : v.mst a = v.th a := by
 unfold Vl.mst Vl.th
 rw [Int.mul_comm v.v1, Int.mul_comm v.v2]
 split <;> omega
theorem tl_th {v : Vl} (hv : v.ok) {a b : Int} (h : a <= b) : v.tl a <= v.th b := by
 unfold Vl.ok at hv
 have := Int.mul_le_mul_of_nonneg_left h (show 0 <= v.v1 by omega)
 unfold Vl.tl Vl.th
 omega
theorem ar_no {q : Int × Int} : arP (1, 0) q = q := by
 unfold arP arL arH; simp
theorem ar_yes {p q : Int × Int} (h : p.1 <= p.2) : arP p q = (min p.1 q.1, max p.2 q.2) := by
 unfold arP arL arH
 have h : ¬ (p.1 = 1 /\ p.2 = 0) := by omega
 rw [if_neg h, if_neg h]
def tzP (s : Tz) : (Int × Int) × (Int × Int) := ((s.t1, s.t2), (s.u1, s.u2))
theorem tz_acc {v : Vl} (hv : v.ok) {R : List Rg} (hR : okRs v R) : ∀ n : Nat, v.z1 + n <= v.z2 + 1 ->
  ((tzN v (R.map midR) n).f = true -> accM v (Mp.mid v.w R).ev n = tzP (tzN v (R.map midR) n) /\ (tzN v (R.map midR) n).t1 <= (tzN v (R.map midR) n).t2 /\ (tzN v (R.map midR) n).u1 <= (tzN v (R.map midR) n).u2) /\ ((tzN v (R.map midR) n).f = false -> accM v (Mp.mid v.w R).ev n = noT)
 | 0, _ => ⟨fun h => by simp [tzN] at h, fun _ => rfl⟩
 | n + 1, h => by
  have hv2 := hv
  unfold Vl.ok at hv2
  have ih := tz_acc hv hR n (by omega)
  have ne := now_eq hv hR (z := v.z1 + n) (by omega)
  simp only [tzN, accM]
  generalize tzN v (R.map midR) n = s at ih
  change ((tstep v (R.map midR) (v.z1 + n) s).f = true -> (if now' v R (v.z1 + n) = (1, 0) then _ else (arP _ (v.tl (now' v R (v.z1 + n)).1, v.th (now' v R (v.z1 + n)).2), _)) = _ /\ _) /\ (_ -> (if now' v R (v.z1 + n) = (1, 0) then _ else (arP _ (v.tl (now' v R (v.z1 + n)).1, v.th (now' v R (v.z1 + n)).2), _)) = _)
  rw [ne]
  unfold tstep
  by_cases hc : (loW v.w (v.z1 + n) (R.map midR)) <= (hiW v.w (v.z1 + n) (R.map midR))
  ·have hc2 : ¬ (hiW v.w (v.z1 + n) (R.map midR)) < (loW v.w (v.z1 + n) (R.map midR)) := by omega
   have hne : ¬ ((loW v.w (v.z1 + n) (R.map midR)), (hiW v.w (v.z1 + n) (R.map midR))) = ((1, 0) : Int × Int) := fun e => by
    have e1 := congrArg Prod.fst e; have e2 := congrArg Prod.snd e
    simp only at e1 e2
    omega
   rw [if_pos hc, if_neg hc2, if_neg hne, lst_tl, mst_th]
   have hlm := tl_th hv hc
   refine ⟨fun _ => ?_, fun h2 => by simp at h2⟩
   cases hf : s.f with
   | false =>
    rw [ih.2 hf]
    simp only [noT, ar_no, tzP, wdL, wdH, Bool.not_false, if_true, Bool.false_eq_true, if_false]
    refine ⟨Prod.ext (Prod.ext ?_ ?_) rfl, ?_, ?_⟩ <;> first | omega | (simp only; omega)
   | true =>
    obtain ⟨i1, i2, i3⟩ := ih.1 hf
    rw [i1]
    simp only [tzP]
    rw [ar_yes (p := (s.t1, s.t2)) i2, ar_yes (p := (s.u1, s.u2)) i3]
    simp only [wdL, wdH, Bool.not_true, Bool.false_eq_true, if_false]
    refine ⟨Prod.ext (Prod.ext ?_ ?_) rfl, ?_, ?_⟩ <;> first | omega | (simp only; omega)
  ·have hc2 : (hiW v.w (v.z1 + n) (R.map midR)) < (loW v.w (v.z1 + n) (R.map midR)) := by omega
   rw [if_neg hc, if_pos hc2, if_pos rfl]
   exact ih
theorem tz_tr {v : Vl} (hv : v.ok) {R : List Rg} (hR : okRs v R) : ((tzA v (R.map midR)).f = true -> trM v R = tzP (tzA v (R.map midR)) /\ trM v R ≠ noT) /\ ((tzA v (R.map midR)).f = false -> trM v R = noT) := by
 have hv2 := hv
 unfold Vl.ok at hv2
 have e : nzV v = (v.z2 + 1 - v.z1).toNat := by unfold nzV; omega
 have h := tz_acc hv hR (v.z2 + 1 - v.z1).toNat (by omega)
 rw [<- e] at h
 have e2 : tzA v (R.map midR) = tzN v (R.map midR) (nzV v) := by rw [e]; rfl
 rw [e2]
 refine ⟨fun hf => ⟨(h.1 hf).1, fun hn => ?_⟩, h.2⟩
 have h1 := h.1 hf
 have h2 : accM v (Mp.mid v.w R).ev (nzV v) = noT := hn
 rw [h2] at h1
 have h3 := congrArg (fun p => p.1.1) h1.1
 have h4 := congrArg (fun p => p.1.2) h1.1
 simp only [noT, tzP] at h3 h4
 omega
end Go.Proofs.Ytgdihdiadlmjiaa
