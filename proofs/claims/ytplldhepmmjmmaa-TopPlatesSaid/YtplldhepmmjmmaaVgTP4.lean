import Derived.Test.YtplldhepmmjmmaaVgTP3
namespace Go.Proofs.Ytplldhepmmjmmaa
open Go Go.Vg
set_option linter.unusedSimpArgs false
set_option linter.unusedVariables false
set_option maxRecDepth 10000
def inD (d : Dst) (e : Nat → Int) : Prop := ∀ n, (d n).1 ≤ e n ∧ e n ≤ (d n).2
def hld (r : Rdg) (e : Nat → Int) : Prop := r.V - r.W ≤ e r.na - e r.nb ∧ e r.na - e r.nb ≤ r.V + r.W
theorem mx_le {x y z : Int} (h1 : x ≤ z) (h2 : y ≤ z) : mx x y ≤ z := by have := mx_or x y; omega
theorem le_mn {x y z : Int} (h1 : z ≤ x) (h2 : z ≤ y) : z ≤ mn x y := by have := mn_or x y; omega
theorem nar_in {d : Dst} {r : Rdg} {e : Nat → Int} (h : inD d e) (hr : hld r e) : inD (narR d r) e := by
 obtain ⟨h1, h2⟩ := hr
 have ha := h r.na
 have hb := h r.nb
 have i1 : inD (nar1 d r.na r.nb (r.V - r.W) (r.V + r.W)) e := fun n => by
  rw [nar1_at]; split
  ·rename_i hn; subst hn
   exact ⟨mx_le ha.1 (by omega), le_mn ha.2 (by omega)⟩
  ·exact h n
 intro n
 show ((nar2 _ _ _ _ _) n).1 ≤ e n ∧ e n ≤ ((nar2 _ _ _ _ _) n).2
 have ha1 := i1 r.na
 have hb1 := i1 r.nb
 rw [nar2_at]; split
 ·rename_i hn; subst hn
  exact ⟨mx_le hb1.1 (by omega), le_mn hb1.2 (by omega)⟩
 ·exact i1 n
theorem in_ok {d : Dst} {r : Rdg} {e : Nat → Int} (h : inD d e) (hr : hld r e) : okN d r = true := by
 have := nar_in h hr r.na
 exact decide_eq_true (by omega)
theorem pss_in {e : Nat → Int} : ∀ {L : List Rdg} {d d' : Dst}, inD d e → (∀ r, r ∈ L → hld r e) → pss L d = some d' → inD d' e
 | [], d, d', h, _, hp => by cases hp; exact h
 | r :: t, d, d', h, hr, hp => by
  have hr0 := hr r (List.mem_cons_self ..)
  rw [pss, if_pos (in_ok h hr0)] at hp
  exact pss_in (nar_in h hr0) (fun x hx => hr x (List.mem_cons_of_mem _ hx)) hp
def sub (d' d : Dst) : Prop := ∀ n, (d n).1 ≤ (d' n).1 ∧ (d' n).2 ≤ (d n).2
theorem sub.trans {a b c : Dst} (h : sub a b) (k : sub b c) : sub a c := fun n => by have := h n; have := k n; omega
theorem rnds_in {L : List Rdg} {e : Nat → Int} (hr : ∀ r, r ∈ L → hld r e) : ∀ {k : Nat} {d d' : Dst}, inD d e → rnds L k d = some d' → inD d' e
 | 0, d, d', _, h => by cases h
 | k + 1, d, d', hd, h => by
  rw [rnds] at h
  split at h
  ·cases h
  ·rename_i d1 hp
   have h1 := pss_in hd hr hp
   split at h
   ·cases h; exact h1
   ·exact rnds_in hr h1 h
def edH : List Rdg → List BF.Ed
 | [] => []
 | r :: t => ⟨r.na, r.nb, r.V + r.W⟩ :: ⟨r.nb, r.na, -(r.V - r.W)⟩ :: edH t
def edL : List Rdg → List BF.Ed
 | [] => []
 | r :: t => ⟨r.na, r.nb, -(r.V - r.W)⟩ :: ⟨r.nb, r.na, r.V + r.W⟩ :: edL t
theorem mem_edH : ∀ {L : List Rdg} {x : BF.Ed}, x ∈ edH L → ∃ r, r ∈ L ∧ (x = ⟨r.na, r.nb, r.V + r.W⟩ ∨ x = ⟨r.nb, r.na, -(r.V - r.W)⟩)
 | r :: t, x, h => by
  simp only [edH, List.mem_cons] at h
  rcases h with h | h | h
  ·exact ⟨r, List.mem_cons_self .., .inl h⟩
  ·exact ⟨r, List.mem_cons_self .., .inr h⟩
  ·obtain ⟨r', h1, h2⟩ := mem_edH h
   exact ⟨r', List.mem_cons_of_mem _ h1, h2⟩
theorem mem_edL : ∀ {L : List Rdg} {x : BF.Ed}, x ∈ edL L → ∃ r, r ∈ L ∧ (x = ⟨r.na, r.nb, -(r.V - r.W)⟩ ∨ x = ⟨r.nb, r.na, r.V + r.W⟩)
 | r :: t, x, h => by
  simp only [edL, List.mem_cons] at h
  rcases h with h | h | h
  ·exact ⟨r, List.mem_cons_self .., .inl h⟩
  ·exact ⟨r, List.mem_cons_self .., .inr h⟩
  ·obtain ⟨r', h1, h2⟩ := mem_edL h
   exact ⟨r', List.mem_cons_of_mem _ h1, h2⟩
def mkD (x y : Nat → Int) : Dst := fun n => (-(y n), x n)
theorem mkD_id (d : Dst) : mkD (fun n => (d n).2) (fun n => -(d n).1) = d := funext fun n => Prod.ext (by simp [mkD]) rfl
theorem nar_mk (x y : Nat → Int) (r : Rdg) : narR (mkD x y) r = mkD (BF.relax (BF.relax x ⟨r.na, r.nb, r.V + r.W⟩) ⟨r.nb, r.na, -(r.V - r.W)⟩) (BF.relax (BF.relax y ⟨r.na, r.nb, -(r.V - r.W)⟩) ⟨r.nb, r.na, r.V + r.W⟩) := by
 have e1 : nar1 (mkD x y) r.na r.nb (r.V - r.W) (r.V + r.W) = mkD (BF.relax x ⟨r.na, r.nb, r.V + r.W⟩) (BF.relax y ⟨r.na, r.nb, -(r.V - r.W)⟩) := funext fun n => by
  rw [nar1_at]
  simp only [mkD, BF.relax]
  split
  ·rename_i hn; subst hn
   have := mx_or (-(y r.na)) (-(y r.nb) + (r.V - r.W))
   have := mn_or (x r.na) (x r.nb + (r.V + r.W))
   exact Prod.ext (by simp only; omega) (by simp only; omega)
  ·rfl
 show nar2 (nar1 (mkD x y) r.na r.nb (r.V - r.W) (r.V + r.W)) r.na r.nb (r.V - r.W) (r.V + r.W) = _
 rw [e1]
 generalize BF.relax x ⟨r.na, r.nb, r.V + r.W⟩ = x1
 generalize BF.relax y ⟨r.na, r.nb, -(r.V - r.W)⟩ = y1
 funext n
 rw [nar2_at]
 simp only [mkD, BF.relax]
 split
 ·rename_i hn; subst hn
  have := mx_or (-(y1 r.nb)) (-(y1 r.na) - (r.V + r.W))
  have := mn_or (x1 r.nb) (x1 r.na - (r.V - r.W))
  exact Prod.ext (by simp only; omega) (by simp only; omega)
 ·rfl
theorem pss_mk {e : Nat → Int} : ∀ {L : List Rdg} {x y : Nat → Int}, inD (mkD x y) e → (∀ r, r ∈ L → hld r e) → pss L (mkD x y) = some (mkD (BF.rnd (edH L) x) (BF.rnd (edL L) y))
 | [], x, y, _, _ => rfl
 | r :: t, x, y, h, hr => by
  have hr0 := hr r (List.mem_cons_self ..)
  rw [pss, if_pos (in_ok h hr0), nar_mk]
  have h1 := nar_in h hr0
  rw [nar_mk] at h1
  rw [pss_mk h1 fun x hx => hr x (List.mem_cons_of_mem _ hx)]
  rfl
theorem rnds_some {L : List Rdg} {e : Nat → Int} {x0 y0 : Nat → Int} (hi : ∀ r, r ∈ L → r.na < 36 ∧ r.nb < 36) (hr : ∀ r, r ∈ L → hld r e) (h0 : inD (mkD x0 y0) e) :
  ∀ (k j : Nat), j + (k + 1) = 36 → ∃ d, rnds L (k + 1) (mkD (BF.it (edH L) x0 j) (BF.it (edL L) y0 j)) = some d := by
 have pH : ∀ x, x ∈ edH L → e x.to ≤ e x.fr + x.w := fun x hx => by
  obtain ⟨r, h1, h2⟩ := mem_edH hx
  have := hr r h1
  unfold hld at this
  rcases h2 with rfl | rfl <;> simp only <;> omega
 have pL : ∀ x, x ∈ edL L → -(e x.to) ≤ -(e x.fr) + x.w := fun x hx => by
  obtain ⟨r, h1, h2⟩ := mem_edL hx
  have := hr r h1
  unfold hld at this
  rcases h2 with rfl | rfl <;> simp only <;> omega
 have nH : ∀ x, x ∈ edH L → x.to < 36 ∧ x.fr < 36 := fun x hx => by
  obtain ⟨r, h1, h2⟩ := mem_edH hx
  have := hi r h1
  rcases h2 with rfl | rfl <;> simp only <;> omega
 have nL : ∀ x, x ∈ edL L → x.to < 36 ∧ x.fr < 36 := fun x hx => by
  obtain ⟨r, h1, h2⟩ := mem_edL hx
  have := hi r h1
  rcases h2 with rfl | rfl <;> simp only <;> omega
 have hin : ∀ j, inD (mkD (BF.it (edH L) x0 j) (BF.it (edL L) y0 j)) e := fun j n => by
  have h1 := BF.it_ge (x0 := x0) pH (fun v => (h0 v).2) j n
  have h2 := BF.it_ge (x0 := y0) (p := fun v => -(e v)) pL (fun v => by have := (h0 v).1; simp only [mkD] at this; omega) j n
  simp only [mkD] at *
  omega
 intro k
 induction k with
 | zero =>
  intro j hj
  have hps := pss_mk (L := L) (hin j) hr
  rw [rnds, hps]
  have he : ksF (mkD (BF.rnd (edH L) (BF.it (edH L) x0 j)) (BF.rnd (edL L) (BF.it (edL L) y0 j))) 0 36 = ksF (mkD (BF.it (edH L) x0 j) (BF.it (edL L) y0 j)) 0 36 := (ksF_eq 36 0).2 fun n _ hn => by
   have h1 := BF.rest (E := edH L) (x0 := x0) (k := j) pH nH (show n < 36 by omega) (by omega)
   have h2 := BF.rest (E := edL L) (x0 := y0) (p := fun v => -(e v)) (k := j) pL nL (show n < 36 by omega) (by omega)
   exact Prod.ext (congrArg (fun z : Int => -z) h2) h1
  simp only [he, if_true]
  exact ⟨_, rfl⟩
 | succ k ih =>
  intro j hj
  have hps := pss_mk (L := L) (hin j) hr
  rw [rnds, hps]
  simp only
  split
  ·exact ⟨_, rfl⟩
  ·exact ih (j + 1) (by omega)
def isT (T : List Int) (m : Int) (L : List Rdg) (e : Nat → Int) : Prop := inD (wdS T m) e ∧ ∀ r, r ∈ L → hld r e
theorem inR_lt {r : Rdg} (h : inR r) : r.na < 36 ∧ r.nb < 36 := by
 obtain ⟨⟨h1, h2⟩, ⟨h3, h4⟩, _⟩ := h
 unfold Rdg.na Rdg.nb; omega
theorem okL_lt {T : List Int} {m : Int} {L : List Rdg} (hs : okS T m = true) (hL : okL T L = true) : ∀ r, r ∈ L → r.na < 36 ∧ r.nb < 36 := fun r hr => by
 simp only [okL, Bool.and_eq_true, List.all_eq_true] at hL
 exact inR_lt (okR_in hs (hL.2 r hr))
theorem tr_of {T : List Int} {m : Int} {L : List Rdg} {e : Nat → Int} (hs : okS T m = true) (hL : okL T L = true) (h : isT T m L e) : ∃ d, trR T m L = some d := by
 have := rnds_some (x0 := fun n => (wdS T m n).2) (y0 := fun n => -(wdS T m n).1) (okL_lt hs hL) h.2 (by rw [mkD_id]; exact h.1) 35 0 (by omega)
 rw [show mkD (BF.it (edH L) (fun n => (wdS T m n).2) 0) (BF.it (edL L) (fun n => -(wdS T m n).1) 0) = wdS T m from mkD_id _] at this
 exact this
theorem tr_in {T : List Int} {m : Int} {L : List Rdg} {e : Nat → Int} {d : Dst} (h : isT T m L e) (hd : trR T m L = some d) : inD d e := rnds_in h.2 h.1 hd
theorem pss_bd : ∀ {L : List Rdg} {d d' : Dst}, Bd d → (∀ r, r ∈ L → inR r) → pss L d = some d' → Bd d'
 | [], d, d', h, _, hp => by cases hp; exact h
 | r :: t, d, d', h, hr, hp => by
  rw [pss] at hp
  split at hp
  ·rename_i hok
   exact pss_bd (narR_bd h (hr r (List.mem_cons_self ..)) hok) (fun x hx => hr x (List.mem_cons_of_mem _ hx)) hp
  ·cases hp
theorem rnds_bd {L : List Rdg} (hr : ∀ r, r ∈ L → inR r) : ∀ {k : Nat} {d d' : Dst}, Bd d → rnds L k d = some d' → Bd d'
 | 0, d, d', _, h => by cases h
 | k + 1, d, d', hd, h => by
  rw [rnds] at h
  split at h
  ·cases h
  ·rename_i d1 hp
   have h1 := pss_bd hd hr hp
   split at h
   ·cases h; exact h1
   ·exact rnds_bd hr h1 h
theorem tr_bd {T : List Int} {m : Int} {L : List Rdg} {d : Dst} (hs : okS T m = true) (hL : okL T L = true) (hd : trR T m L = some d) : Bd d := by
 have hm : 0 ≤ m ∧ m ≤ 100000 := by simp only [okS, Bool.and_eq_true, decide_eq_true_eq] at hs; exact hs.2.1
 have hL' := hL
 simp only [okL, Bool.and_eq_true, List.all_eq_true] at hL'
 exact rnds_bd (fun r hr => okR_in hs (hL'.2 r hr)) (wd_bd hm) hd
end Go.Proofs.Ytplldhepmmjmmaa
