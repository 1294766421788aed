import Derived.Test.YtbbbpdajikblbaaVgSG3
namespace Go.Proofs.Ytbbbpdajikblbaa
open Go Go.Vg
set_option linter.unusedSimpArgs false
set_option linter.unusedVariables false
def inD (d : Dst) (e : Nat → Int) : Prop := ∀ n, (d n).1 ≤ e n ∧ e n ≤ (d n).2
def hld (r : Rdg) (e : Nat → Int) : Prop := r.V - r.W ≤ e r.na - e r.nb ∧ e r.na - e r.nb ≤ r.V + r.W
theorem mx_le {x y z : Int} (h1 : x ≤ z) (h2 : y ≤ z) : mx x y ≤ z := by have := mx_or x y; omega
theorem le_mn {x y z : Int} (h1 : z ≤ x) (h2 : z ≤ y) : z ≤ mn x y := by have := mn_or x y; omega
theorem nar_in {d : Dst} {r : Rdg} {e : Nat → Int} (h : inD d e) (hr : hld r e) : inD (narR d r) e := by
 obtain ⟨h1, h2⟩ := hr
 have ha := h r.na
 have hb := h r.nb
 have i1 : inD (nar1 d r.na r.nb (r.V - r.W) (r.V + r.W)) e := fun n => by
  rw [nar1_at]; split
  ·rename_i hn; subst hn
   exact ⟨mx_le ha.1 (by omega), le_mn ha.2 (by omega)⟩
  ·exact h n
 intro n
 show ((nar2 _ _ _ _ _) n).1 ≤ e n ∧ e n ≤ ((nar2 _ _ _ _ _) n).2
 have ha1 := i1 r.na
 have hb1 := i1 r.nb
 rw [nar2_at]; split
 ·rename_i hn; subst hn
  exact ⟨mx_le hb1.1 (by omega), le_mn hb1.2 (by omega)⟩
 ·exact i1 n
theorem in_ok {d : Dst} {r : Rdg} {e : Nat → Int} (h : inD d e) (hr : hld r e) : okN d r = true := by
 have := nar_in h hr r.na
 exact decide_eq_true (by omega)
theorem pss_in {e : Nat → Int} : ∀ {L : List Rdg} {d d' : Dst}, inD d e → (∀ r, r ∈ L → hld r e) → pss L d = some d' → inD d' e
 | [], d, d', h, _, hp => by cases hp; exact h
 | r :: t, d, d', h, hr, hp => by
  have hr0 := hr r (List.mem_cons_self ..)
  rw [pss, if_pos (in_ok h hr0)] at hp
  exact pss_in (nar_in h hr0) (fun x hx => hr x (List.mem_cons_of_mem _ hx)) hp
def sub (d' d : Dst) : Prop := ∀ n, (d n).1 ≤ (d' n).1 ∧ (d' n).2 ≤ (d n).2
theorem sub.trans {a b c : Dst} (h : sub a b) (k : sub b c) : sub a c := fun n => by have := h n; have := k n; omega
theorem nar1_sub {d : Dst} {a b : Nat} {lo hi : Int} : sub (nar1 d a b lo hi) d := fun n => by
 rw [nar1_at]; split
 ·rename_i hn; subst hn
  have := mx_or (d n).1 ((d b).1 + lo)
  have := mn_or (d n).2 ((d b).2 + hi)
  simp only; omega
 ·omega
theorem nar2_sub {d : Dst} {a b : Nat} {lo hi : Int} : sub (nar2 d a b lo hi) d := fun n => by
 rw [nar2_at]; split
 ·rename_i hn; subst hn
  have := mx_or (d n).1 ((d a).1 - hi)
  have := mn_or (d n).2 ((d a).2 - lo)
  simp only; omega
 ·omega
theorem narR_sub {d : Dst} {r : Rdg} : sub (narR d r) d := nar2_sub.trans nar1_sub
theorem pss_sub : ∀ {L : List Rdg} {d d' : Dst}, pss L d = some d' → sub d' d
 | [], d, d', hp => by cases hp; exact fun n => by omega
 | r :: t, d, d', hp => by
  rw [pss] at hp
  split at hp
  ·exact (pss_sub hp).trans narR_sub
  ·cases hp
theorem sub_eq {a b : Dst} (h : sub a b) (k : sub b a) : a = b := funext fun n => Prod.ext (by have := h n; have := k n; omega) (by have := h n; have := k n; omega)
theorem pss_fix : ∀ {L : List Rdg} {d : Dst}, pss L d = some d → ∀ r, r ∈ L → narR d r = d
 | [], d, _, r, hr => by cases hr
 | r0 :: t, d, hp, r, hr => by
  rw [pss] at hp
  split at hp
  ·have e0 : narR d r0 = d := sub_eq narR_sub (pss_sub hp)
   rw [e0] at hp
   rcases List.mem_cons.1 hr with rfl | hr
   ·exact e0
   ·exact pss_fix hp r hr
  ·cases hp
theorem nar_fix {d : Dst} {r : Rdg} (h : narR d r = d) : ((d r.nb).1 + (r.V - r.W) ≤ (d r.na).1 ∧ (d r.na).2 ≤ (d r.nb).2 + (r.V + r.W)) ∧ ((d r.na).1 - (r.V + r.W) ≤ (d r.nb).1 ∧ (d r.nb).2 ≤ (d r.na).2 - (r.V - r.W)) := by
 have e1 : nar1 d r.na r.nb (r.V - r.W) (r.V + r.W) = d := sub_eq nar1_sub (by have := nar2_sub (d := nar1 d r.na r.nb (r.V - r.W) (r.V + r.W)) (a := r.na) (b := r.nb) (lo := r.V - r.W) (hi := r.V + r.W); rw [show nar2 (nar1 d r.na r.nb (r.V - r.W) (r.V + r.W)) r.na r.nb (r.V - r.W) (r.V + r.W) = d from h] at this; exact this)
 have e2 : nar2 d r.na r.nb (r.V - r.W) (r.V + r.W) = d := by have h2 := h; unfold narR nar at h2; rw [e1] at h2; exact h2
 have f1 := congrFun e1 r.na
 have f2 := congrFun e2 r.nb
 rw [nar1_at, if_pos rfl] at f1
 rw [nar2_at, if_pos rfl] at f2
 have a1 := congrArg Prod.fst f1
 have a2 := congrArg Prod.snd f1
 have b1 := congrArg Prod.fst f2
 have b2 := congrArg Prod.snd f2
 simp only at a1 a2 b1 b2
 have := mx_or (d r.na).1 ((d r.nb).1 + (r.V - r.W))
 have := mn_or (d r.na).2 ((d r.nb).2 + (r.V + r.W))
 have := mx_or (d r.nb).1 ((d r.na).1 - (r.V + r.W))
 have := mn_or (d r.nb).2 ((d r.na).2 - (r.V - r.W))
 omega
theorem pss_out : ∀ {L : List Rdg} {d d' : Dst}, (∀ r, r ∈ L → r.na < 36 ∧ r.nb < 36) → pss L d = some d' → ∀ n, 36 ≤ n → d' n = d n
 | [], d, d', _, hp, n, hn => by cases hp; rfl
 | r :: t, d, d', hi, hp, n, hn => by
  rw [pss] at hp
  split at hp
  ·have h0 := hi r (List.mem_cons_self ..)
   rw [pss_out (fun x hx => hi x (List.mem_cons_of_mem _ hx)) hp n hn]
   show nar2 (nar1 d r.na r.nb _ _) r.na r.nb _ _ n = d n
   rw [nar2_at, if_neg (by omega), nar1_at, if_neg (by omega)]
  ·cases hp
theorem rnds_fix {L : List Rdg} (hi : ∀ r, r ∈ L → r.na < 36 ∧ r.nb < 36) : ∀ {k : Nat} {d d' : Dst}, rnds L k d = some d' → pss L d' = some d' ∧ sub d' d
 | 0, d, d', h => by cases h
 | k + 1, d, d', h => by
  rw [rnds] at h
  split at h
  ·cases h
  ·rename_i d1 hp
   split at h
   ·rename_i he
    cases h
    have hs := pss_sub hp
    have : d' = d := funext fun n => by
     by_cases hn : n < 36
     ·exact (ksF_eq 36 0).1 he n (by omega) (by omega)
     ·exact pss_out hi hp n (by omega)
    subst this
    exact ⟨hp, hs⟩
   ·obtain ⟨h1, h2⟩ := rnds_fix hi h
    exact ⟨h1, h2.trans (pss_sub hp)⟩
theorem rnds_in {L : List Rdg} {e : Nat → Int} (hr : ∀ r, r ∈ L → hld r e) : ∀ {k : Nat} {d d' : Dst}, inD d e → rnds L k d = some d' → inD d' e
 | 0, d, d', _, h => by cases h
 | k + 1, d, d', hd, h => by
  rw [rnds] at h
  split at h
  ·cases h
  ·rename_i d1 hp
   have h1 := pss_in hd hr hp
   split at h
   ·cases h; exact h1
   ·exact rnds_in hr h1 h
def edH : List Rdg → List BF.Ed
 | [] => []
 | r :: t => ⟨r.na, r.nb, r.V + r.W⟩ :: ⟨r.nb, r.na, -(r.V - r.W)⟩ :: edH t
def edL : List Rdg → List BF.Ed
 | [] => []
 | r :: t => ⟨r.na, r.nb, -(r.V - r.W)⟩ :: ⟨r.nb, r.na, r.V + r.W⟩ :: edL t
theorem mem_edH : ∀ {L : List Rdg} {x : BF.Ed}, x ∈ edH L → ∃ r, r ∈ L ∧ (x = ⟨r.na, r.nb, r.V + r.W⟩ ∨ x = ⟨r.nb, r.na, -(r.V - r.W)⟩)
 | r :: t, x, h => by
  simp only [edH, List.mem_cons] at h
  rcases h with h | h | h
  ·exact ⟨r, List.mem_cons_self .., .inl h⟩
  ·exact ⟨r, List.mem_cons_self .., .inr h⟩
  ·obtain ⟨r', h1, h2⟩ := mem_edH h
   exact ⟨r', List.mem_cons_of_mem _ h1, h2⟩
theorem mem_edL : ∀ {L : List Rdg} {x : BF.Ed}, x ∈ edL L → ∃ r, r ∈ L ∧ (x = ⟨r.na, r.nb, -(r.V - r.W)⟩ ∨ x = ⟨r.nb, r.na, r.V + r.W⟩)
 | r :: t, x, h => by
  simp only [edL, List.mem_cons] at h
  rcases h with h | h | h
  ·exact ⟨r, List.mem_cons_self .., .inl h⟩
  ·exact ⟨r, List.mem_cons_self .., .inr h⟩
  ·obtain ⟨r', h1, h2⟩ := mem_edL h
   exact ⟨r', List.mem_cons_of_mem _ h1, h2⟩
def mkD (x y : Nat → Int) : Dst := fun n => (-(y n), x n)
theorem mkD_id (d : Dst) : mkD (fun n => (d n).2) (fun n => -(d n).1) = d := funext fun n => Prod.ext (by simp [mkD]) rfl
theorem nar_mk (x y : Nat → Int) (r : Rdg) : narR (mkD x y) r = mkD (BF.relax (BF.relax x ⟨r.na, r.nb, r.V + r.W⟩) ⟨r.nb, r.na, -(r.V - r.W)⟩) (BF.relax (BF.relax y ⟨r.na, r.nb, -(r.V - r.W)⟩) ⟨r.nb, r.na, r.V + r.W⟩) := by
 have e1 : nar1 (mkD x y) r.na r.nb (r.V - r.W) (r.V + r.W) = mkD (BF.relax x ⟨r.na, r.nb, r.V + r.W⟩) (BF.relax y ⟨r.na, r.nb, -(r.V - r.W)⟩) := funext fun n => by
  rw [nar1_at]
  simp only [mkD, BF.relax]
  split
  ·rename_i hn; subst hn
   have := mx_or (-(y r.na)) (-(y r.nb) + (r.V - r.W))
   have := mn_or (x r.na) (x r.nb + (r.V + r.W))
   exact Prod.ext (by simp only; omega) (by simp only; omega)
  ·rfl
 show nar2 (nar1 (mkD x y) r.na r.nb (r.V - r.W) (r.V + r.W)) r.na r.nb (r.V - r.W) (r.V + r.W) = _
 rw [e1]
 generalize BF.relax x ⟨r.na, r.nb, r.V + r.W⟩ = x1
 generalize BF.relax y ⟨r.na, r.nb, -(r.V - r.W)⟩ = y1
 funext n
 rw [nar2_at]
 simp only [mkD, BF.relax]
 split
 ·rename_i hn; subst hn
  have := mx_or (-(y1 r.nb)) (-(y1 r.na) - (r.V + r.W))
  have := mn_or (x1 r.nb) (x1 r.na - (r.V - r.W))
  exact Prod.ext (by simp only; omega) (by simp only; omega)
 ·rfl
theorem pss_mk {e : Nat → Int} : ∀ {L : List Rdg} {x y : Nat → Int}, inD (mkD x y) e → (∀ r, r ∈ L → hld r e) → pss L (mkD x y) = some (mkD (BF.rnd (edH L) x) (BF.rnd (edL L) y))
 | [], x, y, _, _ => rfl
 | r :: t, x, y, h, hr => by
  have hr0 := hr r (List.mem_cons_self ..)
  rw [pss, if_pos (in_ok h hr0), nar_mk]
  have h1 := nar_in h hr0
  rw [nar_mk] at h1
  rw [pss_mk h1 fun x hx => hr x (List.mem_cons_of_mem _ hx)]
  rfl
theorem rnds_some {L : List Rdg} {e : Nat → Int} {x0 y0 : Nat → Int} (hi : ∀ r, r ∈ L → r.na < 36 ∧ r.nb < 36) (hr : ∀ r, r ∈ L → hld r e) (h0 : inD (mkD x0 y0) e) :
  ∀ (k j : Nat), j + (k + 1) = 36 → ∃ d, rnds L (k + 1) (mkD (BF.it (edH L) x0 j) (BF.it (edL L) y0 j)) = some d := by
 have pH : ∀ x, x ∈ edH L → e x.to ≤ e x.fr + x.w := fun x hx => by
  obtain ⟨r, h1, h2⟩ := mem_edH hx
  have := hr r h1
  unfold hld at this
  rcases h2 with rfl | rfl <;> simp only <;> omega
 have pL : ∀ x, x ∈ edL L → -(e x.to) ≤ -(e x.fr) + x.w := fun x hx => by
  obtain ⟨r, h1, h2⟩ := mem_edL hx
  have := hr r h1
  unfold hld at this
  rcases h2 with rfl | rfl <;> simp only <;> omega
 have nH : ∀ x, x ∈ edH L → x.to < 36 ∧ x.fr < 36 := fun x hx => by
  obtain ⟨r, h1, h2⟩ := mem_edH hx
  have := hi r h1
  rcases h2 with rfl | rfl <;> simp only <;> omega
 have nL : ∀ x, x ∈ edL L → x.to < 36 ∧ x.fr < 36 := fun x hx => by
  obtain ⟨r, h1, h2⟩ := mem_edL hx
  have := hi r h1
  rcases h2 with rfl | rfl <;> simp only <;> omega
 have hin : ∀ j, inD (mkD (BF.it (edH L) x0 j) (BF.it (edL L) y0 j)) e := fun j n => by
  have h1 := BF.it_ge (x0 := x0) pH (fun v => (h0 v).2) j n
  have h2 := BF.it_ge (x0 := y0) (p := fun v => -(e v)) pL (fun v => by have := (h0 v).1; simp only [mkD] at this; omega) j n
  simp only [mkD] at *
  omega
 intro k
 induction k with
 | zero =>
  intro j hj
  have hps := pss_mk (L := L) (hin j) hr
  rw [rnds, hps]
  have he : ksF (mkD (BF.rnd (edH L) (BF.it (edH L) x0 j)) (BF.rnd (edL L) (BF.it (edL L) y0 j))) 0 36 = ksF (mkD (BF.it (edH L) x0 j) (BF.it (edL L) y0 j)) 0 36 := (ksF_eq 36 0).2 fun n _ hn => by
   have h1 := BF.rest (E := edH L) (x0 := x0) (k := j) pH nH (show n < 36 by omega) (by omega)
   have h2 := BF.rest (E := edL L) (x0 := y0) (p := fun v => -(e v)) (k := j) pL nL (show n < 36 by omega) (by omega)
   exact Prod.ext (congrArg (fun z : Int => -z) h2) h1
  simp only [he, if_true]
  exact ⟨_, rfl⟩
 | succ k ih =>
  intro j hj
  have hps := pss_mk (L := L) (hin j) hr
  rw [rnds, hps]
  simp only
  split
  ·exact ⟨_, rfl⟩
  ·exact ih (j + 1) (by omega)
def isT (T : List Int) (m : Int) (L : List Rdg) (e : Nat → Int) : Prop := inD (wdS T m) e ∧ ∀ r, r ∈ L → hld r e
theorem inR_lt {r : Rdg} (h : inR r) : r.na < 36 ∧ r.nb < 36 := by
 obtain ⟨⟨h1, h2⟩, ⟨h3, h4⟩, _⟩ := h
 unfold Rdg.na Rdg.nb; omega
theorem okL_lt {T : List Int} {m : Int} {L : List Rdg} (hs : okS T m = true) (hL : okL T L = true) : ∀ r, r ∈ L → r.na < 36 ∧ r.nb < 36 := fun r hr => by
 simp only [okL, Bool.and_eq_true, List.all_eq_true] at hL
 exact inR_lt (okR_in hs (hL.2 r hr))
theorem tr_of {T : List Int} {m : Int} {L : List Rdg} {e : Nat → Int} (hs : okS T m = true) (hL : okL T L = true) (h : isT T m L e) : ∃ d, trR T m L = some d := by
 have := rnds_some (x0 := fun n => (wdS T m n).2) (y0 := fun n => -(wdS T m n).1) (okL_lt hs hL) h.2 (by rw [mkD_id]; exact h.1) 35 0 (by omega)
 rw [show mkD (BF.it (edH L) (fun n => (wdS T m n).2) 0) (BF.it (edL L) (fun n => -(wdS T m n).1) 0) = wdS T m from mkD_id _] at this
 exact this
theorem tr_in {T : List Int} {m : Int} {L : List Rdg} {e : Nat → Int} {d : Dst} (h : isT T m L e) (hd : trR T m L = some d) : inD d e := rnds_in h.2 h.1 hd
theorem tr_sub {T : List Int} {m : Int} {L : List Rdg} {d : Dst} (hs : okS T m = true) (hL : okL T L = true) (hd : trR T m L = some d) : sub d (wdS T m) := (rnds_fix (okL_lt hs hL) hd).2
theorem tr_kept {T : List Int} {m : Int} {L : List Rdg} {d : Dst} (hs : okS T m = true) (hL : okL T L = true) (hd : trR T m L = some d) : ∀ r, r ∈ L → narR d r = d := pss_fix (rnds_fix (okL_lt hs hL) hd).1
theorem pss_bd : ∀ {L : List Rdg} {d d' : Dst}, Bd d → (∀ r, r ∈ L → inR r) → pss L d = some d' → Bd d'
 | [], d, d', h, _, hp => by cases hp; exact h
 | r :: t, d, d', h, hr, hp => by
  rw [pss] at hp
  split at hp
  ·rename_i hok
   exact pss_bd (narR_bd h (hr r (List.mem_cons_self ..)) hok) (fun x hx => hr x (List.mem_cons_of_mem _ hx)) hp
  ·cases hp
theorem rnds_bd {L : List Rdg} (hr : ∀ r, r ∈ L → inR r) : ∀ {k : Nat} {d d' : Dst}, Bd d → rnds L k d = some d' → Bd d'
 | 0, d, d', _, h => by cases h
 | k + 1, d, d', hd, h => by
  rw [rnds] at h
  split at h
  ·cases h
  ·rename_i d1 hp
   have h1 := pss_bd hd hr hp
   split at h
   ·cases h; exact h1
   ·exact rnds_bd hr h1 h
theorem tr_bd {T : List Int} {m : Int} {L : List Rdg} {d : Dst} (hs : okS T m = true) (hL : okL T L = true) (hd : trR T m L = some d) : Bd d := by
 have hm : 0 ≤ m ∧ m ≤ 100000 := by simp only [okS, Bool.and_eq_true, decide_eq_true_eq] at hs; exact hs.2.1
 have hL' := hL
 simp only [okL, Bool.and_eq_true, List.all_eq_true] at hL'
 exact rnds_bd (fun r hr => okR_in hs (hL'.2 r hr)) (wd_bd hm) hd
theorem tr_ends {T : List Int} {m : Int} {L : List Rdg} {d : Dst} (hs : okS T m = true) (hL : okL T L = true) (hd : trR T m L = some d) : isT T m L (fun n => (d n).2) ∧ isT T m L (fun n => (d n).1) := by
 have hsb := tr_sub hs hL hd
 have hb := tr_bd hs hL hd
 have hk := tr_kept hs hL hd
 refine ⟨⟨fun n => ?_, fun r hr => ?_⟩, ⟨fun n => ?_, fun r hr => ?_⟩⟩
 ·have := hsb n; have := hb n; simp only; omega
 ·have := nar_fix (hk r hr); unfold hld; simp only; omega
 ·have := hsb n; have := hb n; simp only; omega
 ·have := nar_fix (hk r hr); unfold hld; simp only; omega
end Go.Proofs.Ytbbbpdajikblbaa
