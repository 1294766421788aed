import Derived.Test.YtgdihdiadlmjiaaVgLM8
set_option linter.all false
section
namespace Go.Proofs.Ytgdihdiadlmjiaa
open Go Go.Vg
set_option maxRecDepth 10000
def midL (w : Int) (L : List Md) : Mp := L.foldl (fun M e => M.wth e.2 (e.1 - w) (e.1 + w)) .e0
theorem mid_eq (w : Int) (R : List Rg) : Mp.mid w R = midL w (R.map midR) := by
 unfold Mp.mid midL
 rw [List.foldl_map]
 rfl
theorem midL_s (w : Int) (L : List Md) (e : Md) : midL w (L ++ [e]) = (midL w L).wth e.2 (e.1 - w) (e.1 + w) := by
 unfold midL
 rw [List.foldl_append]
 rfl
def okL (L : List Md) : Prop := 1 <= L.length /\ ∀ e ∈ L, 0 <= e.1 /\ e.1 <= 400
theorem midL_D {w y : Int} {L : List Md} : (midL w L).inD y ↔ ∀ e ∈ L, e.2 = false -> inS (e.1 - w, e.1 + w) y := by
 suffices h : ∀ M : Mp, (L.foldl (fun M e => M.wth e.2 (e.1 - w) (e.1 + w)) M).inD y ↔ M.inD y /\ ∀ e ∈ L, e.2 = false -> inS (e.1 - w, e.1 + w) y by
  have := h .e0
  unfold midL
  rw [this]; simp [Mp.inD]
 induction L with
 | nil => intro M; simp
 | cons e L ih =>
  intro M
  rw [List.foldl_cons, ih, wth_D]
  simp only [List.forall_mem_cons, and_assoc]
theorem midL_T {w y : Int} {L : List Md} : (midL w L).inT y ↔ ∀ e ∈ L, e.2 = true -> inS (e.1 - w, e.1 + w) y := by
 suffices h : ∀ M : Mp, (L.foldl (fun M e => M.wth e.2 (e.1 - w) (e.1 + w)) M).inT y ↔ M.inT y /\ ∀ e ∈ L, e.2 = true -> inS (e.1 - w, e.1 + w) y by
  have := h .e0
  unfold midL
  rw [this]; simp [Mp.inT]
 induction L with
 | nil => intro M; simp
 | cons e L ih =>
  intro M
  rw [List.foldl_cons, ih, wth_T]
  simp only [List.forall_mem_cons, and_assoc]
theorem keyL {w z x : Int} {L : List Md} : ((midL w L).inD (x + z) /\ (midL w L).inT (z - x)) ↔ ∀ e ∈ L, nz z e - w <= x /\ x <= nz z e + w := by
 rw [midL_D, midL_T]
 have h1 : ∀ e : Md, ((e.2 = false -> inS (e.1 - w, e.1 + w) (x + z)) /\ (e.2 = true -> inS (e.1 - w, e.1 + w) (z - x))) ↔ (nz z e - w <= x /\ x <= nz z e + w) := by
  rintro ⟨l, t⟩
  unfold inS nz
  cases t <;> simp <;> omega
 exact ⟨fun h e he => (h1 e).1 ⟨h.1 e he, h.2 e he⟩, fun h => ⟨fun e he => ((h1 e).2 (h e he)).1, fun e he => ((h1 e).2 (h e he)).2⟩⟩
theorem midL_bd {w : Int} (hw : 0 <= w /\ w <= 8) {L : List Md} (hL : ∀ e ∈ L, 0 <= e.1 /\ e.1 <= 400) : (midL w L).bd := by
 suffices h : ∀ M : Mp, M.bd -> (L.foldl (fun M e => M.wth e.2 (e.1 - w) (e.1 + w)) M).bd from h .e0 trivial
 induction L with
 | nil => exact fun M h => h
 | cons e L ih =>
  intro M h
  refine ih (fun e he => hL e (List.mem_cons_of_mem _ he)) _ ?_
  have h1 := hL e List.mem_cons_self
  exact bd_wth h (by unfold sm4; omega) (by unfold sm4; omega)
theorem midL_ne {w : Int} {L : List Md} (h : L ≠ []) : midL w L ≠ .e0 := by
 have hf : ∀ (L : List Md) (M : Mp), M ≠ .e0 -> L.foldl (fun M e => M.wth e.2 (e.1 - w) (e.1 + w)) M ≠ .e0 := fun L => by
  induction L with
  | nil => exact fun M h => h
  | cons e L ih => exact fun M h => ih _ wth_ne
 cases L with
 | nil => exact absurd rfl h
 | cons e L => exact hf L _ wth_ne
theorem midL_ok {v : Vl} (hv : v.ok) {L : List Md} (hL : okL L) : (midL v.w L).ok := by
 unfold Vl.ok at hv
 exact ok_of (midL_bd (by omega) hL.2) (midL_ne fun h => by have := hL.1; rw [h] at this; simp at this)
theorem okL_mid {v : Vl} (hv : v.ok) {R : List Rg} (hR : okRs v R) : okL (R.map midR) := by
 unfold Vl.ok at hv
 refine ⟨by have := hR.1; simp only [List.length_map]; omega, fun e he => ?_⟩
 obtain ⟨r, hr, rfl⟩ := List.mem_map.1 he
 have := hR.2 r hr
 unfold okR at this
 simp only [midR]
 omega
abbrev nowL (v : Vl) (L : List Md) (z : Int) : Int × Int := nowM (midL v.w L).ev z (midL v.w L).ev.length
theorem lenL {v : Vl} (hv : v.ok) {L : List Md} (hL : okL L) : ∃ k, (midL v.w L).ev.length = k + 1 := by
 have := (midL_ok hv hL).1
 exact ⟨(midL v.w L).ev.length - 1, by omega⟩
theorem now_eqL {v : Vl} (hv : v.ok) {L : List Md} (hL : okL L) {z : Int} (hz : 0 <= z /\ z <= 400) : nowL v L z = if (loW v.w z L) <= (hiW v.w z L) then ((loW v.w z L), (hiW v.w z L)) else (1, 0) := by
 have hM := midL_ok hv hL
 have hb : (-20000 <= (nowL v L z).1 /\ (nowL v L z).1 <= 20000) /\ (-20000 <= (nowL v L z).2 /\ (nowL v L z).2 <= 20000) := nowM_end hM hz
 have hv2 := hv
 unfold Vl.ok at hv2
 obtain ⟨e0, he0⟩ : ∃ e, e ∈ L := by
  cases L with
  | nil => have := hL.1; simp at this
  | cons e R => exact ⟨e, List.mem_cons_self⟩
 have he1 := hL.2 e0 he0
 have hn0 : -400 <= nz z e0 /\ nz z e0 <= 400 := by
  unfold nz
  split <;> omega
 refine nrm_ext ?_ ?_ ?_
 ·obtain ⟨k, hk⟩ := lenL hv hL
  rw [nowL, hk, nowM]
  exact nrm_cm
 ·by_cases h : (loW v.w z L) <= (hiW v.w z L)
  ·rw [if_pos h]; exact .inl h
  ·rw [if_neg h]; exact .inr rfl
 ·intro x
  have hr : inS (if (loW v.w z L) <= (hiW v.w z L) then ((loW v.w z L), (hiW v.w z L)) else (1, 0)) x ↔ (loW v.w z L) <= x /\ x <= (hiW v.w z L) := by
   by_cases h : (loW v.w z L) <= (hiW v.w z L)
   ·rw [if_pos h]; rfl
   ·rw [if_neg h]; unfold inS; simp only; omega
  rw [hr, lo_in, hi_in]
  constructor
  ·intro h
   have hx : -9223372036854775808 <= x /\ x <= 9223372036854775807 := by unfold inS at h; omega
   have h2 := keyL.1 (ev_in.1 ((now_inS hx _).1 h))
   have h3 := h2 e0 he0
   exact ⟨⟨by omega, fun e he => (h2 e he).1⟩, by omega, fun e he => (h2 e he).2⟩
  ·rintro ⟨⟨h1, h2⟩, h3, h4⟩
   have hx : -9223372036854775808 <= x /\ x <= 9223372036854775807 := by omega
   exact (now_inS hx _).2 (ev_in.2 (keyL.2 fun e he => ⟨h2 e he, h4 e he⟩))
theorem tz_accL {v : Vl} (hv : v.ok) {L : List Md} (hL : okL L) : ∀ n : Nat, v.z1 + n <= v.z2 + 1 ->
  ((tzN v L n).f = true -> accM v (midL v.w L).ev n = tzP (tzN v L n) /\ (tzN v L n).t1 <= (tzN v L n).t2 /\ (tzN v L n).u1 <= (tzN v L n).u2) /\ ((tzN v L n).f = false -> accM v (midL v.w L).ev n = noT)
 | 0, _ => ⟨fun h => by simp [tzN] at h, fun _ => rfl⟩
 | n + 1, h => by
  have hv2 := hv
  unfold Vl.ok at hv2
  have ih := tz_accL hv hL n (by omega)
  have ne := now_eqL hv hL (z := v.z1 + n) (by omega)
  simp only [tzN, accM]
  generalize tzN v L n = s at ih
  change ((tstep v L (v.z1 + n) s).f = true -> (if nowL v L (v.z1 + n) = (1, 0) then _ else (arP _ (v.tl (nowL v L (v.z1 + n)).1, v.th (nowL v L (v.z1 + n)).2), _)) = _ /\ _) /\ (_ -> (if nowL v L (v.z1 + n) = (1, 0) then _ else (arP _ (v.tl (nowL v L (v.z1 + n)).1, v.th (nowL v L (v.z1 + n)).2), _)) = _)
  rw [ne]
  unfold tstep
  by_cases hc : (loW v.w (v.z1 + n) L) <= (hiW v.w (v.z1 + n) L)
  ·have hc2 : ¬ (hiW v.w (v.z1 + n) L) < (loW v.w (v.z1 + n) L) := by omega
   have hne : ¬ ((loW v.w (v.z1 + n) L), (hiW v.w (v.z1 + n) L)) = ((1, 0) : Int × Int) := fun e => by
    have e1 := congrArg Prod.fst e; have e2 := congrArg Prod.snd e
    simp only at e1 e2
    omega
   rw [if_pos hc, if_neg hc2, if_neg hne, lst_tl, mst_th]
   have hlm := tl_th hv hc
   refine ⟨fun _ => ?_, fun h2 => by simp at h2⟩
   cases hf : s.f with
   | false =>
    rw [ih.2 hf]
    simp only [noT, ar_no, tzP, wdL, wdH, Bool.not_false, if_true, Bool.false_eq_true, if_false]
    refine ⟨Prod.ext (Prod.ext ?_ ?_) rfl, ?_, ?_⟩ <;> first | omega | (simp only; omega)
   | true =>
    obtain ⟨i1, i2, i3⟩ := ih.1 hf
    rw [i1]
    simp only [tzP]
    rw [ar_yes (p := (s.t1, s.t2)) i2, ar_yes (p := (s.u1, s.u2)) i3]
    simp only [wdL, wdH, Bool.not_true, Bool.false_eq_true, if_false]
    refine ⟨Prod.ext (Prod.ext ?_ ?_) rfl, ?_, ?_⟩ <;> first | omega | (simp only; omega)
  ·have hc2 : (hiW v.w (v.z1 + n) L) < (loW v.w (v.z1 + n) L) := by omega
   rw [if_neg hc, if_pos hc2, if_pos rfl]
   exact ih
theorem tz_trL {v : Vl} (hv : v.ok) {L : List Md} (hL : okL L) : ((tzA v L).f = true -> trA v (midL v.w L).ev = tzP (tzA v L) /\ trA v (midL v.w L).ev ≠ noT /\ (tzA v L).t1 <= (tzA v L).t2 /\ (tzA v L).u1 <= (tzA v L).u2) /\ ((tzA v L).f = false -> trA v (midL v.w L).ev = noT) := by
 have hv2 := hv
 unfold Vl.ok at hv2
 have e : nzV v = (v.z2 + 1 - v.z1).toNat := by unfold nzV; omega
 have h := tz_accL hv hL (v.z2 + 1 - v.z1).toNat (by omega)
 rw [<- e] at h
 have e2 : tzA v L = tzN v L (nzV v) := by rw [e]; rfl
 rw [e2]
 refine ⟨fun hf => ⟨(h.1 hf).1, fun hn => ?_, (h.1 hf).2⟩, h.2⟩
 have h1 := h.1 hf
 have h2 : accM v (midL v.w L).ev (nzV v) = noT := hn
 rw [h2] at h1
 have h3 := congrArg (fun p => p.1.1) h1.1
 have h4 := congrArg (fun p => p.1.2) h1.1
 simp only [noT, tzP] at h3 h4
 omega
end Go.Proofs.Ytgdihdiadlmjiaa
end
section
namespace Go.Proofs.Ytgdihdiadlmjiaa
open Go Go.Vg
set_option maxRecDepth 10000
theorem lo_app {w z : Int} {L : List Md} {e : Md} : loW w z (L ++ [e]) = max (loW w z L) (nz z e - w) := by simp [loW, List.foldl_append]
theorem hi_app {w z : Int} {L : List Md} {e : Md} : hiW w z (L ++ [e]) = min (hiW w z L) (nz z e + w) := by simp [hiW, List.foldl_append]
def okZ (v : Vl) (L : List Md) (i : Nat) : Prop := loW v.w (v.z1 + i) L <= hiW v.w (v.z1 + i) L
theorem alls {P : Nat -> Prop} {n : Nat} : (∀ i, i < n + 1 -> P i) ↔ (∀ i, i < n -> P i) /\ P n :=
 ⟨fun h => ⟨fun i hi => h i (by omega), h n (by omega)⟩, fun h i hi => by
  rcases Nat.lt_or_eq_of_le (Nat.le_of_lt_succ hi) with h2 | rfl
  ·exact h.1 i h2
  ·exact h.2⟩
theorem tz_f {v : Vl} {L : List Md} : ∀ n : Nat, (tzN v L n).f = false ↔ ∀ i, i < n -> ¬ okZ v L i
 | 0 => by simp [tzN]
 | n + 1 => by
  rw [alls, <- tz_f n]
  simp only [tzN, tstep, okZ]
  by_cases h : hiW v.w (v.z1 + n) L < loW v.w (v.z1 + n) L
  ·rw [if_pos h]
   exact ⟨fun h2 => ⟨h2, by omega⟩, fun h2 => h2.1⟩
  ·rw [if_neg h]
   exact ⟨fun h2 => by simp at h2, fun h2 => absurd (by omega) h2.2⟩
theorem tz_t {v : Vl} {L : List Md} : ∀ n : Nat, (tzN v L n).f = true ->
  ((∀ x, x <= (tzN v L n).t1 ↔ ∀ i, i < n -> okZ v L i -> x <= v.lst (loW v.w (v.z1 + i) L) /\ x <= v.mst (hiW v.w (v.z1 + i) L)) /\
  (∀ x, (tzN v L n).t2 <= x ↔ ∀ i, i < n -> okZ v L i -> v.lst (loW v.w (v.z1 + i) L) <= x /\ v.mst (hiW v.w (v.z1 + i) L) <= x)) /\
  (∀ x, x <= (tzN v L n).u1 ↔ ∀ i, i < n -> okZ v L i -> x <= v.z1 + i) /\
  (∀ x, (tzN v L n).u2 <= x ↔ ∀ i, i < n -> okZ v L i -> v.z1 + i <= x)
 | 0, h => by simp [tzN] at h
 | n + 1, h => by
  have ih := tz_t (v := v) (L := L) n
  have hf := tz_f (v := v) (L := L) n
  simp only [alls]
  simp only [tzN, tstep] at h ⊢
  generalize tzN v L n = s at h ih hf ⊢
  by_cases hc : hiW v.w (v.z1 + n) L < loW v.w (v.z1 + n) L
  ·rw [if_pos hc] at h ⊢
   have hn : ¬ okZ v L n := by unfold okZ; omega
   have ih := ih h
   refine ⟨⟨fun x => ?_, fun x => ?_⟩, fun x => ?_, fun x => ?_⟩
   ·rw [ih.1.1]; exact ⟨fun h => ⟨h, fun h2 => absurd h2 hn⟩, fun h => h.1⟩
   ·rw [ih.1.2]; exact ⟨fun h => ⟨h, fun h2 => absurd h2 hn⟩, fun h => h.1⟩
   ·rw [ih.2.1]; exact ⟨fun h => ⟨h, fun h2 => absurd h2 hn⟩, fun h => h.1⟩
   ·rw [ih.2.2]; exact ⟨fun h => ⟨h, fun h2 => absurd h2 hn⟩, fun h => h.1⟩
  ·rw [if_neg hc]
   have hn : okZ v L n := by unfold okZ; omega
   cases hs : s.f with
   | false =>
    have h0 := hf.1 hs
    have v0 : ∀ {P : Nat -> Prop}, (∀ i, i < n -> okZ v L i -> P i) := fun i hi h => absurd h (h0 i hi)
    simp only [wdL, wdH, Bool.not_false, if_true, Bool.false_eq_true, if_false]
    refine ⟨⟨fun x => ?_, fun x => ?_⟩, fun x => ?_, fun x => ?_⟩
    ·exact ⟨fun h => ⟨v0, fun _ => by omega⟩, fun h => by have := h.2 hn; omega⟩
    ·exact ⟨fun h => ⟨v0, fun _ => by omega⟩, fun h => by have := h.2 hn; omega⟩
    ·exact ⟨fun h => ⟨v0, fun _ => h⟩, fun h => h.2 hn⟩
    ·exact ⟨fun h => ⟨v0, fun _ => h⟩, fun h => h.2 hn⟩
   | true =>
    have ih := ih hs
    simp only [wdL, wdH, Bool.not_true, Bool.false_eq_true, if_false]
    refine ⟨⟨fun x => ?_, fun x => ?_⟩, fun x => ?_, fun x => ?_⟩
    ·rw [<- ih.1.1]; exact ⟨fun h => ⟨by omega, fun _ => by omega⟩, fun h => by have := h.2 hn; omega⟩
    ·rw [<- ih.1.2]; exact ⟨fun h => ⟨by omega, fun _ => by omega⟩, fun h => by have := h.2 hn; omega⟩
    ·rw [<- ih.2.1]; exact ⟨fun h => ⟨by omega, fun _ => by omega⟩, fun h => by have := h.2 hn; omega⟩
    ·rw [<- ih.2.2]; exact ⟨fun h => ⟨by omega, fun _ => by omega⟩, fun h => by have := h.2 hn; omega⟩
theorem lst_mono {v : Vl} (hv : v.ok) {a b : Int} (h : a <= b) : v.lst a <= v.lst b := by
 unfold Vl.ok at hv
 have h1 := Int.mul_le_mul_of_nonneg_right h (show 0 <= v.v1 by omega)
 have h2 := Int.mul_le_mul_of_nonneg_right h (show 0 <= v.v2 by omega)
 unfold Vl.lst
 split <;> split <;> omega
theorem mst_mono {v : Vl} (hv : v.ok) {a b : Int} (h : a <= b) : v.mst a <= v.mst b := by
 unfold Vl.ok at hv
 have h1 := Int.mul_le_mul_of_nonneg_right h (show 0 <= v.v1 by omega)
 have h2 := Int.mul_le_mul_of_nonneg_right h (show 0 <= v.v2 by omega)
 unfold Vl.mst
 split <;> split <;> omega
theorem tz_less {v : Vl} (hv : v.ok) {L : List Md} {e : Md} (hf : (tzA v (L ++ [e])).f = true) : (tzA v L).f = true /\ ((tzA v L).t1 <= (tzA v (L ++ [e])).t1 /\ (tzA v (L ++ [e])).t2 <= (tzA v L).t2) /\ (tzA v L).u1 <= (tzA v (L ++ [e])).u1 /\ (tzA v (L ++ [e])).u2 <= (tzA v L).u2 := by
 unfold tzA at *
 generalize (v.z2 + 1 - v.z1).toNat = n at *
 have sub : ∀ i, okZ v (L ++ [e]) i -> okZ v L i /\ loW v.w (v.z1 + i) L <= loW v.w (v.z1 + i) (L ++ [e]) /\ hiW v.w (v.z1 + i) (L ++ [e]) <= hiW v.w (v.z1 + i) L := fun i h => by
  unfold okZ at *
  rw [lo_app, hi_app] at *
  omega
 have hf2 : (tzN v L n).f = true := by
  rw [<- Bool.not_eq_false]
  intro h
  rw [tz_f] at h
  rw [<- Bool.not_eq_false, tz_f] at hf
  exact hf fun i hi h2 => h i hi (sub i h2).1
 have a := tz_t n hf2
 have b := tz_t n hf
 refine ⟨hf2, ⟨?_, ?_⟩, ?_, ?_⟩
 ·refine (b.1.1 _).2 fun i hi hok => ?_
  have h1 := (a.1.1 _).1 (Int.le_refl _) i hi (sub i hok).1
  have h2 := lst_mono hv (sub i hok).2.1
  have h3 : v.lst (loW v.w (v.z1 + i) (L ++ [e])) <= v.mst (hiW v.w (v.z1 + i) (L ++ [e])) := by
   have := tl_th hv hok
   rw [lst_tl, mst_th]; exact this
  omega
 ·refine (b.1.2 _).2 fun i hi hok => ?_
  have h1 := (a.1.2 _).1 (Int.le_refl _) i hi (sub i hok).1
  have h2 := mst_mono hv (sub i hok).2.2
  have h3 : v.lst (loW v.w (v.z1 + i) (L ++ [e])) <= v.mst (hiW v.w (v.z1 + i) (L ++ [e])) := by
   have := tl_th hv hok
   rw [lst_tl, mst_th]; exact this
  omega
 ·exact (b.2.1 _).2 fun i hi hok => (a.2.1 _).1 (Int.le_refl _) i hi (sub i hok).1
 ·exact (b.2.2 _).2 fun i hi hok => (a.2.2 _).1 (Int.le_refl _) i hi (sub i hok).1
theorem tz_again {v : Vl} {L : List Md} {e : Md} (he : e ∈ L) : tzA v (L ++ [e]) = tzA v L := by
 unfold tzA
 generalize (v.z2 + 1 - v.z1).toNat = n
 induction n with
 | zero => rfl
 | succ n ih =>
  simp only [tzN, ih, tstep]
  have a := ((lo_in (w := v.w) (z := v.z1 + n) (L := L) (x := loW v.w (v.z1 + n) L)).1 (Int.le_refl _)).2 e he
  have b := ((hi_in (w := v.w) (z := v.z1 + n) (L := L) (x := hiW v.w (v.z1 + n) L)).1 (Int.le_refl _)).2 e he
  rw [lo_app, hi_app, Int.max_eq_left a, Int.min_eq_left b]
def gnN (v : Vl) (L : List Md) (t : Bool) : Nat -> Int
 | 0 => -1
 | k + 1 => if (tzA v (L ++ [((k : Int), t)])).f = true then max (gnN v L t k) ((tzA v (L ++ [((k : Int), t)])).t2 - (tzA v (L ++ [((k : Int), t)])).t1) else gnN v L t k
def gn (v : Vl) (L : List Md) (t : Bool) : Int := gnN v L t (2 * v.m + 1).toNat
theorem okL_app {L : List Md} (hL : okL L) {k : Int} {t : Bool} (hk : 0 <= k /\ k <= 400) : okL (L ++ [(k, t)]) := by
 refine ⟨by simp, fun e he => ?_⟩
 rcases List.mem_append.1 he with h | h
 ·exact hL.2 e h
 ·simp only [List.mem_singleton] at h; subst h; exact hk
theorem gn_ge {v : Vl} (hv : v.ok) {L : List Md} (hL : okL L) {t : Bool} : ∀ n : Nat, (n : Int) <= 2 * v.m + 1 -> -1 <= gnN v L t n /\ (∀ k : Nat, k < n -> (tzA v (L ++ [((k : Int), t)])).f = true -> 0 <= gnN v L t n /\ (tzA v (L ++ [((k : Int), t)])).t2 - (tzA v (L ++ [((k : Int), t)])).t1 <= gnN v L t n)
 | 0, _ => ⟨Int.le_refl _, fun k h => absurd h (Nat.not_lt_zero _)⟩
 | n + 1, h => by
  have ih := gn_ge hv hL (t := t) n (by omega)
  have hv2 := hv
  unfold Vl.ok at hv2
  simp only [gnN]
  split
  ·rename_i hf
   have hw := ((tz_trL hv (okL_app hL (k := (n : Int)) (t := t) (by omega))).1 hf).2.2.1
   refine ⟨by omega, fun k hk hfk => ?_⟩
   rcases Nat.lt_or_eq_of_le (Nat.le_of_lt_succ hk) with h2 | rfl
   ·have := ih.2 k h2 hfk
    omega
   ·omega
  ·rename_i hf
   refine ⟨ih.1, fun k hk hfk => ?_⟩
   rcases Nat.lt_or_eq_of_le (Nat.le_of_lt_succ hk) with h2 | rfl
   ·exact ih.2 k h2 hfk
   ·exact absurd hfk hf
theorem gn_le {v : Vl} (hv : v.ok) {L : List Md} {W : Int} (hW : 0 <= W) (h : ∀ e : Md, (tzA v (L ++ [e])).f = true -> (tzA v (L ++ [e])).t2 - (tzA v (L ++ [e])).t1 <= W) {t : Bool} : ∀ n : Nat, gnN v L t n <= W
 | 0 => by simp only [gnN]; omega
 | n + 1 => by
  have ih := gn_le hv hW h (t := t) n
  simp only [gnN]
  split
  ·rename_i hf
   have := h _ hf
   omega
  ·exact ih
def nxt (v : Vl) (L : List Md) : Bool × Int := if gn v L false < 0 \/ (0 <= gn v L true /\ gn v L true < gn v L false) then (true, gn v L true) else (false, gn v L false)
theorem gn_some {v : Vl} (hv : v.ok) {L : List Md} (hL : okL L) (hm : ∀ e ∈ L, e.1 <= 2 * v.m) (hf : (tzA v L).f = true) : 0 <= gn v L false \/ 0 <= gn v L true := by
 have hv2 := hv
 unfold Vl.ok at hv2
 obtain ⟨e0, he0⟩ : ∃ e, e ∈ L := by
  cases L with
  | nil => have := hL.1; simp at this
  | cons e R => exact ⟨e, List.mem_cons_self⟩
 have h1 := tz_again (v := v) he0
 rw [<- h1] at hf
 have h2 := hL.2 e0 he0
 have h3 := hm e0 he0
 obtain ⟨x, t⟩ := e0
 simp only at h2 h3
 obtain ⟨k, rfl⟩ : ∃ k : Nat, x = k := ⟨x.toNat, by omega⟩
 have := ((gn_ge hv hL (t := t) (2 * v.m + 1).toNat (by omega)).2 k (by omega) hf).1
 cases t
 ·exact .inl this
 ·exact .inr this
end Go.Proofs.Ytgdihdiadlmjiaa
end
section
namespace Go.Proofs.Ytgdihdiadlmjiaa
open Go Go.Vg
set_option maxRecDepth 10000
end Go.Proofs.Ytgdihdiadlmjiaa
end
