import Derived.Test.YtjagiieconpgbaaVgR10
namespace Go.Vg
open Go
set_option linter.unusedVariables false
set_option linter.unusedSimpArgs false
theorem countP_or {es : List Nat} (hn : es.Nodup) {L : Nat → Bool} {e : Nat} (he : e ∈ es) (hL : L e = false) : (es.countP fun x => x == e || L x) = es.countP L + 1 := by
 induction es with
 | nil => cases he
 | cons a t ih =>
  rw [List.nodup_cons] at hn
  simp only [List.countP_cons]
  by_cases ha : a = e
  ·subst ha
   have : (t.countP fun x => x == a || L x) = t.countP L := by
    apply List.countP_congr
    intro x hx
    have : x ≠ a := fun e => hn.1 (e ▸ hx)
    simp [this]
   rw [this, hL]; simp
  ·have he' : e ∈ t := by
    cases he with
    | head => exact absurd rfl ha
    | tail _ h => exact h
   rw [ih hn.2 he']
   simp [ha]; omega
theorem countP_or_not {es : List Nat} {L : Nat → Bool} {e : Nat} (he : e ∉ es) : (es.countP fun x => x == e || L x) = es.countP L := by
 apply List.countP_congr
 intro x hx
 have : x ≠ e := fun h => he (h ▸ hx)
 simp [this]
section
variable {P : Program} {cl : Cl} {cq : Cq} (hcl : ClOk P cl) (hcq : CqOk P cq) {ops : Array Oper} {lo : List Opq} (hc : cops2 P ops ops.toList = some lo) (he : edgesOk ops.toList = true) {st : Bool} {pp : Option (List Nat)} {h : Nat} {es cs : List Nat}
 (hd : drawOk2 (masks ops.toList []) lo h es cs = true) (hnd : es.Nodup) (hes : ∀ e ∈ es, e < h) (hcs : cs.Nodup)
 {n0 : Nat} {H : Nat → List Blk} {B : Nat → Option Blk} {fr0 fe : List SV} {xs : List SV}
 (hdat : Dat2 (P := P) cq n0 H B es.length ((lo.take h).zipIdx.map fun x => (x.1, kdOf st pp cs es (masks ops.toList []) x.2)) 0 fr0 xs fe)
 (hH0 : ∀ j, j < cs.length → n0 + j < ln (H 0) ∧ gb (H 0) (n0 + j) = .dead)
def HPL (ops : Array Oper) (es cs : List Nat) (n0 : Nat) (H : Nat → List Blk) (B : Nat → Option Blk) (L : Nat → Bool) : List Blk :=
 fillL B n0 (sel cs es (masks ops.toList []) (es.countP L) L) (H (es.countP L))
include hdat in
theorem trn (m : Nat) (hm : m < es.length) : Trn st n0 H B m (allThere cs es (masks ops.toList []) m) (laterThere cs es (masks ops.toList []) m) := by
 refine dat2_trn (all := fun m => allThere cs es (masks ops.toList []) m) (later := fun m => laterThere cs es (masks ops.toList []) m) hdat ?_ ?_ m (Nat.zero_le _) hm
 ·intro o m' js hmem
  obtain ⟨⟨o', i⟩, h1, h2⟩ := List.mem_map.1 hmem
  simp only [Prod.mk.injEq] at h2
  obtain ⟨rfl, hk⟩ := h2
  rcases kdOf_cases st pp cs es (masks ops.toList []) i with ⟨j, _, hj⟩ | ⟨_, _, hs, hj⟩ | ⟨_, _, hs, hj⟩ | ⟨_, _, _, hj⟩ | ⟨_, _, hs, hj⟩ | ⟨_, _, hs, _, _, hj⟩ <;> rw [hj] at hk <;> cases hk
  exact ⟨rfl, hs⟩
 ·intro o m' js ls hmem
  obtain ⟨⟨o', i⟩, h1, h2⟩ := List.mem_map.1 hmem
  simp only [Prod.mk.injEq] at h2
  obtain ⟨rfl, hk⟩ := h2
  rcases kdOf_cases st pp cs es (masks ops.toList []) i with ⟨j, _, hj⟩ | ⟨_, _, hs, hj⟩ | ⟨_, _, hs, hj⟩ | ⟨_, _, _, hj⟩ | ⟨_, _, hs, hj⟩ | ⟨_, _, hs, _, _, hj⟩ <;> rw [hj] at hk <;> cases hk
  exact ⟨rfl, rfl, hs⟩
include hdat hH0 in
theorem stay (k : Nat) (hk : k ≤ es.length) : ln (H 0) ≤ ln (H k) ∧ ∀ j c, cs[j]? = some c → k ≤ cntIn es ((masks ops.toList []).getD c 0) → gb (H k) (n0 + j) = .dead := by
 induction k with
 | zero => exact ⟨Nat.le_refl _, fun j c hj _ => (hH0 j (List.getElem?_eq_some_iff.1 hj).1).2⟩
 | succ k ih =>
  obtain ⟨h1, h2⟩ := ih (by omega)
  obtain ⟨t1, t2, t3, t4⟩ := trn hdat k (by omega)
  refine ⟨by omega, fun j c hj hst => ?_⟩
  have hl := (hH0 j (List.getElem?_eq_some_iff.1 hj).1).1
  cases hb : st with
  | true =>
   refine t4 hb j ?_
   unfold laterThere
   refine List.mem_map.2 ⟨(c, j), List.mem_filter.2 ⟨List.mem_zipIdx_iff_getElem?.2 (by simpa using hj), ?_⟩, rfl⟩
   have : k < cntIn es ((masks ops.toList []).getD c 0) := hst
   simpa [Nat.blt_eq] using this
  | false =>
   rw [t3 hb _ (by omega), gb_fillL_not (fun j' hj' e => ?_) (fun j' hj' => (t1 j' hj').1)]
   ·exact h2 j c hj (by omega)
   ·have : j' = j := by omega
    subst this
    rw [allThere_sel] at hj'
    obtain ⟨c', h3, h4, _⟩ := mem_sel'.1 hj'
    rw [hj] at h3; cases h3; omega
include hdat hH0 in
theorem fills (k : Nat) (hk : k ≤ es.length) {js : List Nat} (hjs : ∀ j ∈ js, ∃ c, cs[j]? = some c ∧ k ≤ cntIn es ((masks ops.toList []).getD c 0)) (hB : ∀ j ∈ js, ∃ b, B j = some b) :
  ∀ j ∈ js, n0 + j < ln (H k) ∧ (∃ b, B j = some b) ∧ gb (H k) (n0 + j) = .dead := by
 intro j hj
 obtain ⟨c, h1, h2⟩ := hjs j hj
 obtain ⟨h3, h4⟩ := stay hdat hH0 k hk
 exact ⟨Nat.lt_of_lt_of_le (hH0 j (List.getElem?_eq_some_iff.1 h1).1).1 h3, hB j hj, h4 j c h1 h2⟩
include hdat hH0 in
theorem ext_H (hs0 : st = false) (a b : Nat) (hab : a ≤ b) (hb : b ≤ es.length) : Ext (gb (H a)) (gb (H b)) := by
  induction b with
  | zero => have : a = 0 := by omega
            subst this; exact .refl _
  | succ b ih =>
    by_cases h : a = b + 1
    · subst h; exact .refl _
    · refine (ih (by omega) (by omega)).trans ?_
      obtain ⟨t1, t2, t3, _⟩ := trn hdat b (by omega)
      have h1 : Ext (gb (H b)) (gb (fillL B n0 (allThere cs es (masks ops.toList []) b) (H b))) := by
        refine ext_fill (js1 := []) (fun _ h => by cases h) (fills hdat hH0 b (by omega) (fun j hj => ?_) (fun j hj => (t1 j hj).2))
        rw [allThere_sel] at hj
        obtain ⟨c, h3, h4, _⟩ := mem_sel'.1 hj
        exact ⟨c, h3, by omega⟩
      refine h1.trans fun l hl => ?_
      have : l < ln (H b) := by have := gb_lt hl; rwa [ln_fillL] at this
      exact t3 hs0 l this
theorem gt_mix_none {p : Nat → Bool} {t : Nat} : ∀ {l : List (Nat × Opr × SV)} {fr : List SV}, (∀ i o x, (i, o, x) ∈ l → o.d ≠ some t) → gt (mix p l fr) t = gt fr t
 | [], fr, _ => rfl
 | (i, o, x) :: l, fr, h => by
  simp only [mix]
  rw [gt_mix_none (fun i o x hm => h i o x (List.mem_cons_of_mem _ hm))]
  split
  ·exact gt_putf_ne (h i o x (List.mem_cons_self ..))
  ·rfl
theorem ppOf_get {lo : List Opq} {h : Nat} {es cs ms ps : List Nat} (hp : ppOf lo h es cs ms = some ps) : stoOkB ps [] ((lo.take h).zipIdx.map fun x => (x.1, kdOf true (some ps) cs es ms x.2)) = true ∧ ∀ o ∈ lo.take h, ∀ p ∈ ps, o.d ≠ some p := by
 unfold ppOf at hp
 split at hp <;> first | (cases hp; done) | skip
 rename_i pa h1
 simp only at hp
 split at hp <;> first | (cases hp; done) | skip
 rename_i h2
 cases hp
 refine ⟨h2, fun o ho p hp e => ?_⟩
 rw [List.mem_filter] at hp
 have := List.all_eq_true.1 hp.2 o ho
 rw [e] at this
 simp at this
include hdat in
theorem kept {ps : List Nat} (hs1 : st = true) (hpp : pp = some ps) (hp : ppOf lo h es cs (masks ops.toList []) = some ps) (m : Nat) (hm : m < es.length) : Kept cs.length fr0 ps n0 H B m (allThere cs es (masks ops.toList []) m) := by
 obtain ⟨p1, p2⟩ := ppOf_get hp
 subst hs1
 subst hpp
 refine dat2_kept (all := fun m => allThere cs es (masks ops.toList []) m) hdat ?_ ?_ p1 ⟨fun _ _ => rfl, fun p s hp => by cases hp⟩ m (Nat.zero_le _) hm
 ·intro o m' js ls hmem
  obtain ⟨⟨o', i⟩, h1, h2⟩ := List.mem_map.1 hmem
  simp only [Prod.mk.injEq] at h2
  obtain ⟨rfl, hk⟩ := h2
  rcases kdOf_cases true (some ps) cs es (masks ops.toList []) i with ⟨j, _, hj⟩ | ⟨_, _, hs, hj⟩ | ⟨_, he', hs, hj⟩ | ⟨_, _, _, hj⟩ | ⟨_, _, hs, hj⟩ | ⟨_, _, hs, _, _, hj⟩ <;> rw [hj] at hk <;> cases hk
  rfl
 ·intro o j hmem
  obtain ⟨⟨o', i⟩, h1, h2⟩ := List.mem_map.1 hmem
  simp only [Prod.mk.injEq] at h2
  obtain ⟨rfl, hk⟩ := h2
  rcases kdOf_cases true (some ps) cs es (masks ops.toList []) i with ⟨j, hj0, hj⟩ | ⟨_, _, hs, hj⟩ | ⟨_, he', hs, hj⟩ | ⟨_, _, _, hj⟩ | ⟨_, _, hs, hj⟩ | ⟨_, _, hs, _, _, hj⟩ <;> rw [hj] at hk <;> cases hk
  exact (List.getElem?_eq_some_iff.1 hj0).1
include hdat hH0 in
theorem ext_M {ps : List Nat} (hs1 : st = true) (hpp : pp = some ps) (hp : ppOf lo h es cs (masks ops.toList []) = some ps) (k : Nat) (hk : k ≤ es.length) : ∀ l, inP fr0 l ps = false → gb (H 0) l ≠ .dead → gb (H k) l = gb (H 0) l := by
 induction k with
 | zero => exact fun _ _ _ => rfl
 | succ k ih =>
  intro l hi hl
  have h1 := ih (by omega) l hi hl
  have h2 : l < ln (H k) := gb_lt (by rw [h1]; exact hl)
  rw [kept hdat hs1 hpp hp k (by omega) l h2 (fun j hj e => hl (by rw [e]; exact (hH0 j hj).2)) hi, ← h1]
  obtain ⟨t1, _⟩ := trn hdat k (by omega)
  refine gb_fillL_not (fun j hj e => ?_) (fun j hj => (t1 j hj).1)
  have := fills hdat hH0 k (by omega) (js := allThere cs es (masks ops.toList []) k) (fun j hj => by
   rw [allThere_sel] at hj
   obtain ⟨c, h3, h4, _⟩ := mem_sel'.1 hj
   exact ⟨c, h3, by omega⟩) (fun j hj => (t1 j hj).2) j hj
  rw [e, h1] at this
  exact hl this.2.2
structure Inv (E0 E : Env) (a : Act) (dfs : List Deferred) (L : Nat → Bool) (l : List (Nat × Opr × SV)) : Prop where
 hF : Rvs E (mix L l fr0) a.tmps.toList
 hr : RHp E (HPL ops es cs n0 H B L)
 ok : OkE P E
 le : E0.Le E
 df : a.defers = dfs
 fr : ∀ j c, cs[j]? = some c → L c = false → E.rs (n0 + j)
theorem HPL_same {L : Nat → Bool} {i : Nat} (h1 : i ∉ es) (h2 : i ∉ cs) : HPL ops es cs n0 H B (fun j => j == i || L j) = HPL ops es cs n0 H B L := by
 unfold HPL
 rw [countP_or_not h1]
 congr 1
 refine sel_congr fun c hc _ => ?_
 have : c ≠ i := fun e => h2 (e ▸ hc)
 simp [this]
include hdat hH0 in
theorem val_ext (hBj : ∀ (j c : Nat), cs[j]? = some c → ∃ b, B j = some b) {L : Nat → Bool} {i : Nat} (hL : ∀ j, ((masks ops.toList []).getD i 0).testBit j = true → L j = true) (hsk : st = true → cntIn es ((masks ops.toList []).getD i 0) = es.countP L) :
  Ext (gb (fillL B n0 (there cs es (masks ops.toList []) (cntIn es ((masks ops.toList []).getD i 0)) ((masks ops.toList []).getD i 0)) (H (cntIn es ((masks ops.toList []).getD i 0))))) (gb (HPL ops es cs n0 H B L)) := by
 have hk : cntIn es ((masks ops.toList []).getD i 0) ≤ es.countP L := List.countP_mono_left fun x _ hx => hL x hx
 have hk2 : es.countP L ≤ es.length := List.countP_le_length
 generalize hm : cntIn es ((masks ops.toList []).getD i 0) = m at hk hsk
 have fL := fills hdat hH0 (es.countP L) hk2 (js := sel cs es (masks ops.toList []) (es.countP L) L) (fun j hj => by
  obtain ⟨c, h3, h4, _⟩ := mem_sel'.1 hj; exact ⟨c, h3, by omega⟩) (fun j hj => by obtain ⟨c, h3, h4, _⟩ := mem_sel'.1 hj; exact hBj j c h3)
 rw [there_sel]
 by_cases e : m = es.countP L
 ·subst e
  refine ext_fill (fun j hj => ?_) fL
  obtain ⟨c, h3, h4, h5⟩ := mem_sel'.1 hj
  exact mem_sel'.2 ⟨c, h3, h4, hL c h5⟩
 ·have hlt : m < es.length := by omega
  have hs0 : st = false := by
   cases hh : st with
   | false => rfl
   | true => exact absurd (hsk hh) e
  obtain ⟨t1, t2, t3, _⟩ := trn hdat m hlt
  have h1 : Ext (gb (fillL B n0 (sel cs es (masks ops.toList []) m fun c => ((masks ops.toList []).getD i 0).testBit c) (H m))) (gb (fillL B n0 (allThere cs es (masks ops.toList []) m) (H m))) := by
   refine ext_fill (fun j hj => ?_) (fills hdat hH0 m (by omega) (fun j hj => ?_) (fun j hj => (t1 j hj).2))
   ·rw [allThere_sel]
    obtain ⟨c, h3, h4, h5⟩ := mem_sel'.1 hj
    exact mem_sel'.2 ⟨c, h3, h4, rfl⟩
   ·rw [allThere_sel] at hj
    obtain ⟨c, h3, h4, _⟩ := mem_sel'.1 hj
    exact ⟨c, h3, by omega⟩
  have h2 : Ext (gb (fillL B n0 (allThere cs es (masks ops.toList []) m) (H m))) (gb (H (m + 1))) := fun l hl => by
   have : l < ln (H m) := by have := gb_lt hl; rwa [ln_fillL] at this
   exact t3 hs0 l this
  have h3 : Ext (gb (H (es.countP L))) (gb (HPL ops es cs n0 H B L)) := ext_fill (js1 := []) (fun _ h => by cases h) fL
  exact h1.trans (h2.trans ((ext_H hdat hH0 hs0 (m + 1) (es.countP L) (by omega) hk2).trans h3))
include hdat hH0 in
theorem prd_ext (hBj : ∀ (j c : Nat), cs[j]? = some c → ∃ b, B j = some b) {ps : List Nat} (hs1 : st = true) (hpp : pp = some ps) (hp : ppOf lo h es cs (masks ops.toList []) = some ps) {L : Nat → Bool} : Ext (mskG fr0 ps (gb (H 0))) (gb (HPL ops es cs n0 H B L)) := by
 intro l hl
 unfold mskG at hl ⊢
 split at hl
 ·exact absurd rfl hl
 rename_i hi
 have hk2 : es.countP L ≤ es.length := List.countP_le_length
 have h1 := ext_M hdat hH0 hs1 hpp hp (es.countP L) hk2 l hi hl
 have fL := fills hdat hH0 (es.countP L) hk2 (js := sel cs es (masks ops.toList []) (es.countP L) L) (fun j hj => by
  obtain ⟨c, h3, h4, _⟩ := mem_sel'.1 hj; exact ⟨c, h3, by omega⟩) (fun j hj => by obtain ⟨c, h3, h4, _⟩ := mem_sel'.1 hj; exact hBj j c h3)
 unfold HPL
 rw [gb_fillL_not (fun j hj e => ?_) (fun j hj => (fL j hj).1), h1]
 have := (fL j hj).2.2
 rw [e, h1] at this
 exact hl this
end
end Go.Vg
