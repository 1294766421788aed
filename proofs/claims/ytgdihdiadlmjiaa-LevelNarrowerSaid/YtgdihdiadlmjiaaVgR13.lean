import Derived.Test.YtgdihdiadlmjiaaVgR10
set_option linter.all false
section
namespace Go.Vg
open Go
theorem xDl {es : List Nat} (hn : es.Nodup) {L : Nat -> Bool} {e : Nat} (he : e ∈ es) (hL : L e = false) : (es.countP fun x => x == e || L x) = es.countP L + 1 := by
 induction es with
 | nil => cases he
 | cons a t ih =>
  rw [List.nodup_cons] at hn
  simp only [List.countP_cons]
  by_cases ha : a = e
  ·subst ha
   have : (t.countP fun x => x == a || L x) = t.countP L := by
    apply List.countP_congr
    intro x hx
    have : x ≠ a := fun e => hn.1 (e ▸ hx)
    simp [this]
   rw [this, hL]; simp
  ·have he' : e ∈ t := by
    cases he with
    | head => exact absurd rfl ha
    | tail _ h => exact h
   rw [ih hn.2 he']
   simp [ha]; omega
theorem xDm {es : List Nat} {L : Nat -> Bool} {e : Nat} (he : e ∉ es) : (es.countP fun x => x == e || L x) = es.countP L := by
 apply List.countP_congr
 intro x hx
 have : x ≠ e := fun h => he (h ▸ hx)
 simp [this]
section
variable {P : Program} {cl : Cl} {cq : Cq} (hcl : ClOk P cl) (hcq : CqOk P cq) {ops : Array Oper} {lo : List Opq} (hc : cops2 P ops ops.toList = some lo) (he : edgesOk ops.toList = true) {st : Bool} {pp : Option (List Nat)} {h : Nat} {es cs : List Nat}
 (hd : drawOk2 (masks ops.toList []) lo h es cs = true) (hnd : es.Nodup) (hes : ∀ e ∈ es, e < h) (hcs : cs.Nodup)
 {n0 : Nat} {H : Nat -> List Blk} {B : Nat -> Option Blk} {fr0 fe : List SV} {xs : List SV}
 (hdat : Dat2 (P := P) cq n0 H B es.length ((lo.take h).zipIdx.map fun x => (x.1, kdOf st pp cs es (masks ops.toList []) x.2)) 0 fr0 xs fe)
 (hH0 : ∀ j, j < cs.length -> n0 + j < ln (H 0) /\ gb (H 0) (n0 + j) = .dead)
def HPL (ops : Array Oper) (es cs : List Nat) (n0 : Nat) (H : Nat -> List Blk) (B : Nat -> Option Blk) (L : Nat -> Bool) : List Blk :=
 fillL B n0 (sel cs es (masks ops.toList []) (es.countP L) L) (H (es.countP L))
include hdat in
theorem trn (m : Nat) (hm : m < es.length) : Trn st n0 H B m (allThere cs es (masks ops.toList []) m) (laterThere cs es (masks ops.toList []) m) := by
 refine xKn (all := fun m => allThere cs es (masks ops.toList []) m) (later := fun m => laterThere cs es (masks ops.toList []) m) hdat ?_ ?_ m (Nat.zero_le _) hm
 ·intro o m' js hmem
  obtain ⟨⟨o', i⟩, h1, h2⟩ := List.mem_map.1 hmem
  simp only [Prod.mk.injEq] at h2
  obtain ⟨rfl, hk⟩ := h2
  rcases xBp st pp cs es (masks ops.toList []) i with ⟨j, _, hj⟩ | ⟨_, _, hs, hj⟩ | ⟨_, _, hs, hj⟩ | ⟨_, _, _, hj⟩ | ⟨_, _, hs, hj⟩ | ⟨_, _, hs, _, _, hj⟩ <;> rw [hj] at hk <;> cases hk
  exact ⟨rfl, hs⟩
 ·intro o m' js ls hmem
  obtain ⟨⟨o', i⟩, h1, h2⟩ := List.mem_map.1 hmem
  simp only [Prod.mk.injEq] at h2
  obtain ⟨rfl, hk⟩ := h2
  rcases xBp st pp cs es (masks ops.toList []) i with ⟨j, _, hj⟩ | ⟨_, _, hs, hj⟩ | ⟨_, _, hs, hj⟩ | ⟨_, _, _, hj⟩ | ⟨_, _, hs, hj⟩ | ⟨_, _, hs, _, _, hj⟩ <;> rw [hj] at hk <;> cases hk
  exact ⟨rfl, rfl, hs⟩
include hdat hH0 in
theorem stay (k : Nat) (hk : k <= es.length) : ln (H 0) <= ln (H k) /\ ∀ j c, cs[j]? = some c -> k <= cntIn es ((masks ops.toList []).getD c 0) -> gb (H k) (n0 + j) = .dead := by
 induction k with
 | zero => exact ⟨Nat.le_refl _, fun j c hj _ => (hH0 j (List.getElem?_eq_some_iff.1 hj).1).2⟩
 | succ k ih =>
  obtain ⟨h1, h2⟩ := ih (by omega)
  obtain ⟨t1, t2, t3, t4⟩ := trn hdat k (by omega)
  refine ⟨by omega, fun j c hj hst => ?_⟩
  have hl := (hH0 j (List.getElem?_eq_some_iff.1 hj).1).1
  cases hb : st with
  | true =>
   refine t4 hb j ?_
   unfold laterThere
   refine List.mem_map.2 ⟨(c, j), List.mem_filter.2 ⟨List.mem_zipIdx_iff_getElem?.2 (by simpa using hj), ?_⟩, rfl⟩
   have : k < cntIn es ((masks ops.toList []).getD c 0) := hst
   simpa [Nat.blt_eq] using this
  | false =>
   rw [t3 hb _ (by omega), xAp (fun j' hj' e => ?_) (fun j' hj' => (t1 j' hj').1)]
   ·exact h2 j c hj (by omega)
   ·have : j' = j := by omega
    subst this
    rw [xAn] at hj'
    obtain ⟨c', h3, h4, _⟩ := xAh.1 hj'
    rw [hj] at h3; cases h3; omega
include hdat hH0 in
theorem xMg (k : Nat) (hk : k <= es.length) {js : List Nat} (hjs : ∀ j ∈ js, ∃ c, cs[j]? = some c /\ k <= cntIn es ((masks ops.toList []).getD c 0)) (hB : ∀ j ∈ js, ∃ b, B j = some b) :
  ∀ j ∈ js, n0 + j < ln (H k) /\ (∃ b, B j = some b) /\ gb (H k) (n0 + j) = .dead := by
 intro j hj
 obtain ⟨c, h1, h2⟩ := hjs j hj
 obtain ⟨h3, h4⟩ := stay hdat hH0 k hk
 exact ⟨Nat.lt_of_lt_of_le (hH0 j (List.getElem?_eq_some_iff.1 h1).1).1 h3, hB j hj, h4 j c h1 h2⟩
include hdat hH0 in
theorem ext_H (hs0 : st = false) (a b : Nat) (hab : a <= b) (hb : b <= es.length) : Ext (gb (H a)) (gb (H b)) := by
  induction b with
  | zero => have : a = 0 := by omega
            subst this; exact .refl _
  | succ b ih =>
    by_cases h : a = b + 1
    . subst h; exact .refl _
    . refine (ih (by omega) (by omega)).trans ?_
      obtain ⟨t1, t2, t3, _⟩ := trn hdat b (by omega)
      have h1 : Ext (gb (H b)) (gb (fillL B n0 (allThere cs es (masks ops.toList []) b) (H b))) := by
        refine xEg (js1 := []) (fun _ h => by cases h) (xMg hdat hH0 b (by omega) (fun j hj => ?_) (fun j hj => (t1 j hj).2))
        rw [xAn] at hj
        obtain ⟨c, h3, h4, _⟩ := xAh.1 hj
        exact ⟨c, h3, by omega⟩
      refine h1.trans fun l hl => ?_
      have : l < ln (H b) := by have := xMj hl; rwa [xBm] at this
      exact t3 hs0 l this
theorem xDi {p : Nat -> Bool} {t : Nat} : ∀ {l : List (Nat × Opr × SV)} {fr : List SV}, (∀ i o x, (i, o, x) ∈ l -> o.d ≠ some t) -> gt (mix p l fr) t = gt fr t
 | [], fr, _ => rfl
 | (i, o, x) :: l, fr, h => by
  simp only [mix]
  rw [xDi (fun i o x hm => h i o x (List.mem_cons_of_mem _ hm))]
  split
  ·exact xDs (h i o x (List.mem_cons_self ..))
  ·rfl
theorem xLb {lo : List Opq} {h : Nat} {es cs ms ps : List Nat} (hp : ppOf lo h es cs ms = some ps) : stoOkB ps [] ((lo.take h).zipIdx.map fun x => (x.1, kdOf true (some ps) cs es ms x.2)) = true /\ ∀ o ∈ lo.take h, ∀ p ∈ ps, o.d ≠ some p := by
 unfold ppOf at hp
 split at hp <;> first | (cases hp; done) | skip
 rename_i pa h1
 simp only at hp
 split at hp <;> first | (cases hp; done) | skip
 rename_i h2
 cases hp
 refine ⟨h2, fun o ho p hp e => ?_⟩
 rw [List.mem_filter] at hp
 have := List.all_eq_true.1 hp.2 o ho
 rw [e] at this
 simp at this
include hdat in
theorem kept {ps : List Nat} (hs1 : st = true) (hpp : pp = some ps) (hp : ppOf lo h es cs (masks ops.toList []) = some ps) (m : Nat) (hm : m < es.length) : Kept cs.length fr0 ps n0 H B m (allThere cs es (masks ops.toList []) m) := by
 obtain ⟨p1, p2⟩ := xLb hp
 subst hs1
 subst hpp
 refine xEu (all := fun m => allThere cs es (masks ops.toList []) m) hdat ?_ ?_ p1 ⟨fun _ _ => rfl, fun p s hp => by cases hp⟩ m (Nat.zero_le _) hm
 ·intro o m' js ls hmem
  obtain ⟨⟨o', i⟩, h1, h2⟩ := List.mem_map.1 hmem
  simp only [Prod.mk.injEq] at h2
  obtain ⟨rfl, hk⟩ := h2
  rcases xBp true (some ps) cs es (masks ops.toList []) i with ⟨j, _, hj⟩ | ⟨_, _, hs, hj⟩ | ⟨_, he', hs, hj⟩ | ⟨_, _, _, hj⟩ | ⟨_, _, hs, hj⟩ | ⟨_, _, hs, _, _, hj⟩ <;> rw [hj] at hk <;> cases hk
  rfl
 ·intro o j hmem
  obtain ⟨⟨o', i⟩, h1, h2⟩ := List.mem_map.1 hmem
  simp only [Prod.mk.injEq] at h2
  obtain ⟨rfl, hk⟩ := h2
  rcases xBp true (some ps) cs es (masks ops.toList []) i with ⟨j, hj0, hj⟩ | ⟨_, _, hs, hj⟩ | ⟨_, he', hs, hj⟩ | ⟨_, _, _, hj⟩ | ⟨_, _, hs, hj⟩ | ⟨_, _, hs, _, _, hj⟩ <;> rw [hj] at hk <;> cases hk
  exact (List.getElem?_eq_some_iff.1 hj0).1
include hdat hH0 in
theorem ext_M {ps : List Nat} (hs1 : st = true) (hpp : pp = some ps) (hp : ppOf lo h es cs (masks ops.toList []) = some ps) (k : Nat) (hk : k <= es.length) : ∀ l, inP fr0 l ps = false -> gb (H 0) l ≠ .dead -> gb (H k) l = gb (H 0) l := by
 induction k with
 | zero => exact fun _ _ _ => rfl
 | succ k ih =>
  intro l hi hl
  have h1 := ih (by omega) l hi hl
  have h2 : l < ln (H k) := xMj (by rw [h1]; exact hl)
  rw [kept hdat hs1 hpp hp k (by omega) l h2 (fun j hj e => hl (by rw [e]; exact (hH0 j hj).2)) hi, <- h1]
  obtain ⟨t1, _⟩ := trn hdat k (by omega)
  refine xAp (fun j hj e => ?_) (fun j hj => (t1 j hj).1)
  have := xMg hdat hH0 k (by omega) (js := allThere cs es (masks ops.toList []) k) (fun j hj => by
   rw [xAn] at hj
   obtain ⟨c, h3, h4, _⟩ := xAh.1 hj
   exact ⟨c, h3, by omega⟩) (fun j hj => (t1 j hj).2) j hj
  rw [e, h1] at this
  exact hl this.2.2
structure Inv (E0 E : Env) (a : Act) (dfs : List Deferred) (L : Nat -> Bool) (l : List (Nat × Opr × SV)) : Prop where
 hF : Rvs E (mix L l fr0) a.tmps.toList
 hr : RHp E (HPL ops es cs n0 H B L)
 ok : OkE P E
 le : E0.Le E
 df : a.defers = dfs
 fr : ∀ j c, cs[j]? = some c -> L c = false -> E.rs (n0 + j)
theorem xLc {L : Nat -> Bool} {i : Nat} (h1 : i ∉ es) (h2 : i ∉ cs) : HPL ops es cs n0 H B (fun j => j == i || L j) = HPL ops es cs n0 H B L := by
 unfold HPL
 rw [xDm h1]
 congr 1
 refine xCj fun c hc _ => ?_
 have : c ≠ i := fun e => h2 (e ▸ hc)
 simp [this]
include hdat hH0 in
theorem xSj (hBj : ∀ (j c : Nat), cs[j]? = some c -> ∃ b, B j = some b) {L : Nat -> Bool} {i : Nat} (hL : ∀ j, ((masks ops.toList []).getD i 0).testBit j = true -> L j = true) (hsk : st = true -> cntIn es ((masks ops.toList []).getD i 0) = es.countP L) :
  Ext (gb (fillL B n0 (there cs es (masks ops.toList []) (cntIn es ((masks ops.toList []).getD i 0)) ((masks ops.toList []).getD i 0)) (H (cntIn es ((masks ops.toList []).getD i 0))))) (gb (HPL ops es cs n0 H B L)) := by
 have hk : cntIn es ((masks ops.toList []).getD i 0) <= es.countP L := List.countP_mono_left fun x _ hx => hL x hx
 have hk2 : es.countP L <= es.length := List.countP_le_length
 generalize hm : cntIn es ((masks ops.toList []).getD i 0) = m at hk hsk
 have fL := xMg hdat hH0 (es.countP L) hk2 (js := sel cs es (masks ops.toList []) (es.countP L) L) (fun j hj => by
  obtain ⟨c, h3, h4, _⟩ := xAh.1 hj; exact ⟨c, h3, by omega⟩) (fun j hj => by obtain ⟨c, h3, h4, _⟩ := xAh.1 hj; exact hBj j c h3)
 rw [xMw]
 by_cases e : m = es.countP L
 ·subst e
  refine xEg (fun j hj => ?_) fL
  obtain ⟨c, h3, h4, h5⟩ := xAh.1 hj
  exact xAh.2 ⟨c, h3, h4, hL c h5⟩
 ·have hlt : m < es.length := by omega
  have hs0 : st = false := by
   cases hh : st with
   | false => rfl
   | true => exact absurd (hsk hh) e
  obtain ⟨t1, t2, t3, _⟩ := trn hdat m hlt
  have h1 : Ext (gb (fillL B n0 (sel cs es (masks ops.toList []) m fun c => ((masks ops.toList []).getD i 0).testBit c) (H m))) (gb (fillL B n0 (allThere cs es (masks ops.toList []) m) (H m))) := by
   refine xEg (fun j hj => ?_) (xMg hdat hH0 m (by omega) (fun j hj => ?_) (fun j hj => (t1 j hj).2))
   ·rw [xAn]
    obtain ⟨c, h3, h4, h5⟩ := xAh.1 hj
    exact xAh.2 ⟨c, h3, h4, rfl⟩
   ·rw [xAn] at hj
    obtain ⟨c, h3, h4, _⟩ := xAh.1 hj
    exact ⟨c, h3, by omega⟩
  have h2 : Ext (gb (fillL B n0 (allThere cs es (masks ops.toList []) m) (H m))) (gb (H (m + 1))) := fun l hl => by
   have : l < ln (H m) := by have := xMj hl; rwa [xBm] at this
   exact t3 hs0 l this
  have h3 : Ext (gb (H (es.countP L))) (gb (HPL ops es cs n0 H B L)) := xEg (js1 := []) (fun _ h => by cases h) fL
  exact h1.trans (h2.trans ((ext_H hdat hH0 hs0 (m + 1) (es.countP L) (by omega) hk2).trans h3))
include hdat hH0 in
theorem xSk (hBj : ∀ (j c : Nat), cs[j]? = some c -> ∃ b, B j = some b) {ps : List Nat} (hs1 : st = true) (hpp : pp = some ps) (hp : ppOf lo h es cs (masks ops.toList []) = some ps) {L : Nat -> Bool} : Ext (mskG fr0 ps (gb (H 0))) (gb (HPL ops es cs n0 H B L)) := by
 intro l hl
 unfold mskG at hl ⊢
 split at hl
 ·exact absurd rfl hl
 rename_i hi
 have hk2 : es.countP L <= es.length := List.countP_le_length
 have h1 := ext_M hdat hH0 hs1 hpp hp (es.countP L) hk2 l hi hl
 have fL := xMg hdat hH0 (es.countP L) hk2 (js := sel cs es (masks ops.toList []) (es.countP L) L) (fun j hj => by
  obtain ⟨c, h3, h4, _⟩ := xAh.1 hj; exact ⟨c, h3, by omega⟩) (fun j hj => by obtain ⟨c, h3, h4, _⟩ := xAh.1 hj; exact hBj j c h3)
 unfold HPL
 rw [xAp (fun j hj e => ?_) (fun j hj => (fL j hj).1), h1]
 have := (fL j hj).2.2
 rw [e, h1] at this
 exact hl this
end
end Go.Vg
end
section
namespace Go.Vg
open Go
section
variable {P : Program} {cl : Cl} {cq : Cq} (hcl : ClOk P cl) (hcq : CqOk P cq) {ops : Array Oper} {lo : List Opq} (hc : cops2 P ops ops.toList = some lo) (he : edgesOk ops.toList = true) {st : Bool} {pp : Option (List Nat)} {h : Nat} {es cs : List Nat}
 (hd : drawOk2 (masks ops.toList []) lo h es cs = true) (hnd : es.Nodup) (hes : ∀ e ∈ es, e < h /\ e < ops.size) (hcs : cs.Nodup) (hcsh : ∀ c ∈ cs, c < h /\ c < ops.size)
 {n0 : Nat} {H : Nat -> List Blk} {B : Nat -> Option Blk} {fr0 fe : List SV} {xs : List SV}
 (hdat : Dat2 (P := P) cq n0 H B es.length ((lo.take h).zipIdx.map fun x => (x.1, kdOf st pp cs es (masks ops.toList []) x.2)) 0 fr0 xs fe)
 (hH0 : ∀ j, j < cs.length -> n0 + j < ln (H 0) /\ gb (H 0) (n0 + j) = .dead)
theorem xCo {i : Nat} {o : Opq} {kd : Kd} (h1 : ((lo.take h).zipIdx.map fun x => (x.1, kdOf st pp cs es (masks ops.toList []) x.2))[i]? = some (o, kd)) : i < h /\ lo[i]? = some o /\ kd = kdOf st pp cs es (masks ops.toList []) i := by
 rw [List.getElem?_map] at h1
 obtain ⟨⟨o', i'⟩, h2, h3⟩ := Option.map_eq_some_iff.1 h1
 simp only [Prod.mk.injEq] at h3
 obtain ⟨rfl, rfl⟩ := h3
 rw [List.getElem?_zipIdx] at h2
 obtain ⟨o2, h4, h5⟩ := Option.map_eq_some_iff.1 h2
 simp only [Prod.mk.injEq, Nat.zero_add] at h5
 obtain ⟨rfl, rfl⟩ := h5
 rw [List.getElem?_take] at h4
 split at h4
 ·rename_i hi; exact ⟨hi, h4, rfl⟩
 ·cases h4
theorem xGc {i : Nat} {o : Opq} (hi : i < h) (ho : lo[i]? = some o) : ((lo.take h).zipIdx.map fun x => (x.1, kdOf st pp cs es (masks ops.toList []) x.2))[i]? = some (o, kdOf st pp cs es (masks ops.toList []) i) := by
 simp [List.getElem?_take, hi, ho]
abbrev ent (st : Bool) (pp : Option (List Nat)) (lo : List Opq) (ops : Array Oper) (h : Nat) (es cs : List Nat) (xs : List SV) : List (Nat × Opr × SV) := mkl 0 ((lo.take h).zipIdx.map fun x => (x.1, kdOf st pp cs es (masks ops.toList []) x.2)) xs
include hc hdat hcs hcsh in
theorem xOa (j c : Nat) (hj : cs[j]? = some c) : ∃ b, B j = some b := by
 obtain ⟨h1, h2⟩ := hcsh c (List.mem_of_getElem? hj)
 obtain ⟨o, ho, _⟩ := xBr hc c ops[c] (by simp [h2])
 obtain ⟨x, hx⟩ := xGr (s := 0) (xGp hdat) (xGc (st := st) (pp := pp) (cs := cs) (es := es) (ops := ops) h1 ho)
 rw [Nat.zero_add] at hx
 obtain ⟨l1, l2, hl⟩ := List.append_of_mem hx
 obtain ⟨_, o2, kd, c', g1, g2, g3⟩ := xDr (s := 0) hdat hl
 rw [Nat.sub_zero] at g1
 obtain ⟨_, g4, g5⟩ := xCo g1
 rcases xBp st pp cs es (masks ops.toList []) c with ⟨j', h3, h4⟩ | ⟨h3, _⟩ | ⟨h3, _⟩ | ⟨h3, _⟩ | ⟨h3, _⟩ | ⟨h3, _⟩
 ·rw [h4] at g5; subst g5
  obtain ⟨o1, b, _, _, g6⟩ := g3
  have : j' = j := by
   have hj1 := List.getElem?_eq_some_iff.1 h3
   have hj2 := List.getElem?_eq_some_iff.1 hj
   exact (List.getElem_inj hcs).1 (hj1.2.trans hj2.2.symm)
  subst this; exact ⟨b, g6⟩
 ·exact absurd (List.mem_of_getElem? hj) h3
 ·exact absurd (List.mem_of_getElem? hj) h3
 ·exact absurd (List.mem_of_getElem? hj) h3
 ·exact absurd (List.mem_of_getElem? hj) h3
 ·exact absurd (List.mem_of_getElem? hj) h3
include hcl hcq hc he hd hnd hes hcs hcsh hdat hH0 in
theorem xDt (hpp : pp = ppOf lo h es cs (masks ops.toList [])) {ro : Option Nat} {n : Nat} {Q : Exit -> Act -> World -> Prop} {E0 : Env} (hn0 : E0.n = n0) {dfs : List Deferred} {lst : Array Bool} (hsz : lst.size = ops.size) (hs : Shut ops (LS lst)) {i : Nat} (hi : i ∈ Region.ready .any ops lst) (hih : i < h)
  {E1 : Env} {a1 : Act} (hv : Inv (P := P) (ops := ops) (es := es) (cs := cs) (n0 := n0) (H := H) (B := B) (fr0 := fr0) E0 E1 a1 dfs (LS lst) (ent st pp lo ops h es cs xs)) {K : Act -> World -> Prop}
  (hK : ∀ E' a', Inv (P := P) (ops := ops) (es := es) (cs := cs) (n0 := n0) (H := H) (B := B) (fr0 := fr0) E0 E' a' dfs (LS (lst.setIfInBounds i true)) (ent st pp lo ops h es cs xs) -> (∃ o v, lo[i]? = some o /\ a' = a1.put o.d v) -> K a' E'.w) : wpOpIn (fen ro) n P ops Q i K a1 E1.w := by
 obtain ⟨h1, h2, h3, h4, h5, h6⟩ := xAd hsz hs hi
 obtain ⟨hd2, hd3, hd4⟩ := xJn hd
 obtain ⟨o, ho, hco, hod, hog⟩ := xBr hc i ops[i] (by simp [h1])
 obtain ⟨x, hx⟩ := xGr (s := 0) (xGp hdat) (xGc (st := st) (pp := pp) (cs := cs) (es := es) (ops := ops) hih ho)
 rw [Nat.zero_add] at hx
 obtain ⟨l1, l2, hl⟩ := List.append_of_mem hx
 obtain ⟨_, o2, kd, c', g1, g2, g3⟩ := xDr (s := 0) hdat hl
 rw [Nat.sub_zero] at g1
 obtain ⟨_, g4, g5⟩ := xCo g1
 rw [ho] at g4; cases g4
 have hdiff : Diff (ent st pp lo ops h es cs xs) := by
  unfold Diff
  exact (xGs (s := 0)).imp (fun h => Nat.ne_of_lt h)
 have hpw := xGs (s := 0) (t := (lo.take h).zipIdx.map fun x => (x.1, kdOf st pp cs es (masks ops.toList []) x.2)) (xs := xs)
 have hl' : ent st pp lo ops h es cs xs = l1 ++ (i, o.sh, x) :: l2 := hl
 have hmem : ∀ j o' x', (j, o', x') ∈ ent st pp lo ops h es cs xs -> ∃ oj, lo[j]? = some oj /\ j < h /\ o' = oj.sh := by
  intro j o' x' hm
  obtain ⟨_, oj, kdj, e1, e2⟩ := xEt hm
  rw [Nat.sub_zero] at e1
  obtain ⟨e3, e4, _⟩ := xCo e1
  exact ⟨oj, e4, e3, e2⟩
 have o1 : ∀ j o' x', (j, o', x') ∈ l1 -> j < i := by
  intro j o' x' hm
  rw [hl, List.map_append, List.map_cons, List.pairwise_append] at hpw
  exact hpw.2.2 j (List.mem_map.2 ⟨_, hm, rfl⟩) i (List.mem_cons_self ..)
 have o2' : ∀ j o' x', (j, o', x') ∈ l2 -> i < j := by
  intro j o' x' hm
  rw [hl, List.map_append, List.map_cons, List.pairwise_append, List.pairwise_cons] at hpw
  exact hpw.2.1.1 j (List.mem_map.2 ⟨_, hm, rfl⟩)
 have w1 : ∀ t, (o.d = some t \/ t ∈ usesQ o) -> ∀ j o' x', (j, o', x') ∈ l1 -> o'.d = some t -> LS lst j = true := by
  intro t ht j o' x' hm hd'
  obtain ⟨oj, e1, e2, rfl⟩ := hmem j o' x' (by rw [hl']; exact List.mem_append_left _ hm)
  have hlt := o1 j _ x' hm
  have := hd2 i j o oj t ho e1 hih e2 (by omega) hd' ht
  rw [if_pos hlt] at this
  exact h3 j this
 have w2 : ∀ t, (o.d = some t \/ t ∈ usesQ o) -> ∀ j o' x', (j, o', x') ∈ l2 -> o'.d = some t -> LS lst j = false := by
  intro t ht j o' x' hm hd'
  obtain ⟨oj, e1, e2, rfl⟩ := hmem j o' x' (by rw [hl']; exact List.mem_append_right _ (List.mem_cons_of_mem _ hm))
  have hlt := o2' j _ x' hm
  have := hd2 i j o oj t ho e1 hih e2 (by omega) hd' ht
  rw [if_neg (by omega)] at this
  cases hv : LS lst j
  ·rfl
  ·have hjs : j < ops.size := by
    have := (List.getElem?_eq_some_iff.1 e1).1
    rw [xAy hc] at this; simpa using this
   have := xBx hs j ops[j] (by simp [hjs]) (hs j ops[j] (by simp [hjs]) hv) i this
   rw [h2] at this; cases this
 have hview : ∀ t, t ∈ usesQ o -> gt (mix (LS lst) (ent st pp lo ops h es cs xs) fr0) t = gt (mix (fun _ => true) l1 fr0) t := fun t ht =>
  xJt hl' hdiff h2 (fun j o' x' hm hd' => w1 t (.inr ht) j o' x' hm hd') (fun j o' x' hm hd' => w2 t (.inr ht) j o' x' hm hd')
 have hL : (fun j => j == i || LS lst j) = LS (lst.setIfInBounds i true) := funext fun j => (h5 j).symm
 have hFm : ∀ {E : Env}, E1.Le E -> Rvs E (msk (usesQ o) 0 (mix (fun _ => true) l1 fr0)) a1.tmps.toList := fun {E} hle => by
  have hF := hv.hF.mono hle
  refine xCc.2 ⟨?_, fun t ht => ?_⟩
  ·have := hF.length; rw [xBg] at this; rw [xJq, xBg]; exact this
  ·rw [xDk]
   split
   ·rename_i hm; rw [Nat.zero_add] at hm; rw [<- hview t (by simpa using hm)]; exact hF.gt t
   ·exact .any _
 have hgt : ∀ t, t ∈ usesQ o -> gt (msk (usesQ o) 0 (mix (fun _ => true) l1 fr0)) t = gt (mix (fun _ => true) l1 fr0) t := fun t ht => by rw [xDk, if_pos (by simpa using ht)]
 have hgd : ∀ {b}, gdl (mix (fun _ => true) l1 fr0) o.g = some b -> gdl (msk (usesQ o) 0 (mix (fun _ => true) l1 fr0)) o.g = some b := fun hg => by
  rw [xMz (fr' := mix (fun _ => true) l1 fr0) (fun t ht => hgt t (by simp [usesQ, ht]))]; exact hg
 have hnext : ∀ {E : Env} {v : Value}, Rvs E (mix (LS lst) (ent st pp lo ops h es cs xs) fr0) a1.tmps.toList -> Rv E x v -> Rvs E (mix (LS (lst.setIfInBounds i true)) (ent st pp lo ops h es cs xs) fr0) (a1.put o.d v).tmps.toList := fun hF hx => by
  rw [<- hL]
  exact xFx (o := o.sh) hl' hdiff h2 (fun t j o' x' hm hd' hd'' => w2 t (.inl hd') j o' x' hm hd'') hF hx
 have hnl : ∀ j c, cs[j]? = some c -> n0 + j < E1.n := fun j c hj => by
  have := (List.getElem?_eq_some_iff.1 hj).1
  have h7 := (hH0 j this).1
  have h8 := (stay hdat hH0 (es.countP (LS lst)) List.countP_le_length).1
  have h9 := hv.hr.b.n
  rw [<- xBn] at h9
  unfold HPL at h9
  rw [xBm] at h9
  omega
 have rsk : ∀ E', E1.Le E' -> ∀ j c, cs[j]? = some c -> LS (lst.setIfInBounds i true) c = false -> E'.rs (n0 + j) := fun E' hle j c hj hcl => by
  rw [h5, Bool.or_eq_false_iff] at hcl
  exact hle.rs _ (hnl j c hj) (hv.fr j c hj hcl.2)
 have lstd : ∀ e, e < ops.size -> LS lst e = true -> ∀ c, ((masks ops.toList []).getD e 0).testBit c = true -> LS lst c = true := fun e hes' hle c hbit =>
  xBx hs e ops[e] (by simp [hes']) (hs e ops[e] (by simp [hes']) hle) c hbit
 have plain : i ∉ es -> i ∉ cs -> ∀ (E' : Env) (v : Value), E1.Le E' -> RHp E' (HPL ops es cs n0 H B (LS lst)) -> Rv E' x v -> K (a1.put ops[i].dst v) E'.w := by
  intro n1 n2 E' v hle hr hxv
  rw [<- hod]
  refine hK E' _ ⟨hnext (hv.hF.mono hle) hxv, ?_, hv.ok.le hle, hv.le.trans hle, by rw [xAm]; exact hv.df, rsk E' hle⟩ ⟨o, _, ho, rfl⟩
  rw [<- hL, xLc n1 n2]; exact hr
 rw [g5] at g3
 rcases xBp st pp cs es (masks ops.toList []) i with ⟨j, hj, hkd⟩ | ⟨nc, ne, _, hkd⟩ | ⟨nc, ne, hs1, hkd⟩ | ⟨nc, ne, hsv, hkd⟩ | ⟨nc, ne, hs1, hkd⟩ | ⟨nc, ne, hs1, ps, hps, hkd⟩
 ·-- a new block
  rw [hkd] at g3
  obtain ⟨o1, b, go, gcr, gB⟩ := g3
  have hic : i ∈ cs := List.mem_of_getElem? hj
  obtain ⟨o', ho', hgn, hord⟩ := hd4 i hic
  rw [ho] at ho'; cases ho'
  have hie : i ∉ es := fun hm => by
   have := h3 i ((hord i hm).elim id id)
   rw [h2] at this; cases this
  have hpt : ∀ e ∈ es, LS lst e = ((masks ops.toList []).getD i 0).testBit e := fun e hm => by
   rw [Bool.eq_iff_iff]
   refine ⟨fun hle => ?_, fun hb => h3 e hb⟩
   rcases hord e hm with hb | hb
   ·have := lstd e (hes e hm).2 hle i hb
    rw [h2] at this; cases this
   ·exact hb
  have hk : es.countP (LS lst) = cntIn es ((masks ops.toList []).getD i 0) := List.countP_congr fun e hm => by rw [hpt e hm]
  have hc1 : c1 P ops[i] = some o1 := c2_c1 ((show C2 P ops[i] (.o o1) by rw [<- go]; exact hco).c2 rfl)
  have hcr : crv (msk (usesQ o) 0 (mix (fun _ => true) l1 fr0)) (n0 + j) o1 = some (x, b) := by
   rw [<- gcr]
   exact xIn fun t ht => hgt t (by simp [usesQ, go, uses2, ht])
  obtain ⟨t, cells, vs, rfl, hvs, y, hy, hyf⟩ := xPo hc1 hcr (hFm (.refl _))
  have hxy : x = y (n0 + j) := by have := hy (n0 + j); rw [hcr] at this; cases this; rfl
  have hev := xNf (Γ := noG P) (hp := HPL ops es cs n0 H B (LS lst)) (k := fun x' hp' => x' = y (ln (HPL ops es cs n0 H B (LS lst))) /\ hp' = pb (HPL ops es cs n0 H B (LS lst)) (.box t cells)) (hy _) ⟨rfl, rfl⟩
  refine xCa (b := true) (by simp [h1]) hco hod hog (hFm (.refl _)) hv.hr hv.ok (by rw [hgn]; rfl) (fun hb => by cases hb) (fun _ => ⟨_, _, OpOk.of_evh hc1 hev, fun E' v hle hr hyv => ?_⟩)
  have hrs := hv.fr j i hj h2
  have hln := hnl j i hj
  have hE1n : E1.n = ln (HPL ops es cs n0 H B (LS lst)) := by rw [xBn]; exact hv.hr.b.n
  have hdl : (HPL ops es cs n0 H B (LS lst))[n0 + j]? = some .dead := by
   have h7 := xOu (hp := HPL ops es cs n0 H B (LS lst)) (l := n0 + j) (by rw [<- hE1n]; exact hln)
   rw [h7, hv.hr.b.rs _ _ h7 hrs]
  have hr2 := RHp.into hv.hr hle hr hvs hln hrs hdl
  have hle0 := Env.into_le hle hln hrs
  have hxv : Rv (E1.into E' (n0 + j)) x v := by
   rw [hxy]
   have hhas : (E1.into E' (n0 + j)).has (n0 + j) := ⟨hln, fun h => h.1 rfl⟩
   rcases hyf with rfl | ⟨len, rfl⟩
   ·obtain ⟨_, rfl⟩ := hyv.ptrE
    have : E'.blk (ln (HPL ops es cs n0 H B (LS lst))) = (E1.into E' (n0 + j)).blk (n0 + j) := by simp [Env.into, hE1n]
    rw [this]; exact .ptr _ _ hhas
   ·obtain ⟨_, rfl⟩ := hyv.bslE
    have : E'.blk (ln (HPL ops es cs n0 H B (LS lst))) = (E1.into E' (n0 + j)).blk (n0 + j) := by simp [Env.into, hE1n]
    rw [this]; exact .bsl _ _ hhas
  have hHP : HPL ops es cs n0 H B (LS (lst.setIfInBounds i true)) = sb (HPL ops es cs n0 H B (LS lst)) (n0 + j) (.box t cells) := by
   have hkL : es.countP (LS (lst.setIfInBounds i true)) = es.countP (LS lst) := by rw [<- hL]; exact xDm hie
   have hk2 : es.countP (LS lst) <= es.length := List.countP_le_length
   have mem' : ∀ j', j' ∈ sel cs es (masks ops.toList []) (es.countP (LS lst)) (LS (lst.setIfInBounds i true)) ↔ (j' = j \/ j' ∈ sel cs es (masks ops.toList []) (es.countP (LS lst)) (LS lst)) := by
    intro j'
    rw [xAh, xAh]
    constructor
    ·rintro ⟨c, a1, a2, a3⟩
     rw [h5, Bool.or_eq_true] at a3
     rcases a3 with a3 | a3
     ·left
      have : c = i := by simpa using a3
      subst this
      have hj1 := List.getElem?_eq_some_iff.1 a1
      have hj2 := List.getElem?_eq_some_iff.1 hj
      exact (List.getElem_inj hcs).1 (hj1.2.trans hj2.2.symm)
     ·exact .inr ⟨c, a1, a2, a3⟩
    ·rintro (rfl | ⟨c, a1, a2, a3⟩)
     ·exact ⟨i, hj, hk.symm, by rw [h5]; simp⟩
     ·exact ⟨c, a1, a2, by rw [h5, a3, Bool.or_true]⟩
   have fL := xMg hdat hH0 (es.countP (LS lst)) hk2 (js := sel cs es (masks ops.toList []) (es.countP (LS lst)) (LS (lst.setIfInBounds i true))) (fun j' hj' => by
    obtain ⟨c, a1, a2, _⟩ := xAh.1 hj'; exact ⟨c, a1, by omega⟩) (fun j' hj' => by obtain ⟨c, a1, _⟩ := xAh.1 hj'; exact xOa hc hcs hcsh hdat j' c a1)
   have lL : ∀ j' ∈ sel cs es (masks ops.toList []) (es.countP (LS lst)) (LS (lst.setIfInBounds i true)), n0 + j' < ln (H (es.countP (LS lst))) := fun j' hj' => (fL j' hj').1
   have lL' : ∀ j' ∈ sel cs es (masks ops.toList []) (es.countP (LS lst)) (LS lst), n0 + j' < ln (H (es.countP (LS lst))) := fun j' hj' => lL j' ((mem' j').2 (.inr hj'))
   refine xRj (by rw [ln_sb]; unfold HPL; rw [xBm, xBm, hkL]) fun l => ?_
   rw [xCu _ _ _ _ (by rw [<- hE1n]; exact hln)]
   unfold HPL
   rw [hkL]
   by_cases hlj : l = n0 + j
   ·subst hlj
    rw [if_pos rfl, xBj ((mem' j).2 (.inl rfl)) gB lL]
   ·rw [if_neg hlj]
    by_cases hin : ∃ j' ∈ sel cs es (masks ops.toList []) (es.countP (LS lst)) (LS lst), n0 + j' = l
    ·obtain ⟨j', hj', rfl⟩ := hin
     obtain ⟨_, ⟨b', hb'⟩, _⟩ := fL j' ((mem' j').2 (.inr hj'))
     rw [xBj ((mem' j').2 (.inr hj')) hb' lL, xBj hj' hb' lL']
    ·rw [xAp (fun j' hj' e => by
      rcases (mem' j').1 hj' with rfl | hj'
      ·exact hlj e.symm
      ·exact hin ⟨j', hj', e⟩) lL, xAp (fun j' hj' e => hin ⟨j', hj', e⟩) lL']
  rw [<- hod]
  have e1 := hv.le.trans hle
  refine hK (E1.into E' (n0 + j)) _ ⟨hnext (hv.hF.mono0 hle0) hxv, by rw [hHP]; exact hr2, (hv.ok.le hle : _), ?_, by rw [xAm]; exact hv.df, fun j' c hj' hcl => ?_⟩ ⟨o, _, ho, rfl⟩
  ·have hlt : ∀ l, E0.has l -> l ≠ n0 + j := fun l hl e => by have := hl.1; omega
   have c0 := hv.le.le0.trans hle0
   exact ⟨c0.n, c0.has, c0.blk, c0.val, c0.live, c0.im, c0.mem, e1.W, e1.M, e1.im0, e1.df, e1.n0, e1.ok, fun l hl hr => ⟨by omega, hv.le.rs l hl hr⟩⟩
  ·rw [h5, Bool.or_eq_false_iff] at hcl
   refine ⟨fun e => ?_, hv.fr j' c hj' hcl.2⟩
   have : j' = j := by omega
   subst this
   rw [hj] at hj'; cases hj'
   simp at hcl
 ·-- an effect
  rw [hkd] at g3
  obtain ⟨rfl, t1, t2, t3, g3⟩ := g3
  have hpt : ∀ e ∈ es, LS lst e = ((masks ops.toList []).getD i 0).testBit e := fun e hm => by
   rw [Bool.eq_iff_iff]
   refine ⟨fun hle => ?_, fun hb => h3 e hb⟩
   have hne : e ≠ i := fun h => by rw [h, h2] at hle; cases hle
   rcases Nat.lt_or_ge e i with hlt | hge
   ·exact hd3 i ne e hm hlt
   ·have := lstd e (hes e hm).2 hle i (hd3 e hm i ne (by omega))
    rw [h2] at this; cases this
  have hk : es.countP (LS lst) = cntIn es ((masks ops.toList []).getD i 0) := List.countP_congr fun e hm => by rw [hpt e hm]
  have hk1 : es.countP (LS (lst.setIfInBounds i true)) = es.countP (LS lst) + 1 := by rw [<- hL]; exact xDl hnd ne h2
  have hall : HPL ops es cs n0 H B (LS lst) = fillL B n0 (allThere cs es (masks ops.toList []) (cntIn es ((masks ops.toList []).getD i 0))) (H (cntIn es ((masks ops.toList []).getD i 0))) := by
   unfold HPL
   rw [hk, xAn]
   congr 1
   refine xCj fun c hcm hst => ?_
   cases hcl : LS lst c
   ·exfalso
    obtain ⟨_, _, _, hord⟩ := hd4 c hcm
    have hge : es.countP (fun x => x == i || LS lst x) <= cntIn es ((masks ops.toList []).getD c 0) := by
     refine List.countP_mono_left fun e hm hx => ?_
     rcases hord e hm with hb | hb
     ·exfalso
      rw [Bool.or_eq_true] at hx
      rcases hx with hx | hx
      ·have : e = i := by simpa using hx
       subst this
       have := h3 c hb
       rw [hcl] at this; cases this
      ·have := lstd e (hes e hm).2 hx c hb
       rw [hcl] at this; cases this
     ·exact hb
    rw [xDl hnd ne h2] at hge
    omega
   ·rfl
  have hafter : HPL ops es cs n0 H B (LS (lst.setIfInBounds i true)) = H (cntIn es ((masks ops.toList []).getD i 0) + 1) := by
   unfold HPL
   rw [hk1, hk]
   have : sel cs es (masks ops.toList []) (cntIn es ((masks ops.toList []).getD i 0) + 1) (LS (lst.setIfInBounds i true)) = [] := by
    apply List.eq_nil_iff_forall_not_mem.2
    intro j hj
    obtain ⟨c, a1, a2, a3⟩ := xAh.1 hj
    have hcm := List.mem_of_getElem? a1
    rw [h5, Bool.or_eq_true] at a3
    rcases a3 with a3 | a3
    ·have : c = i := by simpa using a3
     exact nc (this ▸ hcm)
    ·have : cntIn es ((masks ops.toList []).getD c 0) <= es.countP (LS lst) := List.countP_mono_left fun e hm hb => lstd c (hcsh c hcm).2 a3 e hb
     omega
   rw [this]; rfl
  rcases g3 with ⟨hg, rfl, hH⟩ | ⟨hg, y, hop, rfl⟩
  ·refine xCa (b := false) (by simp [h1]) hco hod hog (hFm (.refl _)) hv.hr hv.ok (hgd hg) (fun _ => ?_) (fun hb => by cases hb)
   rw [<- hod]
   refine hK E1 _ ⟨hnext hv.hF (.lit _), ?_, hv.ok, hv.le, by rw [xAm]; exact hv.df, rsk E1 (.refl _)⟩ ⟨o, _, ho, rfl⟩
   rw [hafter, hH, <- hall]; exact hv.hr
  ·refine xCa (b := true) (by simp [h1]) hco hod hog (hFm (.refl _)) hv.hr hv.ok (hgd hg) (fun hb => by cases hb) (fun _ => ?_)
   refine ⟨y, _, by rw [hall]; exact hop _ hco, fun E' v hle hr hyv => ?_⟩
   rw [<- hod]
   exact hK E' _ ⟨hnext (hv.hF.mono hle) (xFo hyv), by rw [hafter]; exact hr, hv.ok.le hle, hv.le.trans hle, by rw [xAm]; exact hv.df, rsk E' hle⟩ ⟨o, _, ho, rfl⟩
 ·-- an effect that may change what was there
  rw [hkd] at g3
  obtain ⟨rfl, t1, t2, t3, g3⟩ := g3
  have hpt : ∀ e ∈ es, LS lst e = ((masks ops.toList []).getD i 0).testBit e := fun e hm => by
   rw [Bool.eq_iff_iff]
   refine ⟨fun hle => ?_, fun hb => h3 e hb⟩
   have hne : e ≠ i := fun h => by rw [h, h2] at hle; cases hle
   rcases Nat.lt_or_ge e i with hlt | hge
   ·exact hd3 i ne e hm hlt
   ·have := lstd e (hes e hm).2 hle i (hd3 e hm i ne (by omega))
    rw [h2] at this; cases this
  have hk : es.countP (LS lst) = cntIn es ((masks ops.toList []).getD i 0) := List.countP_congr fun e hm => by rw [hpt e hm]
  have hk1 : es.countP (LS (lst.setIfInBounds i true)) = es.countP (LS lst) + 1 := by rw [<- hL]; exact xDl hnd ne h2
  have hall : HPL ops es cs n0 H B (LS lst) = fillL B n0 (allThere cs es (masks ops.toList []) (cntIn es ((masks ops.toList []).getD i 0))) (H (cntIn es ((masks ops.toList []).getD i 0))) := by
   unfold HPL
   rw [hk, xAn]
   congr 1
   refine xCj fun c hcm hst => ?_
   cases hcl : LS lst c
   ·exfalso
    obtain ⟨_, _, _, hord⟩ := hd4 c hcm
    have hge : es.countP (fun x => x == i || LS lst x) <= cntIn es ((masks ops.toList []).getD c 0) := by
     refine List.countP_mono_left fun e hm hx => ?_
     rcases hord e hm with hb | hb
     ·exfalso
      rw [Bool.or_eq_true] at hx
      rcases hx with hx | hx
      ·have : e = i := by simpa using hx
       subst this
       have := h3 c hb
       rw [hcl] at this; cases this
      ·have := lstd e (hes e hm).2 hx c hb
       rw [hcl] at this; cases this
     ·exact hb
    rw [xDl hnd ne h2] at hge
    omega
   ·rfl
  have hafter : HPL ops es cs n0 H B (LS (lst.setIfInBounds i true)) = H (cntIn es ((masks ops.toList []).getD i 0) + 1) := by
   unfold HPL
   rw [hk1, hk]
   have : sel cs es (masks ops.toList []) (cntIn es ((masks ops.toList []).getD i 0) + 1) (LS (lst.setIfInBounds i true)) = [] := by
    apply List.eq_nil_iff_forall_not_mem.2
    intro j hj
    obtain ⟨c, a1, a2, a3⟩ := xAh.1 hj
    have hcm := List.mem_of_getElem? a1
    rw [h5, Bool.or_eq_true] at a3
    rcases a3 with a3 | a3
    ·have : c = i := by simpa using a3
     exact nc (this ▸ hcm)
    ·have : cntIn es ((masks ops.toList []).getD c 0) <= es.countP (LS lst) := List.countP_mono_left fun e hm hb => lstd c (hcsh c hcm).2 a3 e hb
     omega
   rw [this]; rfl
  rcases g3 with ⟨hg, rfl, hH⟩ | ⟨hg, y, hop, rfl⟩
  ·refine xCa (b := false) (by simp [h1]) hco hod hog (hFm (.refl _)) hv.hr hv.ok (hgd hg) (fun _ => ?_) (fun hb => by cases hb)
   rw [<- hod]
   refine hK E1 _ ⟨hnext hv.hF (.lit _), ?_, hv.ok, hv.le, by rw [xAm]; exact hv.df, rsk E1 (.refl _)⟩ ⟨o, _, ho, rfl⟩
   rw [hafter, hH, <- hall]; exact hv.hr
  ·refine xCa (b := true) (by simp [h1]) hco hod hog (hFm (.refl _)) hv.hr hv.ok (hgd hg) (fun hb => by cases hb) (fun _ => ?_)
   refine ⟨y, _, by rw [hall]; exact hop _ hco, fun E' v hle hr hyv => ?_⟩
   rw [<- hod]
   exact hK E' _ ⟨hnext (hv.hF.mono hle) (xFo hyv), by rw [hafter]; exact hr, hv.ok.le hle, hv.le.trans hle, by rw [xAm]; exact hv.df, rsk E' hle⟩ ⟨o, _, ho, rfl⟩
 ·rw [hkd] at g3
  have hsk : st = true -> cntIn es ((masks ops.toList []).getD i 0) = es.countP (LS lst) := fun hs1 => List.countP_congr fun e hm => by
   constructor
   ·intro hb; exact h3 e hb
   ·intro hle
    rcases hsv hs1 e hm with hb | hb
    ·exact hb
    ·have := lstd e (hes e hm).2 hle i hb
     rw [h2] at this; cases this
  rcases g3 with ⟨hg, rfl⟩ | ⟨hg, y, hy, rfl, _, _⟩
  ·refine xCa (b := false) (by simp [h1]) hco hod hog (hFm (.refl _)) hv.hr hv.ok (hgd hg) (fun _ => ?_) (fun hb => by cases hb)
   exact plain ne nc E1 undef (.refl _) hv.hr (.lit _)
  ·refine xCa (b := true) (by simp [h1]) hco hod hog (hFm (.refl _)) hv.hr hv.ok (hgd hg) (fun hb => by cases hb) (fun _ => ?_)
   have hy1 := xJx (xSj hdat hH0 (fun j c hj => xOa hc hcs hcsh hdat j c hj) (L := LS lst) (i := i) h3 hsk) hy
   rw [xFb (fr' := msk (usesQ o) 0 (mix (fun _ => true) l1 fr0)) (fun t ht => (hgt t (by simp [usesQ, ht])).symm)] at hy1
   exact ⟨y, _, xPg hcq hco hy1, fun E' v hle hr hyv => plain ne nc E' v hle hr (xFo hyv)⟩
 ·rw [hkd] at g3
  rcases g3 with ⟨hg, rfl⟩ | ⟨hg, y, hy, rfl⟩
  ·refine xCa (b := false) (by simp [h1]) hco hod hog (hFm (.refl _)) hv.hr hv.ok (hgd hg) (fun _ => ?_) (fun hb => by cases hb)
   exact plain ne nc E1 undef (.refl _) hv.hr (.lit _)
  ·refine xCa (b := true) (by simp [h1]) hco hod hog (hFm (.refl _)) hv.hr hv.ok (hgd hg) (fun hb => by cases hb) (fun _ => ?_)
   have hy1 := xJx (g' := gb (HPL ops es cs n0 H B (LS lst))) (fun l hl => absurd rfl hl) hy
   rw [xFb (fr' := msk (usesQ o) 0 (mix (fun _ => true) l1 fr0)) (fun t ht => (hgt t (by simp [usesQ, ht])).symm)] at hy1
   exact ⟨y, _, xPg hcq hco hy1, fun E' v hle hr hyv => plain ne nc E' v hle hr (xFo hyv)⟩
 ·rw [hkd] at g3
  have hps' : ppOf lo h es cs (masks ops.toList []) = some ps := by rw [<- hpp]; exact hps
  rcases g3 with ⟨hg, rfl⟩ | ⟨hg, y, hy, rfl⟩
  ·refine xCa (b := false) (by simp [h1]) hco hod hog (hFm (.refl _)) hv.hr hv.ok (hgd hg) (fun _ => ?_) (fun hb => by cases hb)
   exact plain ne nc E1 undef (.refl _) hv.hr (.lit _)
  ·refine xCa (b := true) (by simp [h1]) hco hod hog (hFm (.refl _)) hv.hr hv.ok (hgd hg) (fun hb => by cases hb) (fun _ => ?_)
   have hmk : mskG (mix (fun _ => true) l1 fr0) ps (gb (H 0)) = mskG fr0 ps (gb (H 0)) := by
    funext l
    unfold mskG
    rw [xIh (fr' := fr0) (fun p hp => ?_)]
    have hno : ∀ j o' x', (j, o', x') ∈ l1 -> o'.d ≠ some p := fun j o' x' hm hd' => by
     obtain ⟨oj, e1, e2, rfl⟩ := hmem j o' x' (by rw [hl']; exact List.mem_append_left _ hm)
     refine (xLb hps').2 oj ?_ p hp hd'
     exact List.mem_of_getElem? (i := j) (by rw [List.getElem?_take, if_pos e2]; exact e1)
    exact xDi hno
   rw [hmk] at hy
   have hy1 := xJx (xSk hdat hH0 (fun j c hj => xOa hc hcs hcsh hdat j c hj) hs1 hps hps' (L := LS lst)) hy
   rw [xFb (fr' := msk (usesQ o) 0 (mix (fun _ => true) l1 fr0)) (fun t ht => (hgt t (by simp [usesQ, ht])).symm)] at hy1
   exact ⟨y, _, xPg hcq hco hy1, fun E' v hle hr hyv => plain ne nc E' v hle hr (xFo hyv)⟩
end
end Go.Vg
end
section
namespace Go.Vg
open Go
section
variable {P : Program} {cl : Cl} {cq : Cq} (hcl : ClOk P cl) (hcq : CqOk P cq) {ops : Array Oper} {lo : List Opq} (hc : cops2 P ops ops.toList = some lo) (he : edgesOk ops.toList = true) {st : Bool} {pp : Option (List Nat)} {h : Nat} {es cs : List Nat}
 (hd : drawOk2 (masks ops.toList []) lo h es cs = true) (hnd : es.Nodup) (hes : ∀ e ∈ es, e < h /\ e < ops.size) (hcs : cs.Nodup) (hcsh : ∀ c ∈ cs, c < h /\ c < ops.size)
 {n0 : Nat} {H : Nat -> List Blk} {B : Nat -> Option Blk} {fr0 fe : List SV} {xs : List SV}
 (hdat : Dat2 (P := P) cq n0 H B es.length ((lo.take h).zipIdx.map fun x => (x.1, kdOf st pp cs es (masks ops.toList []) x.2)) 0 fr0 xs fe)
 (hH0 : ∀ j, j < cs.length -> n0 + j < ln (H 0) /\ gb (H 0) (n0 + j) = .dead)
include hcl hcq hc he hd hnd hes hcs hcsh hdat hH0 in
theorem xOb (hpp : pp = ppOf lo h es cs (masks ops.toList [])) (hd1 : ∀ i, h <= i -> i < lo.length -> ∀ j, j < i -> ((masks ops.toList []).getD i 0).testBit j = true) {ro : Option Nat} {n : Nat} {Q : Exit -> Act -> World -> Prop} {E0 : Env} (hn0 : E0.n = n0) {dfs : List Deferred}
  (htail : ∀ (fuel : Nat) (lst : Array Bool) (E1 : Env) (a1 : Act), left lst <= fuel -> lst.size = ops.size -> Shut ops (LS lst) -> (∀ j, j < ops.size -> (LS lst j = true ↔ j < h + 0)) -> E0.Le E1 -> OkE P E1 ->
   RHp E1 (fillL B n0 (allThere cs es (masks ops.toList []) es.length) (H es.length)) -> Rvs E1 fe a1.tmps.toList -> a1.defers = dfs -> wpAnyIn (fen ro) n P .any ops Q fuel lst a1 E1.w) :
  ∀ (fuel : Nat) (lst : Array Bool) (E1 : Env) (a1 : Act), left lst <= fuel -> lst.size = ops.size -> Shut ops (LS lst) ->
   Inv (P := P) (ops := ops) (es := es) (cs := cs) (n0 := n0) (H := H) (B := B) (fr0 := fr0) E0 E1 a1 dfs (LS lst) (ent st pp lo ops h es cs xs) -> (∀ j, h <= j -> LS lst j = false) -> wpAnyIn (fen ro) n P .any ops Q fuel lst a1 E1.w := by
 have fin : ∀ (fuel : Nat) (lst : Array Bool) (E1 : Env) (a1 : Act), left lst <= fuel -> lst.size = ops.size -> Shut ops (LS lst) ->
   Inv (P := P) (ops := ops) (es := es) (cs := cs) (n0 := n0) (H := H) (B := B) (fr0 := fr0) E0 E1 a1 dfs (LS lst) (ent st pp lo ops h es cs xs) -> (∀ j, h <= j -> LS lst j = false) -> (∀ i, i < h -> i < ops.size -> LS lst i = true) ->
   wpAnyIn (fen ro) n P .any ops Q fuel lst a1 E1.w := by
  intro fuel lst E1 a1 hleft hsz hs hv hno hall
  have hmx : mix (LS lst) (ent st pp lo ops h es cs xs) fr0 = fe := by
   rw [xGq (s := 0) hdat]
   have := xAz (p := LS lst) (ent st pp lo ops h es cs xs) [] fr0 (fun i o x hm => by
    obtain ⟨_, o2, kd, e1, _⟩ := xEt hm
    rw [Nat.sub_zero] at e1
    obtain ⟨h2, h1, _⟩ := xCo e1
    refine hall i h2 ?_
    have := (List.getElem?_eq_some_iff.1 h1).1
    rw [xAy hc] at this; simpa using this) (fun i o x hm => by cases hm)
   simpa using this
  have hk : es.countP (LS lst) = es.length := List.countP_eq_length.2 fun e hm => hall e (hes e hm).1 (hes e hm).2
  have hHP : HPL ops es cs n0 H B (LS lst) = fillL B n0 (allThere cs es (masks ops.toList []) es.length) (H es.length) := by
   unfold HPL
   rw [hk, xAn]
   congr 1
   exact xCj fun c hcm _ => hall c (hcsh c hcm).1 (hcsh c hcm).2
  refine htail fuel lst E1 a1 hleft hsz hs (fun j hj => ⟨fun hj' => ?_, fun hj' => hall j (by simpa using hj') hj⟩) hv.le hv.ok (by rw [<- hHP]; exact hv.hr) (by rw [<- hmx]; exact hv.hF) hv.df
  rcases Nat.lt_or_ge j h with h1 | h1
  ·simpa using h1
  ·have := hno j h1; rw [hj'] at this; cases this
 intro fuel
 induction fuel with
 | zero =>
  intro lst E1 a1 hleft hsz hs hv hno
  exact fin 0 lst E1 a1 hleft hsz hs hv hno fun i _ hi => by rw [LS, <- xBh (by omega)]; exact xCm (by omega) i
 | succ fuel ih =>
  intro lst E1 a1 hleft hsz hs hv hno
  by_cases hall : ∀ i, i < h -> i < ops.size -> LS lst i = true
  ·exact fin (fuel + 1) lst E1 a1 hleft hsz hs hv hno hall
  ·have hex : ∃ i, i < h /\ i < ops.size /\ LS lst i = false := by
    apply Classical.byContradiction
    intro hc'
    refine hall fun i h1 h2 => ?_
    cases hv : LS lst i
    ·exact absurd ⟨i, h1, h2, hv⟩ hc'
    ·rfl
   constructor
   ·intro hnil
    obtain ⟨i, h1, h2, h3⟩ := hex
    obtain ⟨j, _, hj⟩ := xAk hsz he i h2 (by rw [xBh (by omega)]; exact h3)
    rw [hnil] at hj; cases hj
   ·intro i hi
    obtain ⟨h1, h2, h3, h4, h5, h6⟩ := xAd hsz hs hi
    have hih : i < h := by
     rcases Nat.lt_or_ge i h with h7 | h7
     ·exact h7
     ·obtain ⟨i', h8, h9, h10⟩ := hex
      have := h3 i' (hd1 i h7 (by rw [xAy hc]; simpa using h1) i' (by omega))
      rw [h10] at this; cases this
    exact xDt hcl hcq hc he hd hnd hes hcs hcsh hdat hH0 hpp hn0 hsz hs hi hih hv fun E' a' hv' _ =>
     ih _ E' a' (by omega) (by simpa using hsz) h4 hv' fun j hj => by rw [h5, hno j hj, Bool.or_false]; simp; omega
end
theorem xFe {α : Type} {fr : List SV} {k : HT -> Option α} {res : α} : ∀ {ds : List Nat} {h : HT} {hp : List Blk}, HRel h hp -> shB fr ds h k = some res -> ∃ h', HRel h' (shutH fr ds hp) /\ Frm h h' /\ k h' = some res
 | [], h, hp, r, e => ⟨h, r, .refl h, e⟩
 | d :: t, h, hp, r, e => by
  simp only [shB] at e
  simp only [shutH, shut1]
  split at e
  ·rename_i l hg
   rw [r.g] at e
   simp only [hg]
   unfold shutB
   split at e
   ·rename_i q ty xs hb
    rw [HT.set_eq] at e
    have hl := r.lt (b := .oi q ty xs) (by rw [r.g]; exact hb) (by simp)
    obtain ⟨h', r', hf, hk⟩ := xFe (r.set _ hl) e
    exact ⟨h', by simp only [hb]; exact r', (Frm.set r.f _ hl).trans hf, hk⟩
   ·rename_i ty sz len f hb
    rw [HT.set_eq] at e
    have hl := r.lt (b := .orw ty sz len f) (by rw [r.g]; exact hb) (by simp)
    obtain ⟨h', r', hf, hk⟩ := xFe (r.set _ hl) e
    exact ⟨h', by simp only [hb]; exact r', (Frm.set r.f _ hl).trans hf, hk⟩
   ·rename_i hn1 hn2
    obtain ⟨h', r', hf, hk⟩ := xFe r e
    refine ⟨h', ?_, hf, hk⟩
    split
    ·rename_i a b c hb; exact absurd hb (hn1 a b c)
    ·rename_i a b c d hb; exact absurd hb (hn2 a b c d)
    ·exact r'
  ·rename_i hn
   obtain ⟨h', r', hf, hk⟩ := xFe r e
   refine ⟨h', ?_, hf, hk⟩
   split
   ·rename_i l hg; exact absurd hg (hn l)
   ·exact r'
theorem ownsRow_one {w : World} {t sz n : Nat} {v : Value} {xs : List Value} (h : w.ownsRow 0 t sz v n xs) : v.oneCell' = true := by
 rcases h.2 with ⟨rfl, _⟩ | ⟨g, cap, cur, rfl, _⟩ <;> rfl
theorem xGd {α : Type} {k : HT -> Option α} {res : α} : ∀ {ls : List Nat} {h : HT} {hp : List Blk}, HRel h hp -> shD ls h k = some res ->
  ∃ h' hp', HRel h' hp' /\ Frm h h' /\ k h' = some res /\ ∀ E, RHp E hp -> ∃ E', Closed E E' /\ RHp E' hp'
 | [], h, hp, r, e => ⟨h, hp, r, .refl h, e, fun E hr => ⟨E, .refl E, hr⟩⟩
 | l :: t, h, hp, r, e => by
  simp only [shD] at e
  rw [r.g] at e
  split at e
  ·rename_i q ty xs hb
   rw [HT.set_eq] at e
   have hl := r.lt (b := .oi q ty xs) (by rw [r.g]; exact hb) (by simp)
   obtain ⟨h', hp', r', hf, hk, hh⟩ := xGd (r.set _ hl) e
   refine ⟨h', hp', r', (Frm.set r.f _ hl).trans hf, hk, fun E hr => ?_⟩
   have hget := xAa hb (by simp)
   have hx : Rv E (.own l) (E.val l) := .own l _ (hr.has hget (by simp)) (ownsRow_one (hr.b.blk l _ hget).1) (fun _ => rfl)
   obtain ⟨E1, c1, r1⟩ := xEp hr hx
   simp only [shut1, hb, shutB] at r1
   obtain ⟨E2, c2, r2⟩ := hh E1 r1
   exact ⟨E2, c1.trans c2, r2⟩
  ·rename_i ty sz len f hb
   rw [HT.set_eq] at e
   have hl := r.lt (b := .orw ty sz len f) (by rw [r.g]; exact hb) (by simp)
   obtain ⟨h', hp', r', hf, hk, hh⟩ := xGd (r.set _ hl) e
   refine ⟨h', hp', r', (Frm.set r.f _ hl).trans hf, hk, fun E hr => ?_⟩
   have hget := xAa hb (by simp)
   have hx : Rv E (.own l) (E.val l) := .own l _ (hr.has hget (by simp)) (by obtain ⟨⟨vs, _, _, h1⟩, _⟩ := hr.b.blk l _ hget; exact ownsRow_one h1) (fun _ => rfl)
   obtain ⟨E1, c1, r1⟩ := xEp hr hx
   simp only [shut1, hb, shutB] at r1
   obtain ⟨E2, c2, r2⟩ := hh E1 r1
   exact ⟨E2, c1.trans c2, r2⟩
  ·rename_i ty cs hb
   split at e
   ·rename_i hcl
    rw [HT.set_eq] at e
    have hl := r.lt (b := .box ty cs) (by rw [r.g]; exact hb) (by simp)
    obtain ⟨h', hp', r', hf, hk, hh⟩ := xGd (r.set _ hl) e
    refine ⟨h', hp', r', (Frm.set r.f _ hl).trans hf, hk, fun E hr => ?_⟩
    have hget := xAa hb (by simp)
    obtain ⟨vs, h2, h3⟩ := hr.b.blk l _ hget
    have v1 := xAj 8 hcl h2
    obtain ⟨E1, c1, _, r1⟩ := xAo hr (newb := .fbox ty cs) hget (by simp)
     (fun E' hc hi => ⟨by rw [hc.blk]; exact hi _ rfl, vs, (v1.mono hc.stays).rv, by rw [hc.w, hc.blk]; exact h3⟩) (fun E' => rfl)
    obtain ⟨E2, c2, r2⟩ := hh E1 r1
    exact ⟨E2, c1.trans c2, r2⟩
   ·exact xGd r e
  ·exact xGd r e
theorem xEm {p : Opq -> Nat -> Bool} {lo : List Opq} {h i : Nat} (hm : i ∈ ixs2 p lo h) : i < h /\ i < lo.length := by
 unfold ixs2 at hm
 obtain ⟨⟨o, j⟩, h1, rfl⟩ := List.mem_map.1 hm
 obtain ⟨h2, h3⟩ := List.mem_filter.1 h1
 simp only [Bool.and_eq_true, decide_eq_true_eq] at h3
 have := List.mem_zipIdx_iff_getElem?.1 h2
 exact ⟨h3.1, (List.getElem?_eq_some_iff.1 (by simpa using this)).1⟩
theorem xCx (p : Opq -> Nat -> Bool) (lo : List Opq) (h : Nat) : (ixs2 p lo h).Nodup := by
 unfold ixs2
 have h1 : (lo.zipIdx.map (·.2)).Pairwise (· < ·) := by rw [List.zipIdx_map_snd]; exact List.pairwise_lt_range'
 exact (h1.sublist ((List.filter_sublist).map _)).imp (fun h => Nat.ne_of_lt h)
theorem xHl {P : Program} {ops : Array Oper} {lo : List Opq} {p : Drp} (h : p ∈ readings0 P ops lo) : (∃ st q, cdrawQ P ops lo st q = some p) \/ ∃ st q, cdrawF P ops lo st q = some p := by
 unfold readings0 at h
 generalize (!(ixs2 isStore lo (headLen (masks ops.toList []))).isEmpty) = st at h
 simp only at h
 split at h
 ·rename_i p1 h1
  cases h with
  | head => exact .inl ⟨_, _, h1⟩
  | tail _ h =>
   split at h
   ·exact .inl ⟨_, _, Option.mem_toList.1 h⟩
   ·cases h
 ·rcases List.mem_append.1 h with h | h
  ·rcases List.mem_append.1 h with h | h
   ·rcases List.mem_append.1 h with h | h
    ·exact .inr ⟨_, _, Option.mem_toList.1 h⟩
    ·split at h
     ·rename_i p1 h1; cases List.mem_singleton.1 h; exact .inl ⟨_, _, h1⟩
     ·exact .inl ⟨_, _, Option.mem_toList.1 h⟩
   ·split at h
    ·cases h
    ·rcases List.mem_append.1 h with h | h
     ·split at h
      ·cases h
      ·exact .inl ⟨_, _, Option.mem_toList.1 h⟩
     ·exact .inl ⟨_, _, Option.mem_toList.1 h⟩
  ·split at h
   ·cases h
   ·exact .inl ⟨_, _, Option.mem_toList.1 h⟩
theorem xEb {P : Program} {ops : Array Oper} {lo : List Opq} {p : Drp} (h : p ∈ readings P ops lo) : (∃ st q, cdrawQ P ops lo st q = some p) \/ ∃ st q, cdrawF P ops lo st q = some p := by
 rcases List.mem_append.1 h with h | h
 ·obtain ⟨c, _, hc⟩ := List.mem_filterMap.1 h
  exact .inl ⟨_, _, hc⟩
 ·exact xHl h
theorem xOc {P : Program} {ops : Array Oper} {lo : List Opq} {st : Bool} {q : List Nat} {p : Drp} (h : cdrawF P ops lo st q = some p) : ∃ d, p.fl = some d := by
 unfold cdrawF at h
 simp only at h
 split at h <;> first | (cases h; done) | skip
 split at h <;> first | (cases h; done) | skip
 split at h <;> first | (cases h; done) | skip
 cases h
 exact ⟨_, rfl⟩
theorem xOd {P : Program} {ops : Array Oper} {lo : List Opq} {st : Bool} {q : List Nat} {p : Drp} (h : cdrawQ P ops lo st q = some p) : p.fl = none := by
 unfold cdrawQ at h
 simp only at h
 split at h <;> cases h
 rfl
theorem drw_ok {P : Program} {cl : Cl} (hcl : ClOk P cl) {cq : Cq} (hcq : CqOk P cq) {ops : Array Oper} {sh cs0 : List Nat} {m ne : Nat} {hs : List (Opq × Kd)} {tl : List Opq} {ps : List Drp} (hsc : cdraw2 P ops = some (.drw ps)) (hmem : ⟨sh, m, ne, hs, cs0, tl, none⟩ ∈ ps)
    {α : Type} {fr : List SV} {h : HT} {hp : List Blk} (r : HRel h hp) {kk : List SV -> HT -> Option α} {res : α} {frF : List SV} {hF : HT} (hfin : ∀ fr h, kk fr h = some res -> fr = frF /\ h = hF)
    (e : shB fr sh h (fun h => resv m h fun h1 => hdB cl cq h.n ne cs0 hs fr h1 [h1] [] fun fr h => opsB cl tl fr h kk) = some res) :
    ∃ hp', HRel hF hp' /\ Frm h hF /\ ∀ (E : Env) (a : Act) (ro : Option Nat) (n : Nat) (Q : Exit -> Act -> World -> Prop) (id : Nat), OkE P E -> RHp E hp -> Rvs E fr a.tmps.toList ->
      (∀ E' a', E.Le E' -> RHp E' hp' -> Rvs E' frF a'.tmps.toList -> a'.defers = a.defers -> Q .normal a' E'.w) -> (Code.region id ops true).wpIn (fen ro) n P Q a E.w := by
  unfold cdraw2 at hsc
  split at hsc
  . cases hsc
  rename_i lo hc
  split at hsc
  . rename_i hfe
    simp only [Bool.and_eq_true] at hfe
    obtain ⟨hm, he⟩ := hfe
    have hq : ∃ st q, cdrawQ P ops lo st q = some ⟨sh, m, ne, hs, cs0, tl, none⟩ := by
      split at hsc
      . cases hsc
      . rename_i ps' _
        cases hsc
        rcases xEb hmem with h | ⟨st, q, h⟩
        . exact h
        . obtain ⟨d, h⟩ := xOc h; cases h
    obtain ⟨st, q, hq⟩ := hq
    unfold cdrawQ at hq
    simp only at hq
    generalize hh : headLen (masks ops.toList []) = hd at hq
    generalize hes : ixs2 (fun o i => effq q i o.o) lo hd = es at hq
    generalize hcs : ixs2 (fun o i => creq q i o.o) lo hd = cs at hq
    split at hq
    . rename_i hdo
      rw [Bool.and_eq_true] at hdo
      obtain ⟨hdt, hdo⟩ := hdo
      cases hq
      have hlen : lo.length = ops.size := by rw [xAy hc]; simp
      have hes1 : ∀ e ∈ es, e < hd /\ e < ops.size := fun e hm => by rw [<- hes] at hm; rw [<- hlen]; exact xEm hm
      have hcs1 : ∀ e ∈ cs, e < hd /\ e < ops.size := fun e hm => by rw [<- hcs] at hm; rw [<- hlen]; exact xEm hm
      have hnd : es.Nodup := hes ▸ xCx _ _ _
      have hnc : cs.Nodup := hcs ▸ xCx _ _ _
      have hd1 := xCv hdt
      obtain ⟨h1, r1, f1, e⟩ := xFe r e
      obtain ⟨h2, e2, r2, f2⟩ := xEl cs.length r1 (fun h1' => hdB cl cq h1.n es.length (allThere cs es (masks ops.toList []) es.length) ((lo.take hd).zipIdx.map fun x => (x.1, kdOf st (ppOf lo hd es cs (masks ops.toList [])) cs es (masks ops.toList []) x.2)) fr h1' [h1'] [] fun fr h => opsB cl (lo.drop hd) fr h kk)
      have e3 := e2.symm.trans e
      obtain ⟨hps', cb', xs, fe, hT, hE, hpE, a1, a2, a3, a4, a5, a6, a7, a8, a9⟩ := xKc (P := P) hcl e3 [] rfl [resvH cs.length (shutH fr _ hp)] rfl (fun i x hx => by
        cases i with
        | zero => simp at hx; subst hx; exact ⟨_, rfl, r2⟩
        | succ i => simp at hx)
      have hH0 : hps'.getD 0 [] = resvH cs.length (shutH fr (if (lo.any isSlq || !q.isEmpty) = true then liveIn lo else []) hp) := by rw [List.getD_eq_getElem?_getD, a1 0 _ rfl]; rfl
      have hl1 : h1.n = ln (shutH fr (if (lo.any isSlq || !q.isEmpty) = true then liveIn lo else []) hp) := r1.n
      have hH0' : ∀ j, j < cs.length -> h1.n + j < ln (hps'.getD 0 []) /\ gb (hps'.getD 0 []) (h1.n + j) = .dead := fun j hj => by
        rw [hH0, xHf, xHg, <- hl1, if_neg (by omega)]
        exact ⟨by omega, rfl⟩
      have htl : ∃ hpF, HRel hF hpF /\ Frm hT hF := by
        have hct : ∀ (k : Nat) (l : List Oper) (lo' : List Opq), cops2 P ops l = some lo' -> cops2 P ops (l.drop k) = some (lo'.drop k) := by
          intro k
          induction k with
          | zero => intro l lo' h; simpa using h
          | succ k ih =>
            intro l lo' h
            cases l with
            | nil => simp [cops2] at h; subst h; simp [cops2]
            | cons x l =>
              simp only [cops2] at h
              split at h
              . rename_i g1 g2 g3; cases h; simpa using ih l _ g2
              . cases h
        obtain ⟨fr', h', hp', r', hf', hk', _⟩ := xEv hcl _ _ (hct hd _ _ hc) a6 a9
        obtain ⟨rfl, rfl⟩ := hfin _ _ hk'
        exact ⟨hp', r', hf'⟩
      obtain ⟨hpF, rF, fF⟩ := htl
      refine ⟨hpF, rF, (f1.trans f2).trans (a8.trans fF), fun E a ro n Q id hok hr hfr hq => ?_⟩
      obtain ⟨E1, c1, hr1⟩ := xEq (if (lo.any isSlq || !q.isEmpty) = true then liveIn lo else []) hr hfr
      rw [<- c1.w]
      have hok1 := hok.le c1.le
      have hfr1 := hfr.mono c1.le
      refine wpIn_region_any hm ?_
      have hE2 : E1.Le (E1.to { E1.w with drawn := E1.w.drawn + 1 }) := Env.to_le fun b hb => rfl
      have hr2 : RHp (E1.to { E1.w with drawn := E1.w.drawn + 1 }) (shutH fr (if (lo.any isSlq || !q.isEmpty) = true then liveIn lo else []) hp) :=
        ⟨⟨hr1.g.fr, hr1.g.fz, hr1.g.sz, hr1.g.os, hr1.g.tape, hr1.g.output, hr1.g.imb, hr1.g.im0⟩,
         ⟨hr1.b.n, hr1.b.rs, fun l b hb => (hr1.b.blk l b hb).keep hE2 (hr1.has hb) (fun g _ => rfl), hr1.b.live, hr1.b.imx, hr1.b.base, hr1.b.dj⟩⟩
      obtain ⟨E3, hE3, hw3, hr3, hrs3⟩ := hr2.resv cs.length
      have hn0 : (E1.to { E1.w with drawn := E1.w.drawn + 1 }).n = h1.n := by rw [hl1, xBn]; exact hr2.b.n
      have hLf : LS (Array.replicate ops.size false) = fun _ => false := by
        funext j
        simp only [LS, Array.getD_eq_getD_getElem?, Array.getElem?_replicate]
        split <;> rfl
      have h0 : left (Array.replicate ops.size false) <= ops.size := by
        unfold left; rw [Array.toList_replicate]; simp
      have hHP0 : HPL ops es cs h1.n (fun i => hps'.getD i []) (nthB cb') (fun _ => false) = resvH cs.length (shutH fr (if (lo.any isSlq || !q.isEmpty) = true then liveIn lo else []) hp) := by
        unfold HPL
        have k0 : es.countP (fun _ => false) = 0 := by simp
        rw [k0]
        have : sel cs es (masks ops.toList []) 0 (fun _ => false) = [] := by
          apply List.eq_nil_iff_forall_not_mem.2
          intro j hj
          obtain ⟨_, _, _, h⟩ := xAh.1 hj; cases h
        rw [this]; exact hH0
      have hmx : mix (fun _ => false) (ent st (ppOf lo hd es cs (masks ops.toList [])) lo ops hd es cs xs) fr = fr := by
        have := xAz (p := fun _ => false) [] (ent st (ppOf lo hd es cs (masks ops.toList [])) lo ops hd es cs xs) fr (fun _ _ _ hm => by cases hm) (fun _ _ _ _ => rfl)
        simpa [mix] using this
      have hEE := c1.le.trans hE2
      show wpAnyIn (fen ro) n P .any ops Q ops.size (Array.replicate ops.size false) a (E1.to { E1.w with drawn := E1.w.drawn + 1 }).w
      rw [<- hw3]
      refine xOb hcl hcq hc he hdo hnd hes1 hnc hcs1 a3 hH0' rfl hd1 (E0 := E1.to { E1.w with drawn := E1.w.drawn + 1 }) hn0 (dfs := a.defers) ?_ ops.size _ E3 a h0 (by simp) ?_ ⟨?_, ?_, (hok1.le hE2).le hE3, hE3, rfl, fun j c hj _ => ?_⟩ (fun j _ => by rw [hLf])
      . intro fuel lst E4 a4 hleft hsz hs hk hle4 hok4 hr4 hf4 hdf4
        have a5' : hps'.getD es.length [] = hpE := a5
        refine xIl hcl hc he (fun i hi hlt j hj => hd1 i hi (by rw [hlen]; exact hlt) j hj) hfin rF E a.defers hq fuel lst 0 E4 fe hT _ a4 hleft hsz hs hk (hEE.trans hle4) hok4 (by
          simp only [a5']; exact a6) hr4 hf4 hdf4 (by simpa using a9)
      . intro k o _ hk; rw [hLf] at hk; cases hk
      . rw [hLf, hmx]; exact hfr1.mono (hE2.trans hE3)
      . rw [hLf, hHP0]; exact hr3
      . have := hrs3 j (List.getElem?_eq_some_iff.1 hj).1
        rw [hn0] at this; exact this
    . cases hq
  . cases hsc
end Go.Vg
end
section
namespace Go.Vg
open Go
def Env.flo (E0 : Env) (W' : World) (b : Nat) : Env := { E0 with W := W', M := fun c => (E0.W.heap.size <= c \/ E0.M c) /\ c ≠ b, im0 := fun c => E0.im0 c /\ c ≠ b }
def Env.dropTo (E E' : Env) : Env := { E' with n := E.n, rs := E.rs }
def Env.adp (E E0 : Env) (b : Nat) : Env :=
 { E with n := E.n + 1, rs := fun l => l < E.n /\ E.rs l, blk := fun l => if l = E.n then b else E.blk l, val := fun l => if l = E.n then undef else E.val l, live := fun l => l = E.n \/ E.live l, W := E0.W, M := E0.M, im0 := E0.im0 }
theorem xLd {E E' : Env} {b : Nat} : Agr E E' ((E.dropTo E').flo E'.w b) := ⟨fun _ h => h, fun _ _ => rfl, fun _ _ => rfl, fun _ _ h => h, rfl, rfl⟩
theorem RHp.drop {E E' : Env} {hp : List Blk} {nb : Blk} {b : Nat} (h : RHp E hp) (hle : E.Le E') (h' : RHp E' (pb hp nb)) (hat : nb.at E' E.n = some b) : RHp ((E.dropTo E').flo E'.w b) hp := by
 have hag := xLd (E := E) (E' := E') (b := b)
 have hn := h.b.n
 have hlast : (pb hp nb)[E.n]? = some nb := by rw [xCz, hn]; simp
 have hold : ∀ x (c : Blk), hp[x]? = some c -> (pb hp nb)[x]? = some c := fun x c hb => by
  rw [xCz, List.getElem?_append_left (List.getElem?_eq_some_iff.1 hb).1]; exact hb
 have hatE : ∀ x (c : Blk), c.at ((E.dropTo E').flo E'.w b) x = c.at E' x := fun x c => by cases c <;> rfl
 have hne : ∀ x (c : Blk) g, hp[x]? = some c -> c.at E' x = some g -> g ≠ b := fun x c g hb hg e => by
  have := h'.b.dj x E.n c nb b (hold x c hb) hlast (e ▸ hg) hat
  have := h.lt hb
  omega
 refine ⟨⟨fun _ _ _ => rfl, fun _ => rfl, Nat.le_refl _, rfl, rfl, rfl, h'.g.imb, ?_⟩, ⟨hn, h.b.rs, ?_, ?_, ?_, ?_, ?_⟩⟩
 ·intro c hc
  have hcb : c ≠ b := fun e => h'.b.imx E.n nb b hlast hat (e ▸ hc)
  rcases h'.g.im0 c hc with h1 | h1 | h1
  ·exact .inl ⟨h1, hcb⟩
  ·exact .inr (.inr ⟨.inl h1, hcb⟩)
  ·exact .inr (.inr ⟨.inr h1, hcb⟩)
 ·intro x c hb
  by_cases hd : c = .dead
  ·subst hd; trivial
  have h1 := h.b.blk x c hb
  have h2 := h'.b.blk x c (hold x c hb)
  have hx' := h.has hb hd
  cases c with
  | dead => exact absurd rfl hd
  | ob o =>
   cases o with
   | mp es =>
    obtain ⟨xs0, a1, a2, _, _⟩ := h1
    obtain ⟨xs, b1, b2, b3, b4⟩ := h2
    exact ⟨xs, Rvs.via hag a1 b1, Rvs.via hag a2 b2, b3, b4⟩
   | lp st pd fr ps a c df =>
    obtain ⟨a0, fn0, vs0', ca0, cb0, a1, _, _, _⟩ := h1
    obtain ⟨b0, fn, vs, ca, cb, b1, b2, b3, b4⟩ := h2
    exact ⟨a0, fn, vs, ca, cb, Rvs.via hag a1 b1, b2, b3, b4⟩
   | df => exact h2
   | dn => exact h2
   | wl st pd fr ps ca cb df =>
    obtain ⟨a0, fn0, vs0', a1, _⟩ := h1
    obtain ⟨b0, fn, vs, b1, b4⟩ := h2
    exact ⟨a0, fn, vs, Rvs.via hag a1 b1, b4⟩
  | box t' cs' => obtain ⟨us, a1, _⟩ := h1; obtain ⟨vs, b1, b2⟩ := h2; exact ⟨vs, Rvs.via hag a1 b1, b2⟩
  | fbox t' cs' => obtain ⟨_, us, a1, _⟩ := h1; obtain ⟨b0, vs, b1, b2⟩ := h2; exact ⟨b0, vs, Rvs.via hag a1 b1, b2⟩
  | oi k t' xs => exact h2
  | orw t' sz len f => exact h2
  | fz y => exact Rv.via hag (show Rv E y (E.val x) from h1) (show Rv E' y (E'.val x) from h2)
 ·intro x c hb hd; exact h'.b.live x c (hold x c hb) hd
 ·intro x c g hb hg; rw [hatE] at hg; exact h'.b.imx x c g (hold x c hb) hg
 ·intro x c g hb hg
  rw [hatE] at hg
  exact .inr ⟨h'.b.base x c g (hold x c hb) hg, hne x c g hb hg⟩
 ·intro x x' c c' g hb hb' hg hg'
  rw [hatE] at hg hg'
  exact h'.b.dj x x' c c' g (hold x c hb) (hold x' c' hb') hg hg'
structure FlF (E0 : Env) (W' : World) (b t : Nat) (vs : List Value) : Prop where
 fr : ∀ c, c < E0.W.heap.size -> ¬ E0.M c -> W'.heap[c]? = E0.W.heap[c]?
 fz : ∀ a, W'.frozen? a = E0.W.frozen? a
 sz : E0.W.heap.size <= W'.heap.size
 os : W'.os = E0.W.os
 tape : W'.tape = E0.W.tape
 output : W'.output = E0.W.output
 base : E0.W.heap.size <= b \/ E0.M b
 cell : W'.heap[b]? = some (.cells vs.toArray t (0, 0))
theorem RHp.adopt {E0 E : Env} {W' : World} {b t : Nat} {vs : List Value} {hp : List Blk} {z : List SV} (F : FlF E0 W' b t vs) (hle : (E0.flo W' b).Le E) (h : RHp E hp) (hz : ∀ E, Rvs E z vs) :
  E0.Le (E.adp E0 b) /\ RHp (E.adp E0 b) (pb hp (.box t z)) /\ E.Le0 (E.adp E0 b) := by
 have eW : E.W = W' := hle.W
 have eM : E.M = fun c => (E0.W.heap.size <= c \/ E0.M c) /\ c ≠ b := hle.M
 have eI : E.im0 = fun c => E0.im0 c /\ c ≠ b := hle.im0
 have hb : b < W'.heap.size := (Array.getElem?_eq_some_iff.1 F.cell).1
 have hle0 : E.Le0 (E.adp E0 b) := ⟨Nat.le_succ _, fun l hl => ⟨Nat.lt_succ_of_lt hl.1, fun h => hl.2 h.2⟩, fun l hl => by simp [Env.adp, Nat.ne_of_lt hl.1], fun l hl => by simp [Env.adp, Nat.ne_of_lt hl.1],
  fun l hl h => h.resolve_left (Nat.ne_of_lt hl.1), fun _ h => h, fun _ _ => rfl, rfl⟩
 have hn := h.b.n
 have hcell : E.w.heap[b]? = some (.cells vs.toArray t (0, 0)) := by
  rw [h.g.fr b (by rw [eW]; exact hb) (by rw [eM]; exact fun h => h.2 rfl), eW]; exact F.cell
 have hnim : ¬ E.im b := fun hi => by
  rcases h.g.im0 b hi with h1 | h1 | h1
  ·rw [eI] at h1; exact h1.2 rfl
  ·rw [eW] at h1; omega
  ·rw [eM] at h1; exact h1.2 rfl
 have hnold : ∀ x (c : Blk) g, hp[x]? = some c -> c.at E x = some g -> g ≠ b := fun x c g hc hg e => by
  subst e
  rcases h.b.base x c g hc hg with h1 | h1
  ·rw [eW] at h1; omega
  ·rw [eM] at h1; exact h1.2 rfl
 have get : ∀ l c, (pb hp (.box t z))[l]? = some c -> (l = E.n /\ c = .box t z) \/ (l < E.n /\ hp[l]? = some c) := by
  intro l c e
  rw [xCz, List.getElem?_append] at e
  split at e
  ·exact .inr ⟨by omega, e⟩
  ·rename_i h1
   have : l - hp.length = 0 := by
    rcases Nat.eq_zero_or_pos (l - hp.length) with h0 | h0
    ·exact h0
    ·rw [List.getElem?_eq_none (by simp; omega)] at e; cases e
   rw [this] at e
   exact .inl ⟨by omega, by simpa using e.symm⟩
 have hatO : ∀ x (c : Blk), x < E.n -> c.at (E.adp E0 b) x = c.at E x := fun x c hx => by
  have hx' : x ≠ E.n := Nat.ne_of_lt hx
  cases c <;> simp [Blk.at, Env.adp, hx']
 refine ⟨⟨Nat.le_trans hle.n (Nat.le_succ _), fun l hl => hle0.has l (hle.has l hl), fun l hl => (hle0.blk l (hle.has l hl)).trans (hle.blk l hl), fun l hl => (hle0.val l (hle.has l hl)).trans (hle.val l hl),
  fun l hl hv => hle.live l hl (hle0.live l (hle.has l hl) hv), hle.im, hle.mem, rfl, rfl, rfl, hle.df, hle.n0, hle.ok, fun l hl hr => ⟨Nat.lt_of_lt_of_le hl hle.n, hle.rs l hl hr⟩⟩, ⟨⟨?_, ?_, ?_, ?_, ?_, ?_, h.g.imb, ?_⟩, ⟨?_, ?_, ?_, ?_, ?_, ?_, ?_⟩⟩, hle0⟩
 ·intro c hc hm
  have hc : c < E0.W.heap.size := hc
  have hm : ¬ E0.M c := hm
  show E.w.heap[c]? = E0.W.heap[c]?
  rw [h.g.fr c (by rw [eW]; exact Nat.lt_of_lt_of_le hc F.sz) (by
   rw [eM]; rintro ⟨h1 | h1, _⟩
   ·omega
   ·exact hm h1), eW]
  exact F.fr c hc hm
 ·intro a; show E.w.frozen? a = E0.W.frozen? a; rw [h.g.fz a, eW]; exact F.fz a
 ·show E0.W.heap.size <= E.w.heap.size; have := h.g.sz; rw [eW] at this; exact Nat.le_trans F.sz this
 ·show E.w.os = E0.W.os; rw [h.g.os, eW]; exact F.os
 ·show E.w.tape = E0.W.tape; rw [h.g.tape, eW]; exact F.tape
 ·show E.w.output = E0.W.output; rw [h.g.output, eW]; exact F.output
 ·intro c hc
  show E0.im0 c \/ E0.W.heap.size <= c \/ E0.M c
  rcases h.g.im0 c hc with h1 | h1 | h1
  ·rw [eI] at h1; exact .inl h1.1
  ·rw [eW] at h1; exact .inr (.inl (Nat.le_trans F.sz h1))
  ·rw [eM] at h1; exact .inr h1.1
 ·rw [xCz]; simp [Env.adp, hn]
 ·intro l c e hrs
  rcases get l c e with ⟨rfl, _⟩ | ⟨h1, h2⟩
  ·exact absurd hrs.1 (Nat.lt_irrefl _)
  ·exact h.b.rs l c h2 hrs.2
 ·intro l c e
  rcases get l c e with ⟨rfl, rfl⟩ | ⟨h1, h2⟩
  ·refine ⟨vs, hz _, ?_⟩
   have : (E.adp E0 b).blk E.n = b := by simp [Env.adp]
   rw [this]; exact hcell
  ·exact (h.b.blk l c h2).keep0 hle0 (h.has h2) (fun _ _ => rfl)
 ·intro l c e hd
  rcases get l c e with ⟨rfl, rfl⟩ | ⟨h1, h2⟩
  ·exact .inl rfl
  ·exact .inr (h.b.live l c h2 hd)
 ·intro l c g e hg
  rcases get l c e with ⟨rfl, rfl⟩ | ⟨h1, h2⟩
  ·have : b = g := by simpa [Blk.at, Env.adp] using hg
   rw [<- this]; exact hnim
  ·rw [hatO l c h1] at hg; exact h.b.imx l c g h2 hg
 ·intro l c g e hg
  show E0.W.heap.size <= g \/ E0.M g
  rcases get l c e with ⟨rfl, rfl⟩ | ⟨h1, h2⟩
  ·have : b = g := by simpa [Blk.at, Env.adp] using hg
   rw [<- this]; exact F.base
  ·rw [hatO l c h1] at hg
   rcases h.b.base l c g h2 hg with h3 | h3
   ·rw [eW] at h3; exact .inl (Nat.le_trans F.sz h3)
   ·rw [eM] at h3; exact h3.1
 ·intro l l' c c' g e e' hg hg'
  rcases get l c e with ⟨rfl, rfl⟩ | ⟨h1, h2⟩ <;> rcases get l' c' e' with ⟨rfl, rfl⟩ | ⟨h1', h2'⟩
  ·rfl
  ·have : b = g := by simpa [Blk.at, Env.adp] using hg
   rw [hatO l' c' h1'] at hg'
   exact absurd this.symm (hnold l' c' g h2' hg')
  ·have : b = g := by simpa [Blk.at, Env.adp] using hg'
   rw [hatO l c h1] at hg
   exact absurd this.symm (hnold l c g h2 hg)
  ·rw [hatO l c h1] at hg; rw [hatO l' c' h1'] at hg'
   exact h.b.dj l l' c c' g h2 h2' hg hg'
theorem xOe {E0 E E' : Env} {hp : List Blk} {b t : Nat} {z : List SV} {vs : List Value} (h0 : E0.Le E) (h : RHp E hp) (hle : E.Le E') (h' : RHp E' (pb hp (.box t z))) (hb : E'.blk E.n = b) (hz : z = vs.map ofC) :
  FlF E0 E'.w b t vs /\ (E0.flo E'.w b).Le ((E.dropTo E').flo E'.w b) /\ RHp ((E.dropTo E').flo E'.w b) hp := by
 have hl := h0.trans hle
 have hn := h.b.n
 have hlast : (pb hp (.box t z))[E.n]? = some (.box t z) := by rw [xCz, hn]; simp
 have hat : (Blk.box t z).at E' E.n = some b := by simp [Blk.at, hb]
 refine ⟨⟨?_, ?_, ?_, ?_, ?_, ?_, ?_, ?_⟩, ?_, h.drop hle h' hat⟩
 ·intro c hc hm; rw [<- hl.W]; exact h'.g.fr c (by rw [hl.W]; exact hc) (by rw [hl.M]; exact hm)
 ·intro a; rw [<- hl.W]; exact h'.g.fz a
 ·rw [<- hl.W]; exact h'.g.sz
 ·rw [<- hl.W]; exact h'.g.os
 ·rw [<- hl.W]; exact h'.g.tape
 ·rw [<- hl.W]; exact h'.g.output
 ·rw [<- hl.W, <- hl.M]; exact h'.b.base E.n _ b hlast hat
 ·obtain ⟨us, h1, h2⟩ := h'.b.blk E.n _ hlast
  rw [hb] at h2
  rw [h2]
  have : us = vs := by
   subst hz
   have go : ∀ (vs us : List Value), Rvs E' (vs.map ofC) us -> us = vs := by
    intro vs
    induction vs with
    | nil => intro us h; cases h; rfl
    | cons v vs ih =>
     intro us h
     cases h with
     | cons _ u _ us h3 h4 =>
      rw [ih us h4]
      congr 1
      cases v <;> simp only [ofC] at h3 <;> cases h3 <;> rfl
   exact go vs us h1
  rw [this]
 ·have eW : E'.W = E0.W := hl.W
  have eM : E'.M = E0.M := hl.M
  have eI : E'.im0 = E0.im0 := hl.im0
  refine ⟨h0.n, h0.has, hl.blk, hl.val, hl.live, hl.im, hl.mem, rfl, ?_, ?_, hl.df, hl.n0, hl.ok, h0.rs⟩
  ·show (fun c => (E'.W.heap.size <= c \/ E'.M c) /\ c ≠ b) = _
   rw [eW, eM]; rfl
  ·show (fun c => E'.im0 c /\ c ≠ b) = _
   rw [eI]; rfl
theorem xRg : ∀ {M : List SV} {d : Nat}, gt M d = .any -> st M d .any = M
 | [], _, _ => rfl
 | x :: t, 0, h => by simp only [gt] at h; simp [st, h]
 | x :: t, d + 1, h => by simp only [gt] at h; simp [st, xRg h]
theorem xFf {p q : Nat -> Bool} : ∀ {l : List (Nat × Opr × SV)} {fr : List SV}, (∀ i o x, (i, o, x) ∈ l -> p i = q i) -> mix p l fr = mix q l fr
 | [], fr, _ => rfl
 | (i, o, x) :: l, fr, h => by
  simp only [mix]
  rw [h i o x (List.mem_cons_self ..), xFf (fun i o x hm => h i o x (List.mem_cons_of_mem _ hm))]
theorem xPz {a : Act} {d : Option Nat} {v u : Value} {t : Nat} (h : d ≠ some t) : (a.put d v).tmps.toList.getD t u = a.tmps.toList.getD t u := by
 cases d with
 | none => rfl
 | some d =>
  have : d ≠ t := fun e => h (by rw [e])
  simp [Act.put, List.getD_eq_getElem?_getD, List.getElem?_set, this]
theorem xHm {a : Act} {v u : Value} {t : Nat} (h : t < a.tmps.toList.length) : (a.put (some t) v).tmps.toList.getD t u = v := by
 have h' : t < a.tmps.size := by simpa using h
 simp [Act.put, List.getD_eq_getElem?_getD, h']
section
variable {P : Program} {cl : Cl} {cq : Cq} (hcl : ClOk P cl) (hcq : CqOk P cq) {ops : Array Oper} {lo : List Opq} (hc : cops2 P ops ops.toList = some lo) (he : edgesOk ops.toList = true) {st' : Bool} {pp : Option (List Nat)} {h : Nat} {es cs : List Nat}
 (hd : drawOk2 (masks ops.toList []) lo h es cs = true) (hnd : es.Nodup) (hes : ∀ e ∈ es, e < h /\ e < ops.size) (hcs : cs.Nodup) (hcsh : ∀ c ∈ cs, c < h /\ c < ops.size)
 {n0 : Nat} {H : Nat -> List Blk} {B : Nat -> Option Blk} {fr0 fe : List SV} {xs : List SV}
 (hdat : Dat2 (P := P) cq n0 H B es.length ((lo.take h).zipIdx.map fun x => (x.1, kdOf st' pp cs es (masks ops.toList []) x.2)) 0 fr0 xs fe)
 (hH0 : ∀ j, j < cs.length -> n0 + j < ln (H 0) /\ gb (H 0) (n0 + j) = .dead)
include hcl hcq hc he hd hnd hes hcs hcsh hdat hH0 in
theorem xMh (hpp : pp = ppOf lo h es cs (masks ops.toList [])) {d t : Nat} {z : List SV} {zv : List Value} (hz : z = zv.map ofC) (hlf : lo[h]? = some ⟨some d, none, .o (.new t z)⟩) (hfree : ∀ o ∈ lo.take h, o.d ≠ some d) (hfd : gt fr0 d = .any)
    (hd1 : ∀ i, h + 1 <= i -> i < lo.length -> ∀ j, j < i -> ((masks ops.toList []).getD i 0).testBit j = true) {ro : Option Nat} {n : Nat} {Q : Exit -> Act -> World -> Prop} {E0 : Env} (hn0 : E0.n = n0) {dfs : List Deferred}
    (htail : ∀ (fuel : Nat) (lst : Array Bool) (E1 : Env) (a1 : Act), left lst <= fuel -> lst.size = ops.size -> Shut ops (LS lst) -> (∀ j, j < ops.size -> (LS lst j = true ↔ j < h + 1)) -> E0.Le E1 -> OkE P E1 ->
      RHp E1 (pb (fillL B n0 (allThere cs es (masks ops.toList []) es.length) (H es.length)) (.box t z)) -> Rvs E1 (st fe d (.ptr (ln (fillL B n0 (allThere cs es (masks ops.toList []) es.length) (H es.length))) 0)) a1.tmps.toList -> a1.defers = dfs ->
      wpAnyIn (fen ro) n P .any ops Q fuel lst a1 E1.w) :
    ∀ (fuel : Nat) (lst : Array Bool) (E1 : Env) (a1 : Act), left lst <= fuel -> lst.size = ops.size -> Shut ops (LS lst) ->
      ((LS lst h = false /\ Inv (P := P) (ops := ops) (es := es) (cs := cs) (n0 := n0) (H := H) (B := B) (fr0 := fr0) E0 E1 a1 dfs (LS lst) (ent st' pp lo ops h es cs xs)) \/
       (LS lst h = true /\ ∃ W' b, FlF E0 W' b t zv /\ Inv (P := P) (ops := ops) (es := es) (cs := cs) (n0 := n0) (H := H) (B := B) (fr0 := fr0) (E0.flo W' b) E1 a1 dfs (LS lst) (ent st' pp lo ops h es cs xs) /\
          (d < fr0.length -> a1.tmps.toList.getD d undef = .pointer (some ⟨b, 0, none⟩)))) ->
      (∀ j, h + 1 <= j -> LS lst j = false) -> wpAnyIn (fen ro) n P .any ops Q fuel lst a1 E1.w := by
  have hlen : lo.length = ops.size := by rw [xAy hc]; simp
  have hhs : h < ops.size := by rw [<- hlen]; exact (List.getElem?_eq_some_iff.1 hlf).1
  have hmem : ∀ {j o' x'}, (j, o', x') ∈ ent st' pp lo ops h es cs xs -> ∃ oj, lo[j]? = some oj /\ j < h /\ o' = oj.sh /\ oj ∈ lo.take h := by
    intro j o' x' hm
    obtain ⟨_, oj, kdj, e1, e2⟩ := xEt hm
    rw [Nat.sub_zero] at e1
    obtain ⟨e3, e4, _⟩ := xCo e1
    exact ⟨oj, e4, e3, e2, List.mem_of_getElem? (i := j) (by rw [List.getElem?_take, if_pos e3]; exact e4)⟩
  have hnoD : ∀ {L : Nat -> Bool}, gt (mix L (ent st' pp lo ops h es cs xs) fr0) d = .any := fun {L} => by
    rw [xDi (fun i o x hm => ?_)]; · exact hfd
    obtain ⟨oj, _, _, rfl, hm'⟩ := hmem hm
    exact hfree oj hm'
  have hne : h ∉ es := fun hm => Nat.lt_irrefl _ (hes h hm).1
  have hnc : h ∉ cs := fun hm => Nat.lt_irrefl _ (hcsh h hm).1
  have fin : ∀ (fuel : Nat) (lst : Array Bool) (E1 : Env) (a1 : Act) (W' : World) (b : Nat), left lst <= fuel -> lst.size = ops.size -> Shut ops (LS lst) -> FlF E0 W' b t zv ->
      Inv (P := P) (ops := ops) (es := es) (cs := cs) (n0 := n0) (H := H) (B := B) (fr0 := fr0) (E0.flo W' b) E1 a1 dfs (LS lst) (ent st' pp lo ops h es cs xs) -> (d < fr0.length -> a1.tmps.toList.getD d undef = .pointer (some ⟨b, 0, none⟩)) ->
      (∀ j, h + 1 <= j -> LS lst j = false) -> (∀ i, i < h + 1 -> i < ops.size -> LS lst i = true) -> wpAnyIn (fen ro) n P .any ops Q fuel lst a1 E1.w := by
    intro fuel lst E1 a1 W' b hleft hsz hs F hv hptr hno hall
    have hmx : mix (LS lst) (ent st' pp lo ops h es cs xs) fr0 = fe := by
      rw [xGq (s := 0) hdat]
      exact xFf fun i o x hm => by
        obtain ⟨oj, e1, e2, _⟩ := hmem hm
        refine hall i (by omega) ?_
        rw [<- hlen]; exact (List.getElem?_eq_some_iff.1 e1).1
    have hk : es.countP (LS lst) = es.length := List.countP_eq_length.2 fun e hm => hall e (Nat.lt_succ_of_lt (hes e hm).1) (hes e hm).2
    have hHP : HPL ops es cs n0 H B (LS lst) = fillL B n0 (allThere cs es (masks ops.toList []) es.length) (H es.length) := by
      unfold HPL
      rw [hk, xAn]
      congr 1
      exact xCj fun c hcm _ => hall c (Nat.lt_succ_of_lt (hcsh c hcm).1) (hcsh c hcm).2
    have hr := hv.hr
    rw [hHP] at hr
    obtain ⟨h1, h2, h3⟩ := RHp.adopt (z := z) F hv.le hr (fun E => by rw [hz]; exact xBo E zv)
    have hF := hv.hF.mono0 h3
    rw [hmx] at hF
    refine htail fuel lst (E1.adp E0 b) a1 hleft hsz hs (fun j hj => ⟨fun hj' => ?_, fun hj' => hall j hj' hj⟩) h1 (show OkE P (E1.adp E0 b) from (hv.ok : E1.ok = _)) h2 ?_ hv.df
    . rcases Nat.lt_or_ge j (h + 1) with h1 | h1
      . exact h1
      . have := hno j h1; rw [hj'] at this; cases this
    . refine xCc.2 ⟨by rw [xEa]; exact (xCc.1 hF).1, fun t' ht' => ?_⟩
      rw [xFt]
      split
      . rename_i hdt
        obtain ⟨rfl, hlt⟩ := hdt
        have hl0 : d < fr0.length := by rw [<- hmx, xBg] at hlt; exact hlt
        rw [hptr hl0]
        have hbn : ln (fillL B n0 (allThere cs es (masks ops.toList []) es.length) (H es.length)) = E1.n := by rw [xBn]; exact hr.b.n.symm
        rw [hbn]
        have := Rv.ptr (E := E1.adp E0 b) E1.n 0 ⟨Nat.lt_succ_self _, fun h => Nat.lt_irrefl _ h.1⟩
        have hblk : (E1.adp E0 b).blk E1.n = b := by simp [Env.adp]
        rw [hblk] at this; exact this
      . exact hF.gt t'
  intro fuel
  induction fuel with
  | zero =>
    intro lst E1 a1 hleft hsz hs hv hno
    have hall : ∀ i, i < ops.size -> LS lst i = true := fun i hi => by rw [LS, <- xBh (by omega)]; exact xCm (by omega) i
    rcases hv with ⟨hf, _⟩ | ⟨_, W', b, F, hv, hptr⟩
    . rw [hall h hhs] at hf; cases hf
    . exact fin 0 lst E1 a1 W' b hleft hsz hs F hv hptr hno fun i _ hi => hall i hi
  | succ fuel ih =>
    intro lst E1 a1 hleft hsz hs hv hno
    by_cases hall : ∀ i, i < h + 1 -> i < ops.size -> LS lst i = true
    . rcases hv with ⟨hf, _⟩ | ⟨_, W', b, F, hv, hptr⟩
      . rw [hall h (Nat.lt_succ_self _) hhs] at hf; cases hf
      . exact fin (fuel + 1) lst E1 a1 W' b hleft hsz hs F hv hptr hno hall
    . have hex : ∃ i, i < h + 1 /\ i < ops.size /\ LS lst i = false := by
        apply Classical.byContradiction
        intro hc'
        refine hall fun i h1 h2 => ?_
        cases hv : LS lst i
        . exact absurd ⟨i, h1, h2, hv⟩ hc'
        . rfl
      constructor
      . intro hnil
        obtain ⟨i, h1, h2, h3⟩ := hex
        obtain ⟨j, _, hj⟩ := xAk hsz he i h2 (by rw [xBh (by omega)]; exact h3)
        rw [hnil] at hj; cases hj
      . intro i hi
        obtain ⟨h1, h2, h3, h4, h5, h6⟩ := xAd hsz hs hi
        have hih : i < h + 1 := by
          rcases Nat.lt_or_ge i (h + 1) with h7 | h7
          . exact h7
          . obtain ⟨i', h8, h9, h10⟩ := hex
            have := h3 i' (hd1 i h7 (by rw [hlen]; exact h1) i' (by omega))
            rw [h10] at this; cases this
        have hno' : ∀ j, h + 1 <= j -> LS (lst.setIfInBounds i true) j = false := fun j hj => by rw [h5, hno j hj, Bool.or_false]; simp; omega
        rcases Nat.lt_or_ge i h with hlt | hge
        . -- one of the other heads
          have hsame : LS (lst.setIfInBounds i true) h = LS lst h := by rw [h5]; simp; omega
          rcases hv with ⟨hf, hv⟩ | ⟨hf, W', b, F, hv, hptr⟩
          . exact xDt hcl hcq hc he hd hnd hes hcs hcsh hdat hH0 hpp hn0 hsz hs hi hlt hv fun E' a' hv' _ =>
              ih _ E' a' (by omega) (by simpa using hsz) h4 (.inl ⟨by rw [hsame]; exact hf, hv'⟩) hno'
          . refine xDt hcl hcq hc he hd hnd hes hcs hcsh hdat hH0 hpp (E0 := E0.flo W' b) hn0 hsz hs hi hlt hv fun E' a' hv' hput =>
              ih _ E' a' (by omega) (by simpa using hsz) h4 (.inr ⟨by rw [hsame]; exact hf, W', b, F, hv', fun hdl => ?_⟩) hno'
            obtain ⟨o, v, ho, rfl⟩ := hput
            rw [xPz (hfree o (List.mem_of_getElem? (i := i) (by rw [List.getElem?_take, if_pos hlt]; exact ho)))]
            exact hptr hdl
        . -- the new variable
          have hih : i = h := by omega
          subst hih
          rcases hv with ⟨hf, hv⟩ | ⟨hf, _⟩
          . obtain ⟨o, ho, hco, hod, hog⟩ := xBr hc i ops[i] (by simp [h1])
            rw [hlf] at ho; cases ho
            refine xCa (b := true) (by simp [h1]) hco hod hog hv.hF hv.hr hv.ok rfl (fun hb => by cases hb) (fun _ => ?_)
            have hev : evh (noG P) ⟨mix (LS lst) (ent st' pp lo ops i es cs xs) fr0, HPL ops es cs n0 H B (LS lst)⟩ (fun y hq => y = .ptr (ln (HPL ops es cs n0 H B (LS lst))) 0 /\ hq = pb (HPL ops es cs n0 H B (LS lst)) (.box t z)) (.new t z) := ⟨rfl, rfl⟩
            refine ⟨_, _, OpOk.of_evh (c2_c1 (hco.c2 rfl)) hev, fun E' v hle hr hyv => ?_⟩
            obtain ⟨_, rfl⟩ := hyv.ptrE
            have hE1n : ln (HPL ops es cs n0 H B (LS lst)) = E1.n := by rw [xBn]; exact hv.hr.b.n.symm
            rw [hE1n]
            obtain ⟨F, f1, f2⟩ := xOe (b := E'.blk E1.n) hv.le hv.hr hle hr rfl hz
            rw [<- hod]
            have hLi : (fun j => j == i || LS lst j) = LS (lst.setIfInBounds i true) := funext fun j => (h5 j).symm
            have hmx : mix (LS (lst.setIfInBounds i true)) (ent st' pp lo ops i es cs xs) fr0 = mix (LS lst) (ent st' pp lo ops i es cs xs) fr0 := xFf fun j o x hm => by
              obtain ⟨_, _, hj, _⟩ := hmem hm
              rw [h5]; simp; omega
            have hnew : (E1.dropTo E').flo E'.w (E'.blk E1.n) = (E1.dropTo E').flo E'.w (E'.blk E1.n) := rfl
            refine ih _ ((E1.dropTo E').flo E'.w (E'.blk E1.n)) _ (by omega) (by simpa using hsz) h4 (.inr ⟨by rw [h5]; simp, E'.w, E'.blk E1.n, F, ⟨?_, ?_, ?_, f1, by rw [xAm]; exact hv.df, ?_⟩, fun hdl => ?_⟩) hno'
            . rw [hmx, <- xRg (hnoD (L := LS lst))]
              have hF : Rvs ((E1.dropTo E').flo E'.w (E'.blk E1.n)) (mix (LS lst) (ent st' pp lo ops i es cs xs) fr0) a1.tmps.toList := Rvs.via xLd hv.hF (hv.hF.mono hle)
              exact xAx (d := some d) hF (.any _)
            . rw [<- hLi, xLc hne hnc]; exact f2
            . exact (hv.ok.le hle : E'.ok = _)
            . intro j c hj hcl'
              rw [h5, Bool.or_eq_false_iff] at hcl'
              exact hv.fr j c hj hcl'.2
            . refine xHm ?_
              have := (xCc.1 hv.hF).1
              rw [xBg] at this; rw [<- this]; exact hdl
          . rw [h2] at hf; cases hf
end
theorem xRh : ∀ {fr : List SV} {d : Nat}, fr.length <= d -> gt fr d = .any
 | [], _, _ => rfl
 | _ :: _, 0, h => by simp at h
 | _ :: t, d + 1, h => by simpa [gt] using xRh (fr := t) (by simpa using h)
theorem xSl {P : Program} {cl : Cl} (hcl : ClOk P cl) {cq : Cq} (hcq : CqOk P cq) {ops : Array Oper} {sh cs0 : List Nat} {m ne : Nat} {hs : List (Opq × Kd)} {tl : List Opq} {ps : List Drp} (hsc : cdraw2 P ops = some (.drw ps)) {d : Nat} (hmem : ⟨sh, m, ne, hs, cs0, tl, some d⟩ ∈ ps)
    {α : Type} {fr : List SV} {h : HT} {hp : List Blk} (r : HRel h hp) {kk : List SV -> HT -> Option α} {res : α} {frF : List SV} {hF : HT} (hfin : ∀ fr h, kk fr h = some res -> fr = frF /\ h = hF)
    (e : shB (st fr d .any) sh h (fun h => resv m h fun h1 => hdB cl cq h.n ne cs0 hs (st fr d .any) h1 [h1] [] fun fr h => opsB cl tl fr h kk) = some res) :
    ∃ hp', HRel hF hp' /\ Frm h hF /\ ∀ (E : Env) (a : Act) (ro : Option Nat) (n : Nat) (Q : Exit -> Act -> World -> Prop) (id : Nat), OkE P E -> RHp E hp -> Rvs E fr a.tmps.toList ->
      (∀ E' a', E.Le E' -> RHp E' hp' -> Rvs E' frF a'.tmps.toList -> a'.defers = a.defers -> Q .normal a' E'.w) -> (Code.region id ops true).wpIn (fen ro) n P Q a E.w := by
  unfold cdraw2 at hsc
  split at hsc
  . cases hsc
  rename_i lo hc
  split at hsc
  . rename_i hfe
    simp only [Bool.and_eq_true] at hfe
    obtain ⟨hm, he⟩ := hfe
    have hq : ∃ st q, cdrawF P ops lo st q = some ⟨sh, m, ne, hs, cs0, tl, some d⟩ := by
      split at hsc
      . cases hsc
      . rename_i ps' _
        cases hsc
        rcases xEb hmem with ⟨st, q, h⟩ | h
        . have h := xOd h; cases h
        . exact h
    obtain ⟨st', q, hq⟩ := hq
    unfold cdrawF at hq
    simp only at hq
    generalize hh : headLen (masks ops.toList []) = hd0 at hq
    cases hd0 with
    | zero => cases hq
    | succ hd =>
    simp only at hq
    split at hq <;> first | (cases hq; done) | skip
    rename_i d' hd'
    generalize hfr' : Vg.st fr d .any = frB at e
    generalize hes : ixs2 (fun o i => effq q i o.o) lo hd = es at hq
    generalize hcs : ixs2 (fun o i => creq q i o.o) lo hd = cs at hq
    split at hq
    . rename_i hdo
      simp only [Bool.and_eq_true] at hdo
      obtain ⟨hdt, hdo, hfree⟩ := hdo
      cases hq
      subst hfr'
      have hfree' : ∀ o ∈ lo.take hd, o.d ≠ some d := fun o ho e => by
        have := List.all_eq_true.1 hfree o ho
        simp [e] at this
      obtain ⟨of, hof, hnw⟩ := Option.bind_eq_some_iff.1 hd'
      obtain ⟨t, z, rfl⟩ : ∃ t z, of = ⟨some d, none, .o (.new t z)⟩ := by
        obtain ⟨a1, a2, a3⟩ := of
        unfold newD at hnw
        split at hnw
        . rename_i t z g1 g2
          have g1 : a2 = none := g1
          have g2 : a3 = .o (.new t z) := g2
          have hnw : a1 = some d := hnw
          subst g1; subst g2; subst hnw
          exact ⟨t, z, rfl⟩
        . cases hnw
      obtain ⟨zv, hzv⟩ : ∃ zv : List Value, z = zv.map ofC := by
        have h1 : hd < ops.size := by
          have := (List.getElem?_eq_some_iff.1 hof).1
          rw [xAy hc] at this; simpa using this
        obtain ⟨o, ho, hco, _, _⟩ := xBr hc hd ops[hd] (by simp [h1])
        rw [hof] at ho; cases ho
        have hc1 := c2_c1 (hco.c2 rfl)
        unfold c1 at hc1
        split at hc1
        . cases hc1
        . split at hc1
          case h_1 t' ho =>
            obtain ⟨z', hz, h0⟩ := Option.map_eq_some_iff.1 hc1
            cases h0
            unfold zcells at hz
            split at hz
            . split at hz
              . rename_i zv _; cases hz; exact ⟨_, rfl⟩
              . cases hz
            . cases hz
          all_goals (repeat' split at hc1) <;> first | (cases hc1; done) | (obtain ⟨_, _, h0⟩ := Option.map_eq_some_iff.1 hc1; cases h0; done)
      have hlen : lo.length = ops.size := by rw [xAy hc]; simp
      have hes1 : ∀ e ∈ es, e < hd /\ e < ops.size := fun e hm => by rw [<- hes] at hm; rw [<- hlen]; exact xEm hm
      have hcs1 : ∀ e ∈ cs, e < hd /\ e < ops.size := fun e hm => by rw [<- hcs] at hm; rw [<- hlen]; exact xEm hm
      have hnd : es.Nodup := hes ▸ xCx _ _ _
      have hnc : cs.Nodup := hcs ▸ xCx _ _ _
      have hd1 := xCv hdt
      obtain ⟨h1, r1, f1, e⟩ := xFe r e
      obtain ⟨h2, e2, r2, f2⟩ := xEl cs.length r1 (fun h1' => hdB cl cq h1.n es.length (allThere cs es (masks ops.toList []) es.length) ((lo.take hd).zipIdx.map fun x => (x.1, kdOf st' (ppOf lo hd es cs (masks ops.toList [])) cs es (masks ops.toList []) x.2)) (Vg.st fr d .any) h1' [h1'] [] fun fr h => opsB cl (lo.drop hd) fr h kk)
      have e3 := e2.symm.trans e
      obtain ⟨hps', cb', xs, fe, hT, hE, hpE, a1, a2, a3, a4, a5, a6, a7, a8, a9⟩ := xKc (P := P) hcl e3 [] rfl [resvH cs.length (shutH (Vg.st fr d .any) _ hp)] rfl (fun i x hx => by
        cases i with
        | zero => simp at hx; subst hx; exact ⟨_, rfl, r2⟩
        | succ i => simp at hx)
      have hH0 : hps'.getD 0 [] = resvH cs.length (shutH (Vg.st fr d .any) (if (lo.any isSlq || !q.isEmpty) = true then liveIn lo else []) hp) := by rw [List.getD_eq_getElem?_getD, a1 0 _ rfl]; rfl
      have hl1 : h1.n = ln (shutH (Vg.st fr d .any) (if (lo.any isSlq || !q.isEmpty) = true then liveIn lo else []) hp) := r1.n
      have hH0' : ∀ j, j < cs.length -> h1.n + j < ln (hps'.getD 0 []) /\ gb (hps'.getD 0 []) (h1.n + j) = .dead := fun j hj => by
        rw [hH0, xHf, xHg, <- hl1, if_neg (by omega)]
        exact ⟨by omega, rfl⟩
      have htl : ∃ hpF, HRel hF hpF /\ Frm hT hF := by
        have hct : ∀ (k : Nat) (l : List Oper) (lo' : List Opq), cops2 P ops l = some lo' -> cops2 P ops (l.drop k) = some (lo'.drop k) := by
          intro k
          induction k with
          | zero => intro l lo' h; simpa using h
          | succ k ih =>
            intro l lo' h
            cases l with
            | nil => simp [cops2] at h; subst h; simp [cops2]
            | cons x l =>
              simp only [cops2] at h
              split at h
              . rename_i g1 g2 g3; cases h; simpa using ih l _ g2
              . cases h
        obtain ⟨fr', h', hp', r', hf', hk', _⟩ := xEv hcl _ _ (hct hd _ _ hc) a6 a9
        obtain ⟨rfl, rfl⟩ := hfin _ _ hk'
        exact ⟨hp', r', hf'⟩
      obtain ⟨hpF, rF, fF⟩ := htl
      refine ⟨hpF, rF, (f1.trans f2).trans (a8.trans fF), fun E a ro n Q id hok hr hfr hq => ?_⟩
      have hfrB : Rvs E (Vg.st fr d .any) a.tmps.toList := xCc.2 ⟨by rw [xEa]; exact (xCc.1 hfr).1, fun t' _ => by
        rw [xFt]; split
        . exact .any _
        . exact hfr.gt t'⟩
      have hanyB : gt (Vg.st fr d .any) d = .any := by
        rw [xFt]; split
        . rfl
        . rename_i hnd; rcases Nat.lt_or_ge d fr.length with h1 | h1
          . exact absurd ⟨rfl, h1⟩ hnd
          . exact xRh h1
      obtain ⟨E1, c1, hr1⟩ := xEq (if (lo.any isSlq || !q.isEmpty) = true then liveIn lo else []) hr hfrB
      rw [<- c1.w]
      have hok1 := hok.le c1.le
      have hfr1 := hfrB.mono c1.le
      refine wpIn_region_any hm ?_
      have hE2 : E1.Le (E1.to { E1.w with drawn := E1.w.drawn + 1 }) := Env.to_le fun b hb => rfl
      have hr2 : RHp (E1.to { E1.w with drawn := E1.w.drawn + 1 }) (shutH (Vg.st fr d .any) (if (lo.any isSlq || !q.isEmpty) = true then liveIn lo else []) hp) :=
        ⟨⟨hr1.g.fr, hr1.g.fz, hr1.g.sz, hr1.g.os, hr1.g.tape, hr1.g.output, hr1.g.imb, hr1.g.im0⟩,
         ⟨hr1.b.n, hr1.b.rs, fun l b hb => (hr1.b.blk l b hb).keep hE2 (hr1.has hb) (fun g _ => rfl), hr1.b.live, hr1.b.imx, hr1.b.base, hr1.b.dj⟩⟩
      obtain ⟨E3, hE3, hw3, hr3, hrs3⟩ := hr2.resv cs.length
      have hn0 : (E1.to { E1.w with drawn := E1.w.drawn + 1 }).n = h1.n := by rw [hl1, xBn]; exact hr2.b.n
      have hLf : LS (Array.replicate ops.size false) = fun _ => false := by
        funext j
        simp only [LS, Array.getD_eq_getD_getElem?, Array.getElem?_replicate]
        split <;> rfl
      have h0 : left (Array.replicate ops.size false) <= ops.size := by
        unfold left; rw [Array.toList_replicate]; simp
      have hHP0 : HPL ops es cs h1.n (fun i => hps'.getD i []) (nthB cb') (fun _ => false) = resvH cs.length (shutH (Vg.st fr d .any) (if (lo.any isSlq || !q.isEmpty) = true then liveIn lo else []) hp) := by
        unfold HPL
        have k0 : es.countP (fun _ => false) = 0 := by simp
        rw [k0]
        have : sel cs es (masks ops.toList []) 0 (fun _ => false) = [] := by
          apply List.eq_nil_iff_forall_not_mem.2
          intro j hj
          obtain ⟨_, _, _, h⟩ := xAh.1 hj; cases h
        rw [this]; exact hH0
      have hmx : mix (fun _ => false) (ent st' (ppOf lo hd es cs (masks ops.toList [])) lo ops hd es cs xs) (Vg.st fr d .any) = Vg.st fr d .any := by
        have := xAz (p := fun _ => false) [] (ent st' (ppOf lo hd es cs (masks ops.toList [])) lo ops hd es cs xs) (Vg.st fr d .any) (fun _ _ _ hm => by cases hm) (fun _ _ _ _ => rfl)
        simpa [mix] using this
      have hEE := c1.le.trans hE2
      show wpAnyIn (fen ro) n P .any ops Q ops.size (Array.replicate ops.size false) a (E1.to { E1.w with drawn := E1.w.drawn + 1 }).w
      rw [<- hw3]
      have hdrop : lo.drop hd = ⟨some d, none, .o (.new t z)⟩ :: lo.drop (hd + 1) := by
        have hlt : hd < lo.length := (List.getElem?_eq_some_iff.1 hof).1
        rw [List.drop_eq_getElem_cons hlt, (List.getElem?_eq_some_iff.1 hof).2]
      rw [hdrop] at a9
      obtain ⟨b, hg, _, htr⟩ := xDj a9
      cases hg
      have a9' := htr rfl
      simp only [evX, evO, HT.push_eq, nrm, putf] at a9'
      refine xMh hcl hcq hc he hdo hnd hes1 hnc hcs1 a3 hH0' rfl hzv hof hfree' hanyB (xCv hdt) (E0 := E1.to { E1.w with drawn := E1.w.drawn + 1 }) hn0 (dfs := a.defers) ?_ ops.size _ E3 a h0 (by simp) ?_ (.inl ⟨by rw [hLf], ⟨?_, ?_, (hok1.le hE2).le hE3, hE3, rfl, fun j c hj _ => ?_⟩⟩) (fun j _ => by rw [hLf])
      . intro fuel lst E4 a4 hleft hsz hs hk hle4 hok4 hr4 hf4 hdf4
        have a5' : hps'.getD es.length [] = hpE := a5
        have hnn : hT.n = ln (fillL (nthB cb') h1.n (allThere cs es (masks ops.toList []) es.length) hpE) := a6.n
        refine xIl hcl hc he (hd := hd + 1) (fun i hi hlt j hj => xCv hdt i hi (by rw [hlen]; exact hlt) j hj) hfin rF E a.defers hq fuel lst 0 E4 (Vg.st fe d (.ptr hT.n 0)) _ _ a4 hleft hsz hs hk (hEE.trans hle4) hok4 (a6.push (.box t z)) (by
          simp only [a5'] at hr4; exact hr4) (by rw [hnn]; simp only [a5'] at hf4; exact hf4) hdf4 (by simpa using a9')
      . intro k o _ hk; rw [hLf] at hk; cases hk
      . rw [hLf, hmx]; exact hfr1.mono (hE2.trans hE3)
      . rw [hLf, hHP0]; exact hr3
      . have := hrs3 j (List.getElem?_eq_some_iff.1 hj).1
        rw [hn0] at this; exact this
    . cases hq
  . cases hsc
theorem xOf {P : Program} {cl : Cl} (hcl : ClOk P cl) {cq : Cq} (hcq : CqOk P cq) {ops : Array Oper} {sh cs0 : List Nat} {m ne : Nat} {hs : List (Opq × Kd)} {tl : List Opq} {fl : Option Nat} {ps : List Drp} (hsc : cdraw2 P ops = some (.drw ps)) (hmem : ⟨sh, m, ne, hs, cs0, tl, fl⟩ ∈ ps)
  {α : Type} {fr : List SV} {h : HT} {hp : List Blk} (r : HRel h hp) {kk : List SV -> HT -> Option α} {res : α} {frF : List SV} {hF : HT} (hfin : ∀ fr h, kk fr h = some res -> fr = frF /\ h = hF)
  (e : blK fr fl (fun fr => shB fr sh h (fun h => resv m h fun h1 => hdB cl cq h.n ne cs0 hs fr h1 [h1] [] fun fr h => opsB cl tl fr h kk)) = some res) :
  ∃ hp', HRel hF hp' /\ Frm h hF /\ ∀ (E : Env) (a : Act) (ro : Option Nat) (n : Nat) (Q : Exit -> Act -> World -> Prop) (id : Nat), OkE P E -> RHp E hp -> Rvs E fr a.tmps.toList ->
   (∀ E' a', E.Le E' -> RHp E' hp' -> Rvs E' frF a'.tmps.toList -> a'.defers = a.defers -> Q .normal a' E'.w) -> (Code.region id ops true).wpIn (fen ro) n P Q a E.w := by
 cases fl with
 | none => exact drw_ok hcl hcq hsc hmem r hfin e
 | some d => exact xSl hcl hcq hsc hmem r hfin (by simp only [blK, xGj] at e; exact e)
end Go.Vg
end
