import Derived.Test.YtgdihdiadlmjiaaVgR9
set_option linter.all false
namespace Go.Vg
open Go
theorem xRs {cs : List Nat} {p : Nat -> Bool} {j : Nat} : j ∈ (cs.zipIdx.filter fun x => p x.1).map (·.2) ↔ ∃ c, cs[j]? = some c /\ p c = true := by
 simp only [List.mem_map, List.mem_filter]
 constructor
 ·rintro ⟨⟨c, j'⟩, ⟨h1, h2⟩, rfl⟩
  exact ⟨c, by simpa using List.mem_zipIdx_iff_getElem?.1 h1, h2⟩
 ·rintro ⟨c, h1, h2⟩
  exact ⟨(c, j), ⟨List.mem_zipIdx_iff_getElem?.2 (by simpa using h1), h2⟩, rfl⟩
def sel (cs es ms : List Nat) (k : Nat) (p : Nat -> Bool) : List Nat := (cs.zipIdx.filter fun x => (cntIn es (ms.getD x.1 0) == k && p x.1)).map (·.2)
theorem xAh {cs es ms : List Nat} {k : Nat} {p : Nat -> Bool} {j : Nat} : j ∈ sel cs es ms k p ↔ ∃ c, cs[j]? = some c /\ cntIn es (ms.getD c 0) = k /\ p c = true := by
 unfold sel
 rw [xRs (p := fun c => cntIn es (ms.getD c 0) == k && p c)]
 simp
theorem xMw (cs es ms : List Nat) (k m : Nat) : there cs es ms k m = sel cs es ms k (fun c => m.testBit c) := rfl
theorem xAn (cs es ms : List Nat) (k : Nat) : allThere cs es ms k = sel cs es ms k (fun _ => true) := by
 unfold allThere sel
 simp
theorem xCj {cs es ms : List Nat} {k : Nat} {p q : Nat -> Bool} (h : ∀ c ∈ cs, cntIn es (ms.getD c 0) = k -> p c = q c) : sel cs es ms k p = sel cs es ms k q := by
 unfold sel
 congr 1
 apply List.filter_congr
 rintro ⟨c, j⟩ hm
 have hc : c ∈ cs := List.mem_of_getElem? (List.mem_zipIdx_iff_getElem?.1 hm)
 by_cases hk : cntIn es (ms.getD c 0) = k
 ·simp [h c hc hk]
 ·simp only [beq_eq_false_iff_ne.2 hk, Bool.false_and]
theorem xEg {B : Nat -> Option Blk} {n0 : Nat} {js1 js2 : List Nat} {hp : List Blk} (hs : ∀ j ∈ js1, j ∈ js2) (h2 : ∀ j ∈ js2, n0 + j < ln hp /\ (∃ b, B j = some b) /\ gb hp (n0 + j) = .dead) :
  Ext (gb (fillL B n0 js1 hp)) (gb (fillL B n0 js2 hp)) := by
 have l1 : ∀ j ∈ js1, n0 + j < ln hp := fun j hj => (h2 j (hs j hj)).1
 have l2 : ∀ j ∈ js2, n0 + j < ln hp := fun j hj => (h2 j hj).1
 intro l hl
 by_cases h1 : ∃ j ∈ js1, n0 + j = l
 ·obtain ⟨j, hj, rfl⟩ := h1
  obtain ⟨_, ⟨b, hb⟩, _⟩ := h2 j (hs j hj)
  rw [xBj hj hb l1, xBj (hs j hj) hb l2]
 ·have h1' : ∀ j ∈ js1, n0 + j ≠ l := fun j hj e => h1 ⟨j, hj, e⟩
  rw [xAp h1' l1] at hl ⊢
  by_cases h3 : ∃ j ∈ js2, n0 + j = l
  ·obtain ⟨j, hj, rfl⟩ := h3
   exact absurd (h2 j hj).2.2 hl
  ·rw [xAp (fun j hj e => h3 ⟨j, hj, e⟩) l2]
def mkl : Nat -> List (Opq × Kd) -> List SV -> List (Nat × Opr × SV)
 | s, (o, _) :: t, x :: xs => (s, o.sh, x) :: mkl (s + 1) t xs
 | _, _, _ => []
section
variable {P : Program} {cq : Cq} {n0 : Nat} {H : Nat -> List Blk} {B : Nat -> Option Blk} {ne : Nat}
theorem xGp : ∀ {t : List (Opq × Kd)} {c : Nat} {fr : List SV} {xs : List SV} {fe : List SV}, Dat2 (P := P) cq n0 H B ne t c fr xs fe -> t.length = xs.length
 | [], c, fr, xs, fe, h => by obtain ⟨rfl, _⟩ := h; rfl
 | (o, kd) :: t, c, fr, xs, fe, h => by obtain ⟨x, xs', rfl, _, h⟩ := h; simp [xGp h]
theorem xGq : ∀ {t : List (Opq × Kd)} {c s : Nat} {fr : List SV} {xs : List SV} {fe : List SV}, Dat2 (P := P) cq n0 H B ne t c fr xs fe -> fe = mix (fun _ => true) (mkl s t xs) fr
 | [], c, s, fr, xs, fe, h => by obtain ⟨rfl, rfl, _⟩ := h; rfl
 | (o, kd) :: t, c, s, fr, xs, fe, h => by
  obtain ⟨x, xs', rfl, _, h⟩ := h
  simp only [mkl, mix, if_true]
  exact xGq h
theorem xEt : ∀ {t : List (Opq × Kd)} {s : Nat} {xs : List SV} {i : Nat} {o' : Opr} {x : SV}, (i, o', x) ∈ mkl s t xs -> s <= i /\ ∃ o kd, t[i - s]? = some (o, kd) /\ o' = o.sh
 | [], s, xs, i, o', x, h => by simp [mkl] at h
 | (o, kd) :: t, s, [], i, o', x, h => by simp [mkl] at h
 | (o, kd) :: t, s, y :: xs, i, o', x, h => by
  simp only [mkl, List.mem_cons, Prod.mk.injEq] at h
  rcases h with ⟨rfl, rfl, rfl⟩ | h
  ·exact ⟨Nat.le_refl _, o, kd, by simp, rfl⟩
  ·obtain ⟨h1, o2, kd2, h2, h3⟩ := xEt h
   refine ⟨by omega, o2, kd2, ?_, h3⟩
   rw [show i - s = (i - (s + 1)) + 1 by omega]; simpa using h2
theorem xGr : ∀ {t : List (Opq × Kd)} {s : Nat} {xs : List SV} {i : Nat} {o : Opq} {kd : Kd}, t.length = xs.length -> t[i]? = some (o, kd) -> ∃ x, (s + i, o.sh, x) ∈ mkl s t xs
 | [], s, xs, i, o, kd, _, h => by simp at h
 | (o, kd) :: t, s, [], i, _, _, hl, _ => by simp at hl
 | (o1, kd1) :: t, s, y :: xs, 0, o, kd, hl, h => by simp at h; obtain ⟨rfl, rfl⟩ := h; exact ⟨y, by simp [mkl]⟩
 | (o1, kd1) :: t, s, y :: xs, i + 1, o, kd, hl, h => by
  obtain ⟨x, hx⟩ := xGr (s := s + 1) (xs := xs) (by simpa using hl) (by simpa using h)
  exact ⟨x, by simp only [mkl]; rw [show s + (i + 1) = s + 1 + i by omega]; exact List.mem_cons_of_mem _ hx⟩
theorem xGs : ∀ {t : List (Opq × Kd)} {s : Nat} {xs : List SV}, ((mkl s t xs).map (·.1)).Pairwise (· < ·)
 | [], s, xs => by simp [mkl]
 | (o, kd) :: t, s, [] => by simp [mkl]
 | (o, kd) :: t, s, y :: xs => by
  simp only [mkl, List.map_cons, List.pairwise_cons]
  refine ⟨fun i hi => ?_, xGs⟩
  obtain ⟨⟨i', o', x⟩, h1, rfl⟩ := List.mem_map.1 hi
  have := (xEt h1).1
  simp only; omega
theorem xDr : ∀ {t : List (Opq × Kd)} {c s : Nat} {fr : List SV} {xs : List SV} {fe : List SV}, Dat2 (P := P) cq n0 H B ne t c fr xs fe -> ∀ {l1 l2 : List (Nat × Opr × SV)} {i : Nat} {o' : Opr} {x : SV}, mkl s t xs = l1 ++ (i, o', x) :: l2 ->
  s <= i /\ ∃ o kd c', t[i - s]? = some (o, kd) /\ o' = o.sh /\ StepD (P := P) cq n0 H B c' (mix (fun _ => true) l1 fr) o kd x
 | [], c, s, fr, xs, fe, h, l1, l2, i, o', x, e => by obtain ⟨rfl, _⟩ := h; simp [mkl] at e
 | (o, kd) :: t, c, s, fr, xs, fe, h, [], l2, i, o', x, e => by
  obtain ⟨y, xs', rfl, hs, h⟩ := h
  simp only [mkl, List.nil_append, List.cons.injEq, Prod.mk.injEq] at e
  obtain ⟨⟨rfl, rfl, rfl⟩, _⟩ := e
  exact ⟨Nat.le_refl _, o, kd, c, by simp, rfl, by simpa [mix] using hs⟩
 | (o, kd) :: t, c, s, fr, xs, fe, h, z :: l1, l2, i, o', x, e => by
  obtain ⟨y, xs', rfl, hs, h⟩ := h
  simp only [mkl, List.cons_append, List.cons.injEq] at e
  obtain ⟨rfl, e⟩ := e
  obtain ⟨h1, o2, kd2, c', h2, h3, h4⟩ := xDr h e
  refine ⟨by omega, o2, kd2, c', ?_, h3, by simp only [mix, if_true]; exact h4⟩
  rw [show i - s = (i - (s + 1)) + 1 by omega]; simpa using h2
def Kept (nc : Nat) (fr : List SV) (ps : List Nat) (n0 : Nat) (H : Nat -> List Blk) (B : Nat -> Option Blk) (c : Nat) (js : List Nat) : Prop :=
 ∀ l, l < ln (H c) -> (∀ j, j < nc -> l ≠ n0 + j) -> inP fr l ps = false -> gb (H (c + 1)) l = gb (fillL B n0 js (H c)) l
theorem xIh {fr fr' : List SV} {l : Nat} : ∀ {ps : List Nat}, (∀ p ∈ ps, gt fr p = gt fr' p) -> inP fr l ps = inP fr' l ps
 | [], _ => rfl
 | p :: t, h => by
  simp only [inP, h p (List.mem_cons_self ..), xIh (ps := t) (fun q hq => h q (List.mem_cons_of_mem _ hq))]
theorem xMx {fr : List SV} {l : Nat} : ∀ {ps : List Nat}, inP fr l ps = false -> ∀ p ∈ ps, ∃ l' off, gt fr p = .ptr l' off /\ l ≠ l'
 | [], _, p, hp => by cases hp
 | q :: t, h, p, hp => by
  simp only [inP] at h
  split at h <;> first | (cases h; done) | skip
  rename_i l' off hq
  split at h <;> first | (cases h; done) | skip
  rename_i hne
  cases hp with
  | head => exact ⟨l', off, hq, fun e => by rw [e, Nat.beq_refl] at hne; cases hne⟩
  | tail _ hp => exact xMx h p hp
def Trn (st : Bool) (n0 : Nat) (H : Nat -> List Blk) (B : Nat -> Option Blk) (c : Nat) (js ls : List Nat) : Prop :=
 (∀ j ∈ js, n0 + j < ln (H c) /\ ∃ b, B j = some b) /\ ln (H c) <= ln (H (c + 1)) /\ (st = false -> ∀ l, l < ln (H c) -> gb (H (c + 1)) l = gb (fillL B n0 js (H c)) l) /\ (st = true -> ∀ j ∈ ls, gb (H (c + 1)) (n0 + j) = .dead)
theorem xKn {st : Bool} {all later : Nat -> List Nat} : ∀ {t : List (Opq × Kd)} {c : Nat} {fr : List SV} {xs : List SV} {fe : List SV}, Dat2 (P := P) cq n0 H B ne t c fr xs fe -> (∀ o m js, (o, Kd.eff m js) ∈ t -> js = all m /\ st = false) -> (∀ o m js ls, (o, Kd.efs m js ls) ∈ t -> js = all m /\ ls = later m /\ st = true) ->
  ∀ m, c <= m -> m < ne -> Trn st n0 H B m (all m) (later m)
 | [], c, fr, xs, fe, h, _, _, m, h1, h2 => by obtain ⟨_, _, rfl⟩ := h; omega
 | (o, kd) :: t, c, fr, xs, fe, h, hk, hk2, m, h1, h2 => by
  obtain ⟨y, xs', rfl, hs, h⟩ := h
  have ih := fun hc => xKn h (fun o m js hm => hk o m js (List.mem_cons_of_mem _ hm)) (fun o m js ls hm => hk2 o m js ls (List.mem_cons_of_mem _ hm)) m hc h2
  cases kd with
  | pur => exact ih (by simpa [isE] using h1)
  | prd => exact ih (by simpa [isE] using h1)
  | val => exact ih (by simpa [isE] using h1)
  | cre => exact ih (by simpa [isE] using h1)
  | eff m' js =>
   obtain ⟨rfl, a1, a2, a3, _⟩ := hs
   obtain ⟨e1, e2⟩ := hk o c js (List.mem_cons_self ..)
   subst e1
   by_cases hm : m = c
   ·subst hm; exact ⟨a1, a2, fun _ => a3, fun h => by rw [e2] at h; cases h⟩
   ·exact ih (by simp [isE]; omega)
  | efs m' js ls =>
   obtain ⟨rfl, a1, a2, a3, _⟩ := hs
   obtain ⟨e1, e3, e2⟩ := hk2 o c js ls (List.mem_cons_self ..)
   subst e1
   subst e3
   by_cases hm : m = c
   ·subst hm; exact ⟨a1, a2, fun h => (by rw [e2] at h; cases h), fun _ => a3.1⟩
   ·exact ih (by simp [isE]; omega)
theorem xDs {fr : List SV} {d : Option Nat} {x : SV} {p : Nat} (h : d ≠ some p) : gt (putf fr d x) p = gt fr p := by
 cases d with
 | none => rfl
 | some d =>
  have : d ≠ p := fun e => h (by rw [e])
  simp only [putf]
  rw [xFt, if_neg (fun h => this h.1)]
theorem xMy : ∀ {A : List (Nat × Nat)} {q s : Nat}, lkA A q = some s -> (q, s) ∈ A
 | (p, s') :: t, q, s, h => by
  simp only [lkA] at h
  split at h
  ·rename_i e; cases h; have : p = q := by simpa using e
   subst this; exact List.mem_cons_self ..
  ·exact List.mem_cons_of_mem _ (xMy h)
def SrcP (nc n0 : Nat) (fr0 : List SV) (ps : List Nat) (x : SV) : Nat -> Prop
 | 0 => x = .any \/ ∃ j off, j < nc /\ x = .ptr (n0 + j) off
 | r + 1 => r ∈ ps /\ ∀ l off, gt fr0 r = .ptr l off -> x = .any \/ ∃ off', x = .ptr l off'
def SrcOk (nc n0 : Nat) (fr0 fr : List SV) (ps : List Nat) (A : List (Nat × Nat)) : Prop :=
 (∀ p ∈ ps, gt fr p = gt fr0 p) /\ ∀ p s, (p, s) ∈ A -> SrcP nc n0 fr0 ps (gt fr p) s
theorem xRt {fr : List SV} {p : Nat} (h : fr.length <= p) : gt fr p = .any := by
 induction fr generalizing p with
 | nil => rfl
 | cons x l ih => cases p with
  | zero => simp at h
  | succ i => exact ih (by simpa using h)
theorem SrcOk.src {nc n0 : Nat} {fr0 fr : List SV} {ps : List Nat} {A : List (Nat × Nat)} (h : SrcOk nc n0 fr0 fr ps A) {q s : Nat} (e : src ps A q = some s) : SrcP nc n0 fr0 ps (gt fr q) s := by
 unfold Vg.src at e
 split at e
 ·rename_i hc
  cases e
  have hq : q ∈ ps := by simpa using hc
  exact ⟨hq, fun l off he => .inr ⟨off, by rw [h.1 q hq]; exact he⟩⟩
 ·exact h.2 q s (xMy e)
theorem SrcOk.put {nc n0 : Nat} {fr0 fr : List SV} {ps : List Nat} {A : List (Nat × Nat)} (h : SrcOk nc n0 fr0 fr ps A) {d : Nat} (hd : d ∉ ps) (y : SV) : SrcOk nc n0 fr0 (putf fr (some d) y) ps (delA A d) := by
 refine ⟨fun p hp => ?_, fun p s hm => ?_⟩
 ·rw [xDs (by intro e; cases e; exact hd hp)]; exact h.1 p hp
 ·unfold delA at hm
  rw [List.mem_filter] at hm
  have hne : p ≠ d := by simpa using hm.2
  rw [xDs (by intro e; cases e; exact hne rfl)]
  exact h.2 p s hm.1
theorem SrcOk.cons {nc n0 : Nat} {fr0 fr : List SV} {ps : List Nat} {A : List (Nat × Nat)} (h : SrcOk nc n0 fr0 fr ps A) {d s : Nat} (hd : SrcP nc n0 fr0 ps (gt fr d) s) : SrcOk nc n0 fr0 fr ps ((d, s) :: A) := by
 refine ⟨h.1, fun p s' hm => ?_⟩
 cases hm with
 | head => exact hd
 | tail _ hm => exact h.2 p s' hm
theorem xIi {fr : List SV} {d : Nat} {y : SV} : gt (putf fr (some d) y) d = y \/ gt (putf fr (some d) y) d = .any := by
 rw [xBs]
 by_cases hlt : d < fr.length
 ·rw [if_pos ⟨rfl, hlt⟩]; exact .inl rfl
 ·rw [if_neg (fun h => hlt h.2)]; exact .inr (xRt (by omega))
theorem xRu {cq : Cq} {fr : List SV} {g : Nat -> Blk} {o : Opq} {q : Nat} {y : SV} (h : chn o = some q) (e : evV cq fr g o.o = some y) :
  (∃ l off off', gt fr q = .ptr l off /\ y = .ptr l off') \/ (gt fr q ≠ .any /\ ∀ l off, gt fr q ≠ .ptr l off) := by
 unfold chn at h
 split at h <;> first | (cases h; done) | skip
 ·rename_i q' k _ ho
  cases h
  rw [ho] at e
  simp only [evV, evpB, X.get] at e
  split at e <;> first | (cases e; done) | skip
  ·rename_i l off hg; cases e; exact .inl ⟨l, off, _, hg, rfl⟩
  ·rename_i hg; exact .inr ⟨by rw [hg]; simp, by rw [hg]; simp⟩
  ·rename_i hg; exact .inr ⟨by rw [hg]; simp, by rw [hg]; simp⟩
 ·rename_i q' i len sz _ ho
  cases h
  rw [ho] at e
  simp only [evV, evpB, X.get] at e
  split at e <;> first | (cases e; done) | skip
  split at e <;> first | (cases e; done) | skip
  ·rename_i l off hg
   obtain ⟨_, rfl⟩ := xBv e
   exact .inl ⟨l, off, _, hg, rfl⟩
  ·rename_i hg; exact .inr ⟨by rw [hg]; simp, by rw [hg]; simp⟩
theorem chn_g {o : Opq} {q : Nat} (h : chn o = some q) : o.g = none := by
 unfold chn at h
 split at h <;> first | assumption | cases h
theorem xEu {nc : Nat} {ps : List Nat} {all : Nat -> List Nat} {fr0 : List SV} : ∀ {t : List (Opq × Kd)} {A : List (Nat × Nat)} {c : Nat} {fr : List SV} {xs : List SV} {fe : List SV}, Dat2 (P := P) cq n0 H B ne t c fr xs fe ->
  (∀ o m js ls, (o, Kd.efs m js ls) ∈ t -> js = all m) -> (∀ o j, (o, Kd.cre j) ∈ t -> j < nc) -> stoOkB ps A t = true -> SrcOk nc n0 fr0 fr ps A ->
  ∀ m, c <= m -> m < ne -> Kept nc fr0 ps n0 H B m (all m)
 | [], A, c, fr, xs, fe, h, _, _, _, _, m, h1, h2 => by obtain ⟨_, _, rfl⟩ := h; omega
 | (o, kd) :: t, A, c, fr, xs, fe, h, hk2, hk3, hso, hA, m, h1, h2 => by
  obtain ⟨y, xs', rfl, hs, h⟩ := h
  simp only [stoOkB, Bool.and_eq_true] at hso
  obtain ⟨s1, s2⟩ := hso
  have ih : c + isE kd <= m -> Kept nc fr0 ps n0 H B m (all m) := by
   have hk2' := fun o m js ls hm => hk2 o m js ls (List.mem_cons_of_mem _ hm)
   have hk3' := fun o j hm => hk3 o j (List.mem_cons_of_mem _ hm)
   intro hc
   cases hd : o.d with
   | none =>
    rw [hd] at h
    simp only [hd] at s2
    exact xEu (ps := ps) h hk2' hk3' s2 hA m hc h2
   | some d =>
    rw [hd] at h
    simp only [hd, Bool.and_eq_true, Bool.not_eq_true', List.contains_eq_mem, decide_eq_false_iff_not] at s2
    refine xEu (ps := ps) h hk2' hk3' s2.2 ?_ m hc h2
    have hput := hA.put s2.1 y
    unfold nxA
    split
    ·rename_i hcr
     rw [Bool.and_eq_true] at hcr
     refine hput.cons ?_
     rcases xIi (fr := fr) (d := d) (y := y) with h5 | h5
     ·rw [h5]
      refine .inr ?_
      cases kd <;> first | (simp [isCre] at hcr; done) | skip
      rename_i j
      obtain ⟨o1, b, ho, hcr', hb⟩ := hs
      have hj := hk3 o j (List.mem_cons_self ..)
      have hnw := hcr.2
      unfold isNw at hnw
      rw [ho] at hnw
      unfold crv at hcr'
      split at hcr' <;> first | (cases hcr'; done) | skip
      ·cases hcr'; exact ⟨j, 0, hj, rfl⟩
      ·split at hcr' <;> cases hcr'; exact ⟨j, 0, hj, rfl⟩
      ·simp at hnw
     ·exact .inl h5
    ·split
     ·rename_i s hv hsr
      obtain ⟨q, hq, hsr⟩ := Option.bind_eq_some_iff.1 hsr
      have hsq := hA.src hsr
      have hg := chn_g hq
      obtain ⟨z, g, he, rfl⟩ : ∃ z g, evV cq fr g o.o = some z /\ y = nrm z := by
       have hgd : gdl fr o.g = some true := by rw [hg]; rfl
       cases kd <;> first | (simp [isVal] at hv; done) | skip
       ·rcases hs with ⟨h6, _⟩ | ⟨_, z, h6, h7, _⟩
        ·rw [hgd] at h6; cases h6
        ·exact ⟨z, _, h6, h7⟩
       ·rcases hs with ⟨h6, _⟩ | ⟨_, z, h6, h7⟩
        ·rw [hgd] at h6; cases h6
        ·exact ⟨z, _, h6, h7⟩
       ·rcases hs with ⟨h6, _⟩ | ⟨_, z, h6, h7⟩
        ·rw [hgd] at h6; cases h6
        ·exact ⟨z, _, h6, h7⟩
      refine hput.cons ?_
      rcases xIi (fr := fr) (d := d) (y := nrm z) with h5 | h5
      ·rw [h5]
       rcases xRu hq he with ⟨l, off, off', h8, rfl⟩ | ⟨h8, h9⟩
       ·cases s with
        | zero =>
         rcases hsq with h10 | ⟨j, o2, h10, h11⟩
         ·rw [h8] at h10; cases h10
         ·rw [h8] at h11; cases h11; exact .inr ⟨j, off', h10, rfl⟩
        | succ r =>
         refine ⟨hsq.1, fun l' o' h10 => ?_⟩
         rcases hsq.2 l' o' h10 with h11 | ⟨o2, h11⟩
         ·rw [h8] at h11; cases h11
         ·rw [h8] at h11; cases h11; exact .inr ⟨off', rfl⟩
       ·cases s with
        | zero =>
         rcases hsq with h10 | ⟨j, o2, h10, h11⟩
         ·exact absurd h10 h8
         ·exact absurd h11 (h9 _ _)
        | succ r =>
         refine ⟨hsq.1, fun l' o' h10 => ?_⟩
         rcases hsq.2 l' o' h10 with h11 | ⟨o2, h11⟩
         ·exact absurd h11 h8
         ·exact absurd h11 (h9 _ _)
      ·rw [h5]
       cases s with
       | zero => exact .inl rfl
       | succ r => exact ⟨hsq.1, fun _ _ _ => .inl rfl⟩
     ·exact hput
  cases kd with
  | pur => exact ih (by simpa [isE] using h1)
  | prd => exact ih (by simpa [isE] using h1)
  | val => exact ih (by simpa [isE] using h1)
  | cre => exact ih (by simpa [isE] using h1)
  | eff m' js => simp at s1
  | efs m' js ls =>
   obtain ⟨rfl, a1, a2, a3, _⟩ := hs
   have e1 := hk2 o c js ls (List.mem_cons_self ..)
   subst e1
   by_cases hm : m = c
   ·subst hm
    intro l hl hj hi
    simp only at s1
    split at s1 <;> first | (cases s1; done) | skip
    rename_i p hst
    obtain ⟨sz, v, ho⟩ : ∃ sz v, o.o = .o (.store sz (.t p) v) := by
     unfold stoP at hst
     split at hst
     ·rename_i sz q v ho; cases hst; exact ⟨sz, v, ho⟩
     ·cases hst
    obtain ⟨s, hsr⟩ := Option.isSome_iff_exists.1 s1
    have hsq := hA.src hsr
    cases s with
    | zero =>
     rcases hsq with h4 | ⟨j, off, h3, h4⟩
     ·exact a3.2 sz p v ho l hl (fun l'' off' hh => by rw [h4] at hh; cases hh) (fun l' s i off hh => by rw [h4] at hh; cases hh)
     ·exact a3.2 sz p v ho l hl (fun l'' off' hh => by rw [h4] at hh; cases hh; exact hj j h3) (fun l' s i off hh => by rw [h4] at hh; cases hh)
    | succ r =>
     obtain ⟨l', off, h3, h5⟩ := xMx hi r hsq.1
     rcases hsq.2 l' off h3 with h4 | ⟨o2, h4⟩
     ·exact a3.2 sz p v ho l hl (fun l'' off' hh => by rw [h4] at hh; cases hh) (fun l' s i off hh => by rw [h4] at hh; cases hh)
     ·exact a3.2 sz p v ho l hl (fun l'' off' hh => by rw [h4] at hh; cases hh; exact h5) (fun l' s i off hh => by rw [h4] at hh; cases hh)
   ·exact ih (by simp [isE]; omega)
end
theorem xMz {fr fr' : List SV} {g : Option (Nat × Bool)} (h : ∀ t, t ∈ usesG g -> gt fr t = gt fr' t) : gdl fr g = gdl fr' g := by
 cases g with
 | none => rfl
 | some x => obtain ⟨i, w⟩ := x; simp only [gdl, h i (by simp [usesG])]
theorem xBp (st : Bool) (pp : Option (List Nat)) (cs es ms : List Nat) (i : Nat) :
  (∃ j, cs[j]? = some i /\ kdOf st pp cs es ms i = .cre j) \/
  (i ∉ cs /\ i ∈ es /\ st = false /\ kdOf st pp cs es ms i = .eff (cntIn es (ms.getD i 0)) (allThere cs es ms (cntIn es (ms.getD i 0)))) \/
  (i ∉ cs /\ i ∈ es /\ st = true /\ kdOf st pp cs es ms i = .efs (cntIn es (ms.getD i 0)) (allThere cs es ms (cntIn es (ms.getD i 0))) (laterThere cs es ms (cntIn es (ms.getD i 0)))) \/
  (i ∉ cs /\ i ∉ es /\ (st = true -> ∀ e ∈ es, (ms.getD i 0).testBit e = true \/ (ms.getD e 0).testBit i = true) /\ kdOf st pp cs es ms i = .val (cntIn es (ms.getD i 0)) (there cs es ms (cntIn es (ms.getD i 0)) (ms.getD i 0))) \/
  (i ∉ cs /\ i ∉ es /\ st = true /\ kdOf st pp cs es ms i = .pur) \/
  (i ∉ cs /\ i ∉ es /\ st = true /\ ∃ ps, pp = some ps /\ kdOf st pp cs es ms i = .prd ps) := by
 unfold kdOf
 cases h : cs.idxOf? i with
 | some j =>
  left
  refine ⟨j, ?_, rfl⟩
  unfold List.idxOf? at h
  rw [List.findIdx?_eq_some_iff_getElem] at h
  obtain ⟨h1, h2, _⟩ := h
  rw [List.getElem?_eq_getElem h1]; simpa using h2
 | none =>
  have hn : i ∉ cs := by
   unfold List.idxOf? at h
   rw [List.findIdx?_eq_none_iff] at h
   intro hm
   have := h i hm
   simp at this
  right
  by_cases he : i ∈ es
  ·cases st with
   | false => left; exact ⟨hn, he, rfl, by simp [he]⟩
   | true => right; left; exact ⟨hn, he, rfl, by simp [he]⟩
  ·right; right
   cases st with
   | false => left; exact ⟨hn, he, fun h => (by cases h), by simp [he]⟩
   | true =>
    by_cases ha : (es.all fun e => (ms.getD i 0).testBit e || (ms.getD e 0).testBit i) = true
    ·left; refine ⟨hn, he, fun _ e hm => ?_, by
      have hc : es.contains i = false := by simpa using he
      simp only [hc, ha]; rfl⟩
     have := List.all_eq_true.1 ha e hm
     simpa using this
    ·have ha' : (es.all fun e => (ms.getD i 0).testBit e || (ms.getD e 0).testBit i) = false := by simpa using ha
     have hc : es.contains i = false := by simpa using he
     cases pp with
     | none => right; left; exact ⟨hn, he, rfl, by simp only [hc, ha']; rfl⟩
     | some ps => right; right; exact ⟨hn, he, rfl, ps, rfl, by simp only [hc, ha']; rfl⟩
theorem xCv {ms : List Nat} {lo : List Opq} {h : Nat} (hd : drawTl ms lo h = true) : ∀ i, h <= i -> i < lo.length -> ∀ j, j < i -> (ms.getD i 0).testBit j = true := by
 unfold drawTl at hd
 simp only [List.all_eq_true] at hd
 intro i hi hlt j hj
 have := hd (lo[i], i) (by rw [List.mem_zipIdx_iff_getElem?]; simp [hlt])
 simp only [Bool.or_eq_true, Bool.not_eq_true', decide_eq_false_iff_not, List.all_eq_true, List.mem_range] at this
 rcases this with h | h
 ·omega
 ·exact h j hj
theorem xJn {ms : List Nat} {lo : List Opq} {h : Nat} {es cs : List Nat} (hd : drawOk2 ms lo h es cs = true) :
  (∀ i j o o' d, lo[i]? = some o -> lo[j]? = some o' -> i < h -> j < h -> i ≠ j -> o'.d = some d -> (o.d = some d \/ d ∈ usesQ o) -> if j < i then (ms.getD i 0).testBit j = true else (ms.getD j 0).testBit i = true) /\
  (∀ i ∈ es, ∀ j ∈ es, j < i -> (ms.getD i 0).testBit j = true) /\
  (∀ c ∈ cs, ∃ o, lo[c]? = some o /\ o.g = none /\ ∀ e ∈ es, (ms.getD e 0).testBit c = true \/ (ms.getD c 0).testBit e = true) := by
 unfold drawOk2 at hd
 simp only [Bool.and_eq_true, List.all_eq_true] at hd
 obtain ⟨⟨h2, h3⟩, h4⟩ := hd
 refine ⟨fun i j o o' d ho ho' hi hj hne hd' hu => ?_, fun i hi j hj hlt => ?_, fun c hc => ?_⟩
 ·have := h2 (o, i) (by rw [List.mem_zipIdx_iff_getElem?]; simpa using ho)
  simp only [Bool.or_eq_true, decide_eq_true_eq, List.all_eq_true] at this
  rcases this with h | h
  ·omega
  ·have := h (o', j) (by rw [List.mem_zipIdx_iff_getElem?]; simpa using ho')
   simp only [hd', Bool.or_eq_true, decide_eq_true_eq, beq_iff_eq] at this
   rcases this with (h | h) | h
   ·omega
   ·exact absurd h hne
   ·rw [if_pos (by
     rcases hu with hu | hu
     ·exact .inl hu.symm
     ·exact .inr (by simpa using hu))] at h
    split at h <;> split <;> first | exact h | omega
 ·have := h3 i hi j hj
  simp only [Bool.or_eq_true, Bool.not_eq_true', decide_eq_false_iff_not] at this
  exact this.resolve_left (fun h => h hlt)
 ·have := h4 c hc
  split at this
  ·rename_i o ho
   simp only [Bool.and_eq_true, Option.isNone_iff_eq_none, List.all_eq_true, Bool.or_eq_true] at this
   exact ⟨o, ho, this.1, this.2⟩
  ·cases this
theorem xPo {P : Program} {op : Oper} {o1 : Op1} (hc : c1 P op = some o1) {fr : List SV} {n : Nat} {x : SV} {b : Blk} (he : crv fr n o1 = some (x, b)) {E : Env} {a : Act} (hf : Rvs E fr a.tmps.toList) :
  ∃ t cs vs, b = .box t cs /\ Rvs E cs vs /\ ∃ y : Nat -> SV, (∀ m, crv fr m o1 = some (y m, b)) /\ ((y = fun m => .ptr m 0) \/ ∃ len, y = fun m => .bsl m len) := by
 cases o1 <;> simp only [crv] at he <;> first | (cases he; done) | skip
 case new t z =>
  cases he
  have : ∃ vs : List Value, z = vs.map ofC := by
   unfold c1 at hc
   split at hc
   ·cases hc
   ·split at hc
    case h_1 t' ho =>
     obtain ⟨z', hz, h0⟩ := Option.map_eq_some_iff.1 hc
     cases h0
     unfold zcells at hz
     split at hz
     ·split at hz
      ·rename_i zv _; cases hz; exact ⟨_, rfl⟩
      ·cases hz
     ·cases hz
    all_goals (repeat' split at hc) <;> first | (cases hc; done) | (obtain ⟨_, _, h0⟩ := Option.map_eq_some_iff.1 hc; cases h0; done)
  obtain ⟨vs, rfl⟩ := this
  exact ⟨t, _, vs, rfl, xBo E vs, _, fun m => rfl, .inl rfl⟩
 case box t y =>
  split at he
  ·rename_i cs hcs
   cases he
   have : ∃ g, cX g = some y := by
    unfold c1 at hc
    split at hc
    ·cases hc
    ·split at hc
     case h_2 t' g ho => obtain ⟨z', hz, h0⟩ := Option.map_eq_some_iff.1 hc; cases h0; exact ⟨_, hz⟩
     all_goals (repeat' split at hc) <;> first | (cases hc; done) | (obtain ⟨_, _, h0⟩ := Option.map_eq_some_iff.1 hc; cases h0; done)
   obtain ⟨g, hg⟩ := this
   exact ⟨t, cs, _, rfl, xGm (X.ok hf hg) hcs, _, fun m => by simp only [crv, hcs], .inl rfl⟩
  ·cases he
 case bsl e len z ps =>
  split at he
  ·rename_i cs hcs
   cases he
   have : ∃ (vs : List Value) (place : Nat -> Option (Nat × Nat)) (parts : List (Nat × Operand)), z = vs.map ofC /\ cparts place parts = some ps := by
    unfold c1 at hc
    split at hc
    ·cases hc
    ·split at hc
     case h_5 t' len' parts ho =>
      split at hc
      ·split at hc
       ·rename_i d z' hd hz
        split at hc
        ·obtain ⟨xs, hxs, h0⟩ := Option.map_eq_some_iff.1 hc; cases h0; exact ⟨_, _, _, rfl, hxs⟩
        ·cases hc
       ·cases hc
      ·cases hc
     all_goals (repeat' split at hc) <;> first | (cases hc; done) | (obtain ⟨_, _, h0⟩ := Option.map_eq_some_iff.1 hc; cases h0; done)
   obtain ⟨vs, place, parts, rfl, hps⟩ := this
   obtain ⟨cells', _, h2⟩ := xGf (E := E) (cells := vs.toArray) (xDu hf hps) (by simpa using xBo E vs) hcs
   exact ⟨e, cs, _, rfl, h2, _, fun m => by simp only [crv, hcs], .inr ⟨len, rfl⟩⟩
  ·cases he
end Go.Vg
