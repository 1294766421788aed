import Derived.Test.YtjagiieconpgbaaVgR11
namespace Go.Vg
open Go
set_option linter.unusedVariables false
set_option linter.unusedSimpArgs false
set_option linter.unusedSectionVars false
section
variable {P : Program} {cl : Cl} {cq : Cq} (hcl : ClOk P cl) (hcq : CqOk P cq) {ops : Array Oper} {lo : List Opq} (hc : cops2 P ops ops.toList = some lo) (he : edgesOk ops.toList = true) {st : Bool} {pp : Option (List Nat)} {h : Nat} {es cs : List Nat}
 (hd : drawOk2 (masks ops.toList []) lo h es cs = true) (hnd : es.Nodup) (hes : ∀ e ∈ es, e < h ∧ e < ops.size) (hcs : cs.Nodup) (hcsh : ∀ c ∈ cs, c < h ∧ c < ops.size)
 {n0 : Nat} {H : Nat → List Blk} {B : Nat → Option Blk} {fr0 fe : List SV} {xs : List SV}
 (hdat : Dat2 (P := P) cq n0 H B es.length ((lo.take h).zipIdx.map fun x => (x.1, kdOf st pp cs es (masks ops.toList []) x.2)) 0 fr0 xs fe)
 (hH0 : ∀ j, j < cs.length → n0 + j < ln (H 0) ∧ gb (H 0) (n0 + j) = .dead)
theorem heads_get {i : Nat} {o : Opq} {kd : Kd} (h1 : ((lo.take h).zipIdx.map fun x => (x.1, kdOf st pp cs es (masks ops.toList []) x.2))[i]? = some (o, kd)) : i < h ∧ lo[i]? = some o ∧ kd = kdOf st pp cs es (masks ops.toList []) i := by
 rw [List.getElem?_map] at h1
 obtain ⟨⟨o', i'⟩, h2, h3⟩ := Option.map_eq_some_iff.1 h1
 simp only [Prod.mk.injEq] at h3
 obtain ⟨rfl, rfl⟩ := h3
 rw [List.getElem?_zipIdx] at h2
 obtain ⟨o2, h4, h5⟩ := Option.map_eq_some_iff.1 h2
 simp only [Prod.mk.injEq, Nat.zero_add] at h5
 obtain ⟨rfl, rfl⟩ := h5
 rw [List.getElem?_take] at h4
 split at h4
 ·rename_i hi; exact ⟨hi, h4, rfl⟩
 ·cases h4
theorem heads_have {i : Nat} {o : Opq} (hi : i < h) (ho : lo[i]? = some o) : ((lo.take h).zipIdx.map fun x => (x.1, kdOf st pp cs es (masks ops.toList []) x.2))[i]? = some (o, kdOf st pp cs es (masks ops.toList []) i) := by
 simp [List.getElem?_take, hi, ho]
abbrev ent (st : Bool) (pp : Option (List Nat)) (lo : List Opq) (ops : Array Oper) (h : Nat) (es cs : List Nat) (xs : List SV) : List (Nat × Opr × SV) := mkl 0 ((lo.take h).zipIdx.map fun x => (x.1, kdOf st pp cs es (masks ops.toList []) x.2)) xs
include hc hdat hcs hcsh in
theorem B_some (j c : Nat) (hj : cs[j]? = some c) : ∃ b, B j = some b := by
 obtain ⟨h1, h2⟩ := hcsh c (List.mem_of_getElem? hj)
 obtain ⟨o, ho, _⟩ := cops2_get hc c ops[c] (by simp [h2])
 obtain ⟨x, hx⟩ := mkl_have (s := 0) (dat2_len hdat) (heads_have (st := st) (pp := pp) (cs := cs) (es := es) (ops := ops) h1 ho)
 rw [Nat.zero_add] at hx
 obtain ⟨l1, l2, hl⟩ := List.append_of_mem hx
 obtain ⟨_, o2, kd, c', g1, g2, g3⟩ := dat2_split (s := 0) hdat hl
 rw [Nat.sub_zero] at g1
 obtain ⟨_, g4, g5⟩ := heads_get g1
 rcases kdOf_cases st pp cs es (masks ops.toList []) c with ⟨j', h3, h4⟩ | ⟨h3, _⟩ | ⟨h3, _⟩ | ⟨h3, _⟩ | ⟨h3, _⟩ | ⟨h3, _⟩
 ·rw [h4] at g5; subst g5
  obtain ⟨o1, b, _, _, g6⟩ := g3
  have : j' = j := by
   have hj1 := List.getElem?_eq_some_iff.1 h3
   have hj2 := List.getElem?_eq_some_iff.1 hj
   exact (List.getElem_inj hcs).1 (hj1.2.trans hj2.2.symm)
  subst this; exact ⟨b, g6⟩
 ·exact absurd (List.mem_of_getElem? hj) h3
 ·exact absurd (List.mem_of_getElem? hj) h3
 ·exact absurd (List.mem_of_getElem? hj) h3
 ·exact absurd (List.mem_of_getElem? hj) h3
 ·exact absurd (List.mem_of_getElem? hj) h3
include hcl hcq hc he hd hnd hes hcs hcsh hdat hH0 in
theorem heads_step (hpp : pp = ppOf lo h es cs (masks ops.toList [])) {ro : Option Nat} {n : Nat} {Q : Exit → Act → World → Prop} {E0 : Env} (hn0 : E0.n = n0) {dfs : List Deferred} {lst : Array Bool} (hsz : lst.size = ops.size) (hs : Shut ops (LS lst)) {i : Nat} (hi : i ∈ Region.ready .any ops lst) (hih : i < h)
  {E1 : Env} {a1 : Act} (hv : Inv (P := P) (ops := ops) (es := es) (cs := cs) (n0 := n0) (H := H) (B := B) (fr0 := fr0) E0 E1 a1 dfs (LS lst) (ent st pp lo ops h es cs xs)) {K : Act → World → Prop}
  (hK : ∀ E' a', Inv (P := P) (ops := ops) (es := es) (cs := cs) (n0 := n0) (H := H) (B := B) (fr0 := fr0) E0 E' a' dfs (LS (lst.setIfInBounds i true)) (ent st pp lo ops h es cs xs) → (∃ o v, lo[i]? = some o ∧ a' = a1.put o.d v) → K a' E'.w) : wpOpIn (fen ro) n P ops Q i K a1 E1.w := by
 obtain ⟨h1, h2, h3, h4, h5, h6⟩ := ready_facts hsz hs hi
 obtain ⟨hd2, hd3, hd4⟩ := drawOk2_get hd
 obtain ⟨o, ho, hco, hod, hog⟩ := cops2_get hc i ops[i] (by simp [h1])
 obtain ⟨x, hx⟩ := mkl_have (s := 0) (dat2_len hdat) (heads_have (st := st) (pp := pp) (cs := cs) (es := es) (ops := ops) hih ho)
 rw [Nat.zero_add] at hx
 obtain ⟨l1, l2, hl⟩ := List.append_of_mem hx
 obtain ⟨_, o2, kd, c', g1, g2, g3⟩ := dat2_split (s := 0) hdat hl
 rw [Nat.sub_zero] at g1
 obtain ⟨_, g4, g5⟩ := heads_get g1
 rw [ho] at g4; cases g4
 have hdiff : Diff (ent st pp lo ops h es cs xs) := by
  unfold Diff
  exact (mkl_diff (s := 0)).imp (fun h => Nat.ne_of_lt h)
 have hpw := mkl_diff (s := 0) (t := (lo.take h).zipIdx.map fun x => (x.1, kdOf st pp cs es (masks ops.toList []) x.2)) (xs := xs)
 have hl' : ent st pp lo ops h es cs xs = l1 ++ (i, o.sh, x) :: l2 := hl
 have hmem : ∀ j o' x', (j, o', x') ∈ ent st pp lo ops h es cs xs → ∃ oj, lo[j]? = some oj ∧ j < h ∧ o' = oj.sh := by
  intro j o' x' hm
  obtain ⟨_, oj, kdj, e1, e2⟩ := mkl_mem hm
  rw [Nat.sub_zero] at e1
  obtain ⟨e3, e4, _⟩ := heads_get e1
  exact ⟨oj, e4, e3, e2⟩
 have o1 : ∀ j o' x', (j, o', x') ∈ l1 → j < i := by
  intro j o' x' hm
  rw [hl, List.map_append, List.map_cons, List.pairwise_append] at hpw
  exact hpw.2.2 j (List.mem_map.2 ⟨_, hm, rfl⟩) i (List.mem_cons_self ..)
 have o2' : ∀ j o' x', (j, o', x') ∈ l2 → i < j := by
  intro j o' x' hm
  rw [hl, List.map_append, List.map_cons, List.pairwise_append, List.pairwise_cons] at hpw
  exact hpw.2.1.1 j (List.mem_map.2 ⟨_, hm, rfl⟩)
 have w1 : ∀ t, (o.d = some t ∨ t ∈ usesQ o) → ∀ j o' x', (j, o', x') ∈ l1 → o'.d = some t → LS lst j = true := by
  intro t ht j o' x' hm hd'
  obtain ⟨oj, e1, e2, rfl⟩ := hmem j o' x' (by rw [hl']; exact List.mem_append_left _ hm)
  have hlt := o1 j _ x' hm
  have := hd2 i j o oj t ho e1 hih e2 (by omega) hd' ht
  rw [if_pos hlt] at this
  exact h3 j this
 have w2 : ∀ t, (o.d = some t ∨ t ∈ usesQ o) → ∀ j o' x', (j, o', x') ∈ l2 → o'.d = some t → LS lst j = false := by
  intro t ht j o' x' hm hd'
  obtain ⟨oj, e1, e2, rfl⟩ := hmem j o' x' (by rw [hl']; exact List.mem_append_right _ (List.mem_cons_of_mem _ hm))
  have hlt := o2' j _ x' hm
  have := hd2 i j o oj t ho e1 hih e2 (by omega) hd' ht
  rw [if_neg (by omega)] at this
  cases hv : LS lst j
  ·rfl
  ·have hjs : j < ops.size := by
    have := (List.getElem?_eq_some_iff.1 e1).1
    rw [cops2_len hc] at this; simpa using this
   have := masks_listed hs j ops[j] (by simp [hjs]) (hs j ops[j] (by simp [hjs]) hv) i this
   rw [h2] at this; cases this
 have hview : ∀ t, t ∈ usesQ o → gt (mix (LS lst) (ent st pp lo ops h es cs xs) fr0) t = gt (mix (fun _ => true) l1 fr0) t := fun t ht =>
  view_eq hl' hdiff h2 (fun j o' x' hm hd' => w1 t (.inr ht) j o' x' hm hd') (fun j o' x' hm hd' => w2 t (.inr ht) j o' x' hm hd')
 have hL : (fun j => j == i || LS lst j) = LS (lst.setIfInBounds i true) := funext fun j => (h5 j).symm
 have hFm : ∀ {E : Env}, E1.Le E → Rvs E (msk (usesQ o) 0 (mix (fun _ => true) l1 fr0)) a1.tmps.toList := fun {E} hle => by
  have hF := hv.hF.mono hle
  refine Rvs_iff.2 ⟨?_, fun t ht => ?_⟩
  ·have := hF.length; rw [len_mix] at this; rw [len_msk, len_mix]; exact this
  ·rw [gt_msk]
   split
   ·rename_i hm; rw [Nat.zero_add] at hm; rw [← hview t (by simpa using hm)]; exact hF.gt t
   ·exact .any _
 have hgt : ∀ t, t ∈ usesQ o → gt (msk (usesQ o) 0 (mix (fun _ => true) l1 fr0)) t = gt (mix (fun _ => true) l1 fr0) t := fun t ht => by rw [gt_msk, if_pos (by simpa using ht)]
 have hgd : ∀ {b}, gdl (mix (fun _ => true) l1 fr0) o.g = some b → gdl (msk (usesQ o) 0 (mix (fun _ => true) l1 fr0)) o.g = some b := fun hg => by
  rw [gdl_congr (fr' := mix (fun _ => true) l1 fr0) (fun t ht => hgt t (by simp [usesQ, ht]))]; exact hg
 have hnext : ∀ {E : Env} {v : Value}, Rvs E (mix (LS lst) (ent st pp lo ops h es cs xs) fr0) a1.tmps.toList → Rv E x v → Rvs E (mix (LS (lst.setIfInBounds i true)) (ent st pp lo ops h es cs xs) fr0) (a1.put o.d v).tmps.toList := fun hF hx => by
  rw [← hL]
  exact next_frame (o := o.sh) hl' hdiff h2 (fun t j o' x' hm hd' hd'' => w2 t (.inl hd') j o' x' hm hd'') hF hx
 have hnl : ∀ j c, cs[j]? = some c → n0 + j < E1.n := fun j c hj => by
  have := (List.getElem?_eq_some_iff.1 hj).1
  have h7 := (hH0 j this).1
  have h8 := (stay hdat hH0 (es.countP (LS lst)) List.countP_le_length).1
  have h9 := hv.hr.b.n
  rw [← ln_eq] at h9
  unfold HPL at h9
  rw [ln_fillL] at h9
  omega
 have rsk : ∀ E', E1.Le E' → ∀ j c, cs[j]? = some c → LS (lst.setIfInBounds i true) c = false → E'.rs (n0 + j) := fun E' hle j c hj hcl => by
  rw [h5, Bool.or_eq_false_iff] at hcl
  exact hle.rs _ (hnl j c hj) (hv.fr j c hj hcl.2)
 have lstd : ∀ e, e < ops.size → LS lst e = true → ∀ c, ((masks ops.toList []).getD e 0).testBit c = true → LS lst c = true := fun e hes' hle c hbit =>
  masks_listed hs e ops[e] (by simp [hes']) (hs e ops[e] (by simp [hes']) hle) c hbit
 have plain : i ∉ es → i ∉ cs → ∀ (E' : Env) (v : Value), E1.Le E' → RHp E' (HPL ops es cs n0 H B (LS lst)) → Rv E' x v → K (a1.put ops[i].dst v) E'.w := by
  intro n1 n2 E' v hle hr hxv
  rw [← hod]
  refine hK E' _ ⟨hnext (hv.hF.mono hle) hxv, ?_, hv.ok.le hle, hv.le.trans hle, by rw [put_defers]; exact hv.df, rsk E' hle⟩ ⟨o, _, ho, rfl⟩
  rw [← hL, HPL_same n1 n2]; exact hr
 rw [g5] at g3
 rcases kdOf_cases st pp cs es (masks ops.toList []) i with ⟨j, hj, hkd⟩ | ⟨nc, ne, _, hkd⟩ | ⟨nc, ne, hs1, hkd⟩ | ⟨nc, ne, hsv, hkd⟩ | ⟨nc, ne, hs1, hkd⟩ | ⟨nc, ne, hs1, ps, hps, hkd⟩
 ·-- a new block
  rw [hkd] at g3
  obtain ⟨o1, b, go, gcr, gB⟩ := g3
  have hic : i ∈ cs := List.mem_of_getElem? hj
  obtain ⟨o', ho', hgn, hord⟩ := hd4 i hic
  rw [ho] at ho'; cases ho'
  have hie : i ∉ es := fun hm => by
   have := h3 i ((hord i hm).elim id id)
   rw [h2] at this; cases this
  have hpt : ∀ e ∈ es, LS lst e = ((masks ops.toList []).getD i 0).testBit e := fun e hm => by
   rw [Bool.eq_iff_iff]
   refine ⟨fun hle => ?_, fun hb => h3 e hb⟩
   rcases hord e hm with hb | hb
   ·have := lstd e (hes e hm).2 hle i hb
    rw [h2] at this; cases this
   ·exact hb
  have hk : es.countP (LS lst) = cntIn es ((masks ops.toList []).getD i 0) := List.countP_congr fun e hm => by rw [hpt e hm]
  have hc1 : c1 P ops[i] = some o1 := c2_c1 ((show C2 P ops[i] (.o o1) by rw [← go]; exact hco).c2 rfl)
  have hcr : crv (msk (usesQ o) 0 (mix (fun _ => true) l1 fr0)) (n0 + j) o1 = some (x, b) := by
   rw [← gcr]
   exact crv_congr fun t ht => hgt t (by simp [usesQ, go, uses2, ht])
  obtain ⟨t, cells, vs, rfl, hvs, y, hy, hyf⟩ := cre_vals hc1 hcr (hFm (.refl _))
  have hxy : x = y (n0 + j) := by have := hy (n0 + j); rw [hcr] at this; cases this; rfl
  have hev := crv_evh (Γ := noG P) (hp := HPL ops es cs n0 H B (LS lst)) (k := fun x' hp' => x' = y (ln (HPL ops es cs n0 H B (LS lst))) ∧ hp' = pb (HPL ops es cs n0 H B (LS lst)) (.box t cells)) (hy _) ⟨rfl, rfl⟩
  refine op_any (b := true) (by simp [h1]) hco hod hog (hFm (.refl _)) hv.hr hv.ok (by rw [hgn]; rfl) (fun hb => by cases hb) (fun _ => ⟨_, _, OpOk.of_evh hc1 hev, fun E' v hle hr hyv => ?_⟩)
  have hrs := hv.fr j i hj h2
  have hln := hnl j i hj
  have hE1n : E1.n = ln (HPL ops es cs n0 H B (LS lst)) := by rw [ln_eq]; exact hv.hr.b.n
  have hdl : (HPL ops es cs n0 H B (LS lst))[n0 + j]? = some .dead := by
   have h7 := gb_get (hp := HPL ops es cs n0 H B (LS lst)) (l := n0 + j) (by rw [← hE1n]; exact hln)
   rw [h7, hv.hr.b.rs _ _ h7 hrs]
  have hr2 := RHp.into hv.hr hle hr hvs hln hrs hdl
  have hle0 := Env.into_le hle hln hrs
  have hxv : Rv (E1.into E' (n0 + j)) x v := by
   rw [hxy]
   have hhas : (E1.into E' (n0 + j)).has (n0 + j) := ⟨hln, fun h => h.1 rfl⟩
   rcases hyf with rfl | ⟨len, rfl⟩
   ·obtain ⟨_, rfl⟩ := hyv.ptrE
    have : E'.blk (ln (HPL ops es cs n0 H B (LS lst))) = (E1.into E' (n0 + j)).blk (n0 + j) := by simp [Env.into, hE1n]
    rw [this]; exact .ptr _ _ hhas
   ·obtain ⟨_, rfl⟩ := hyv.bslE
    have : E'.blk (ln (HPL ops es cs n0 H B (LS lst))) = (E1.into E' (n0 + j)).blk (n0 + j) := by simp [Env.into, hE1n]
    rw [this]; exact .bsl _ _ hhas
  have hHP : HPL ops es cs n0 H B (LS (lst.setIfInBounds i true)) = sb (HPL ops es cs n0 H B (LS lst)) (n0 + j) (.box t cells) := by
   have hkL : es.countP (LS (lst.setIfInBounds i true)) = es.countP (LS lst) := by rw [← hL]; exact countP_or_not hie
   have hk2 : es.countP (LS lst) ≤ es.length := List.countP_le_length
   have mem' : ∀ j', j' ∈ sel cs es (masks ops.toList []) (es.countP (LS lst)) (LS (lst.setIfInBounds i true)) ↔ (j' = j ∨ j' ∈ sel cs es (masks ops.toList []) (es.countP (LS lst)) (LS lst)) := by
    intro j'
    rw [mem_sel', mem_sel']
    constructor
    ·rintro ⟨c, a1, a2, a3⟩
     rw [h5, Bool.or_eq_true] at a3
     rcases a3 with a3 | a3
     ·left
      have : c = i := by simpa using a3
      subst this
      have hj1 := List.getElem?_eq_some_iff.1 a1
      have hj2 := List.getElem?_eq_some_iff.1 hj
      exact (List.getElem_inj hcs).1 (hj1.2.trans hj2.2.symm)
     ·exact .inr ⟨c, a1, a2, a3⟩
    ·rintro (rfl | ⟨c, a1, a2, a3⟩)
     ·exact ⟨i, hj, hk.symm, by rw [h5]; simp⟩
     ·exact ⟨c, a1, a2, by rw [h5, a3, Bool.or_true]⟩
   have fL := fills hdat hH0 (es.countP (LS lst)) hk2 (js := sel cs es (masks ops.toList []) (es.countP (LS lst)) (LS (lst.setIfInBounds i true))) (fun j' hj' => by
    obtain ⟨c, a1, a2, _⟩ := mem_sel'.1 hj'; exact ⟨c, a1, by omega⟩) (fun j' hj' => by obtain ⟨c, a1, _⟩ := mem_sel'.1 hj'; exact B_some hc hcs hcsh hdat j' c a1)
   have lL : ∀ j' ∈ sel cs es (masks ops.toList []) (es.countP (LS lst)) (LS (lst.setIfInBounds i true)), n0 + j' < ln (H (es.countP (LS lst))) := fun j' hj' => (fL j' hj').1
   have lL' : ∀ j' ∈ sel cs es (masks ops.toList []) (es.countP (LS lst)) (LS lst), n0 + j' < ln (H (es.countP (LS lst))) := fun j' hj' => lL j' ((mem' j').2 (.inr hj'))
   refine hp_ext (by rw [ln_sb]; unfold HPL; rw [ln_fillL, ln_fillL, hkL]) fun l => ?_
   rw [gb_sb_all _ _ _ _ (by rw [← hE1n]; exact hln)]
   unfold HPL
   rw [hkL]
   by_cases hlj : l = n0 + j
   ·subst hlj
    rw [if_pos rfl, gb_fillL_in ((mem' j).2 (.inl rfl)) gB lL]
   ·rw [if_neg hlj]
    by_cases hin : ∃ j' ∈ sel cs es (masks ops.toList []) (es.countP (LS lst)) (LS lst), n0 + j' = l
    ·obtain ⟨j', hj', rfl⟩ := hin
     obtain ⟨_, ⟨b', hb'⟩, _⟩ := fL j' ((mem' j').2 (.inr hj'))
     rw [gb_fillL_in ((mem' j').2 (.inr hj')) hb' lL, gb_fillL_in hj' hb' lL']
    ·rw [gb_fillL_not (fun j' hj' e => by
      rcases (mem' j').1 hj' with rfl | hj'
      ·exact hlj e.symm
      ·exact hin ⟨j', hj', e⟩) lL, gb_fillL_not (fun j' hj' e => hin ⟨j', hj', e⟩) lL']
  rw [← hod]
  have e1 := hv.le.trans hle
  refine hK (E1.into E' (n0 + j)) _ ⟨hnext (hv.hF.mono0 hle0) hxv, by rw [hHP]; exact hr2, (hv.ok.le hle : _), ?_, by rw [put_defers]; exact hv.df, fun j' c hj' hcl => ?_⟩ ⟨o, _, ho, rfl⟩
  ·have hlt : ∀ l, E0.has l → l ≠ n0 + j := fun l hl e => by have := hl.1; omega
   have c0 := hv.le.le0.trans hle0
   exact ⟨c0.n, c0.has, c0.blk, c0.val, c0.live, c0.im, c0.mem, e1.W, e1.M, e1.im0, e1.df, e1.n0, e1.ok, fun l hl hr => ⟨by omega, hv.le.rs l hl hr⟩⟩
  ·rw [h5, Bool.or_eq_false_iff] at hcl
   refine ⟨fun e => ?_, hv.fr j' c hj' hcl.2⟩
   have : j' = j := by omega
   subst this
   rw [hj] at hj'; cases hj'
   simp at hcl
 ·-- an effect
  rw [hkd] at g3
  obtain ⟨rfl, t1, t2, t3, g3⟩ := g3
  have hpt : ∀ e ∈ es, LS lst e = ((masks ops.toList []).getD i 0).testBit e := fun e hm => by
   rw [Bool.eq_iff_iff]
   refine ⟨fun hle => ?_, fun hb => h3 e hb⟩
   have hne : e ≠ i := fun h => by rw [h, h2] at hle; cases hle
   rcases Nat.lt_or_ge e i with hlt | hge
   ·exact hd3 i ne e hm hlt
   ·have := lstd e (hes e hm).2 hle i (hd3 e hm i ne (by omega))
    rw [h2] at this; cases this
  have hk : es.countP (LS lst) = cntIn es ((masks ops.toList []).getD i 0) := List.countP_congr fun e hm => by rw [hpt e hm]
  have hk1 : es.countP (LS (lst.setIfInBounds i true)) = es.countP (LS lst) + 1 := by rw [← hL]; exact countP_or hnd ne h2
  have hall : HPL ops es cs n0 H B (LS lst) = fillL B n0 (allThere cs es (masks ops.toList []) (cntIn es ((masks ops.toList []).getD i 0))) (H (cntIn es ((masks ops.toList []).getD i 0))) := by
   unfold HPL
   rw [hk, allThere_sel]
   congr 1
   refine sel_congr fun c hcm hst => ?_
   cases hcl : LS lst c
   ·exfalso
    obtain ⟨_, _, _, hord⟩ := hd4 c hcm
    have hge : es.countP (fun x => x == i || LS lst x) ≤ cntIn es ((masks ops.toList []).getD c 0) := by
     refine List.countP_mono_left fun e hm hx => ?_
     rcases hord e hm with hb | hb
     ·exfalso
      rw [Bool.or_eq_true] at hx
      rcases hx with hx | hx
      ·have : e = i := by simpa using hx
       subst this
       have := h3 c hb
       rw [hcl] at this; cases this
      ·have := lstd e (hes e hm).2 hx c hb
       rw [hcl] at this; cases this
     ·exact hb
    rw [countP_or hnd ne h2] at hge
    omega
   ·rfl
  have hafter : HPL ops es cs n0 H B (LS (lst.setIfInBounds i true)) = H (cntIn es ((masks ops.toList []).getD i 0) + 1) := by
   unfold HPL
   rw [hk1, hk]
   have : sel cs es (masks ops.toList []) (cntIn es ((masks ops.toList []).getD i 0) + 1) (LS (lst.setIfInBounds i true)) = [] := by
    apply List.eq_nil_iff_forall_not_mem.2
    intro j hj
    obtain ⟨c, a1, a2, a3⟩ := mem_sel'.1 hj
    have hcm := List.mem_of_getElem? a1
    rw [h5, Bool.or_eq_true] at a3
    rcases a3 with a3 | a3
    ·have : c = i := by simpa using a3
     exact nc (this ▸ hcm)
    ·have : cntIn es ((masks ops.toList []).getD c 0) ≤ es.countP (LS lst) := List.countP_mono_left fun e hm hb => lstd c (hcsh c hcm).2 a3 e hb
     omega
   rw [this]; rfl
  rcases g3 with ⟨hg, rfl, hH⟩ | ⟨hg, y, hop, rfl⟩
  ·refine op_any (b := false) (by simp [h1]) hco hod hog (hFm (.refl _)) hv.hr hv.ok (hgd hg) (fun _ => ?_) (fun hb => by cases hb)
   rw [← hod]
   refine hK E1 _ ⟨hnext hv.hF (.lit _), ?_, hv.ok, hv.le, by rw [put_defers]; exact hv.df, rsk E1 (.refl _)⟩ ⟨o, _, ho, rfl⟩
   rw [hafter, hH, ← hall]; exact hv.hr
  ·refine op_any (b := true) (by simp [h1]) hco hod hog (hFm (.refl _)) hv.hr hv.ok (hgd hg) (fun hb => by cases hb) (fun _ => ?_)
   refine ⟨y, _, by rw [hall]; exact hop _ hco, fun E' v hle hr hyv => ?_⟩
   rw [← hod]
   exact hK E' _ ⟨hnext (hv.hF.mono hle) (nrm_ok hyv), by rw [hafter]; exact hr, hv.ok.le hle, hv.le.trans hle, by rw [put_defers]; exact hv.df, rsk E' hle⟩ ⟨o, _, ho, rfl⟩
 ·-- an effect that may change what was there
  rw [hkd] at g3
  obtain ⟨rfl, t1, t2, t3, g3⟩ := g3
  have hpt : ∀ e ∈ es, LS lst e = ((masks ops.toList []).getD i 0).testBit e := fun e hm => by
   rw [Bool.eq_iff_iff]
   refine ⟨fun hle => ?_, fun hb => h3 e hb⟩
   have hne : e ≠ i := fun h => by rw [h, h2] at hle; cases hle
   rcases Nat.lt_or_ge e i with hlt | hge
   ·exact hd3 i ne e hm hlt
   ·have := lstd e (hes e hm).2 hle i (hd3 e hm i ne (by omega))
    rw [h2] at this; cases this
  have hk : es.countP (LS lst) = cntIn es ((masks ops.toList []).getD i 0) := List.countP_congr fun e hm => by rw [hpt e hm]
  have hk1 : es.countP (LS (lst.setIfInBounds i true)) = es.countP (LS lst) + 1 := by rw [← hL]; exact countP_or hnd ne h2
  have hall : HPL ops es cs n0 H B (LS lst) = fillL B n0 (allThere cs es (masks ops.toList []) (cntIn es ((masks ops.toList []).getD i 0))) (H (cntIn es ((masks ops.toList []).getD i 0))) := by
   unfold HPL
   rw [hk, allThere_sel]
   congr 1
   refine sel_congr fun c hcm hst => ?_
   cases hcl : LS lst c
   ·exfalso
    obtain ⟨_, _, _, hord⟩ := hd4 c hcm
    have hge : es.countP (fun x => x == i || LS lst x) ≤ cntIn es ((masks ops.toList []).getD c 0) := by
     refine List.countP_mono_left fun e hm hx => ?_
     rcases hord e hm with hb | hb
     ·exfalso
      rw [Bool.or_eq_true] at hx
      rcases hx with hx | hx
      ·have : e = i := by simpa using hx
       subst this
       have := h3 c hb
       rw [hcl] at this; cases this
      ·have := lstd e (hes e hm).2 hx c hb
       rw [hcl] at this; cases this
     ·exact hb
    rw [countP_or hnd ne h2] at hge
    omega
   ·rfl
  have hafter : HPL ops es cs n0 H B (LS (lst.setIfInBounds i true)) = H (cntIn es ((masks ops.toList []).getD i 0) + 1) := by
   unfold HPL
   rw [hk1, hk]
   have : sel cs es (masks ops.toList []) (cntIn es ((masks ops.toList []).getD i 0) + 1) (LS (lst.setIfInBounds i true)) = [] := by
    apply List.eq_nil_iff_forall_not_mem.2
    intro j hj
    obtain ⟨c, a1, a2, a3⟩ := mem_sel'.1 hj
    have hcm := List.mem_of_getElem? a1
    rw [h5, Bool.or_eq_true] at a3
    rcases a3 with a3 | a3
    ·have : c = i := by simpa using a3
     exact nc (this ▸ hcm)
    ·have : cntIn es ((masks ops.toList []).getD c 0) ≤ es.countP (LS lst) := List.countP_mono_left fun e hm hb => lstd c (hcsh c hcm).2 a3 e hb
     omega
   rw [this]; rfl
  rcases g3 with ⟨hg, rfl, hH⟩ | ⟨hg, y, hop, rfl⟩
  ·refine op_any (b := false) (by simp [h1]) hco hod hog (hFm (.refl _)) hv.hr hv.ok (hgd hg) (fun _ => ?_) (fun hb => by cases hb)
   rw [← hod]
   refine hK E1 _ ⟨hnext hv.hF (.lit _), ?_, hv.ok, hv.le, by rw [put_defers]; exact hv.df, rsk E1 (.refl _)⟩ ⟨o, _, ho, rfl⟩
   rw [hafter, hH, ← hall]; exact hv.hr
  ·refine op_any (b := true) (by simp [h1]) hco hod hog (hFm (.refl _)) hv.hr hv.ok (hgd hg) (fun hb => by cases hb) (fun _ => ?_)
   refine ⟨y, _, by rw [hall]; exact hop _ hco, fun E' v hle hr hyv => ?_⟩
   rw [← hod]
   exact hK E' _ ⟨hnext (hv.hF.mono hle) (nrm_ok hyv), by rw [hafter]; exact hr, hv.ok.le hle, hv.le.trans hle, by rw [put_defers]; exact hv.df, rsk E' hle⟩ ⟨o, _, ho, rfl⟩
 ·rw [hkd] at g3
  have hsk : st = true → cntIn es ((masks ops.toList []).getD i 0) = es.countP (LS lst) := fun hs1 => List.countP_congr fun e hm => by
   constructor
   ·intro hb; exact h3 e hb
   ·intro hle
    rcases hsv hs1 e hm with hb | hb
    ·exact hb
    ·have := lstd e (hes e hm).2 hle i hb
     rw [h2] at this; cases this
  rcases g3 with ⟨hg, rfl⟩ | ⟨hg, y, hy, rfl, _, _⟩
  ·refine op_any (b := false) (by simp [h1]) hco hod hog (hFm (.refl _)) hv.hr hv.ok (hgd hg) (fun _ => ?_) (fun hb => by cases hb)
   exact plain ne nc E1 undef (.refl _) hv.hr (.lit _)
  ·refine op_any (b := true) (by simp [h1]) hco hod hog (hFm (.refl _)) hv.hr hv.ok (hgd hg) (fun hb => by cases hb) (fun _ => ?_)
   have hy1 := evV_ext (val_ext hdat hH0 (fun j c hj => B_some hc hcs hcsh hdat j c hj) (L := LS lst) (i := i) h3 hsk) hy
   rw [evV_congr (fr' := msk (usesQ o) 0 (mix (fun _ => true) l1 fr0)) (fun t ht => (hgt t (by simp [usesQ, ht])).symm)] at hy1
   exact ⟨y, _, evV_ok hcq hco hy1, fun E' v hle hr hyv => plain ne nc E' v hle hr (nrm_ok hyv)⟩
 ·rw [hkd] at g3
  rcases g3 with ⟨hg, rfl⟩ | ⟨hg, y, hy, rfl⟩
  ·refine op_any (b := false) (by simp [h1]) hco hod hog (hFm (.refl _)) hv.hr hv.ok (hgd hg) (fun _ => ?_) (fun hb => by cases hb)
   exact plain ne nc E1 undef (.refl _) hv.hr (.lit _)
  ·refine op_any (b := true) (by simp [h1]) hco hod hog (hFm (.refl _)) hv.hr hv.ok (hgd hg) (fun hb => by cases hb) (fun _ => ?_)
   have hy1 := evV_ext (g' := gb (HPL ops es cs n0 H B (LS lst))) (fun l hl => absurd rfl hl) hy
   rw [evV_congr (fr' := msk (usesQ o) 0 (mix (fun _ => true) l1 fr0)) (fun t ht => (hgt t (by simp [usesQ, ht])).symm)] at hy1
   exact ⟨y, _, evV_ok hcq hco hy1, fun E' v hle hr hyv => plain ne nc E' v hle hr (nrm_ok hyv)⟩
 ·rw [hkd] at g3
  have hps' : ppOf lo h es cs (masks ops.toList []) = some ps := by rw [← hpp]; exact hps
  rcases g3 with ⟨hg, rfl⟩ | ⟨hg, y, hy, rfl⟩
  ·refine op_any (b := false) (by simp [h1]) hco hod hog (hFm (.refl _)) hv.hr hv.ok (hgd hg) (fun _ => ?_) (fun hb => by cases hb)
   exact plain ne nc E1 undef (.refl _) hv.hr (.lit _)
  ·refine op_any (b := true) (by simp [h1]) hco hod hog (hFm (.refl _)) hv.hr hv.ok (hgd hg) (fun hb => by cases hb) (fun _ => ?_)
   have hmk : mskG (mix (fun _ => true) l1 fr0) ps (gb (H 0)) = mskG fr0 ps (gb (H 0)) := by
    funext l
    unfold mskG
    rw [inP_congr (fr' := fr0) (fun p hp => ?_)]
    have hno : ∀ j o' x', (j, o', x') ∈ l1 → o'.d ≠ some p := fun j o' x' hm hd' => by
     obtain ⟨oj, e1, e2, rfl⟩ := hmem j o' x' (by rw [hl']; exact List.mem_append_left _ hm)
     refine (ppOf_get hps').2 oj ?_ p hp hd'
     exact List.mem_of_getElem? (i := j) (by rw [List.getElem?_take, if_pos e2]; exact e1)
    exact gt_mix_none hno
   rw [hmk] at hy
   have hy1 := evV_ext (prd_ext hdat hH0 (fun j c hj => B_some hc hcs hcsh hdat j c hj) hs1 hps hps' (L := LS lst)) hy
   rw [evV_congr (fr' := msk (usesQ o) 0 (mix (fun _ => true) l1 fr0)) (fun t ht => (hgt t (by simp [usesQ, ht])).symm)] at hy1
   exact ⟨y, _, evV_ok hcq hco hy1, fun E' v hle hr hyv => plain ne nc E' v hle hr (nrm_ok hyv)⟩
end
end Go.Vg
