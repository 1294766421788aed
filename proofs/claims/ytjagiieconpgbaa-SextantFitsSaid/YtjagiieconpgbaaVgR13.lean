import Derived.Test.YtjagiieconpgbaaVgR12
namespace Go.Vg
open Go
set_option linter.unusedVariables false
set_option linter.unusedSimpArgs false
set_option linter.unusedSectionVars false
section
variable {P : Program} {cl : Cl} {cq : Cq} (hcl : ClOk P cl) (hcq : CqOk P cq) {ops : Array Oper} {lo : List Opq} (hc : cops2 P ops ops.toList = some lo) (he : edgesOk ops.toList = true) {st : Bool} {pp : Option (List Nat)} {h : Nat} {es cs : List Nat}
 (hd : drawOk2 (masks ops.toList []) lo h es cs = true) (hnd : es.Nodup) (hes : ∀ e ∈ es, e < h ∧ e < ops.size) (hcs : cs.Nodup) (hcsh : ∀ c ∈ cs, c < h ∧ c < ops.size)
 {n0 : Nat} {H : Nat → List Blk} {B : Nat → Option Blk} {fr0 fe : List SV} {xs : List SV}
 (hdat : Dat2 (P := P) cq n0 H B es.length ((lo.take h).zipIdx.map fun x => (x.1, kdOf st pp cs es (masks ops.toList []) x.2)) 0 fr0 xs fe)
 (hH0 : ∀ j, j < cs.length → n0 + j < ln (H 0) ∧ gb (H 0) (n0 + j) = .dead)
include hcl hcq hc he hd hnd hes hcs hcsh hdat hH0 in
theorem heads_any (hpp : pp = ppOf lo h es cs (masks ops.toList [])) (hd1 : ∀ i, h ≤ i → i < lo.length → ∀ j, j < i → ((masks ops.toList []).getD i 0).testBit j = true) {ro : Option Nat} {n : Nat} {Q : Exit → Act → World → Prop} {E0 : Env} (hn0 : E0.n = n0) {dfs : List Deferred}
  (htail : ∀ (fuel : Nat) (lst : Array Bool) (E1 : Env) (a1 : Act), left lst ≤ fuel → lst.size = ops.size → Shut ops (LS lst) → (∀ j, j < ops.size → (LS lst j = true ↔ j < h + 0)) → E0.Le E1 → OkE P E1 →
   RHp E1 (fillL B n0 (allThere cs es (masks ops.toList []) es.length) (H es.length)) → Rvs E1 fe a1.tmps.toList → a1.defers = dfs → wpAnyIn (fen ro) n P .any ops Q fuel lst a1 E1.w) :
  ∀ (fuel : Nat) (lst : Array Bool) (E1 : Env) (a1 : Act), left lst ≤ fuel → lst.size = ops.size → Shut ops (LS lst) →
   Inv (P := P) (ops := ops) (es := es) (cs := cs) (n0 := n0) (H := H) (B := B) (fr0 := fr0) E0 E1 a1 dfs (LS lst) (ent st pp lo ops h es cs xs) → (∀ j, h ≤ j → LS lst j = false) → wpAnyIn (fen ro) n P .any ops Q fuel lst a1 E1.w := by
 have fin : ∀ (fuel : Nat) (lst : Array Bool) (E1 : Env) (a1 : Act), left lst ≤ fuel → lst.size = ops.size → Shut ops (LS lst) →
   Inv (P := P) (ops := ops) (es := es) (cs := cs) (n0 := n0) (H := H) (B := B) (fr0 := fr0) E0 E1 a1 dfs (LS lst) (ent st pp lo ops h es cs xs) → (∀ j, h ≤ j → LS lst j = false) → (∀ i, i < h → i < ops.size → LS lst i = true) →
   wpAnyIn (fen ro) n P .any ops Q fuel lst a1 E1.w := by
  intro fuel lst E1 a1 hleft hsz hs hv hno hall
  have hmx : mix (LS lst) (ent st pp lo ops h es cs xs) fr0 = fe := by
   rw [dat2_end (s := 0) hdat]
   have := mix_split (p := LS lst) (ent st pp lo ops h es cs xs) [] fr0 (fun i o x hm => by
    obtain ⟨_, o2, kd, e1, _⟩ := mkl_mem hm
    rw [Nat.sub_zero] at e1
    obtain ⟨h2, h1, _⟩ := heads_get e1
    refine hall i h2 ?_
    have := (List.getElem?_eq_some_iff.1 h1).1
    rw [cops2_len hc] at this; simpa using this) (fun i o x hm => by cases hm)
   simpa using this
  have hk : es.countP (LS lst) = es.length := List.countP_eq_length.2 fun e hm => hall e (hes e hm).1 (hes e hm).2
  have hHP : HPL ops es cs n0 H B (LS lst) = fillL B n0 (allThere cs es (masks ops.toList []) es.length) (H es.length) := by
   unfold HPL
   rw [hk, allThere_sel]
   congr 1
   exact sel_congr fun c hcm _ => hall c (hcsh c hcm).1 (hcsh c hcm).2
  refine htail fuel lst E1 a1 hleft hsz hs (fun j hj => ⟨fun hj' => ?_, fun hj' => hall j (by simpa using hj') hj⟩) hv.le hv.ok (by rw [← hHP]; exact hv.hr) (by rw [← hmx]; exact hv.hF) hv.df
  rcases Nat.lt_or_ge j h with h1 | h1
  ·simpa using h1
  ·have := hno j h1; rw [hj'] at this; cases this
 intro fuel
 induction fuel with
 | zero =>
  intro lst E1 a1 hleft hsz hs hv hno
  exact fin 0 lst E1 a1 hleft hsz hs hv hno fun i _ hi => by rw [LS, ← getD_tf (by omega)]; exact left_zero (by omega) i
 | succ fuel ih =>
  intro lst E1 a1 hleft hsz hs hv hno
  by_cases hall : ∀ i, i < h → i < ops.size → LS lst i = true
  ·exact fin (fuel + 1) lst E1 a1 hleft hsz hs hv hno hall
  ·have hex : ∃ i, i < h ∧ i < ops.size ∧ LS lst i = false := by
    apply Classical.byContradiction
    intro hc'
    refine hall fun i h1 h2 => ?_
    cases hv : LS lst i
    ·exact absurd ⟨i, h1, h2, hv⟩ hc'
    ·rfl
   constructor
   ·intro hnil
    obtain ⟨i, h1, h2, h3⟩ := hex
    obtain ⟨j, _, hj⟩ := unlisted_ready hsz he i h2 (by rw [getD_tf (by omega)]; exact h3)
    rw [hnil] at hj; cases hj
   ·intro i hi
    obtain ⟨h1, h2, h3, h4, h5, h6⟩ := ready_facts hsz hs hi
    have hih : i < h := by
     rcases Nat.lt_or_ge i h with h7 | h7
     ·exact h7
     ·obtain ⟨i', h8, h9, h10⟩ := hex
      have := h3 i' (hd1 i h7 (by rw [cops2_len hc]; simpa using h1) i' (by omega))
      rw [h10] at this; cases this
    exact heads_step hcl hcq hc he hd hnd hes hcs hcsh hdat hH0 hpp hn0 hsz hs hi hih hv fun E' a' hv' _ =>
     ih _ E' a' (by omega) (by simpa using hsz) h4 hv' fun j hj => by rw [h5, hno j hj, Bool.or_false]; simp; omega
end
theorem shB_ok {α : Type} {fr : List SV} {k : HT → Option α} {res : α} : ∀ {ds : List Nat} {h : HT} {hp : List Blk}, HRel h hp → shB fr ds h k = some res → ∃ h', HRel h' (shutH fr ds hp) ∧ Frm h h' ∧ k h' = some res
 | [], h, hp, r, e => ⟨h, r, .refl h, e⟩
 | d :: t, h, hp, r, e => by
  simp only [shB] at e
  simp only [shutH, shut1]
  split at e
  ·rename_i l hg
   rw [r.g] at e
   simp only [hg]
   unfold shutB
   split at e
   ·rename_i q ty xs hb
    rw [HT.set_eq] at e
    have hl := r.lt (b := .oi q ty xs) (by rw [r.g]; exact hb) (by simp)
    obtain ⟨h', r', hf, hk⟩ := shB_ok (r.set _ hl) e
    exact ⟨h', by simp only [hb]; exact r', (Frm.set r.f _ hl).trans hf, hk⟩
   ·rename_i ty sz len f hb
    rw [HT.set_eq] at e
    have hl := r.lt (b := .orw ty sz len f) (by rw [r.g]; exact hb) (by simp)
    obtain ⟨h', r', hf, hk⟩ := shB_ok (r.set _ hl) e
    exact ⟨h', by simp only [hb]; exact r', (Frm.set r.f _ hl).trans hf, hk⟩
   ·rename_i hn1 hn2
    obtain ⟨h', r', hf, hk⟩ := shB_ok r e
    refine ⟨h', ?_, hf, hk⟩
    split
    ·rename_i a b c hb; exact absurd hb (hn1 a b c)
    ·rename_i a b c d hb; exact absurd hb (hn2 a b c d)
    ·exact r'
  ·rename_i hn
   obtain ⟨h', r', hf, hk⟩ := shB_ok r e
   refine ⟨h', ?_, hf, hk⟩
   split
   ·rename_i l hg; exact absurd hg (hn l)
   ·exact r'
theorem ownsRow_one {w : World} {t sz n : Nat} {v : Value} {xs : List Value} (h : w.ownsRow 0 t sz v n xs) : v.oneCell' = true := by
 rcases h.2 with ⟨rfl, _⟩ | ⟨g, cap, cur, rfl, _⟩ <;> rfl
theorem shD_ok {α : Type} {k : HT → Option α} {res : α} : ∀ {ls : List Nat} {h : HT} {hp : List Blk}, HRel h hp → shD ls h k = some res →
  ∃ h' hp', HRel h' hp' ∧ Frm h h' ∧ k h' = some res ∧ ∀ E, RHp E hp → ∃ E', Closed E E' ∧ RHp E' hp'
 | [], h, hp, r, e => ⟨h, hp, r, .refl h, e, fun E hr => ⟨E, .refl E, hr⟩⟩
 | l :: t, h, hp, r, e => by
  simp only [shD] at e
  rw [r.g] at e
  split at e
  ·rename_i q ty xs hb
   rw [HT.set_eq] at e
   have hl := r.lt (b := .oi q ty xs) (by rw [r.g]; exact hb) (by simp)
   obtain ⟨h', hp', r', hf, hk, hh⟩ := shD_ok (r.set _ hl) e
   refine ⟨h', hp', r', (Frm.set r.f _ hl).trans hf, hk, fun E hr => ?_⟩
   have hget := some_gb hb (by simp)
   have hx : Rv E (.own l) (E.val l) := .own l _ (hr.has hget (by simp)) (ownsRow_one (hr.b.blk l _ hget).1) (fun _ => rfl)
   obtain ⟨E1, c1, r1⟩ := shut1_ok hr hx
   simp only [shut1, hb, shutB] at r1
   obtain ⟨E2, c2, r2⟩ := hh E1 r1
   exact ⟨E2, c1.trans c2, r2⟩
  ·rename_i ty sz len f hb
   rw [HT.set_eq] at e
   have hl := r.lt (b := .orw ty sz len f) (by rw [r.g]; exact hb) (by simp)
   obtain ⟨h', hp', r', hf, hk, hh⟩ := shD_ok (r.set _ hl) e
   refine ⟨h', hp', r', (Frm.set r.f _ hl).trans hf, hk, fun E hr => ?_⟩
   have hget := some_gb hb (by simp)
   have hx : Rv E (.own l) (E.val l) := .own l _ (hr.has hget (by simp)) (by obtain ⟨⟨vs, _, _, h1⟩, _⟩ := hr.b.blk l _ hget; exact ownsRow_one h1) (fun _ => rfl)
   obtain ⟨E1, c1, r1⟩ := shut1_ok hr hx
   simp only [shut1, hb, shutB] at r1
   obtain ⟨E2, c2, r2⟩ := hh E1 r1
   exact ⟨E2, c1.trans c2, r2⟩
  ·rename_i ty cs hb
   split at e
   ·rename_i hcl
    rw [HT.set_eq] at e
    have hl := r.lt (b := .box ty cs) (by rw [r.g]; exact hb) (by simp)
    obtain ⟨h', hp', r', hf, hk, hh⟩ := shD_ok (r.set _ hl) e
    refine ⟨h', hp', r', (Frm.set r.f _ hl).trans hf, hk, fun E hr => ?_⟩
    have hget := some_gb hb (by simp)
    obtain ⟨vs, h2, h3⟩ := hr.b.blk l _ hget
    have v1 := clos_ok 8 hcl h2
    obtain ⟨E1, c1, _, r1⟩ := close_one hr (newb := .fbox ty cs) hget (by simp)
     (fun E' hc hi => ⟨by rw [hc.blk]; exact hi _ rfl, vs, (v1.mono hc.stays).rv, by rw [hc.w, hc.blk]; exact h3⟩) (fun E' => rfl)
    obtain ⟨E2, c2, r2⟩ := hh E1 r1
    exact ⟨E2, c1.trans c2, r2⟩
   ·exact shD_ok r e
  ·exact shD_ok r e
theorem ixs2_mem {p : Opq → Nat → Bool} {lo : List Opq} {h i : Nat} (hm : i ∈ ixs2 p lo h) : i < h ∧ i < lo.length := by
 unfold ixs2 at hm
 obtain ⟨⟨o, j⟩, h1, rfl⟩ := List.mem_map.1 hm
 obtain ⟨h2, h3⟩ := List.mem_filter.1 h1
 simp only [Bool.and_eq_true, decide_eq_true_eq] at h3
 have := List.mem_zipIdx_iff_getElem?.1 h2
 exact ⟨h3.1, (List.getElem?_eq_some_iff.1 (by simpa using this)).1⟩
theorem ixs2_nodup (p : Opq → Nat → Bool) (lo : List Opq) (h : Nat) : (ixs2 p lo h).Nodup := by
 unfold ixs2
 have h1 : (lo.zipIdx.map (·.2)).Pairwise (· < ·) := by rw [List.zipIdx_map_snd]; exact List.pairwise_lt_range'
 exact (h1.sublist ((List.filter_sublist).map _)).imp (fun h => Nat.ne_of_lt h)
theorem readings_get {P : Program} {ops : Array Oper} {lo : List Opq} {p : Drp} (h : p ∈ readings P ops lo) : (∃ st q, cdrawQ P ops lo st q = some p) ∨ ∃ st q, cdrawF P ops lo st q = some p := by
 unfold readings at h
 generalize (!(ixs2 isStore lo (headLen (masks ops.toList []))).isEmpty) = st at h
 simp only at h
 split at h
 ·rename_i p1 h1
  cases h with
  | head => exact .inl ⟨_, _, h1⟩
  | tail _ h =>
   split at h
   ·exact .inl ⟨_, _, Option.mem_toList.1 h⟩
   ·cases h
 ·rcases List.mem_append.1 h with h | h
  ·rcases List.mem_append.1 h with h | h
   ·rcases List.mem_append.1 h with h | h
    ·exact .inr ⟨_, _, Option.mem_toList.1 h⟩
    ·split at h
     ·rename_i p1 h1; cases List.mem_singleton.1 h; exact .inl ⟨_, _, h1⟩
     ·exact .inl ⟨_, _, Option.mem_toList.1 h⟩
   ·split at h
    ·cases h
    ·rcases List.mem_append.1 h with h | h
     ·split at h
      ·cases h
      ·exact .inl ⟨_, _, Option.mem_toList.1 h⟩
     ·exact .inl ⟨_, _, Option.mem_toList.1 h⟩
  ·split at h
   ·cases h
   ·exact .inl ⟨_, _, Option.mem_toList.1 h⟩
theorem cdrawF_fl {P : Program} {ops : Array Oper} {lo : List Opq} {st : Bool} {q : List Nat} {p : Drp} (h : cdrawF P ops lo st q = some p) : ∃ d, p.fl = some d := by
 unfold cdrawF at h
 simp only at h
 split at h <;> first | (cases h; done) | skip
 split at h <;> first | (cases h; done) | skip
 split at h <;> first | (cases h; done) | skip
 cases h
 exact ⟨_, rfl⟩
theorem cdrawQ_fl {P : Program} {ops : Array Oper} {lo : List Opq} {st : Bool} {q : List Nat} {p : Drp} (h : cdrawQ P ops lo st q = some p) : p.fl = none := by
 unfold cdrawQ at h
 simp only at h
 split at h <;> cases h
 rfl
theorem drw_ok {P : Program} {cl : Cl} (hcl : ClOk P cl) {cq : Cq} (hcq : CqOk P cq) {ops : Array Oper} {sh cs0 : List Nat} {m ne : Nat} {hs : List (Opq × Kd)} {tl : List Opq} {ps : List Drp} (hsc : cdraw2 P ops = some (.drw ps)) (hmem : ⟨sh, m, ne, hs, cs0, tl, none⟩ ∈ ps)
    {α : Type} {fr : List SV} {h : HT} {hp : List Blk} (r : HRel h hp) {kk : List SV → HT → Option α} {res : α} {frF : List SV} {hF : HT} (hfin : ∀ fr h, kk fr h = some res → fr = frF ∧ h = hF)
    (e : shB fr sh h (fun h => resv m h fun h1 => hdB cl cq h.n ne cs0 hs fr h1 [h1] [] fun fr h => opsB cl tl fr h kk) = some res) :
    ∃ hp', HRel hF hp' ∧ Frm h hF ∧ ∀ (E : Env) (a : Act) (ro : Option Nat) (n : Nat) (Q : Exit → Act → World → Prop) (id : Nat), OkE P E → RHp E hp → Rvs E fr a.tmps.toList →
      (∀ E' a', E.Le E' → RHp E' hp' → Rvs E' frF a'.tmps.toList → a'.defers = a.defers → Q .normal a' E'.w) → (Code.region id ops true).wpIn (fen ro) n P Q a E.w := by
  unfold cdraw2 at hsc
  split at hsc
  · cases hsc
  rename_i lo hc
  split at hsc
  · rename_i hfe
    simp only [Bool.and_eq_true] at hfe
    obtain ⟨hm, he⟩ := hfe
    have hq : ∃ st q, cdrawQ P ops lo st q = some ⟨sh, m, ne, hs, cs0, tl, none⟩ := by
      split at hsc
      · cases hsc
      · rename_i ps' _
        cases hsc
        rcases readings_get hmem with h | ⟨st, q, h⟩
        · exact h
        · obtain ⟨d, h⟩ := cdrawF_fl h; cases h
    obtain ⟨st, q, hq⟩ := hq
    unfold cdrawQ at hq
    simp only at hq
    generalize hh : headLen (masks ops.toList []) = hd at hq
    generalize hes : ixs2 (fun o i => effq q i o.o) lo hd = es at hq
    generalize hcs : ixs2 (fun o i => creq q i o.o) lo hd = cs at hq
    split at hq
    · rename_i hdo
      rw [Bool.and_eq_true] at hdo
      obtain ⟨hdt, hdo⟩ := hdo
      cases hq
      have hlen : lo.length = ops.size := by rw [cops2_len hc]; simp
      have hes1 : ∀ e ∈ es, e < hd ∧ e < ops.size := fun e hm => by rw [← hes] at hm; rw [← hlen]; exact ixs2_mem hm
      have hcs1 : ∀ e ∈ cs, e < hd ∧ e < ops.size := fun e hm => by rw [← hcs] at hm; rw [← hlen]; exact ixs2_mem hm
      have hnd : es.Nodup := hes ▸ ixs2_nodup _ _ _
      have hnc : cs.Nodup := hcs ▸ ixs2_nodup _ _ _
      have hd1 := drawTl_get hdt
      obtain ⟨h1, r1, f1, e⟩ := shB_ok r e
      obtain ⟨h2, e2, r2, f2⟩ := resv_rel cs.length r1 (fun h1' => hdB cl cq h1.n es.length (allThere cs es (masks ops.toList []) es.length) ((lo.take hd).zipIdx.map fun x => (x.1, kdOf st (ppOf lo hd es cs (masks ops.toList [])) cs es (masks ops.toList []) x.2)) fr h1' [h1'] [] fun fr h => opsB cl (lo.drop hd) fr h kk)
      have e3 := e2.symm.trans e
      obtain ⟨hps', cb', xs, fe, hT, hE, hpE, a1, a2, a3, a4, a5, a6, a7, a8, a9⟩ := hdB_dat (P := P) hcl e3 [] rfl [resvH cs.length (shutH fr _ hp)] rfl (fun i x hx => by
        cases i with
        | zero => simp at hx; subst hx; exact ⟨_, rfl, r2⟩
        | succ i => simp at hx)
      have hH0 : hps'.getD 0 [] = resvH cs.length (shutH fr (if (lo.any isSlq || !q.isEmpty) = true then liveIn lo else []) hp) := by rw [List.getD_eq_getElem?_getD, a1 0 _ rfl]; rfl
      have hl1 : h1.n = ln (shutH fr (if (lo.any isSlq || !q.isEmpty) = true then liveIn lo else []) hp) := r1.n
      have hH0' : ∀ j, j < cs.length → h1.n + j < ln (hps'.getD 0 []) ∧ gb (hps'.getD 0 []) (h1.n + j) = .dead := fun j hj => by
        rw [hH0, resvH_ln, resvH_gb, ← hl1, if_neg (by omega)]
        exact ⟨by omega, rfl⟩
      have htl : ∃ hpF, HRel hF hpF ∧ Frm hT hF := by
        have hct : ∀ (k : Nat) (l : List Oper) (lo' : List Opq), cops2 P ops l = some lo' → cops2 P ops (l.drop k) = some (lo'.drop k) := by
          intro k
          induction k with
          | zero => intro l lo' h; simpa using h
          | succ k ih =>
            intro l lo' h
            cases l with
            | nil => simp [cops2] at h; subst h; simp [cops2]
            | cons x l =>
              simp only [cops2] at h
              split at h
              · rename_i g1 g2 g3; cases h; simpa using ih l _ g2
              · cases h
        obtain ⟨fr', h', hp', r', hf', hk', _⟩ := opsB_ok hcl _ _ (hct hd _ _ hc) a6 a9
        obtain ⟨rfl, rfl⟩ := hfin _ _ hk'
        exact ⟨hp', r', hf'⟩
      obtain ⟨hpF, rF, fF⟩ := htl
      refine ⟨hpF, rF, (f1.trans f2).trans (a8.trans fF), fun E a ro n Q id hok hr hfr hq => ?_⟩
      obtain ⟨E1, c1, hr1⟩ := shutH_ok (if (lo.any isSlq || !q.isEmpty) = true then liveIn lo else []) hr hfr
      rw [← c1.w]
      have hok1 := hok.le c1.le
      have hfr1 := hfr.mono c1.le
      refine wpIn_region_any hm ?_
      have hE2 : E1.Le (E1.to { E1.w with drawn := E1.w.drawn + 1 }) := Env.to_le fun b hb => rfl
      have hr2 : RHp (E1.to { E1.w with drawn := E1.w.drawn + 1 }) (shutH fr (if (lo.any isSlq || !q.isEmpty) = true then liveIn lo else []) hp) :=
        ⟨⟨hr1.g.fr, hr1.g.fz, hr1.g.sz, hr1.g.os, hr1.g.tape, hr1.g.output, hr1.g.imb, hr1.g.im0⟩,
         ⟨hr1.b.n, hr1.b.rs, fun l b hb => (hr1.b.blk l b hb).keep hE2 (hr1.has hb) (fun g _ => rfl), hr1.b.live, hr1.b.imx, hr1.b.base, hr1.b.dj⟩⟩
      obtain ⟨E3, hE3, hw3, hr3, hrs3⟩ := hr2.resv cs.length
      have hn0 : (E1.to { E1.w with drawn := E1.w.drawn + 1 }).n = h1.n := by rw [hl1, ln_eq]; exact hr2.b.n
      have hLf : LS (Array.replicate ops.size false) = fun _ => false := by
        funext j
        simp only [LS, Array.getD_eq_getD_getElem?, Array.getElem?_replicate]
        split <;> rfl
      have h0 : left (Array.replicate ops.size false) ≤ ops.size := by
        unfold left; rw [Array.toList_replicate]; simp
      have hHP0 : HPL ops es cs h1.n (fun i => hps'.getD i []) (nthB cb') (fun _ => false) = resvH cs.length (shutH fr (if (lo.any isSlq || !q.isEmpty) = true then liveIn lo else []) hp) := by
        unfold HPL
        have k0 : es.countP (fun _ => false) = 0 := by simp
        rw [k0]
        have : sel cs es (masks ops.toList []) 0 (fun _ => false) = [] := by
          apply List.eq_nil_iff_forall_not_mem.2
          intro j hj
          obtain ⟨_, _, _, h⟩ := mem_sel'.1 hj; cases h
        rw [this]; exact hH0
      have hmx : mix (fun _ => false) (ent st (ppOf lo hd es cs (masks ops.toList [])) lo ops hd es cs xs) fr = fr := by
        have := mix_split (p := fun _ => false) [] (ent st (ppOf lo hd es cs (masks ops.toList [])) lo ops hd es cs xs) fr (fun _ _ _ hm => by cases hm) (fun _ _ _ _ => rfl)
        simpa [mix] using this
      have hEE := c1.le.trans hE2
      show wpAnyIn (fen ro) n P .any ops Q ops.size (Array.replicate ops.size false) a (E1.to { E1.w with drawn := E1.w.drawn + 1 }).w
      rw [← hw3]
      refine heads_any hcl hcq hc he hdo hnd hes1 hnc hcs1 a3 hH0' rfl hd1 (E0 := E1.to { E1.w with drawn := E1.w.drawn + 1 }) hn0 (dfs := a.defers) ?_ ops.size _ E3 a h0 (by simp) ?_ ⟨?_, ?_, (hok1.le hE2).le hE3, hE3, rfl, fun j c hj _ => ?_⟩ (fun j _ => by rw [hLf])
      · intro fuel lst E4 a4 hleft hsz hs hk hle4 hok4 hr4 hf4 hdf4
        have a5' : hps'.getD es.length [] = hpE := a5
        refine tailB_any hcl hc he (fun i hi hlt j hj => hd1 i hi (by rw [hlen]; exact hlt) j hj) hfin rF E a.defers hq fuel lst 0 E4 fe hT _ a4 hleft hsz hs hk (hEE.trans hle4) hok4 (by
          simp only [a5']; exact a6) hr4 hf4 hdf4 (by simpa using a9)
      · intro k o _ hk; rw [hLf] at hk; cases hk
      · rw [hLf, hmx]; exact hfr1.mono (hE2.trans hE3)
      · rw [hLf, hHP0]; exact hr3
      · have := hrs3 j (List.getElem?_eq_some_iff.1 hj).1
        rw [hn0] at this; exact this
    · cases hq
  · cases hsc
end Go.Vg
