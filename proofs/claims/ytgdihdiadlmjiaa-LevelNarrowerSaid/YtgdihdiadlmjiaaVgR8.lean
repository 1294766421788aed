import Derived.Test.YtgdihdiadlmjiaaVgR7
set_option linter.all false
namespace Go.Vg
open Go
theorem xOu {hp : List Blk} {l : Nat} (h : l < ln hp) : hp[l]? = some (gb hp l) := by
 induction hp generalizing l with
 | nil => simp [ln] at h
 | cons x t ih =>
  cases l with
  | zero => rfl
  | succ l => simpa [gb] using ih (by simpa [ln] using h)
theorem xRj {a b : List Blk} (hl : ln a = ln b) (hg : ∀ l, gb a l = gb b l) : a = b := by
 apply List.ext_getElem?
 intro l
 by_cases h : l < ln a
 ·rw [xOu h, xOu (hl ▸ h), hg]
 ·rw [List.getElem?_eq_none (by rw [<- xBn]; omega), List.getElem?_eq_none (by rw [<- xBn]; omega)]
theorem HRel.uniq {h : HT} {a b : List Blk} (ra : HRel h a) (rb : HRel h b) : a = b :=
 xRj (ra.n.symm.trans rb.n) (fun l => by rw [<- ra.g, rb.g])
def fillL (B : Nat -> Option Blk) (n0 : Nat) : List Nat -> List Blk -> List Blk
 | [], hp => hp
 | j :: t, hp => fillL B n0 t (match B j with
  | some b => sb hp (n0 + j) b
  | none => hp)
theorem xBm (B : Nat -> Option Blk) (n0 : Nat) : ∀ (js : List Nat) (hp : List Blk), ln (fillL B n0 js hp) = ln hp
 | [], hp => rfl
 | j :: t, hp => by simp only [fillL]; rw [xBm]; split <;> simp [ln_sb]
theorem xAp {B : Nat -> Option Blk} {n0 : Nat} : ∀ {js : List Nat} {hp : List Blk} {l : Nat}, (∀ j ∈ js, n0 + j ≠ l) -> (∀ j ∈ js, n0 + j < ln hp) -> gb (fillL B n0 js hp) l = gb hp l
 | [], hp, l, _, _ => rfl
 | j :: t, hp, l, h, hl => by
  simp only [fillL]
  rw [xAp (fun j hj => h j (List.mem_cons_of_mem _ hj)) (fun j hj => by
   have := hl j (List.mem_cons_of_mem _ hj)
   split <;> simpa [ln_sb] using this)]
  split
  ·rw [xCu _ _ _ _ (hl j (List.mem_cons_self ..)), if_neg (fun e => h j (List.mem_cons_self ..) e.symm)]
  ·rfl
theorem xBj {B : Nat -> Option Blk} {n0 : Nat} : ∀ {js : List Nat} {hp : List Blk} {j : Nat} {b : Blk}, j ∈ js -> B j = some b -> (∀ j ∈ js, n0 + j < ln hp) -> gb (fillL B n0 js hp) (n0 + j) = b
 | i :: t, hp, j, b, hj, hb, hl => by
  simp only [fillL]
  have hl' : ∀ j ∈ t, n0 + j < ln (match B i with
   | some b => sb hp (n0 + i) b
   | none => hp) := fun j hj => by
   have := hl j (List.mem_cons_of_mem _ hj)
   split <;> simpa [ln_sb] using this
  by_cases ht : j ∈ t
  ·exact xBj ht hb hl'
  ·have hi : j = i := by
    cases hj with
    | head => rfl
    | tail _ h => exact absurd h ht
   subst hi
   rw [xAp (fun k hk e => ht (by rwa [show k = j by omega] at hk)) hl']
   rw [hb]
   simp only
   rw [xCu _ _ _ _ (hl j (List.mem_cons_self ..)), if_pos rfl]
theorem blt_ok {a b : Nat} (h : Nat.blt a b = true) : a < b := Nat.le_of_ble_eq_true h
theorem xCg {α : Type} {n0 : Nat} {cb : List (Nat × Blk)} : ∀ {js : List Nat} {h : HT} {hp : List Blk} {k : HT -> Option α} {res : α}, HRel h hp -> fill n0 cb js h k = some res ->
  ∃ h', HRel h' (fillL (nthB cb) n0 js hp) /\ Frm h h' /\ h'.n = h.n /\ k h' = some res /\ (∀ j ∈ js, n0 + j < ln hp /\ ∃ b, nthB cb j = some b)
 | [], h, hp, k, res, r, e => ⟨h, r, .refl h, rfl, e, fun j hj => by cases hj⟩
 | j :: t, h, hp, k, res, r, e => by
  simp only [fill] at e
  split at e <;> first | (cases e; done) | skip
  rename_i b hb
  split at e <;> first | (cases e; done) | skip
  rename_i hlt
  have hlt := blt_ok hlt
  rw [HT.set_eq] at e
  obtain ⟨h', r', hf, hn, hk, hj⟩ := xCg (r.set b hlt) e
  refine ⟨h', by simp only [fillL, hb]; exact r', (Frm.set r.f b hlt).trans hf, hn, hk, fun i hi => ?_⟩
  cases hi with
  | head => exact ⟨by rw [<- r.n]; exact hlt, b, hb⟩
  | tail _ hi => have := hj i hi; rw [ln_sb] at this; exact this
theorem xBk {B B' : Nat -> Option Blk} {n0 : Nat} : ∀ {js : List Nat} {hp : List Blk}, (∀ j ∈ js, B j = B' j) -> fillL B n0 js hp = fillL B' n0 js hp
 | [], hp, _ => rfl
 | j :: t, hp, h => by
  simp only [fillL]
  rw [h j (List.mem_cons_self ..)]
  exact xBk fun j hj => h j (List.mem_cons_of_mem _ hj)
theorem xQi {cb cb' : List (Nat × Blk)} {j : Nat} {b : Blk} : nthB cb j = some b -> nthB (cb ++ cb') j = some b := by
 induction cb with
 | nil => intro h; simp [nthB] at h
 | cons x t ih =>
  intro h
  obtain ⟨i, c⟩ := x
  simp only [nthB, List.cons_append] at h ⊢
  split at h
  ·exact h
  ·exact ih h
theorem xQj {cb : List (Nat × Blk)} {j : Nat} {b : Blk} : nthB cb j = none -> nthB (cb ++ [(j, b)]) j = some b := by
 induction cb with
 | nil => intro h; simp [nthB, Nat.beq_refl]
 | cons x t ih =>
  intro h
  obtain ⟨i, c⟩ := x
  simp only [nthB, List.cons_append] at h ⊢
  split at h
  ·cases h
  ·exact ih h
def Opq.sh (o : Opq) : Opr := ⟨o.d, o.g, .new 0 []⟩
def isE : Kd -> Nat
 | .eff .. => 1
 | .efs .. => 1
 | _ => 0
section
variable {P : Program} (cq : Cq) (n0 : Nat) (H : Nat -> List Blk) (B : Nat -> Option Blk)
def StepD (c : Nat) (fr : List SV) (o : Opq) (kd : Kd) (x : SV) : Prop :=
  match kd with
  | .val mn cs => ((gdl fr o.g = some false /\ x = .lit undef) \/ (gdl fr o.g = some true /\ ∃ y, evV cq fr (gb (fillL B n0 cs (H mn))) o.o = some y /\ x = nrm y /\ mn <= c /\ (∀ j ∈ cs, n0 + j < ln (H mn) /\ ∃ b, B j = some b)))
  | .cre j => ∃ o1 b, o.o = .o o1 /\ crv fr (n0 + j) o1 = some (x, b) /\ B j = some b
  | .eff m cs => c = m /\ (∀ j ∈ cs, n0 + j < ln (H c) /\ ∃ b, B j = some b) /\ ln (H c) <= ln (H (c + 1)) /\ (∀ l, l < ln (H c) -> gb (H (c + 1)) l = gb (fillL B n0 cs (H c)) l) /\
      ((gdl fr o.g = some false /\ x = .lit undef /\ H (c + 1) = fillL B n0 cs (H c)) \/
       (gdl fr o.g = some true /\ ∃ y, (∀ op, C2 P op o.o -> OpOk P op (msk (usesQ o) 0 fr) (fillL B n0 cs (H c)) y (H (c + 1))) /\ x = nrm y))
  | .pur => (gdl fr o.g = some false /\ x = .lit undef) \/ (gdl fr o.g = some true /\ ∃ y, evV cq fr (fun _ => .dead) o.o = some y /\ x = nrm y)
  | .prd ps => (gdl fr o.g = some false /\ x = .lit undef) \/ (gdl fr o.g = some true /\ ∃ y, evV cq fr (mskG fr ps (gb (H 0))) o.o = some y /\ x = nrm y)
  | .efs m cs ls => c = m /\ (∀ j ∈ cs, n0 + j < ln (H c) /\ ∃ b, B j = some b) /\ ln (H c) <= ln (H (c + 1)) /\ ((∀ j ∈ ls, gb (H (c + 1)) (n0 + j) = .dead) /\
      (∀ sz p v, o.o = .o (.store sz (.t p) v) -> ∀ l, l < ln (H c) -> (∀ l' off, gt fr p = .ptr l' off -> l ≠ l') -> (∀ l' s i off, gt fr p ≠ .ep l' s i off) -> gb (H (c + 1)) l = gb (fillL B n0 cs (H c)) l)) /\
      ((gdl fr o.g = some false /\ x = .lit undef /\ H (c + 1) = fillL B n0 cs (H c)) \/
       (gdl fr o.g = some true /\ ∃ y, (∀ op, C2 P op o.o -> OpOk P op (msk (usesQ o) 0 fr) (fillL B n0 cs (H c)) y (H (c + 1))) /\ x = nrm y))
def Dat2 (ne : Nat) : List (Opq × Kd) -> Nat -> List SV -> List SV -> List SV -> Prop
 | [], c, fr, xs, fe => xs = [] /\ fe = fr /\ c = ne
 | (o, kd) :: t, c, fr, xs, fe => ∃ x xs', xs = x :: xs' /\ StepD (P := P) cq n0 H B c fr o kd x /\ Dat2 ne t (c + isE kd) (putf fr o.d x) xs' fe
end
theorem xHw {h : HT} {hp : List Blk} (r : HRel h hp) {n0 : Nat} : ∀ {ls : List Nat}, deadB h n0 ls = true -> ∀ j ∈ ls, gb hp (n0 + j) = .dead
 | [], _, j, hj => by cases hj
 | i :: t, e, j, hj => by
  simp only [deadB, r.g] at e
  split at e
  ·rename_i h1
   cases hj with
   | head => exact h1
   | tail _ hj => exact xHw r e j hj
  ·cases e
theorem xKc {P : Program} {α : Type} {cl : Cl} (hcl : ClOk P cl) {cq : Cq} {n0 ne : Nat} {cs0 : List Nat} {k : List SV -> HT -> Option α} {res : α} : ∀ {t : List (Opq × Kd)} {fr : List SV} {h : HT} {hs : List HT} {cb : List (Nat × Blk)},
  hdB cl cq n0 ne cs0 t fr h hs cb k = some res -> ∀ (pre : List HT), hs = pre ++ [h] -> ∀ (hps : List (List Blk)), hps.length = hs.length -> (∀ (i : Nat) (x : HT), hs[i]? = some x -> ∃ hp : List Blk, hps[i]? = some hp /\ HRel x hp) ->
  ∃ (hps' : List (List Blk)) (cb' : List (Nat × Blk)) (xs fe : List SV) (hF hE : HT) (hpE : List Blk),
   (∀ (i : Nat) (hp : List Blk), hps[i]? = some hp -> hps'[i]? = some hp) /\ (∀ j b, nthB cb j = some b -> nthB cb' j = some b) /\
   Dat2 (P := P) cq n0 (fun i => hps'.getD i []) (nthB cb') ne t pre.length fr xs fe /\ HRel hE hpE /\ hps'.getD ne [] = hpE /\
   HRel hF (fillL (nthB cb') n0 cs0 hpE) /\ (∀ j ∈ cs0, n0 + j < ln hpE /\ ∃ b, nthB cb' j = some b) /\ Frm h hF /\ k fe hF = some res := by
 intro t
 induction t with
 | nil =>
  intro fr h hs cb e pre hpre hps hlen hrel
  subst hpre
  obtain ⟨hp, hp1, r⟩ := hrel pre.length h (by simp)
  simp only [hdB] at e
  split at e <;> first | (cases e; done) | skip
  rename_i hne
  have hne : pre.length = ne := by simpa using xAc hne
  obtain ⟨h', r', hf, hn, hk, hj⟩ := xCg r e
  exact ⟨hps, cb, [], fr, h', h, hp, fun i hp h => h, fun j b h => h, ⟨rfl, rfl, hne⟩, r, by simp [List.getD_eq_getElem?_getD, <- hne, hp1], r', hj, hf, hk⟩
 | cons y t ih =>
  obtain ⟨⟨d, g, o⟩, kd⟩ := y
  intro fr h hs cb e pre hpre hps hlen hrel
  subst hpre
  obtain ⟨hp, hp1, r⟩ := hrel pre.length h (by simp)
  have getH : ∀ {hps' : List (List Blk)} {i : Nat} {hp : List Blk}, (∀ i hp, hps[i]? = some hp -> hps'[i]? = some hp) -> hps[i]? = some hp -> hps'.getD i [] = hp := fun h1 h2 => by
   rw [List.getD_eq_getElem?_getD, h1 _ _ h2]; rfl
  cases kd with
  | val mn cs =>
   simp only [hdB] at e
   split at e <;> first | (cases e; done) | skip
   ·rename_i hg
    rw [xBd] at e
    obtain ⟨hps', cb', xs, fe, hF, hE, hpE, a1, a2, a3, a4, a5, a6⟩ := ih e pre rfl hps hlen hrel
    exact ⟨hps', cb', .lit undef :: xs, fe, hF, hE, hpE, a1, a2, ⟨_, xs, rfl, .inl ⟨hg, rfl⟩, by simpa [isE] using a3⟩, a4, a5, a6⟩
   ·rename_i hg
    split at e <;> first | (cases e; done) | skip
    rename_i hv hhv
    have hidx : (pre ++ [h])[mn]? = some hv := by
     have go : ∀ (l : List HT) (n : Nat), nthH l n = some hv -> l[n]? = some hv := by
      intro l
      induction l with
      | nil => intro n h; simp [nthH] at h
      | cons x l ih => intro n h; cases n with
       | zero => simpa [nthH] using h
       | succ n => simpa using ih n (by simpa [nthH] using h)
     exact go _ _ hhv
    have hmn : mn <= pre.length := by
     have := (List.getElem?_eq_some_iff.1 hidx).1
     simp at this; omega
    obtain ⟨hpv, hpv1, rv⟩ := hrel mn hv hidx
    obtain ⟨h', r', hf, hn, e, hj⟩ := xCg rv e
    split at e <;> first | (cases e; done) | skip
    rename_i y hy
    rw [xBl, xBd] at e
    obtain ⟨hps', cb', xs, fe, hF, hE, hpE, a1, a2, a3, a4, a5, a6⟩ := ih e pre rfl hps hlen hrel
    refine ⟨hps', cb', nrm y :: xs, fe, hF, hE, hpE, a1, a2, ⟨_, xs, rfl, .inr ⟨hg, y, ?_, rfl, hmn, ?_⟩, by simpa [isE] using a3⟩, a4, a5, a6⟩
    ·have hH := getH a1 hpv1
     have : fillL (nthB cb') n0 cs hpv = fillL (nthB cb) n0 cs hpv := xBk fun j hj' => by
      obtain ⟨_, b, hb⟩ := hj j hj'
      rw [hb, a2 j b hb]
     simp only [hH, this, <- r'.g]; exact hy
    ·intro j hj'
     obtain ⟨h1, b, hb⟩ := hj j hj'
     simp only [getH a1 hpv1]
     exact ⟨h1, b, a2 j b hb⟩
  | cre j =>
   simp only [hdB] at e
   split at e <;> first | (cases e; done) | skip
   rename_i o1
   split at e <;> first | (cases e; done) | skip
   rename_i x b hx hnb
   rw [xBd] at e
   obtain ⟨hps', cb', xs, fe, hF, hE, hpE, a1, a2, a3, a4, a5, a6⟩ := ih e pre rfl hps hlen hrel
   exact ⟨hps', cb', x :: xs, fe, hF, hE, hpE, a1, fun j b h => a2 j b (xQi h), ⟨_, xs, rfl, ⟨o1, b, rfl, hx, a2 j b (xQj hnb)⟩, by simpa [isE] using a3⟩, a4, a5, a6⟩
  | eff m cs =>
   have next : ∀ {h1 : HT} {hp1' : List Blk} {x : SV} {fr' : List SV}, HRel h1 hp1' -> Frm h h1 -> hdB cl cq n0 ne cs0 t fr' h1 (pre ++ [h] ++ [h1]) cb k = some res ->
     ∃ (hps' : List (List Blk)) (cb' : List (Nat × Blk)) (xs fe : List SV) (hF hE : HT) (hpE : List Blk),
      (∀ (i : Nat) (hp : List Blk), hps[i]? = some hp -> hps'[i]? = some hp) /\ hps'.getD pre.length [] = hp /\ hps'.getD (pre.length + 1) [] = hp1' /\ (∀ j b, nthB cb j = some b -> nthB cb' j = some b) /\
      Dat2 (P := P) cq n0 (fun i => hps'.getD i []) (nthB cb') ne t (pre.length + 1) fr' xs fe /\ HRel hE hpE /\ hps'.getD ne [] = hpE /\
      HRel hF (fillL (nthB cb') n0 cs0 hpE) /\ (∀ j ∈ cs0, n0 + j < ln hpE /\ ∃ b, nthB cb' j = some b) /\ Frm h hF /\ k fe hF = some res := by
    intro h1 hp1' x fr' r1 hf1 e
    obtain ⟨hps', cb', xs, fe, hF, hE, hpE, a1, a2, a3, a4, a5, a6, a7, a8, a9⟩ := ih e (pre ++ [h]) rfl (hps ++ [hp1']) (by simp [hlen]) (fun i x hx => by
     rcases Nat.lt_or_ge i (pre ++ [h]).length with hi | hi
     ·rw [List.getElem?_append_left hi] at hx
      obtain ⟨hp2, b1, b2⟩ := hrel i x hx
      exact ⟨hp2, by rw [List.getElem?_append_left (by omega)]; exact b1, b2⟩
     ·rw [List.getElem?_append_right hi] at hx
      have : i = (pre ++ [h]).length := by
       rcases Nat.lt_or_ge (i - (pre ++ [h]).length) 1 with h0 | h0
       ·omega
       ·rw [List.getElem?_eq_none (by simpa using h0)] at hx; cases hx
      subst this
      simp at hx; subst hx
      exact ⟨hp1', by rw [List.getElem?_append_right (by omega)]; simp [hlen], r1⟩)
    have hl : hps.length = pre.length + 1 := by simpa using hlen
    refine ⟨hps', cb', xs, fe, hF, hE, hpE, fun i hp h => a1 i hp (by rw [List.getElem?_append_left (List.getElem?_eq_some_iff.1 h).1]; exact h), ?_, ?_, a2, ?_, a4, ?_, a6, a7, hf1.trans a8, a9⟩
    ·rw [List.getD_eq_getElem?_getD, a1 _ hp (by rw [List.getElem?_append_left (by omega)]; exact hp1)]; rfl
    ·rw [List.getD_eq_getElem?_getD, a1 _ hp1' (by rw [List.getElem?_append_right (by omega)]; simp [hl])]; rfl
    ·simpa using a3
    ·simpa using a5
   simp only [hdB] at e
   split at e <;> first | (cases e; done) | skip
   ·rename_i hm hg
    have hm : pre.length = m := by simpa using xAc hm
    obtain ⟨h', r', hf, hn, e, hj⟩ := xCg r e
    rw [xBd] at e
    obtain ⟨hps', cb', xs, fe, hF, hE, hpE, a1, b1, b2, a2, a3, a4, a5, a6, a7, a8, a9⟩ := next (x := .any) r' hf e
    have hcong : fillL (nthB cb) n0 cs hp = fillL (nthB cb') n0 cs hp := xBk fun j hj' => by
     obtain ⟨_, b, hb⟩ := hj j hj'
     rw [hb, a2 j b hb]
    refine ⟨hps', cb', .lit undef :: xs, fe, hF, hE, hpE, a1, a2, ⟨_, xs, rfl, ⟨hm, ?_, ?_, ?_, .inl ⟨hg, rfl, ?_⟩⟩, by simpa [isE] using a3⟩, a4, a5, a6, a7, a8, a9⟩
    ·intro j hj'
     obtain ⟨h1, b, hb⟩ := hj j hj'
     simp only [b1]; exact ⟨h1, b, a2 j b hb⟩
    ·simp only [b1, b2, xBm]; exact Nat.le_refl _
    ·intro l _; simp only [b1, b2, hcong]
    ·simp only [b1, b2, hcong]
   ·rename_i hm hg
    have hm : pre.length = m := by simpa using xAc hm
    obtain ⟨h', r', hf, hn, e, hj⟩ := xCg r e
    have e' : evX cl (msk (usesQ ⟨d, g, o⟩) 0 fr) ⟨h'.n, h'.n, h'.t⟩ o (fun x h1 => match Nat.beq h1.w h'.n with
     | true => frcV x fun x => putB fr d x fun fr => hdB cl cq n0 ne cs0 t fr ⟨h1.n, h'.w, h1.t⟩ (pre ++ [h] ++ [⟨h1.n, h'.w, h1.t⟩]) cb k
     | false => none) = some res := by
     rw [xIr (fr' := fr) (fun t ht => by rw [xDk, if_pos (by simp [usesQ, ht])])]
     exact e
    have r0 : HRel ⟨h'.n, h'.n, h'.t⟩ (fillL (nthB cb) n0 cs hp) := ⟨r'.n, r'.g, r'.f⟩
    obtain ⟨y, h1, hp1', r1, hf1, e, hop⟩ := xJh (P := P) hcl r0 e'
    split at e <;> first | (cases e; done) | skip
    rename_i hw
    have hw := xAc hw
    rw [xBl, xBd] at e
    have r1' : HRel ⟨h1.n, h'.w, h1.t⟩ hp1' := ⟨r1.n, r1.g, r1.f⟩
    have hf2 : Frm h' ⟨h1.n, h'.w, h1.t⟩ := ⟨hf1.n, Nat.le_refl _, fun l _ h2 => hf1.g l (by rw [hw]; exact h2) h2⟩
    obtain ⟨hps', cb', xs, fe, hF, hE, hpE, a1, b1, b2, a2, a3, a4, a5, a6, a7, a8, a9⟩ := next (x := .any) r1' (hf.trans hf2) e
    have hcong : fillL (nthB cb) n0 cs hp = fillL (nthB cb') n0 cs hp := xBk fun j hj' => by
     obtain ⟨_, b, hb⟩ := hj j hj'
     rw [hb, a2 j b hb]
    have hln : ln hp = h'.n := by rw [r'.n, xBm]
    refine ⟨hps', cb', nrm y :: xs, fe, hF, hE, hpE, a1, a2, ⟨_, xs, rfl, ⟨hm, ?_, ?_, ?_, .inr ⟨hg, y, ?_, rfl⟩⟩, by simpa [isE] using a3⟩, a4, a5, a6, a7, a8, a9⟩
    ·intro j hj'
     obtain ⟨h1, b, hb⟩ := hj j hj'
     simp only [b1]; exact ⟨h1, b, a2 j b hb⟩
    ·simp only [b1, b2]; rw [hln, <- r1.n]; exact hf1.n
    ·intro l hl; simp only [b1, b2] at hl ⊢
     rw [<- hcong, <- r1.g, <- r0.g]
     exact hf1.g l (by rw [hw, <- hln]; exact hl) (by show l < h'.n; rw [<- hln]; exact hl)
    ·intro op hc; simp only [b1, b2]; rw [<- hcong]; exact hop op hc
  | pur =>
   simp only [hdB] at e
   split at e <;> first | (cases e; done) | skip
   ·rename_i hg
    rw [xBd] at e
    obtain ⟨hps', cb', xs, fe, hF, hE, hpE, a1, a2, a3, a4, a5, a6⟩ := ih e pre rfl hps hlen hrel
    exact ⟨hps', cb', .lit undef :: xs, fe, hF, hE, hpE, a1, a2, ⟨_, xs, rfl, .inl ⟨hg, rfl⟩, by simpa [isE] using a3⟩, a4, a5, a6⟩
   ·rename_i hg
    split at e <;> first | (cases e; done) | skip
    rename_i y hy
    rw [xBl, xBd] at e
    obtain ⟨hps', cb', xs, fe, hF, hE, hpE, a1, a2, a3, a4, a5, a6⟩ := ih e pre rfl hps hlen hrel
    exact ⟨hps', cb', nrm y :: xs, fe, hF, hE, hpE, a1, a2, ⟨_, xs, rfl, .inr ⟨hg, y, hy, rfl⟩, by simpa [isE] using a3⟩, a4, a5, a6⟩
  | prd ps =>
   simp only [hdB] at e
   split at e <;> first | (cases e; done) | skip
   ·rename_i hg
    rw [xBd] at e
    obtain ⟨hps', cb', xs, fe, hF, hE, hpE, a1, a2, a3, a4, a5, a6⟩ := ih e pre rfl hps hlen hrel
    exact ⟨hps', cb', .lit undef :: xs, fe, hF, hE, hpE, a1, a2, ⟨_, xs, rfl, .inl ⟨hg, rfl⟩, by simpa [isE] using a3⟩, a4, a5, a6⟩
   ·rename_i hg
    split at e <;> first | (cases e; done) | skip
    rename_i h0 hh0
    split at e <;> first | (cases e; done) | skip
    rename_i y hy
    rw [xBl, xBd] at e
    obtain ⟨hp0, hp01, r0⟩ := hrel 0 h0 (by
     cases hpp : pre ++ [h] with
     | nil => rw [hpp] at hh0; simp [nthH] at hh0
     | cons x l => rw [hpp] at hh0; simpa [nthH] using hh0)
    obtain ⟨hps', cb', xs, fe, hF, hE, hpE, a1, a2, a3, a4, a5, a6⟩ := ih e pre rfl hps hlen hrel
    refine ⟨hps', cb', nrm y :: xs, fe, hF, hE, hpE, a1, a2, ⟨_, xs, rfl, .inr ⟨hg, y, ?_, rfl⟩, by simpa [isE] using a3⟩, a4, a5, a6⟩
    have hH := getH a1 hp01
    have hgg : h0.get = gb hp0 := r0.g
    simp only [hH, <- hgg]; exact hy
  | efs m cs ls =>
   have next : ∀ {h1 : HT} {hp1' : List Blk} {x : SV} {fr' : List SV}, HRel h1 hp1' -> Frm h h1 -> hdB cl cq n0 ne cs0 t fr' h1 (pre ++ [h] ++ [h1]) cb k = some res ->
     ∃ (hps' : List (List Blk)) (cb' : List (Nat × Blk)) (xs fe : List SV) (hF hE : HT) (hpE : List Blk),
      (∀ (i : Nat) (hp : List Blk), hps[i]? = some hp -> hps'[i]? = some hp) /\ hps'.getD pre.length [] = hp /\ hps'.getD (pre.length + 1) [] = hp1' /\ (∀ j b, nthB cb j = some b -> nthB cb' j = some b) /\
      Dat2 (P := P) cq n0 (fun i => hps'.getD i []) (nthB cb') ne t (pre.length + 1) fr' xs fe /\ HRel hE hpE /\ hps'.getD ne [] = hpE /\
      HRel hF (fillL (nthB cb') n0 cs0 hpE) /\ (∀ j ∈ cs0, n0 + j < ln hpE /\ ∃ b, nthB cb' j = some b) /\ Frm h hF /\ k fe hF = some res := by
    intro h1 hp1' x fr' r1 hf1 e
    obtain ⟨hps', cb', xs, fe, hF, hE, hpE, a1, a2, a3, a4, a5, a6, a7, a8, a9⟩ := ih e (pre ++ [h]) rfl (hps ++ [hp1']) (by simp [hlen]) (fun i x hx => by
     rcases Nat.lt_or_ge i (pre ++ [h]).length with hi | hi
     ·rw [List.getElem?_append_left hi] at hx
      obtain ⟨hp2, b1, b2⟩ := hrel i x hx
      exact ⟨hp2, by rw [List.getElem?_append_left (by omega)]; exact b1, b2⟩
     ·rw [List.getElem?_append_right hi] at hx
      have : i = (pre ++ [h]).length := by
       rcases Nat.lt_or_ge (i - (pre ++ [h]).length) 1 with h0 | h0
       ·omega
       ·rw [List.getElem?_eq_none (by simpa using h0)] at hx; cases hx
      subst this
      simp at hx; subst hx
      exact ⟨hp1', by rw [List.getElem?_append_right (by omega)]; simp [hlen], r1⟩)
    have hl : hps.length = pre.length + 1 := by simpa using hlen
    refine ⟨hps', cb', xs, fe, hF, hE, hpE, fun i hp h => a1 i hp (by rw [List.getElem?_append_left (List.getElem?_eq_some_iff.1 h).1]; exact h), ?_, ?_, a2, ?_, a4, ?_, a6, a7, hf1.trans a8, a9⟩
    ·rw [List.getD_eq_getElem?_getD, a1 _ hp (by rw [List.getElem?_append_left (by omega)]; exact hp1)]; rfl
    ·rw [List.getD_eq_getElem?_getD, a1 _ hp1' (by rw [List.getElem?_append_right (by omega)]; simp [hl])]; rfl
    ·simpa using a3
    ·simpa using a5
   simp only [hdB] at e
   split at e <;> first | (cases e; done) | skip
   ·rename_i hm hg
    have hm : pre.length = m := by simpa using xAc hm
    obtain ⟨h', r', hf, hn, e, hj⟩ := xCg r e
    split at e <;> first | (cases e; done) | skip
    rename_i hde
    rw [xBd] at e
    obtain ⟨hps', cb', xs, fe, hF, hE, hpE, a1, b1, b2, a2, a3, a4, a5, a6, a7, a8, a9⟩ := next (x := .any) r' hf e
    have hcong : fillL (nthB cb) n0 cs hp = fillL (nthB cb') n0 cs hp := xBk fun j hj' => by
     obtain ⟨_, b, hb⟩ := hj j hj'
     rw [hb, a2 j b hb]
    refine ⟨hps', cb', .lit undef :: xs, fe, hF, hE, hpE, a1, a2, ⟨_, xs, rfl, ⟨hm, ?_, ?_, ⟨?_, ?_⟩, .inl ⟨hg, rfl, ?_⟩⟩, by simpa [isE] using a3⟩, a4, a5, a6, a7, a8, a9⟩
    ·intro j hj'
     obtain ⟨h1, b, hb⟩ := hj j hj'
     simp only [b1]; exact ⟨h1, b, a2 j b hb⟩
    ·simp only [b1, b2, xBm]; exact Nat.le_refl _
    ·intro j hj'; simp only [b2]; exact xHw r' hde j hj'
    ·intro sz p v _ l _ _ _; simp only [b1, b2, hcong]
    ·simp only [b1, b2, hcong]
   ·rename_i hm hg
    have hm : pre.length = m := by simpa using xAc hm
    obtain ⟨h', r', hf, hn, e, hj⟩ := xCg r e
    rw [<- xIr (fr := msk (usesQ ⟨d, g, o⟩) 0 fr) (fun t ht => by rw [xDk, if_pos (by simp [usesQ, ht])])] at e
    obtain ⟨y, h1, hp1', r1, hf1, e, hop, hsto⟩ := xTe (P := P) hcl r' e
    split at e <;> first | (cases e; done) | skip
    rename_i hde
    rw [xBl, xBd] at e
    obtain ⟨hps', cb', xs, fe, hF, hE, hpE, a1, b1, b2, a2, a3, a4, a5, a6, a7, a8, a9⟩ := next (x := .any) r1 (hf.trans hf1) e
    have hcong : fillL (nthB cb) n0 cs hp = fillL (nthB cb') n0 cs hp := xBk fun j hj' => by
     obtain ⟨_, b, hb⟩ := hj j hj'
     rw [hb, a2 j b hb]
    refine ⟨hps', cb', nrm y :: xs, fe, hF, hE, hpE, a1, a2, ⟨_, xs, rfl, ⟨hm, ?_, ?_, ⟨?_, ?_⟩, .inr ⟨hg, y, ?_, rfl⟩⟩, by simpa [isE] using a3⟩, a4, a5, a6, a7, a8, a9⟩
    ·intro j hj'
     obtain ⟨h1, b, hb⟩ := hj j hj'
     simp only [b1]; exact ⟨h1, b, a2 j b hb⟩
    ·simp only [b1, b2]; rw [<- xBm (nthB cb) n0 cs hp, <- r'.n, <- r1.n]; exact hf1.n
    ·intro j hj'; simp only [b2]; exact xHw r1 hde j hj'
    ·intro sz p v ho l hl hnl hex; simp only [b1, b2, <- hcong]
     refine hsto sz p v ho l (fun l' off hh => ?_) ?_
     ·rw [xDk, if_pos (by cases ho; simp [usesQ, uses2, uses1, usesX])] at hh; exact hnl l' off hh
     ·intro l' s i off hh
      rw [xDk, if_pos (by cases ho; simp [usesQ, uses2, uses1, usesX])] at hh
      exact hex l' s i off hh
    ·intro op hc; simp only [b1, b2, <- hcong]; exact hop op hc
end Go.Vg
