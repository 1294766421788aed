import Derived.Test.YtjagiieconpgbaaVgD1
namespace Go.Vg
open Go
set_option linter.unusedVariables false
set_option linter.unusedSimpArgs false
theorem fold_bit (acc : List Nat) : ∀ (es : List Edge) (m0 j : Nat), (es.foldl (fun m e => if Region.binds .any e then m ||| 2 ^ e.on ||| acc.getD e.on 0 else m) m0).testBit j = true →
  m0.testBit j = true ∨ ∃ e ∈ es, Region.binds .any e = true ∧ (j = e.on ∨ (acc.getD e.on 0).testBit j = true)
 | [], m0, j, h => .inl h
 | e :: es, m0, j, h => by
  rw [List.foldl_cons] at h
  rcases fold_bit acc es _ j h with h | ⟨e', h1, h2, h3⟩
  ·split at h
   ·rename_i hb
    rw [Nat.testBit_or, Nat.testBit_or, Bool.or_eq_true, Bool.or_eq_true, Nat.testBit_two_pow] at h
    rcases h with (h | h) | h
    ·exact .inl h
    ·exact .inr ⟨e, List.mem_cons_self .., hb, .inl (by simpa using (Eq.symm (by simpa using h)))⟩
    ·exact .inr ⟨e, List.mem_cons_self .., hb, .inr h⟩
   ·exact .inl h
  ·exact .inr ⟨e', List.mem_cons_of_mem _ h1, h2, h3⟩
theorem masks_pre : ∀ (ops : List Oper) (acc : List Nat) (i : Nat), i < acc.length → (masks ops acc).getD i 0 = acc.getD i 0
 | [], acc, i, _ => rfl
 | o :: ops, acc, i, h => by
  rw [masks, masks_pre ops _ i (by simp; omega)]
  simp [List.getD_eq_getElem?_getD, List.getElem?_append_left h]
theorem masks_at : ∀ (ops : List Oper) (acc : List Nat) (i : Nat) (o : Oper), ops[i]? = some o →
  ∃ acc' : List Nat, (∀ k, k < acc.length + i → acc'.getD k 0 = (masks ops acc).getD k 0) ∧ (∀ k, acc.length + i ≤ k → acc'.getD k 0 = 0) ∧
   (masks ops acc).getD (acc.length + i) 0 = o.after.toList.foldl (fun m e => if Region.binds .any e then m ||| 2 ^ e.on ||| acc'.getD e.on 0 else m) 0
 | o :: ops, acc, 0, o', h => by
  simp at h; subst h
  refine ⟨acc, fun k hk => ?_, fun k hk => ?_, ?_⟩
  ·rw [masks, masks_pre _ _ _ (by simp; omega)]; simp [List.getD_eq_getElem?_getD, List.getElem?_append_left (show k < acc.length by omega)]
  ·simp [List.getD_eq_getElem?_getD, List.getElem?_eq_none (show acc.length ≤ k by omega)]
  ·rw [masks, masks_pre _ _ _ (by simp)]; simp [List.getD_eq_getElem?_getD]
 | o :: ops, acc, i + 1, o', h => by
  obtain ⟨acc', h1, h2, h3⟩ := masks_at ops (acc ++ [o.after.toList.foldl (fun m e => if Region.binds .any e then m ||| 2 ^ e.on ||| acc.getD e.on 0 else m) 0]) i o' (by simpa using h)
  simp only [List.length_append, List.length_singleton] at h1 h2 h3
  refine ⟨acc', fun k hk => ?_, fun k hk => h2 k (by omega), ?_⟩
  ·rw [masks]; exact h1 k (by omega)
  ·rw [masks]; rw [show acc.length + (i + 1) = acc.length + 1 + i by omega]; exact h3
 | [], _, _, _, h => by simp at h
def Shut (ops : Array Oper) (L : Nat → Bool) : Prop := ∀ (k : Nat) (o : Oper), ops[k]? = some o → L k = true → ∀ e ∈ o.after, Region.binds .any e = true → L e.on = true
theorem masks_listed {ops : Array Oper} {L : Nat → Bool} (hs : Shut ops L) : ∀ (i : Nat) (o : Oper), ops[i]? = some o → (∀ e ∈ o.after, Region.binds .any e = true → L e.on = true) →
  ∀ j, ((masks ops.toList []).getD i 0).testBit j = true → L j = true := by
 intro i
 induction i using Nat.strongRecOn with
 | _ i ih =>
  intro o ho hd j hj
  obtain ⟨acc', h1, h2, h3⟩ := masks_at ops.toList [] i o (by simpa using ho)
  simp only [List.length_nil, Nat.zero_add] at h1 h2 h3
  rw [h3] at hj
  rcases fold_bit acc' _ 0 j hj with h | ⟨e, he, hb, h | h⟩
  ·simp at h
  ·subst h; exact hd e (by simpa using he) hb
  ·have hL := hd e (by simpa using he) hb
   by_cases hlt : e.on < i
   ·rw [h1 e.on hlt] at h
    cases ho' : ops[e.on]? with
    | none =>
     have : (masks ops.toList []).getD e.on 0 = 0 := by
      have : i < ops.size := (Array.getElem?_eq_some_iff.1 ho).1
      have : ops.size ≤ e.on := by simpa using ho'
      omega
     rw [this] at h; simp at h
    | some o' => exact ih e.on hlt o' ho' (hs e.on o' ho' hL) j h
   ·rw [h2 e.on (by omega)] at h; simp at h
def LitOf (y x : SV) : Prop := y = x ∨ ∃ b, y = .bool b ∧ x = .lit (.bool b)
def StepOk (Γq : Nat → Option FC) (hp : List Blk) (fr : List SV) (o : Opr) (x : SV) : Prop :=
 (gdl fr o.g = some true ∧ ∃ p y, evq Γq fr hp o.o = some (p, y) ∧ p ∧ LitOf y x) ∨ (gdl fr o.g = some false ∧ x = .lit undef)
def Dat (Γq : Nat → Option FC) (hp : List Blk) : List (Nat × Opr × Bool) → List SV → List (Nat × Opr × SV) → Prop
 | [], fr, l => l = []
 | (i, o, fl) :: t, fr, l => ∃ x l', l = (i, o, x) :: l' ∧ StepOk Γq hp fr o x ∧ Dat Γq hp t (putf fr o.d x) l'
theorem drun_dat {Γq : Nat → Option FC} {k : St → Prop} : ∀ {hs : List (Nat × Opr × Bool)} {s : St}, drun Γq hs k s → ∃ l, Dat Γq s.hp hs s.fr l ∧ k ⟨mix (fun _ => true) l s.fr, s.hp⟩
 | [], s, h => ⟨[], rfl, h⟩
 | (i, o, fl) :: t, s, h => by
  simp only [drun, dG] at h
  split at h
  ·rename_i hg
   split at h
   ·rename_i p x hx
    obtain ⟨hp, h⟩ := h
    have go : ∀ x', LitOf x x' → drun Γq t k ⟨putf s.fr o.d x', s.hp⟩ → ∃ l, Dat Γq s.hp ((i, o, fl) :: t) s.fr l ∧ k ⟨mix (fun _ => true) l s.fr, s.hp⟩ := by
     intro x' hl h
     obtain ⟨l, h1, h2⟩ := drun_dat h
     exact ⟨(i, o, x') :: l, ⟨x', l, rfl, .inl ⟨hg, p, x, hx, hp, hl⟩, h1⟩, by simpa [mix] using h2⟩
    unfold dX at h
    split at h
    ·rename_i g
     cases g
     ·exact go _ (.inr ⟨false, rfl, rfl⟩) (h.2 rfl)
     ·exact go _ (.inr ⟨true, rfl, rfl⟩) (h.1 rfl)
    ·exact go _ (.inl rfl) h
   ·exact h.elim
  ·rename_i hg
   obtain ⟨l, h1, h2⟩ := drun_dat h
   exact ⟨(i, o, .lit undef) :: l, ⟨_, l, rfl, .inr ⟨hg, rfl⟩, h1⟩, by simpa [mix] using h2⟩
  ·exact h.elim
theorem dat_get {Γq : Nat → Option FC} {hp : List Blk} : ∀ {hs : List (Nat × Opr × Bool)} {fr : List SV} {l l1 l2 : List (Nat × Opr × SV)} {i : Nat} {o : Opr} {x : SV}, Dat Γq hp hs fr l → l = l1 ++ (i, o, x) :: l2 →
  StepOk Γq hp (mix (fun _ => true) l1 fr) o x
 | [], fr, l, l1, l2, i, o, x, h, e => by
  simp only [Dat] at h; subst h; simp at e
 | (i', o', fl) :: t, fr, l, [], l2, i, o, x, h, e => by
  obtain ⟨x', l', rfl, h1, h2⟩ := h
  simp only [List.nil_append, List.cons.injEq, Prod.mk.injEq] at e
  obtain ⟨⟨rfl, rfl, rfl⟩, rfl⟩ := e
  exact h1
 | (i', o', fl) :: t, fr, l, y :: l1, l2, i, o, x, h, e => by
  obtain ⟨x', l', rfl, h1, h2⟩ := h
  simp only [List.cons_append, List.cons.injEq] at e
  obtain ⟨rfl, e⟩ := e
  simpa [mix] using dat_get h2 e
theorem dat_map {Γq : Nat → Option FC} {hp : List Blk} : ∀ {hs : List (Nat × Opr × Bool)} {fr : List SV} {l : List (Nat × Opr × SV)}, Dat Γq hp hs fr l → l.map (fun x => (x.1, x.2.1)) = hs.map (fun x => (x.1, x.2.1))
 | [], fr, l, h => by simp only [Dat] at h; subst h; rfl
 | (i, o, fl) :: t, fr, l, h => by
  obtain ⟨x, l', rfl, _, h2⟩ := h
  simp [dat_map h2]
theorem gb_pb : ∀ {hp : List Blk} {l : Nat} {b : Blk}, gb hp l ≠ .dead → gb (pb hp b) l = gb hp l
 | [], l, b, h => by simp [gb] at h
 | x :: t, 0, b, h => by simp [gb, pb]
 | x :: t, l + 1, b, h => by simpa [gb, pb] using gb_pb (hp := t) (by simpa [gb] using h)
theorem ixs_pb {hp : List Blk} {b : Blk} {sz : Nat} {i : Int} {x : SV} {r : Prop × SV} (h : ixs hp sz i x = some r) : ixs (pb hp b) sz i x = some r := by
 unfold ixs at h ⊢
 split at h <;> first | exact h | skip
 rename_i l
 have : gb hp l ≠ .dead := by intro e; rw [e] at h; simp at h
 rw [gb_pb this]; exact h
theorem lens_pb {hp : List Blk} {b : Blk} {x : SV} {r : Nat} (h : lens hp x = some r) : lens (pb hp b) x = some r := by
 unfold lens at h ⊢
 split at h <;> first | exact h | skip
 rename_i l
 have : gb hp l ≠ .dead := by intro e; rw [e] at h; simp at h
 rw [gb_pb this]; exact h
theorem lda_pb {hp : List Blk} {b : Blk} {n : Option Nat} {x : SV} {r : Prop × SV} (h : lda hp n x = some r) : lda (pb hp b) n x = some r := by
 unfold lda at h ⊢
 split at h <;> first | exact h | skip
 ·rename_i l off
  have : gb hp l ≠ .dead := by intro e; rw [e] at h; simp at h
  simp only [gb_pb this]; exact h
 ·rename_i l sz i off
  have : gb hp l ≠ .dead := by intro e; rw [e] at h; simp at h
  simp only [gb_pb this]; exact h
theorem nilq_pb {hp : List Blk} {b : Blk} {x : SV} {r : Prop × Bool} (h : nilq hp x = some r) : nilq (pb hp b) x = some r := by
 unfold nilq at h ⊢
 split at h <;> first | exact h | skip
 rename_i l
 have : gb hp l ≠ .dead := by intro e; rw [e] at h; simp at h
 rw [gb_pb this]; exact h
theorem evp_pb {fr : List SV} {hp : List Blk} {b : Blk} {vo : VOp} {r : Prop × SV} (h : evp fr hp vo = some r) : evp fr (pb hp b) vo = some r := by
 cases vo <;> simp only [evp] at h ⊢ <;> first | exact h | skip
 case ixa => split at h <;> first | exact ixs_pb h | cases h
 case load => exact lda_pb h
 case len =>
  split at h
  ·rename_i n hn; rw [lens_pb hn]; exact h
  ·cases h
 case isnil =>
  split at h
  ·rename_i n hn; rw [nilq_pb hn]; exact h
  ·cases h
theorem slQ_pb {hp : List Blk} {b : Blk} {x y : SV} (h : slQ hp x = some y) : slQ (pb hp b) x = some y := by
 unfold slQ at h ⊢
 split at h <;> first | exact h | skip
 rename_i l
 have : gb hp l ≠ .dead := by intro e; rw [e] at h; simp at h
 rw [gb_pb this]; exact h
theorem slQ_slO {hp : List Blk} {x y : SV} (h : slQ hp x = some y) : slO hp x = some (y, hp) := by
 unfold slQ at h
 unfold slO
 split at h <;> first | (cases h; rfl) | skip
 ·rename_i l
  split at h
  ·rename_i k xs hg; cases h; simp only [hg]
  ·rename_i sz len f hg; cases h; simp only [hg]
  ·cases h
 ·cases h
theorem evq_pb {Γq : Nat → Option FC} {fr : List SV} {hp : List Blk} {b : Blk} {o : Op1} {r : Prop × SV} (h : evq Γq fr hp o = some r) : evq Γq fr (pb hp b) o = some r := by
 cases o <;> simp only [evq] at h ⊢ <;> first | exact evp_pb h | exact h | skip
 split at h
 ·rename_i y lo hi mx e1 e2 e3 e4
  rw [slQ_pb e1, e2, e3, e4]; exact h
 ·cases h
def cons (P : Program) (Γq : Nat → Option FC) : Gm := ⟨P, fun f => match Γq f with
 | some F => some fun args hp K => clo.clos 8 args = true ∧ match F args with
  | some (p, r) => p ∧ K r hp
  | none => False
 | none => none⟩
theorem evq_evh {P : Program} {Γq : Nat → Option FC} {fr : List SV} {hp : List Blk} {o : Op1} {p : Prop} {x : SV} {k : SV → List Blk → Prop} (h : evq Γq fr hp o = some (p, x)) (hp' : p) (hk : k x hp) : evh (cons P Γq) ⟨fr, hp⟩ k o := by
 cases o <;> simp only [evq] at h <;> first | (cases h; done) | skip
 case v vo => simp only [evh, vK, h]; exact ⟨hp', hk⟩
 case bld z ps =>
  split at h
  ·rename_i cs hcs; cases h; simp only [evh, bldK, hcs]; exact hk
  ·cases h
 case call f args =>
  split at h
  ·rename_i f' caps hf
   split at h
   ·rename_i F hF hcl
    simp only [evh, callK, hf, cons, hF, conK]
    exact ⟨hcl, by rw [h]; exact ⟨hp', hk⟩⟩
   ·cases h
  ·cases h
 case slc x' lo hi mx sz =>
  split at h
  ·rename_i y lo' hi' mx' e1 e2 e3 e4
   simp only [evh, slcK, slQ_slO e1, e2, e3, e4, vK, h]
   exact ⟨hp', hk⟩
  ·cases h
theorem crv_evh {Γ : Gm} {fr : List SV} {hp : List Blk} {o : Op1} {x : SV} {b : Blk} {k : SV → List Blk → Prop} (h : crv fr (ln hp) o = some (x, b)) (hk : k x (pb hp b)) : evh Γ ⟨fr, hp⟩ k o := by
 cases o <;> simp only [crv] at h <;> first | (cases h; done) | skip
 case new t z => cases h; exact hk
 case box t x' =>
  split at h
  ·rename_i cs hcs; cases h; simp only [evh, boxK, hcs]; exact hk
  ·cases h
 case bsl e len z ps =>
  split at h
  ·rename_i cs hcs; cases h; simp only [evh, bslK, hcs]; exact hk
  ·cases h
theorem crv_congr {fr fr' : List SV} {n : Nat} {o : Op1} (h : ∀ t, t ∈ uses1 o → gt fr t = gt fr' t) : crv fr n o = crv fr' n o := by
 cases o <;> simp only [uses1, List.mem_append] at h <;> first | rfl | skip
 case box t x => simp only [crv, X.congr h]
 case bsl e len z ps => simp only [crv, getp_congr h]
end Go.Vg
