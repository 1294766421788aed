import Derived.Test.YtjagiieconpgbaaVgD4
namespace Go.Vg
open Go
set_option linter.unusedVariables false
set_option linter.unusedSimpArgs false
abbrev nq : Nat → Option FC := fun _ => none
def Dt (hp : List Blk) : List (Nat × Opr × SV) → List SV → List SV → Prop
 | [], fr, fr' => fr' = fr
 | (i, o, x) :: t, fr, fr' => (∃ p, evq nq fr hp o.o = some (p, x) ∧ p) ∧ Dt hp t (putf fr o.d x) fr'
theorem Dt_app {hp : List Blk} : ∀ {A B : List (Nat × Opr × SV)} {fr fr' : List SV}, Dt hp (A ++ B) fr fr' ↔ ∃ fr1, Dt hp A fr fr1 ∧ Dt hp B fr1 fr'
 | [], B, fr, fr' => by simp [Dt]
 | (i, o, x) :: A, B, fr, fr' => by
  simp only [List.cons_append, Dt, Dt_app (A := A)]
  constructor
  ·rintro ⟨h, fr1, h1, h2⟩; exact ⟨fr1, ⟨h, h1⟩, h2⟩
  ·rintro ⟨fr1, ⟨h, h1⟩, h2⟩; exact ⟨h, fr1, h1, h2⟩
theorem gt_putf_no {fr : List SV} {d : Option Nat} {x : SV} {t : Nat} (h : d ≠ some t) : gt (putf fr d x) t = gt fr t := by
 rw [gt_putf, if_neg (fun h' => h h'.1)]
theorem fr_ext : ∀ {a b : List SV}, a.length = b.length → (∀ t, t < a.length → gt a t = gt b t) → a = b
 | [], [], _, _ => rfl
 | [], _ :: _, h, _ => by simp at h
 | _ :: _, [], h, _ => by simp at h
 | x :: a, y :: b, h, hg => by
  have h0 := hg 0 (by simp)
  simp only [gt] at h0
  rw [h0, fr_ext (a := a) (b := b) (by simpa using h) (fun t ht => by have := hg (t + 1) (by simp; omega); simpa [gt] using this)]
theorem putf_comm {fr : List SV} {d d' : Option Nat} {x y : SV} (h : ∀ t, d = some t → d' ≠ some t) : putf (putf fr d x) d' y = putf (putf fr d' y) d x := by
 refine fr_ext (by simp [len_putf]) fun t _ => ?_
 by_cases h1 : d = some t
 ·have h2 := h t h1
  rw [gt_putf_no h2, gt_putf, gt_putf, len_putf]
  rw [gt_putf_no h2]
 ·rw [gt_putf_no (d := d) (fr := putf fr d' y) h1, gt_putf, gt_putf (fr := fr) (d := d'), len_putf, gt_putf_no (fr := fr) h1]
theorem Dt_put {hp hp' : List Blk} {d : Option Nat} {x : SV} : ∀ {A : List (Nat × Opr × SV)} {fr fr' : List SV}, (∀ y ∈ A, silK y.2.1.o = true ∧ (∀ t, d = some t → t ∉ uses1 y.2.1.o ∧ y.2.1.d ≠ some t) ∧ (rdK y.2.1.o = true → hp' = hp ∨ ∃ b, hp' = pb hp b)) →
  Dt hp A fr fr' → Dt hp' A (putf fr d x) (putf fr' d x)
 | [], fr, fr', _, h => by simp only [Dt] at h ⊢; rw [h]
 | (i, o, y) :: A, fr, fr', hA, h => by
  obtain ⟨⟨p, h1, h2⟩, h3⟩ := h
  obtain ⟨a1, a2, a3⟩ := hA _ (List.mem_cons_self ..)
  refine ⟨⟨p, ?_, h2⟩, ?_⟩
  ·have e1 : evq nq (putf fr d x) hp o.o = some (p, y) := by
    rw [← h1]
    exact evq_congr fun t ht => gt_putf_no fun e => (a2 t e).1 ht
   cases hr : rdK o.o with
   | true =>
    rcases a3 hr with rfl | ⟨b, rfl⟩
    ·exact e1
    ·exact evq_pb e1
   | false =>
    rw [← e1]
    obtain ⟨od, og, oo⟩ := o
    simp only at a1 hr ⊢
    cases oo <;> first | (simp [silK] at a1; done) | rfl | skip
    rename_i vo
    cases vo <;> first | (simp [rdK] at hr; done) | rfl
  ·rw [putf_comm fun t e => (a2 t e).2]
   exact Dt_put (fun z hz => hA z (List.mem_cons_of_mem _ hz)) h3
theorem Dt_gt {hp : List Blk} {t : Nat} : ∀ {A : List (Nat × Opr × SV)} {fr fr' : List SV}, (∀ y ∈ A, y.2.1.d ≠ some t) → Dt hp A fr fr' → gt fr' t = gt fr t
 | [], fr, fr', _, h => by simp only [Dt] at h; rw [h]
 | (i, o, y) :: A, fr, fr', hA, h => by
  obtain ⟨_, h3⟩ := h
  rw [Dt_gt (fun z hz => hA z (List.mem_cons_of_mem _ hz)) h3]
  exact gt_putf_no (hA _ (List.mem_cons_self ..))
def OkA (ms : List Nat) (lo : List Opr) : (Nat → Bool) → List (Nat × Opr × SV) → Prop
 | _, [] => True
 | L, (i, o, _) :: t => lo[i]? = some o ∧ sil ms lo i = true ∧ L i = false ∧ (∀ j, j < lo.length → (ms.getD i 0).testBit j = true → L j = true) ∧ OkA ms lo (fun j => j == i || L j) t
def adL : (Nat → Bool) → List (Nat × Opr × SV) → Nat → Bool
 | L, [] => L
 | L, (i, _, _) :: t => adL (fun j => j == i || L j) t
theorem adL_eq : ∀ {A : List (Nat × Opr × SV)} {L : Nat → Bool} {j : Nat}, adL L A j = (A.any (fun y => j == y.1) || L j)
 | [], L, j => by simp [adL]
 | (i, o, x) :: A, L, j => by
  rw [adL, adL_eq (A := A)]
  simp only [List.any_cons]
  cases A.any (fun y => j == y.1) <;> cases (j == i) <;> rfl
theorem adL_app : ∀ {A B : List (Nat × Opr × SV)} {L : Nat → Bool}, adL L (A ++ B) = adL (adL L A) B
 | [], B, L => rfl
 | (i, o, x) :: A, B, L => by simp only [List.cons_append, adL, adL_app (A := A)]
section
variable {ms : List Nat} {lo : List Opr}
theorem OkA_app : ∀ {A B : List (Nat × Opr × SV)} {L : Nat → Bool}, OkA ms lo L (A ++ B) ↔ OkA ms lo L A ∧ OkA ms lo (adL L A) B
 | [], B, L => by simp [OkA, adL]
 | (i, o, x) :: A, B, L => by
  simp only [List.cons_append, OkA, adL, OkA_app (A := A)]
  constructor
  ·rintro ⟨h1, h2, h3, h4, h5, h6⟩; exact ⟨⟨h1, h2, h3, h4, h5⟩, h6⟩
  ·rintro ⟨⟨h1, h2, h3, h4, h5⟩, h6⟩; exact ⟨h1, h2, h3, h4, h5, h6⟩
theorem OkA_add {j : Nat} : ∀ {A : List (Nat × Opr × SV)} {L : Nat → Bool}, (∀ y ∈ A, y.1 ≠ j) → OkA ms lo L A → OkA ms lo (fun t => t == j || L t) A
 | [], L, _, _ => trivial
 | (i, o, x) :: A, L, hA, h => by
  obtain ⟨h1, h2, h3, h4, h5⟩ := h
  have hij : i ≠ j := hA _ (List.mem_cons_self ..)
  refine ⟨h1, h2, ?_, fun t hl ht => ?_, ?_⟩
  ·simp only [h3, Bool.or_false]; simpa using hij
  ·simp only [h4 t hl ht, Bool.or_true]
  ·have := OkA_add (j := j) (fun y hy => hA y (List.mem_cons_of_mem _ hy)) h5
   have e : (fun t => t == i || (t == j || L t)) = (fun t => t == j || (t == i || L t)) := by
    funext t; cases (t == i) <;> cases (t == j) <;> rfl
   rw [e]; exact this
theorem OkA_not {A : List (Nat × Opr × SV)} {L : Nat → Bool} : OkA ms lo L A → ∀ y ∈ A, L y.1 = false := by
 induction A generalizing L with
 | nil => intro _ y hy; cases hy
 | cons z A ih =>
  obtain ⟨i, o, x⟩ := z
  rintro ⟨h1, h2, h3, h4, h5⟩ y hy
  cases hy with
  | head => exact h3
  | tail _ hy => have := ih h5 y hy; simp only [Bool.or_eq_false_iff] at this; exact this.2
theorem OkA_sil {A : List (Nat × Opr × SV)} {L : Nat → Bool} : OkA ms lo L A → ∀ y ∈ A, lo[y.1]? = some y.2.1 ∧ sil ms lo y.1 = true := by
 induction A generalizing L with
 | nil => intro _ y hy; cases hy
 | cons z A ih =>
  obtain ⟨i, o, x⟩ := z
  rintro ⟨h1, h2, h3, h4, h5⟩ y hy
  cases hy with
  | head => exact ⟨h1, h2⟩
  | tail _ hy => exact ih h5 y hy
theorem OkA_wait {A : List (Nat × Opr × SV)} {L : Nat → Bool} {j : Nat} (hl : j < lo.length) : OkA ms lo L A → L j = false → (∀ y ∈ A, y.1 ≠ j) → ∀ y ∈ A, (ms.getD y.1 0).testBit j = false := by
 induction A generalizing L with
 | nil => intro _ _ _ y hy; cases hy
 | cons z A ih =>
  obtain ⟨i, o, x⟩ := z
  rintro ⟨h1, h2, h3, h4, h5⟩ hj hA y hy
  cases hy with
  | head =>
   cases hb : (ms.getD i 0).testBit j with
   | false => rfl
   | true => have := h4 j hl hb; rw [hj] at this; cases this
  | tail _ hy =>
   have hij : i ≠ j := hA _ (List.mem_cons_self ..)
   exact ih h5 (by simp only [hj, Bool.or_false]; simpa using Ne.symm hij) (fun y hy => hA y (List.mem_cons_of_mem _ hy)) y hy
theorem sil_get {i : Nat} {o : Opr} (ho : lo[i]? = some o) (h : sil ms lo i = true) : silK o.o = true ∧ ∀ j o', lo[j]? = some o' → i ≠ j → (ms.getD i 0).testBit j = false → (ms.getD j 0).testBit i = false → cmt o o' = true := by
 unfold sil at h
 rw [ho] at h
 simp only [Bool.and_eq_true, List.all_eq_true] at h
 refine ⟨h.1, fun j o' ho' hne h1 h2 => ?_⟩
 have := h.2 (o', j) (by rw [List.mem_zipIdx_iff_getElem?]; simpa using ho')
 simp only [uno, h1, h2, Bool.not_false, Bool.and_self, Bool.not_true, Bool.or_false, Bool.or_eq_true, beq_iff_eq] at this
 exact this.resolve_left hne
theorem cmt_get {o o' : Opr} (h : cmt o o' = true) : (∀ t, o.d = some t → o'.d ≠ some t ∧ t ∉ uses1 o'.o) ∧ (∀ t, o'.d = some t → t ∉ uses1 o.o ∧ o.d ≠ some t) ∧ (rdK o.o = true → mildK o'.o = true) := by
 unfold cmt at h
 simp only [Bool.and_eq_true, Bool.or_eq_true, Bool.not_eq_true'] at h
 obtain ⟨⟨h1, h2⟩, h3⟩ := h
 have k1 : ∀ t, o.d = some t → o'.d ≠ some t ∧ t ∉ uses1 o'.o := by
  intro t e
  rw [e] at h1
  simp only [Bool.and_eq_true, Bool.not_eq_true', beq_eq_false_iff_ne, ne_eq, List.contains_eq_mem, decide_eq_false_iff_not] at h1
  exact ⟨fun e' => h1.1 e'.symm, h1.2⟩
 refine ⟨k1, fun t e => ⟨?_, fun e' => (k1 t e').1 e⟩, fun hr => h3.resolve_left (by rw [hr]; simp)⟩
 rw [e] at h2
 simpa using h2
end
theorem evh_congr {Γ : Gm} {fr fr' : List SV} {hp : List Blk} {k : SV → List Blk → Prop} {o : Op1} (h : ∀ t, t ∈ uses1 o → gt fr t = gt fr' t) : evh Γ ⟨fr, hp⟩ k o = evh Γ ⟨fr', hp⟩ k o := by
 have bc : ∀ o : Option X, (∀ t, t ∈ usesO o → gt fr t = gt fr' t) → bnd fr o = bnd fr' o := by
  intro o ho
  cases o with
  | none => rfl
  | some o => simp only [bnd, X.congr (x := o) ho]
 cases o <;> simp only [uses1, List.mem_append] at h
 case v vo => simp only [evh, evp_congr h]
 case new => rfl
 case emp => rfl
 case box t x => simp only [evh, X.congr h]
 case bsl e len z ps => simp only [evh, getp_congr h]
 case bld z ps => simp only [evh, getp_congr h]
 case store sz x v => simp only [evh, X.congr (x := x) (fun t ht => h t (.inl ht)), X.congr (x := v) (fun t ht => h t (.inr ht))]
 case app e sz b x v => simp only [evh, X.congr (x := x) (fun t ht => h t (.inl ht)), X.congr (x := v) (fun t ht => h t (.inr ht))]
 case call f xs => simp only [evh, X.congr (x := f) (fun t ht => h t (.inl ht)), gets_congr (xs := xs) (fun t ht => h t (.inr ht))]
 case inv mt f xs => simp only [evh, X.congr (x := f) (fun t ht => h t (.inl ht)), gets_congr (xs := xs) (fun t ht => h t (.inr ht))]
 case mki a b x v => simp only [evh, X.congr (x := x) (fun t ht => h t (.inl ht)), X.congr (x := v) (fun t ht => h t (.inr ht))]
 case slc x lo hi mx sz => simp only [evh, X.congr (x := x) (fun t ht => h t (.inl ht)), bc lo (fun t ht => h t (.inr (.inl ht))), bc hi (fun t ht => h t (.inr (.inr (.inl ht)))), bc mx (fun t ht => h t (.inr (.inr (.inr ht))))]
theorem evh_mild {Γ : Gm} {s : St} {k : SV → List Blk → Prop} {o : Op1} (hm : mildK o = true) (h : evh Γ s k o) : evh Γ s (fun x hp' => k x hp' ∧ (hp' = s.hp ∨ ∃ b, hp' = pb s.hp b)) o := by
 cases o <;> first | (simp [mildK] at hm; done) | skip
 case v vo =>
  simp only [evh] at h ⊢
  unfold vK at h ⊢
  split at h
  ·exact ⟨h.1, h.2, .inl rfl⟩
  ·cases h
 case new t z => exact ⟨h, .inr ⟨_, rfl⟩⟩
 case box t x =>
  simp only [evh] at h ⊢
  unfold boxK at h ⊢
  split at h
  ·exact ⟨h, .inr ⟨_, rfl⟩⟩
  ·cases h
 case bsl e len z ps =>
  simp only [evh] at h ⊢
  unfold bslK at h ⊢
  split at h
  ·exact ⟨h, .inr ⟨_, rfl⟩⟩
  ·cases h
 case bld z ps =>
  simp only [evh] at h ⊢
  unfold bldK at h ⊢
  split at h
  ·exact ⟨h, .inl rfl⟩
  ·cases h
theorem evh_sil {Γ : Gm} {fr : List SV} {hp : List Blk} {k : SV → List Blk → Prop} {o : Op1} (hm : silK o = true) (h : evh Γ ⟨fr, hp⟩ k o) : ∃ p x, evq nq fr hp o = some (p, x) ∧ p ∧ k x hp := by
 cases o <;> first | (simp [silK] at hm; done) | skip
 case v vo =>
  simp only [evh] at h
  unfold vK at h
  split at h
  ·rename_i p x e; exact ⟨p, x, e, h.1, h.2⟩
  ·cases h
 case bld z ps =>
  simp only [evh] at h
  unfold bldK at h
  split at h
  ·rename_i cs e; exact ⟨True, _, by simp only [evq, e], trivial, h⟩
  ·cases h
theorem sil_evh {Γ : Gm} {fr : List SV} {hp : List Blk} {k : SV → List Blk → Prop} {o : Op1} {p : Prop} {x : SV} (hm : silK o = true) (e : evq nq fr hp o = some (p, x)) (hp1 : p) (hk : k x hp) : evh Γ ⟨fr, hp⟩ k o := by
 cases o <;> first | (simp [silK] at hm; done) | skip
 case v vo => simp only [evq] at e; simp only [evh, vK, e]; exact ⟨hp1, hk⟩
 case bld z ps =>
  simp only [evq] at e
  split at e
  ·rename_i cs h1; cases e; simp only [evh, bldK, h1]; exact hk
  ·cases e
section
variable {P : Program} {Γ : Gm} (hΓ : GmOk P Γ) (hG : ∀ f C, Γ f = some C → Known P f)
include hΓ hG in
theorem step_one {ro : Option Nat} {n : Nat} {ops : Array Oper} {Q : Exit → Act → World → Prop} {i : Nat} {op : Oper} {o : Opr} (hi : ops[i]? = some op) (hc : c1w P op = some o.o) (hd : o.d = op.dst) (hg : GRel ops op o) (hng : o.g = none)
  {E : Env} {s : St} {a : Act} (hr : Rep E s a) {k : SV → List Blk → Prop} (hev : evh Γ s k o.o) {K : Act → World → Prop}
  (hK : ∀ E' x hp' v, E.Le E' → Rep E' ⟨putf s.fr o.d x, hp'⟩ (a.put op.dst v) → k x hp' → K (a.put op.dst v) E'.w) : wpOpIn (fen ro) n P ops Q i K a E.w := by
 unfold wpOpIn
 simp only [hi]
 have hgd : gd s (fun s' => s' = s) (fun _ => False) o.g := by rw [hng]; rfl
 rcases gd_cases hg hr hgd with ⟨hw, s', hr', hrun⟩ | ⟨hw, s', hr', hskip⟩
 ·subst hrun
  rw [if_pos hw]
  refine ⟨fun _ _ => trivial, ?_⟩
  rw [Oper.semAt_eq _ _ _ (c1w_nodefer hc)]
  refine evhw_upon hΓ hG hc hr hev fun E' hp' x v hle hh hx hk => ?_
  exact hK E' x hp' v hle (by rw [hd]; exact hr.put hle hh hx op.dst) hk
 ·cases hskip
theorem LS_set {lst : Array Bool} {j : Nat} (hj : j < lst.size) : LS (lst.setIfInBounds j true) = fun t => t == j || LS lst t := by
 funext t
 by_cases ht : t = j
 ·subst ht; simp [LS, Array.getD_eq_getD_getElem?, Array.getElem?_setIfInBounds, hj]
 ·simp [LS, Array.getD_eq_getD_getElem?, Array.getElem?_setIfInBounds, Ne.symm ht, ht]
theorem cntA {ms : List Nat} {lo : List Opr} {i : Nat} : ∀ {A : List (Nat × Opr × SV)} {lst : Array Bool}, lst.size = lo.length → i < lst.size → LS lst i = false → (∀ y ∈ A, y.1 ≠ i) → OkA ms lo (LS lst) A → A.length + 1 ≤ left lst
 | [], lst, hs, hi, hL, _, _ => by
  have := left_set (lst := lst) (i := i) (by rw [getD_tf hi]; exact hL)
  simp; omega
 | (j, o, x) :: A, lst, hs, hi, hL, hA, h => by
  obtain ⟨h1, h2, h3, h4, h5⟩ := h
  have hj : j < lst.size := by rw [hs]; exact (List.getElem?_eq_some_iff.1 h1).1
  have hij : j ≠ i := hA _ (List.mem_cons_self ..)
  have e := left_set (lst := lst) (i := j) (by rw [getD_tf hj]; exact h3)
  rw [← LS_set hj] at h5
  have := cntA (A := A) (lst := lst.setIfInBounds j true) (by simpa using hs) (by simpa using hi) (by
   rw [LS_set hj]; simp only [hL, Bool.or_false]; simpa using Ne.symm hij) (fun y hy => hA y (List.mem_cons_of_mem _ hy)) h5
  simp only [List.length_cons]; omega
include hΓ hG in
theorem cut_any {ro : Option Nat} {n : Nat} {ops : Array Oper} {Q : Exit → Act → World → Prop} {lo : List Opr} (hc : cops P ops ops.toList = some lo) (he : edgesOk ops.toList = true) (hgs : ∀ o ∈ lo, o.g = none) {k0 : St → Prop} (E0 : Env) :
  ∀ (fuel k : Nat) (lst : Array Bool) (A : List (Nat × Opr × SV)) (E : Env) (s : St) (a : Act) (fr' : List SV), left lst = k + A.length → left lst ≤ fuel → lst.size = ops.size → Shut ops (LS lst) → OkA (masks ops.toList []) lo (LS lst) A → E0.Le E → Rep E s a →
   Dt s.hp A s.fr fr' → exT Γ k0 (cutT (masks ops.toList []) lo k (adL (LS lst) A)) ⟨fr', s.hp⟩ → (∀ E' s' a', E0.Le E' → Rep E' s' a' → k0 s' → Q .normal a' E'.w) → wpAnyIn (fen ro) n P .any ops Q fuel lst a E.w := by
 have hlen : lo.length = ops.size := by rw [cops_len hc]; simp
 intro fuel
 induction fuel with
 | zero =>
  intro k lst A E s a fr' hk hf hsz hs hA h0 hr hd hev hq'
  have : k = 0 := by omega
  subst this
  have hA0 : A = [] := by cases A with
   | nil => rfl
   | cons _ _ => simp at hk; omega
  subst hA0
  simp only [Dt] at hd
  subst hd
  refine ⟨?_, hq' E s a h0 hr hev⟩
  apply List.eq_nil_iff_forall_not_mem.2
  intro i hi
  obtain ⟨h1, h2, h3, h4, h5, h6⟩ := ready_facts hsz hs hi
  omega
 | succ fuel ih =>
  have inA : ∀ (k : Nat) (lst : Array Bool) (A : List (Nat × Opr × SV)) (E : Env) (s : St) (a : Act) (fr' : List SV), left lst = k + A.length → left lst ≤ fuel + 1 → lst.size = ops.size → Shut ops (LS lst) → OkA (masks ops.toList []) lo (LS lst) A → E0.Le E → Rep E s a →
    Dt s.hp A s.fr fr' → exT Γ k0 (cutT (masks ops.toList []) lo k (adL (LS lst) A)) ⟨fr', s.hp⟩ → (∀ E' s' a', E0.Le E' → Rep E' s' a' → k0 s' → Q .normal a' E'.w) →
    ∀ i, i ∈ Region.ready .any ops lst → (∃ y ∈ A, y.1 = i) → wpOpIn (fen ro) n P ops Q i (fun a' w' => wpAnyIn (fen ro) n P .any ops Q fuel (lst.setIfInBounds i true) a' w') a E.w := by
   intro k lst A E s a fr' hk hf hsz hs hA h0 hr hd hev hq' i hi hy
   obtain ⟨⟨i', o, x⟩, hy1, rfl⟩ := hy
   simp only at hi ⊢
   obtain ⟨A1, A2, rfl⟩ := List.append_of_mem hy1
   obtain ⟨h1, h2, h3, h4, h5, h6⟩ := ready_facts hsz hs hi
   obtain ⟨hA1, g1, g2, g3, g4, g5⟩ := OkA_app.1 hA
   obtain ⟨o', ho, hco, hod, hog⟩ := cops_get hc i' ops[i'] (by simp [h1])
   rw [g1] at ho; cases ho
   obtain ⟨fr1, d1, ⟨p, d2, d3⟩, d4⟩ := Dt_app.1 hd
   rw [adL_eq, Bool.or_eq_false_iff] at g3
   have hn1 : ∀ y ∈ A1, y.1 ≠ i' := fun y hy e => by
    have := List.any_eq_false.1 g3.1 y hy
    simp [e] at this
   have hsil := (sil_get g1 g2).1
   have hcm : ∀ y ∈ A1, silK y.2.1.o = true ∧ cmt y.2.1 o = true := fun y hy => by
    obtain ⟨e1, e2⟩ := OkA_sil hA1 y hy
    obtain ⟨e3, e4⟩ := sil_get e1 e2
    refine ⟨e3, e4 i' o g1 (hn1 y hy) (OkA_wait (by rw [hlen]; exact h1) hA1 h2 hn1 y hy) ?_⟩
    cases hb : ((masks ops.toList []).getD i' 0).testBit y.1 with
    | false => rfl
    | true => have := h3 _ hb; rw [OkA_not hA1 y hy] at this; cases this
   have hev1 : evq nq s.fr s.hp o.o = some (p, x) := by
    rw [← d2]
    exact evq_congr fun t ht => (Dt_gt (fun y hy e => ((cmt_get (hcm y hy).2).1 t e).2 ht) d1).symm
   refine step_one hΓ hG (by simp [h1]) hco hod hog (hgs o (List.mem_of_getElem? g1)) hr (sil_evh (k := fun x' hp' => x' = x ∧ hp' = s.hp) hsil hev1 d3 ⟨rfl, rfl⟩) fun E' x' hp' v hle hr' hk' => ?_
   obtain ⟨rfl, rfl⟩ := hk'
   have hLS := LS_set (lst := lst) (j := i') (by rw [hsz]; exact h1)
   refine ih k _ (A1 ++ A2) E' _ _ fr' ?_ (by omega) (by simpa using hsz) h4 ?_ (h0.trans hle) hr' ?_ ?_ hq'
   ·simp only [List.length_append, List.length_cons] at hk ⊢; omega
   ·rw [hLS]
    refine OkA_app.2 ⟨OkA_add hn1 hA1, ?_⟩
    have e : adL (fun t => t == i' || LS lst t) A1 = fun j => j == i' || adL (LS lst) A1 j := by
     funext j
     rw [adL_eq, adL_eq]
     cases A1.any (fun y => j == y.1) <;> cases (j == i') <;> rfl
    rw [e]; exact g5
   ·exact Dt_app.2 ⟨_, Dt_put (fun y hy => ⟨(hcm y hy).1, (cmt_get (hcm y hy).2).2.1, fun _ => .inl rfl⟩) d1, d4⟩
   ·have e : adL (LS (lst.setIfInBounds i' true)) (A1 ++ A2) = adL (LS lst) (A1 ++ (i', o, x') :: A2) := by
     funext j
     rw [adL_eq, adL_eq, hLS]
     simp only [List.any_append, List.any_cons]
     cases A1.any (fun y => j == y.1) <;> cases A2.any (fun y => j == y.1) <;> cases (j == i') <;> rfl
    rw [e]; exact hev
  intro k
  induction k with
  | zero =>
   intro lst A E s a fr' hk hf hsz hs hA h0 hr hd hev hq'
   constructor
   ·intro hnil
    cases A with
    | nil => simp only [Dt] at hd; subst hd; exact hq' E s a h0 hr hev
    | cons y A =>
     obtain ⟨i, h1, h2⟩ := left_ex (lst := lst) (by simp at hk; omega)
     obtain ⟨j, _, hj⟩ := unlisted_ready hsz he i (by omega) h2
     rw [hnil] at hj; cases hj
   ·intro i hi
    obtain ⟨h1, h2, h3, h4, h5, h6⟩ := ready_facts hsz hs hi
    by_cases hy : ∃ y ∈ A, y.1 = i
    ·exact inA 0 lst A E s a fr' hk hf hsz hs hA h0 hr hd hev hq' i hi hy
    ·have := cntA (i := i) (by rw [hsz, hlen]) (by rw [hsz]; exact h1) h2 (fun y hy' e => hy ⟨y, hy', e⟩) hA
     omega
  | succ k ihk =>
   intro lst A E s a fr' hk hf hsz hs hA h0 hr hd hev hq'
   rw [cutT] at hev
   cases hfs : fstS (masks ops.toList []) lo (adL (LS lst) A) with
   | some oi =>
    obtain ⟨o, i⟩ := oi
    rw [hfs] at hev
    have hp1 := List.find?_some hfs
    have hm1 := List.mem_zipIdx_iff_getElem?.1 (List.mem_of_find?_eq_some hfs)
    simp only [Bool.and_eq_true] at hp1
    obtain ⟨hrd, hsl⟩ := hp1
    have ho : lo[i]? = some o := by simpa using hm1
    have hng := hgs o (List.mem_of_getElem? ho)
    have hev1 := hev.1
    obtain ⟨od, og, oo⟩ := o
    simp only at hng
    subst hng
    simp only [evops, gd, runK] at hev1
    obtain ⟨p, x, e1, e2, e3⟩ := evh_sil (sil_get ho hsl).1 hev1
    unfold rdy at hrd
    simp only [Bool.and_eq_true, Bool.not_eq_true', List.all_eq_true, List.mem_range, Bool.or_eq_true] at hrd
    refine ihk lst (A ++ [(i, ⟨od, none, oo⟩, x)]) E s a (putf fr' od x) (by simp only [List.length_append, List.length_cons, List.length_nil]; omega) hf hsz hs (OkA_app.2 ⟨hA, ho, hsl, hrd.1, fun j hj hb => ?_, trivial⟩) h0 hr (Dt_app.2 ⟨fr', hd, (show Dt s.hp [(i, ⟨od, none, oo⟩, x)] fr' (putf fr' od x) from ⟨⟨p, e1, e2⟩, rfl⟩)⟩) ?_ hq'
    ·rcases hrd.2 j hj with h | h
     ·rw [hb] at h; cases h
     ·exact h
    ·rw [adL_app]; exact e3
   | none =>
    rw [hfs] at hev
    constructor
    ·intro hnil
     obtain ⟨i, h1, h2⟩ := left_ex (lst := lst) (by omega)
     obtain ⟨j, _, hj⟩ := unlisted_ready hsz he i (by omega) h2
     rw [hnil] at hj; cases hj
    ·intro i hi
     by_cases hy : ∃ y ∈ A, y.1 = i
     ·exact inA (k + 1) lst A E s a fr' hk hf hsz hs hA h0 hr hd (by rw [cutT, hfs]; exact hev) hq' i hi hy
     obtain ⟨h1, h2, h3, h4, h5, h6⟩ := ready_facts hsz hs hi
     obtain ⟨o, ho, hco, hod, hog⟩ := cops_get hc i ops[i] (by simp [h1])
     have hnA : ∀ y ∈ A, y.1 ≠ i := fun y hy' e => hy ⟨y, hy', e⟩
     have hrd : rdy (masks ops.toList []) lo.length (adL (LS lst) A) i = true := by
      unfold rdy
      rw [adL_eq, h2, Bool.or_false]
      have : A.any (fun y => i == y.1) = false := List.any_eq_false.2 fun y hy' => by simpa using Ne.symm (hnA y hy')
      rw [this, Bool.not_false, Bool.true_and, List.all_eq_true]
      intro j _
      cases hb : ((masks ops.toList []).getD i 0).testBit j
      ·rfl
      ·rw [adL_eq, h3 j hb]; simp
     have hst := ordS_get hrd (List.mem_zipIdx_iff_getElem?.2 (by simpa using ho)) hev
     have hng := hgs o (List.mem_of_getElem? ho)
     have hcm : ∀ y ∈ A, silK y.2.1.o = true ∧ cmt y.2.1 o = true := fun y hy' => by
      obtain ⟨e1, e2⟩ := OkA_sil hA y hy'
      obtain ⟨e3, e4⟩ := sil_get e1 e2
      refine ⟨e3, e4 i o ho (hnA y hy') (OkA_wait (by rw [hlen]; exact h1) hA h2 hnA y hy') ?_⟩
      cases hb : ((masks ops.toList []).getD i 0).testBit y.1 with
      | false => rfl
      | true => have := h3 _ hb; rw [OkA_not hA y hy'] at this; cases this
     have hst2 : evh Γ ⟨fr', s.hp⟩ (fun x hp' => exT Γ k0 (cutT (masks ops.toList []) lo k fun j => j == i || adL (LS lst) A j) ⟨putf fr' o.d x, hp'⟩) o.o := by
      obtain ⟨od, og, oo⟩ := o
      simp only at hng
      subst hng
      simp only [evops, gd, runK] at hst
      exact hst
     rw [evh_congr (fr' := s.fr) (fun t ht => Dt_gt (fun y hy' e => ((cmt_get (hcm y hy').2).1 t e).2 ht) hd)] at hst2
     have hLS := LS_set (lst := lst) (j := i) (by rw [hsz]; exact h1)
     have fin : ∀ E' x hp' v, E.Le E' → Rep E' ⟨putf s.fr o.d x, hp'⟩ (a.put ops[i].dst v) → exT Γ k0 (cutT (masks ops.toList []) lo k fun j => j == i || adL (LS lst) A j) ⟨putf fr' o.d x, hp'⟩ →
       ((∃ y ∈ A, rdK y.2.1.o = true) → hp' = s.hp ∨ ∃ b, hp' = pb s.hp b) → wpAnyIn (fen ro) n P .any ops Q fuel (lst.setIfInBounds i true) (a.put ops[i].dst v) E'.w := by
      intro E' x hp' v hle hr' hk' hmh
      refine ih k _ A E' _ _ (putf fr' o.d x) (by omega) (by omega) (by simpa using hsz) h4 (by rw [hLS]; exact OkA_add hnA hA) (h0.trans hle) hr' ?_ ?_ hq'
      ·exact Dt_put (fun y hy' => ⟨(hcm y hy').1, (cmt_get (hcm y hy').2).2.1, fun hr => hmh ⟨y, hy', hr⟩⟩) hd
      ·have e : adL (LS (lst.setIfInBounds i true)) A = fun j => j == i || adL (LS lst) A j := by
        funext j
        rw [adL_eq, adL_eq, hLS]
        show (A.any (fun y => j == y.1) || (j == i || LS lst j)) = (j == i || (A.any (fun y => j == y.1) || LS lst j))
        cases A.any (fun y => j == y.1) <;> cases (j == i) <;> rfl
       rw [e]; exact hk'
     by_cases hrdA : ∃ y ∈ A, rdK y.2.1.o = true
     ·obtain ⟨y, hy', hry⟩ := hrdA
      refine step_one hΓ hG (by simp [h1]) hco hod hog hng hr (evh_mild ((cmt_get (hcm y hy').2).2.2 hry) hst2) fun E' x hp' v hle hr' hk' => fin E' x hp' v hle hr' hk'.1 fun _ => hk'.2
     ·exact step_one hΓ hG (by simp [h1]) hco hod hog hng hr hst2 fun E' x hp' v hle hr' hk' => fin E' x hp' v hle hr' hk' fun h => absurd h hrdA
include hΓ hG in
theorem ctrc_ok {N : Nat} {Γq : Nat → Option FC} {ro : Option Nat} {n : Nat} {id : Nat} {ops : Array Oper} {sc : SC} (hsc : ctrc P ops = some sc) {K : Exit → St → Prop} {s : St} {E : Env} {a : Act} {Q : Exit → Act → World → Prop} (hr : Rep E s a) (hev : exec N Γ Γq sc K s)
    (hq : ∀ e E' s' a', E.Le E' → Rep E' s' a' → K e s' → Q e a' E'.w) : (Code.region id ops true).wpIn (fen ro) n P Q a E.w := by
  unfold ctrc at hsc
  split at hsc
  · cases hsc
  rename_i lo hc
  split at hsc
  · rename_i hok
    simp only [Bool.and_eq_true, List.all_eq_true] at hok
    obtain ⟨⟨hm, he⟩, hgs, _⟩ := hok
    cases hsc
    simp only [exec] at hev
    refine wpIn_region_any hm ?_
    have hE1 : E.Le (E.to { E.w with drawn := E.w.drawn + 1 }) := Env.to_le fun b hb => rfl
    have hr1 : RHp (E.to { E.w with drawn := E.w.drawn + 1 }) s.hp :=
      ⟨⟨hr.hp.g.fr, hr.hp.g.fz, hr.hp.g.sz, hr.hp.g.os, hr.hp.g.tape, hr.hp.g.output, hr.hp.g.imb, hr.hp.g.im0⟩,
       ⟨hr.hp.b.n, hr.hp.b.rs, fun l b hb => (hr.hp.b.blk l b hb).keep hE1 (hr.hp.has hb) (fun g _ => rfl), hr.hp.b.live, hr.hp.b.imx, hr.hp.b.base, hr.hp.b.dj⟩⟩
    have h0 : left (Array.replicate ops.size false) = ops.size := by
      unfold left; rw [Array.toList_replicate]; simp
    have hLf : LS (Array.replicate ops.size false) = fun _ => false := by
      funext j
      simp only [LS, Array.getD_eq_getD_getElem?, Array.getElem?_replicate]
      split <;> rfl
    have hlen : lo.length = ops.size := by rw [cops_len hc]; simp
    refine cut_any hΓ hG hc he (fun o ho => by simpa using hgs o ho) E ops.size ops.size (Array.replicate ops.size false) [] (E.to _) s a s.fr (by rw [h0]; rfl) (by omega) (by simp) ?_ trivial hE1 ⟨hr.fr.mono hE1, hr1, by rw [hr.df]; rfl⟩ rfl (by rw [adL, hLf, ← hlen]; exact hev) (fun E' s' a' => hq _ E' s' a')
    intro k o _ hk; rw [hLf] at hk; cases hk
  · cases hsc
end
end Go.Vg
