import Derived.Test.YtjagiieconpgbaaVgD2
namespace Go.Vg
open Go
set_option linter.unusedVariables false
set_option linter.unusedSimpArgs false
def GRel (ops : Array Oper) (op : Oper) (o : Opr) : Prop :=
 (op.guard = none ∧ o.g = none) ∨ ∃ j want d, op.guard = some (j, want) ∧ (ops[j]?).bind (·.dst) = some d ∧ o.g = some (d, want)
theorem cops_get {P : Program} {ops : Array Oper} : ∀ {l : List Oper} {lo : List Opr}, cops P ops l = some lo → ∀ (i : Nat) (op : Oper), l[i]? = some op →
  ∃ o, lo[i]? = some o ∧ c1w P op = some o.o ∧ o.d = op.dst ∧ GRel ops op o
 | [], lo, h, i, op, e => by simp at e
 | x :: l, lo, h, i, op, e => by
  simp only [cops] at h
  split at h
  ·rename_i o1 lo' g h1 h2 h3
   cases h
   cases i with
   | zero =>
    simp at e; subst e
    refine ⟨_, by simp; rfl, h1, rfl, ?_⟩
    cases hg : x.guard with
    | none => simp only [hg] at h3; cases h3; exact .inl ⟨hg, rfl⟩
    | some jw =>
     obtain ⟨j, w⟩ := jw
     simp only [hg] at h3
     split at h3
     ·rename_i d hd; cases h3; exact .inr ⟨j, w, d, hg, hd, rfl⟩
     ·cases h3
   | succ i => simpa using cops_get h2 i op (by simpa using e)
  ·cases h
theorem cops_len {P : Program} {ops : Array Oper} : ∀ {l : List Oper} {lo : List Opr}, cops P ops l = some lo → lo.length = l.length
 | [], lo, h => by simp [cops] at h; subst h; rfl
 | x :: l, lo, h => by
  simp only [cops] at h
  split at h
  ·rename_i o1 lo' g h1 h2 h3; cases h; simp [cops_len h2]
  ·cases h
section
variable {P : Program} {Γq : Nat → Option FC} (hΓq : ∀ f F, Γq f = some F → FcOk P f F) (hGq : ∀ f F, Γq f = some F → Known P f)
include hΓq in
theorem cons_ok : GmOk P (cons P Γq) := by
 refine ⟨rfl, ?_⟩
 intro f C h
 simp only [cons] at h
 split at h
 ·rename_i F hF; cases h; exact hΓq f F hF
 ·cases h
include hGq in
theorem cons_known : ∀ f C, cons P Γq f = some C → ∃ fn, P.funcs[f]? = some fn ∧ fn.name ≠ "runtime.NumGoroutine" ∧ fn.body ≠ none := by
 intro f C h
 simp only [cons] at h
 split at h
 ·rename_i F hF; exact hGq f F hF
 ·cases h
theorem c1_nodefer {o : Oper} {o1 : Op1} (h : c1 P o = some o1) : ∀ c, o.op ≠ .defer c := by
 intro c e
 unfold c1 cV at h
 simp [e] at h
theorem c1w_nodefer {o : Oper} {o1 : Op1} (h : c1w P o = some o1) : ∀ c, o.op ≠ .defer c := by
 intro c e
 unfold c1w at h
 split at h
 ·rename_i h1; exact c1_nodefer h1 c e
 ·rw [e] at h; simp at h
theorem yield_of {all : Array Oper} {tmps : Array Value} {j d : Nat} (hd : (all[j]?).bind (·.dst) = some d) :
  yielded all tmps j = match tmps.toList.getD d undef with
   | .bool b => some b
   | _ => none := by
 unfold yielded
 rw [hd]
 simp only [Option.bind_some, List.getD_eq_getElem?_getD, Array.getElem?_toList]
 cases tmps[d]? with
 | none => rfl
 | some v => cases v <;> rfl
theorem wanted_of {E : Env} {ops : Array Oper} {op : Oper} {o : Opr} {a : Act} {fr : List SV} {b : Bool} (hg : GRel ops op o) (hgd : gdl fr o.g = some b) (hs : ∀ t, t ∈ usesG o.g → Rv E (gt fr t) (a.tmps.toList.getD t undef)) :
  Region.wanted op (yielded ops a.tmps) = b := by
 rcases hg with ⟨h1, h2⟩ | ⟨j, want, d, h1, h2, h3⟩
 ·rw [h2] at hgd; simp [gdl] at hgd; subst hgd; simp [Region.wanted, h1]
 ·rw [h3] at hgd hs
  have hx := hs d (by simp [usesG])
  have hy := yield_of (tmps := a.tmps) h2
  simp only [Region.wanted, h1]
  simp only [gdl] at hgd
  split at hgd
  ·rename_i e; rw [e] at hx; rw [hx.litE] at hy; rw [hy]; rw [Option.some.injEq] at hgd; subst hgd; cases want <;> rfl
  ·rename_i e; rw [e] at hx; rw [hx.litE] at hy; rw [hy]; rw [Option.some.injEq] at hgd; subst hgd; cases want <;> rfl
  ·rename_i e; rw [e] at hx; rw [hx.litE] at hy; rw [hy]; rw [Option.some.injEq] at hgd; subst hgd; cases want <;> rfl
  ·cases hgd
theorem LitOf.rv {E : Env} {x y : SV} {v : Value} (h : LitOf y x) (hy : Rv E y v) : Rv E x v := by
 rcases h with rfl | ⟨b, rfl, rfl⟩
 ·exact hy
 ·rw [hy.boolE]; exact .lit _
include hΓq hGq in
theorem step_head {ro : Option Nat} {n : Nat} {ops : Array Oper} {Q : Exit → Act → World → Prop} {i : Nat} {op : Oper} {o : Opr} (hi : ops[i]? = some op) (hc : c1w P op = some o.o) (hd : o.d = op.dst) (hg : GRel ops op o)
  {E : Env} {a : Act} {F frI : List SV} {hp HP : List Blk} (hHP : HP = hp ∨ ∃ b, HP = pb hp b) (hF : Rvs E F a.tmps.toList) (hr : RHp E HP) (hdf : a.defers = E.df) {x : SV} (hst : StepOk Γq hp frI o x)
  (hag : ∀ t, t ∈ usesR o → gt F t = gt frI t) (hlen : frI.length = F.length) {K : Act → World → Prop}
  (hK : ∀ E' v, E.Le E' → RHp E' HP → Rv E' x v → K (a.put op.dst v) E'.w) : wpOpIn (fen ro) n P ops Q i K a E.w := by
 unfold wpOpIn
 simp only [hi]
 have hsl : ∀ t, t ∈ usesR o → Rv E (gt frI t) (a.tmps.toList.getD t undef) := fun t ht => by rw [← hag t ht]; exact hF.gt t
 rcases hst with ⟨h1, p, y, h2, h3, h4⟩ | ⟨h1, h2⟩
 ·have hw := wanted_of hg h1 (a := a) (E := E) (fun t ht => hsl t (by simp [usesR, ht]))
  rw [if_pos hw]
  refine ⟨fun _ _ => trivial, ?_⟩
  rw [Oper.semAt_eq _ _ _ (c1w_nodefer hc)]
  have hV : Rvs E (msk (usesR o) 0 frI) a.tmps.toList := by
   refine Rvs_iff.2 ⟨by rw [len_msk, hlen]; exact hF.length, fun t ht => ?_⟩
   rw [gt_msk]
   split
   ·rename_i hm; exact hsl t (by simpa using hm)
   ·exact .any _
  have hev : evq Γq (msk (usesR o) 0 frI) HP o.o = some (p, y) := by
   have e1 : evq Γq (msk (usesR o) 0 frI) hp o.o = some (p, y) := by
    rw [← h2]
    refine evq_congr fun t ht => ?_
    rw [gt_msk, if_pos (by simp [usesR, ht])]
   rcases hHP with rfl | ⟨b, rfl⟩
   ·exact e1
   ·exact evq_pb e1
  refine evhw_upon (cons_ok hΓq) (cons_known hGq) hc (s := ⟨msk (usesR o) 0 frI, HP⟩) ⟨hV, hr, hdf⟩ (evq_evh (k := fun x' hp' => x' = y ∧ hp' = HP) hev h3 ⟨rfl, rfl⟩) ?_
  rintro E' hp' x' v hle hh hx ⟨rfl, rfl⟩
  exact hK E' v hle hh (h4.rv hx)
 ·have hw := wanted_of hg h1 (a := a) (E := E) (fun t ht => hsl t (by simp [usesR, ht]))
  rw [if_neg (by simp [hw])]
  refine ⟨fun _ _ => trivial, ?_⟩
  subst h2
  exact hK E undef (.refl E) hr (.lit _)
include hΓq hGq in
theorem step_cre {ro : Option Nat} {n : Nat} {ops : Array Oper} {Q : Exit → Act → World → Prop} {i : Nat} {op : Oper} {o : Opr} (hi : ops[i]? = some op) (hc : c1w P op = some o.o) (hg : GRel ops op o) (hgn : o.g = none)
  {E : Env} {a : Act} {F frI : List SV} {hp : List Blk} (hF : Rvs E F a.tmps.toList) (hr : RHp E hp) (hdf : a.defers = E.df) {x : SV} {b : Blk} (hst : crv frI (ln hp) o.o = some (x, b))
  (hag : ∀ t, t ∈ usesR o → gt F t = gt frI t) {K : Act → World → Prop}
  (hK : ∀ E' v, E.Le E' → RHp E' (pb hp b) → Rv E' x v → K (a.put op.dst v) E'.w) : wpOpIn (fen ro) n P ops Q i K a E.w := by
 unfold wpOpIn
 simp only [hi]
 have hgu : op.guard = none := by
  rcases hg with ⟨h1, _⟩ | ⟨j, want, d, _, _, h3⟩
  ·exact h1
  ·rw [hgn] at h3; cases h3
 rw [if_pos (by simp [Region.wanted, hgu])]
 refine ⟨fun _ _ => trivial, ?_⟩
 rw [Oper.semAt_eq _ _ _ (c1w_nodefer hc)]
 have h1 : crv F (ln hp) o.o = some (x, b) := by rw [← hst]; exact crv_congr fun t ht => hag t (by simp [usesR, ht])
 refine evhw_upon (cons_ok hΓq) (cons_known hGq) hc (s := ⟨F, hp⟩) ⟨hF, hr, hdf⟩ (crv_evh (k := fun x' hp' => x' = x ∧ hp' = pb hp b) h1 ⟨rfl, rfl⟩) ?_
 rintro E' hp' x' v hle hh hx ⟨rfl, rfl⟩
 exact hK E' v hle hh hx
end
theorem mix_split {p : Nat → Bool} : ∀ (l1 l2 : List (Nat × Opr × SV)) (fr : List SV), (∀ i o x, (i, o, x) ∈ l1 → p i = true) → (∀ i o x, (i, o, x) ∈ l2 → p i = false) → mix p (l1 ++ l2) fr = mix (fun _ => true) l1 fr
 | [], [], fr, _, _ => rfl
 | [], (i, o, x) :: l2, fr, h1, h2 => by
  simp only [List.nil_append, mix]
  rw [h2 i o x (List.mem_cons_self ..)]
  have := mix_split [] l2 fr (fun _ _ _ hm => by cases hm) (fun i o x hm => h2 i o x (List.mem_cons_of_mem _ hm))
  simpa [mix] using this
 | (i, o, x) :: l1, l2, fr, h1, h2 => by
  simp only [List.cons_append, mix]
  rw [h1 i o x (List.mem_cons_self ..)]
  exact mix_split l1 l2 _ (fun i o x hm => h1 i o x (List.mem_cons_of_mem _ hm)) h2
def Diff (l : List (Nat × Opr × SV)) : Prop := (l.map (·.1)).Nodup
theorem Diff.split {l1 l2 : List (Nat × Opr × SV)} {i : Nat} {o : Opr} {x : SV} (h : Diff (l1 ++ (i, o, x) :: l2)) : (∀ j o' x', (j, o', x') ∈ l1 → j ≠ i) ∧ (∀ j o' x', (j, o', x') ∈ l2 → j ≠ i) ∧
  (∀ j o1 x1 o2 x2, (j, o1, x1) ∈ l1 → (j, o2, x2) ∈ l2 → False) := by
 unfold Diff at h
 simp only [List.map_append, List.map_cons, List.nodup_append, List.nodup_cons, List.mem_map, List.mem_cons] at h
 obtain ⟨h1, ⟨h2, h3⟩, h4⟩ := h
 refine ⟨fun j o' x' hm e => ?_, fun j o' x' hm e => ?_, fun j o1 x1 o2 x2 hm1 hm2 => ?_⟩
 ·exact h4 j ⟨_, hm, rfl⟩ i (.inl rfl) e
 ·exact h2 ⟨(j, o', x'), hm, e⟩
 ·exact h4 j ⟨_, hm1, rfl⟩ j (.inr ⟨_, hm2, rfl⟩) rfl
section
variable {l l1 l2 : List (Nat × Opr × SV)} {i : Nat} {o : Opr} {x : SV} {L : Nat → Bool} {fr : List SV}
theorem view_eq (hl : l = l1 ++ (i, o, x) :: l2) (hd : Diff l) (hi : L i = false) {t : Nat} (h1 : ∀ j o' x', (j, o', x') ∈ l1 → o'.d = some t → L j = true) (h2 : ∀ j o' x', (j, o', x') ∈ l2 → o'.d = some t → L j = false) :
  gt (mix L l fr) t = gt (mix (fun _ => true) l1 fr) t := by
 subst hl
 obtain ⟨d1, d2, d3⟩ := hd.split
 have : mix (fun _ => true) l1 fr = mix (fun j => (l1.map (·.1)).contains j) (l1 ++ (i, o, x) :: l2) fr := by
  rw [mix_split]
  ·intro j o' x' hm; simp only [List.contains_iff_mem, List.mem_map]; exact ⟨_, hm, rfl⟩
  ·intro j o' x' hm
   rw [← Bool.not_eq_true, List.contains_iff_mem, List.mem_map]
   rintro ⟨⟨j', o1, x1⟩, hm1, rfl⟩
   cases hm with
   | head => exact d1 _ _ _ hm1 rfl
   | tail _ hm => exact d3 _ _ _ _ _ hm1 hm
 rw [this]
 refine gt_mix_congr _ _ _ rfl rfl fun j o' x' hm hd' => ?_
 rcases List.mem_append.1 hm with hm | hm
 ·rw [h1 j o' x' hm hd', Eq.comm]
  simp only [List.contains_iff_mem, List.mem_map]; exact ⟨_, hm, rfl⟩
 ·have hne : (l1.map (·.1)).contains j = false := by
   rw [← Bool.not_eq_true, List.contains_iff_mem, List.mem_map]
   rintro ⟨⟨j', o1, x1⟩, hm1, rfl⟩
   cases hm with
   | head => exact d1 _ _ _ hm1 rfl
   | tail _ hm => exact d3 _ _ _ _ _ hm1 hm
  rw [hne]
  cases hm with
  | head => exact hi
  | tail _ hm => exact h2 j o' x' hm hd'
theorem next_frame {E : Env} (hl : l = l1 ++ (i, o, x) :: l2) (hd : Diff l) (hi : L i = false) (h2 : ∀ t j o' x', (j, o', x') ∈ l2 → o.d = some t → o'.d = some t → L j = false) {a : Act} {v : Value}
  (hF : Rvs E (mix L l fr) a.tmps.toList) (hx : Rv E x v) : Rvs E (mix (fun j => j == i || L j) l fr) (a.put o.d v).tmps.toList := by
 have h0 := hF
 have hput : Rvs E (putf (mix L l fr) o.d x) (a.put o.d v).tmps.toList := by
  cases hdd : o.d with
  | none => exact hF
  | some d => simpa [putf, Act.put] using hF.st d hx
 have hlen := hput.length
 rw [len_putf] at hlen
 refine Rvs_iff.2 ⟨by rw [len_mix, ← hlen, len_mix], fun t ht => ?_⟩
 rw [len_mix] at ht
 have hp := hput.gt t
 rw [gt_putf] at hp
 have hdl := hd
 subst hl
 obtain ⟨d1, d2, d3⟩ := hd.split
 by_cases hdt : o.d = some t
 ·rw [if_pos ⟨hdt, by rw [len_mix]; exact ht⟩] at hp
  rw [gt_mix_last _ _ l1 l2 i o x rfl (by simp) hdt ht]
  ·exact hp
  ·intro j o' x' hm hd'
   have := d2 j o' x' hm
   simp [this, h2 t j o' x' hm hdt hd']
 ·rw [if_neg (fun h => hdt h.1)] at hp
  rw [gt_mix_congr (p := fun j => j == i || L j) (q := L) _ fr fr rfl rfl]
  ·exact hp
  ·intro j o' x' hm hd'
   have : j ≠ i := by
    rcases List.mem_append.1 hm with hm | hm
    ·exact d1 j o' x' hm
    ·cases hm with
     | head => exact absurd hd' hdt
     | tail _ hm => exact d2 j o' x' hm
   simp [this]
end
theorem unlisted_ready {ops : Array Oper} {lst : Array Bool} (hsz : lst.size = ops.size) (he : edgesOk ops.toList = true) : ∀ (i : Nat), i < ops.size → lst.getD i true = false → ∃ j, j ≤ i ∧ j ∈ Region.ready .any ops lst := by
 intro i
 induction i using Nat.strongRecOn with
 | _ i ih =>
  intro hi hl
  by_cases h : ∀ e ∈ ops[i].after, Region.binds .any e = true → lst.getD e.on false = true
  ·exact ⟨i, Nat.le_refl _, mem_ready.2 ⟨hl, ops[i], by simp [hi], h⟩⟩
  ·have : ∃ e ∈ ops[i].after, Region.binds .any e = true ∧ lst.getD e.on false = false := by
    apply Classical.byContradiction
    intro hc
    refine h fun e hm hb => ?_
    cases hv : lst.getD e.on false
    ·exact absurd ⟨e, hm, hb, hv⟩ hc
    ·rfl
   obtain ⟨e, hm, hb, hv⟩ := this
   have hlt : e.on < i := by
    unfold edgesOk at he
    rw [List.all_eq_true] at he
    have := he (ops[i], i) (by rw [List.mem_zipIdx_iff_getElem?]; simp [hi])
    simp only at this
    rw [Array.all_eq_true_iff_forall_mem] at this
    have := this e hm
    simpa [hb] using this
   obtain ⟨j, h1, h2⟩ := ih e.on hlt (by omega) (by
    have : e.on < lst.size := by omega
    simp only [Array.getD, this, dif_pos] at hv ⊢
    exact hv)
   exact ⟨j, by omega, h2⟩
def left (lst : Array Bool) : Nat := lst.toList.count false
theorem left_set {lst : Array Bool} {i : Nat} (h : lst.getD i true = false) : left (lst.setIfInBounds i true) + 1 = left lst := by
 have hi : i < lst.size := by
  by_cases h' : i < lst.size
  ·exact h'
  ·simp [Array.getD, h'] at h
 have hv : lst.toList[i]'(by simpa using hi) = false := by simpa [Array.getD, hi] using h
 unfold left
 rw [Array.toList_setIfInBounds, List.count_set (by simpa using hi), hv]
 have : 0 < lst.toList.count false := List.count_pos_iff.2 (hv ▸ List.getElem_mem _)
 rw [if_pos (by rfl), if_neg (by decide)]; omega
theorem left_zero {lst : Array Bool} (h : left lst = 0) (i : Nat) : lst.getD i true = true := by
 cases hv : lst.getD i true
 ·have := left_set hv; omega
 ·rfl
theorem getD_tf {lst : Array Bool} {i : Nat} (hi : i < lst.size) : lst.getD i true = lst.getD i false := by simp [Array.getD, hi]
end Go.Vg
