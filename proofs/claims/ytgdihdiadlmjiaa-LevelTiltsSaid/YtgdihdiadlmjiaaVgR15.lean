import Derived.Test.YtgdihdiadlmjiaaVgR14
namespace Go.Vg
open Go
set_option linter.unusedVariables false
set_option linter.unusedSimpArgs false
theorem setps_ok {α : Type} : ∀ {ps : List Nat} {fr xs : List SV} {k : List SV → Option α} {res : α}, setps fr ps xs k = some res → ps.length = xs.length ∧ k (setL fr ps xs) = some res
 | [], fr, [], k, res, e => ⟨rfl, e⟩
 | [], fr, _ :: _, k, res, e => by simp [setps] at e
 | _ :: _, fr, [], k, res, e => by simp [setps] at e
 | p :: ps, fr, x :: xs, k, res, e => by
  simp only [setps, stK_eq] at e
  obtain ⟨h1, h2⟩ := setps_ok e
  exact ⟨by simp [h1], h2⟩
theorem knF_ok {P : Program} {T : Nat → Option Fdn} (hT : TabR P T) {f : Nat} {as : List SV} {x : SV} (e : knF T f as = some x) : Known P f ∧ PureOk P f (fun bs K => bs = as ∧ K x) := by
 unfold knF at e
 split at e <;> first | (cases e; done) | skip
 rename_i d hd
 obtain ⟨fn, c, hf, hnm, hb, hc, hrs, hnt, hk⟩ := hT f d hd
 obtain ⟨bs, h1, h2⟩ := findK_get e
 refine ⟨⟨fn, hf, hnm, by rw [hb]; simp⟩, fun w im as' vs K him ha hC => ?_⟩
 obtain ⟨rfl, hK⟩ := hC
 exact hk _ h1 w im bs vs K him (eqL_ok (fun h hv => eqS_ok 12 h hv) h2 ha) ⟨rfl, hK⟩
theorem clC_ok {h : HT} {hp : List Blk} (r : HRel h hp) {x y : SV} (e : clC h x = some y) : ∀ E v, RHp E hp → Rv E x v → ∃ E2 hp2, Closed E E2 ∧ RHp E2 hp2 ∧ Cv E2.w E2.im y v := by
 intro E v hr hv
 unfold clC at e
 split at e
 ·cases e; exact ⟨E, hp, .refl E, hr, clo_ok 0 rfl hv⟩
 ·cases e; exact ⟨E, hp, .refl E, hr, clo_ok 0 rfl hv⟩
 ·split at e <;> cases e
  rename_i h2 hcw
  obtain ⟨hp2, r2, hcv⟩ := clW_ok 8 r hcw
  obtain ⟨E2, c2, hr2, v2⟩ := clV_ok 8 hr hv hcv
  exact ⟨E2, hp2, c2, hr2, v2⟩
theorem callQ_ok {P : Program} {T : Nat → Option Fdn} (hT : TabR P T) {rn : Rn} (hrn : RunOk P rn) : CqOk P (callQ T rn) := by
 classical
 intro fv args x e E vf vs hp hok hr hfv ha
 unfold callQ at e
 split at e <;> first | (cases e; done) | skip
 rename_i f caps
 split at e <;> first | (cases e; done) | skip
 rename_i hclo
 split at e
 ·rename_i x' hkf
  cases e
  obtain ⟨hkn, hp0⟩ := knF_ok hT hkf
  have pure : PureOk P f (fcC fun as => if as = ap args caps then some (True, x) else none) := by
   intro w im as us K him has hC
   refine hp0 w im as us K him has ?_
   unfold fcC at hC
   split at hC
   ·rename_i p r0 hr0
    simp only at hr0
    split at hr0
    ·rename_i he; cases hr0; exact ⟨he, hC.2⟩
    ·cases hr0
   ·exact hC.elim
  obtain ⟨cvs, hcvs, rfl⟩ := hfv.fnE
  have hcon := fc_ok pure E hp (ap args caps) (vs ++ cvs) (fun r hp' => r = x ∧ hp' = hp) hr (by rw [ap_eq]; exact ha.append hcvs) ⟨hclo, by simp⟩
  refine .inl ⟨f, #[], cvs.toArray, rfl, hkn, ?_⟩
  have e1 : #[] ++ vs.toArray ++ cvs.toArray = (vs ++ cvs).toArray := by apply Array.ext'; simp
  rw [e1]
  refine hcon.mono ?_
  rintro e w' ⟨r, v, E', hp', rfl, rfl, h1, h2, h3, rfl, rfl⟩
  exact ⟨v, rfl, E', rfl, h1, h2, h3⟩
 split at e <;> first | (cases e; done) | skip
 rename_i y h1 hfn
 obtain ⟨hp1, r1, _, hkn, hcall⟩ := fnF_ok hT hrn hfn (HRel.nil 0)
 have hcv := clC_ok r1 e
 have pure : PureOk P f (fcC fun as => if as = ap args caps then some (True, x) else none) := by
  intro w im as us K him has hC
  have hC' : as = ap args caps ∧ K x := by
   unfold fcC at hC
   split at hC
   ·rename_i p r0 hr0
    simp only at hr0
    split at hr0
    ·rename_i he; cases hr0; exact ⟨he, hC.2⟩
    ·cases hr0
   ·exact hC.elim
  obtain ⟨rfl, hKx⟩ := hC'
  let E0 : Env := { w := w, im := im, n := 0, rs := fun _ => False, blk := fun _ => 0, val := fun _ => undef, live := fun _ => False, W := w, M := fun _ => False, im0 := im, df := [], ok := fun c r => cK P c = some r }
  have hr0 : RHp E0 [] := by
   refine ⟨⟨fun _ _ _ => rfl, fun _ => rfl, Nat.le_refl _, rfl, rfl, rfl, him, fun b hb => .inl hb⟩, ⟨rfl, ?_, ?_, ?_, ?_, ?_, ?_⟩⟩
   all_goals (intro l; intros; simp_all)
  refine (hcall E0 us rfl hr0 (Cvs.rv (E := E0) has)).mono ?_
  rintro e w' ⟨v, rfl, E', rfl, hle, hr', hv⟩
  obtain ⟨E2, hp2, c2, hr2, v2⟩ := hcv E' v hr' hv
  have hW : E2.W = w := c2.le.W.trans hle.W
  have hM : E2.M = fun _ => False := c2.le.M.trans hle.M
  have hI : E2.im0 = im := c2.le.im0.trans hle.im0
  have ew := c2.w
  refine ⟨x, v, E2.im, rfl, hKx, by rw [ew] at v2; exact v2, fun b hb => c2.le.im b (hle.im b hb), fun b hb => ?_, fun b hb => by have := hr2.imlt hb; rwa [ew] at this, ?_⟩
  ·have := hr2.g.im0 b hb
   rw [hW, hM, hI] at this
   simpa using this
  ·have g := hr2.g
   refine ⟨fun b hb => ?_, fun a => ?_, ?_, ?_, ?_, ?_⟩
   ·rw [← ew]; have := g.fr b (by rw [hW]; exact hb) (by rw [hM]; exact id); rwa [hW] at this
   ·rw [← ew]; have := g.fz a; rwa [hW] at this
   ·rw [← ew]; have := g.sz; rwa [hW] at this
   ·rw [← ew]; have := g.os; rwa [hW] at this
   ·rw [← ew]; have := g.tape; rwa [hW] at this
   ·rw [← ew]; have := g.output; rwa [hW] at this
 obtain ⟨cvs, hcvs, rfl⟩ := hfv.fnE
 have hcon := fc_ok pure E hp (ap args caps) (vs ++ cvs) (fun r hp' => r = x ∧ hp' = hp) hr (by rw [ap_eq]; exact ha.append hcvs) ⟨hclo, by simp⟩
 refine .inl ⟨f, #[], cvs.toArray, rfl, hkn, ?_⟩
 have e1 : #[] ++ vs.toArray ++ cvs.toArray = (vs ++ cvs).toArray := by apply Array.ext'; simp
 rw [e1]
 refine hcon.mono ?_
 rintro e w' ⟨r, v, E', hp', rfl, rfl, h1, h2, h3, rfl, rfl⟩
 exact ⟨v, rfl, E', rfl, h1, h2, h3⟩
theorem lbE {E : Env} {k : LK} {l : Nat} {u : Value} (h : Rv E (.lb k l) u) : E.has l ∧ u = k.val (E.blk l) := by cases h; exact ⟨‹_›, rfl⟩
theorem mvE {E : Env} {f : Nat} {fs cs : List SV} {u : Value} (h : Rv E (.mv f fs cs) u) : ∃ us vs, Rvs E fs us ∧ Rvs E cs vs ∧ u = .func (.func f) us.toArray vs.toArray := by cases h; exact ⟨_, _, ‹_›, ‹_›, rfl⟩
theorem yldF_ok {P : Program} {rn : Rn} (hrn : RunOk P rn) {l : Nat} {args : List SV} {h h' : HT} {x : SV} (e : yldF rn l args h = some (x, h')) {hp : List Blk} (r : HRel h hp) :
  ∃ hp', HRel h' hp' ∧ Frm h h' ∧ ∀ E vf vs, OkE P E → RHp E hp → Rv E (.lb .yl l) vf → Rvs E args vs → CallV P vf vs E.w fun v w' => ∃ E', E'.w = w' ∧ E.Le E' ∧ RHp E' hp' ∧ Rv E' x v := by
 unfold yldF at e
 rw [r.g] at e
 split at e <;> first | (cases e; done) | skip
 rename_i pd fr ps a b df hg
 obtain ⟨hpl, e⟩ := setps_ok e
 split at e <;> first | (cases e; done) | skip
 rename_i fr1 ds1 h1 hrun1
 obtain ⟨hp1, r1, f1, hh1, _⟩ := hrn _ _ _ _ _ _ hrun1 hp r
 simp only at r1 f1 hh1
 rw [r1.g] at e
 split at e <;> first | (cases e; done) | skip
 rename_i pd0 fr0 ps0 a0 b0 df0 hg1
 rw [HT.set_eq] at e
 have hlt1 := r1.lt (b := .ob (.lp .ready pd0 fr0 ps0 a0 b0 df0)) (by rw [r1.g]; exact hg1) (by simp)
 split at e <;> first | (cases e; done) | skip
 rename_i ex fr2 ds2 h2 hrun2
 obtain ⟨hp2, r2, f2, hh2, _⟩ := hrn _ _ _ _ _ _ hrun2 _ (r1.set (.ob (.lp .busy pd0 fr0 ps0 a0 b0 df0)) hlt1)
 simp only at r2 f2 hh2
 unfold endY at e
 rw [r2.g] at e
 split at e <;> first | (cases e; done) | skip
 rename_i st3 pd3 fr3 ps3 a3 b3 df3 hg2
 simp only [HT.set_eq] at e
 have hlt2 := r2.lt (b := .ob (.lp st3 pd3 fr3 ps3 a3 b3 df3)) (by rw [r2.g]; exact hg2) (by simp)
 have fmain := f1.trans ((Frm.set r1.f (.ob (.lp .busy pd0 fr0 ps0 a0 b0 df0)) hlt1).trans f2)
 obtain ⟨st4, pd4, bv, hst, hx, hh', hex⟩ : ∃ (st4 : LoopState) (pd4 : Option (Option Nat)) (bv : Bool), ((pdC pd4).isNone = bv ∧ st4 = if bv then .ready else .done) ∧ x = .lit (.bool bv) ∧ h' = h2.setd l (.ob (.lp st4 pd4 fr3 ps3 a3 b3 df3)) ∧
   (∀ {R : Ending → World → Prop} {a : Act} {w : World} {g : Nat}, (∃ v w', (Instr.endRound g (pdC pd4)).run P w = .ok v w' ∧ R (.returned v) w') → roundPost P g R (xt ex) a w) := by
  cases ex with
  | nm => cases e; exact ⟨.ready, none, true, ⟨rfl, rfl⟩, rfl, rfl, fun h => h⟩
  | rt => cases e; exact ⟨.done, some none, false, ⟨rfl, rfl⟩, rfl, rfl, fun h => h⟩
  | ex id => cases e; exact ⟨.done, some (some id), false, ⟨rfl, rfl⟩, rfl, rfl, fun h => h⟩
 subst hh'
 refine ⟨_, r2.set _ hlt2, fmain.trans (Frm.set r2.f _ hlt2), fun E vf vs hok hr hvf ha => ?_⟩
 obtain ⟨hhas, rfl⟩ := lbE hvf
 have hget := some_gb hg (by simp)
 obtain ⟨hdf, fn, us, ca, cb, hus, hca, hcb, hobj⟩ := hr.b.blk l _ hget
 have hca : cK P ca = some a := by rw [hok] at hca; exact hca
 have hcb : cK P cb = some b := by rw [hok] at hcb; exact hcb
 have hvl : vs.length = ps.length := by rw [← ha.length]; exact hpl.symm
 refine .inr ⟨E.blk l, rfl, fn, _, ca, cb, run_yield hobj (by simpa using hvl), fun ro n => roundIn_of_wpIn (F := fen ro) trivial ?_⟩
 show ca.wpIn (fen (some (E.blk l))) n P _ _ E.w
 refine hh1 ca E _ (some (E.blk l)) n _ hca hok ⟨?_, hr, rfl, fun l hl => by cases hl⟩ ⟨hhas, rfl⟩ ?_
 ·have h0 := setL_rv (ps := ps) hus ha
  rw [← zip_fold] at h0
  exact h0
 intro E1 a1 hle1 hs1
 have hget1 := some_gb hg1 (by simp)
 obtain ⟨hdf1, fn1, us1, ca1, cb1, hus1, hca1, hcb1, hobj1⟩ := hs1.hp.b.blk l _ hget1
 have hb1 : E1.blk l = E.blk l := hle1.blk l hhas
 obtain ⟨hr2', hle2⟩ := put_ob (o2 := .lp .busy pd0 fr0 ps0 a0 b0 df0) (obj' := .loop { state := .busy, pending := pdC pd0, fn := fn1, tmps := us1.toArray, params := ps0.toArray, assign := ca1, body := cb1, defers := E1.blk df0 }) hs1.hp hget1 hobj1 rfl rfl
  ⟨hdf1, fn1, us1, ca1, cb1, hus1.mono (Env.to_le fun b hb => World.putObj_heap_other (r := E1.blk l) (k := b) (fun e => hs1.hp.b.imx l _ (E1.blk l) hget1 rfl (by rw [e] at hb; exact hb))), hca1, hcb1, World.putObj_heap_same (Array.getElem?_eq_some_iff.1 hobj1).1⟩
 refine ⟨_, by rw [← hb1]; exact run_beginRound hobj1 rfl, ?_⟩
 have hle12 := hle1.trans hle2
 show cb.wpIn (fen (some (E.blk l))) n P _ _ _
 refine hh2 cb (E1.to _) a1 (some (E.blk l)) n _ hcb (hok.le hle12) (hs1.of hle2 hr2' (hs1.fr.mono hle2) rfl) ⟨hle12.has l hhas, by show some (E.blk l) = some (E1.blk l); rw [hb1]⟩ ?_
 intro E3 a4 hle3 hs3
 have hle13 := hle12.trans hle3
 have hget3 := some_gb hg2 (by simp)
 obtain ⟨hdf3, fn3, us3, ca3, cb3, hus3, hca3, hcb3, hobj3⟩ := hs3.hp.b.blk l _ hget3
 have hb3 : E3.blk l = E.blk l := hle13.blk l hhas
 refine hex ?_
 have hrun := run_endRound (P := P) (pdC pd4) hobj3
 rw [hb3] at hrun
 refine ⟨_, _, hrun, _, rfl, ?_⟩
 obtain ⟨h41, h42⟩ := put_ob (o2 := .lp st4 pd4 fr3 ps3 a3 b3 df3) (obj' := .loop { state := st4, pending := pdC pd4, fn := fn3, tmps := us3.toArray, params := ps3.toArray, assign := ca3, body := cb3, defers := E3.blk df3 }) hs3.hp hget3 hobj3 rfl rfl
  ⟨hdf3, fn3, us3, ca3, cb3, hus3.mono (Env.to_le fun b hb => World.putObj_heap_other (r := E3.blk l) (k := b) (fun e => hs3.hp.b.imx l _ (E3.blk l) hget3 rfl (by rw [e] at hb; exact hb))), hca3, hcb3, World.putObj_heap_same (Array.getElem?_eq_some_iff.1 hobj3).1⟩
 obtain ⟨hst1, hst2⟩ := hst
 refine ⟨E3.to _, ?_, hle13.trans h42, h41, ?_⟩
 ·rw [← hb3, hst1, hst2]; rfl
 ·rw [hx, hst1]; exact .lit _
def clMV (hp : List Blk) (x : SV) : Option (SV × List Blk) :=
 match x with
 | .lb .mp l => clV 1 hp (.lb .mp l)
 | x => match clo 8 x with
  | true => some (x, hp)
  | false => none
theorem clM_ok {h h' : HT} {x x' : SV} {hp : List Blk} (r : HRel h hp) (e : clM h x = some (x', h')) : ∃ hp', HRel h' hp' ∧ clMV hp x = some (x', hp') := by
 unfold clM at e
 unfold clMV
 split at e
 ·exact clW_ok 1 r e
 ·rename_i hne
  split at e
  ·rename_i hc
   cases e
   refine ⟨hp, r, ?_⟩
   split
   ·rename_i l; exact absurd rfl (hne l)
   ·rw [hc]
  ·cases e
theorem clMV_ok {E : Env} {hp hp' : List Blk} {x x' : SV} {v : Value} (h : RHp E hp) (hx : Rv E x v) (e : clMV hp x = some (x', hp')) : ∃ E', Closed E E' ∧ RHp E' hp' ∧ Cv E'.w E'.im x' v := by
 unfold clMV at e
 split at e
 ·exact clV_ok 1 h hx e
 ·split at e
  ·rename_i hc; cases e; exact ⟨E, .refl E, h, clo_ok 8 hc hx⟩
  ·cases e
theorem plnB_ok {w w' : World} {im im' : Nat → Prop} : ∀ (n : Nat) {x : SV} {v : Value}, plnB n x = true → Cv w im x v → Cv w' im' x v := by
 intro n
 induction n with
 | zero => intro x v h hx; cases hx <;> first | (simp [plnB] at h; done) | constructor
 | succ n ih =>
  have hs : ∀ {xs : List SV} {vs : List Value}, plnB.plnL n xs = true → Cvs w im xs vs → Cvs w' im' xs vs := by
   intro xs
   induction xs with
   | nil => intro vs _ h; cases h; exact .nil
   | cons x xs ihs =>
    intro vs h hr
    cases hr with
    | cons _ v _ vs hx hr =>
     simp only [plnB.plnL] at h
     split at h
     ·rename_i h1; exact .cons _ _ _ _ (ih h1 hx) (ihs h hr)
     ·cases h
  intro x v h hx
  cases hx with
  | agg cs vs h' => exact .agg _ _ (hs h h')
  | tup cs vs h' => exact .tup _ _ (hs h h')
  | _ => first | (simp [plnB] at h; done) | constructor
theorem frzF_ok {P : Program} {T : Nat → Option Fdn} (hT : TabR P T) {f : Nat} {as : List SV} {h h1 : HT} {x : SV} (e : frzF T f as h = some (x, h1)) {hp : List Blk} (r : HRel h hp) :
  h1 = h ∧ Known P f ∧ ∀ E us, OkE P E → RHp E hp → Rvs E as us → Calls P f us.toArray E.w fun e w' => ∃ v, e = .returned v ∧ ∃ E', E'.w = w' ∧ E.Le E' ∧ RHp E' hp ∧ Rv E' x v := by
 unfold frzF at e
 split at e <;> first | (cases e; done) | skip
 split at e <;> first | (cases e; done) | skip
 split at e <;> first | (cases e; done) | skip
 split at e <;> first | (cases e; done) | skip
 rename_i bs h2 hcl
 split at e <;> first | (cases e; done) | skip
 rename_i hclo
 split at e <;> first | (cases e; done) | skip
 rename_i y hkf
 split at e <;> first | (cases e; done) | skip
 rename_i hpl
 cases e
 obtain ⟨hp1, r1, g1⟩ := clL2_ok (f := clM) (f' := clMV) (fun r e => clM_ok r e) r hcl
 obtain ⟨hkn, hp0⟩ := knF_ok hT hkf
 refine ⟨rfl, hkn, fun E us hok hr ha => ?_⟩
 obtain ⟨E1, c1, hr1, hbs⟩ := clL_ok (f := clMV) (fun h hx e => clMV_ok h hx e) hr ha g1
 rw [c1.w] at hbs
 refine (hp0 E.w E1.im bs us (fun z => z = x) (fun b hb => by have := hr1.imlt hb; rwa [c1.w] at this) hbs ⟨rfl, rfl⟩).mono ?_
 rintro e w' ⟨z, v, im', rfl, rfl, hv, _, _, _, hl⟩
 obtain ⟨n1, n2⟩ := later_env hr (im' := E.im) (fun b hb => hb) (fun b hb => .inl hb) (fun b hb => Nat.lt_of_lt_of_le (hr.imlt hb) hl.sz) hl
 exact ⟨v, rfl, _, rfl, n1, n2, (plnB_ok 4 hpl hv).rv⟩
theorem knW_ok {P : Program} {T : Nat → Option Fdn} (hT : TabR P T) {f : Nat} {as : List SV} {h h1 : HT} {x : SV} (e : knW T f as h = some (x, h1)) {hp : List Blk} (r : HRel h hp) :
  ∃ hp1, HRel h1 hp1 ∧ Frm h h1 ∧ Known P f ∧ ∀ E us, OkE P E → RHp E hp → Rvs E as us → Calls P f us.toArray E.w fun e w' => ∃ v, e = .returned v ∧ ∃ E', E'.w = w' ∧ E.Le E' ∧ RHp E' hp1 ∧ Rv E' x v := by
 unfold knW at e
 split at e <;> first | (cases e; done) | skip
 split at e <;> first | (cases e; done) | skip
 obtain ⟨bs, h2, hp1, r1, f1, e1, hh⟩ := clB_ok r e
 split at e1 <;> first | (cases e1; done) | skip
 rename_i y hkf
 cases e1
 obtain ⟨hkn, hp0⟩ := knF_ok hT hkf
 refine ⟨hp1, r1, f1, hkn, fun E us hok hr ha => ?_⟩
 obtain ⟨E1, c1, hr1, hbs⟩ := hh E us hr ha
 rw [← c1.w]
 refine (hp0 E1.w E1.im bs us (fun z => z = x) (fun b hb => hr1.imlt hb) hbs ⟨rfl, rfl⟩).mono ?_
 rintro e w' ⟨z, v, im', rfl, rfl, hv, i1, i2, i3, hl⟩
 obtain ⟨n1, n2⟩ := later_env hr1 i1 i2 i3 hl
 exact ⟨v, rfl, _, rfl, c1.le.trans n1, n2, hv.rv⟩
theorem clQ_ok {P : Program} {T : Nat → Option Fdn} (hT : TabR P T) {rn : Rn} (hrn : RunOk P rn) {f : Nat} {as : List SV} {h h1 : HT} {x : SV} (e : clQ (callQ T rn) f as h = some (x, h1)) {hp : List Blk} (r : HRel h hp) :
  ∃ hp1, HRel h1 hp1 ∧ Frm h h1 ∧ ∀ E us, OkE P E → RHp E hp → Rvs E as us → Known P f ∧ Calls P f us.toArray E.w fun e w' => ∃ v, e = .returned v ∧ ∃ E', E'.w = w' ∧ E.Le E' ∧ RHp E' hp1 ∧ Rv E' x v := by
 unfold clQ at e
 split at e <;> first | (cases e; done) | skip
 obtain ⟨bs, h2, hp1, r1, f1, e1, hh⟩ := clB_ok r e
 split at e1 <;> first | (cases e1; done) | skip
 rename_i y hq
 cases e1
 refine ⟨hp1, r1, f1, fun E us hok hr ha => ?_⟩
 obtain ⟨E1, c1, hr1, hbs⟩ := hh E us hr ha
 have h0 := callQ_ok hT hrn _ _ _ hq E1 (.func (.func f) #[] [].toArray) us hp1 (hok.le c1.le) hr1 (.fn f [] [] .nil) hbs.rv
 rcases h0 with ⟨f', first, caps, h3, h4, h5⟩ | ⟨l, h3, _⟩
 ·cases h3
  refine ⟨h4, ?_⟩
  have e1 : #[] ++ us.toArray ++ [].toArray = us.toArray := by simp
  rw [e1, c1.w] at h5
  refine h5.mono ?_
  rintro e w' ⟨v, rfl, E', h6, h7, h8, h9⟩
  exact ⟨v, rfl, E', h6, c1.le.trans h7, h8, h9⟩
 ·cases h3
theorem callF_ok {P : Program} {T : Nat → Option Fdn} (hT : TabR P T) {rn : Rn} (hrn : RunOk P rn) : ClOk P (callF T rn) := by
 intro fv args h x h' e hp r
 unfold callF at e
 split at e <;> first | (cases e; done) | skip
 ·rename_i f caps
  have open_ : fnF T rn f (ap args caps) h = some (x, h') → ∃ hp', HRel h' hp' ∧ Frm h h' ∧
    ∀ E vf vs, OkE P E → RHp E hp → Rv E (.fn f caps) vf → Rvs E args vs → CallV P vf vs E.w fun v w' => ∃ E', E'.w = w' ∧ E.Le E' ∧ RHp E' hp' ∧ Rv E' x v := fun e => by
   obtain ⟨hp', r', hf, hkn, hcall⟩ := fnF_ok hT hrn e r
   refine ⟨hp', r', hf, fun E vf vs hok hr hfv ha => ?_⟩
   obtain ⟨cvs, hcvs, rfl⟩ := hfv.fnE
   refine .inl ⟨f, #[], cvs.toArray, rfl, hkn, ?_⟩
   have e1 : #[] ++ vs.toArray ++ cvs.toArray = (vs ++ cvs).toArray := by apply Array.ext'; simp
   rw [e1]
   exact hcall E (vs ++ cvs) hok hr (by rw [ap_eq]; exact ha.append hcvs)
  split at e
  ·rename_i r1 hfz
   cases e
   split at hfz
   ·rename_i r2 hfz
    cases hfz
    rename_i hfz
    obtain ⟨rfl, hkn, hcall⟩ := frzF_ok hT hfz r
    refine ⟨hp, r, .refl _, fun E vf vs hok hr hfv ha => ?_⟩
    obtain ⟨cvs, hcvs, rfl⟩ := hfv.fnE
    refine .inl ⟨f, #[], cvs.toArray, rfl, hkn, ?_⟩
    have e1 : #[] ++ vs.toArray ++ cvs.toArray = (vs ++ cvs).toArray := by apply Array.ext'; simp
    rw [e1]
    exact hcall E (vs ++ cvs) hok hr (by rw [ap_eq]; exact ha.append hcvs)
   ·obtain ⟨hp1, r1, f1, hkn, hcall⟩ := knW_ok hT hfz r
    refine ⟨hp1, r1, f1, fun E vf vs hok hr hfv ha => ?_⟩
    obtain ⟨cvs, hcvs, rfl⟩ := hfv.fnE
    refine .inl ⟨f, #[], cvs.toArray, rfl, hkn, ?_⟩
    have e1 : #[] ++ vs.toArray ++ cvs.toArray = (vs ++ cvs).toArray := by apply Array.ext'; simp
    rw [e1]
    exact hcall E (vs ++ cvs) hok hr (by rw [ap_eq]; exact ha.append hcvs)
  ·split at e
   ·exact open_ e
   ·split at e
    ·rename_i y hq
     cases e
     exact ⟨hp, r, .refl _, fun E vf vs hok hr hfv ha => callQ_ok hT hrn _ _ _ hq E vf vs hp hok hr hfv ha⟩
    ·split at e
     ·rename_i r2 hcq
      cases e
      obtain ⟨hp1, r1, f1, hcall⟩ := clQ_ok hT hrn hcq r
      refine ⟨hp1, r1, f1, fun E vf vs hok hr hfv ha => ?_⟩
      obtain ⟨cvs, hcvs, rfl⟩ := hfv.fnE
      obtain ⟨hkn, hcall⟩ := hcall E (vs ++ cvs) hok hr (by rw [ap_eq]; exact ha.append hcvs)
      refine .inl ⟨f, #[], cvs.toArray, rfl, hkn, ?_⟩
      have e1 : #[] ++ vs.toArray ++ cvs.toArray = (vs ++ cvs).toArray := by apply Array.ext'; simp
      rw [e1]
      exact hcall
     ·exact open_ e
 ·rename_i f first caps
  obtain ⟨hp', r', hf, hkn, hcall⟩ := fnF_ok hT hrn e r
  refine ⟨hp', r', hf, fun E vf vs hok hr hfv ha => ?_⟩
  obtain ⟨us, cvs, hus, hcvs, rfl⟩ := mvE hfv
  refine .inl ⟨f, us.toArray, cvs.toArray, rfl, hkn, ?_⟩
  have e1 : us.toArray ++ vs.toArray ++ cvs.toArray = (us ++ (vs ++ cvs)).toArray := by apply Array.ext'; simp
  rw [e1]
  exact hcall E _ hok hr (by rw [ap_eq, ap_eq]; exact hus.append (ha.append hcvs))
 ·rename_i l
  exact yldF_ok hrn e r
end Go.Vg
