import Derived.Test.YtgdihdiadlmjiaaVgR14
set_option linter.all false
section
namespace Go.Vg
open Go
theorem setps_ok {α : Type} : ∀ {ps : List Nat} {fr xs : List SV} {k : List SV -> Option α} {res : α}, setps fr ps xs k = some res -> ps.length = xs.length /\ k (setL fr ps xs) = some res
 | [], fr, [], k, res, e => ⟨rfl, e⟩
 | [], fr, _ :: _, k, res, e => by simp [setps] at e
 | _ :: _, fr, [], k, res, e => by simp [setps] at e
 | p :: ps, fr, x :: xs, k, res, e => by
  simp only [setps, xGj] at e
  obtain ⟨h1, h2⟩ := setps_ok e
  exact ⟨by simp [h1], h2⟩
theorem knF_ok {P : Program} {T : Nat -> Option Fdn} (hT : TabR P T) {f : Nat} {as : List SV} {x : SV} (e : knF T f as = some x) : Known P f /\ PureOk P f (fun bs K => bs = as /\ K x) := by
 unfold knF at e
 split at e <;> first | (cases e; done) | skip
 rename_i d hd
 obtain ⟨fn, c, hf, hnm, hb, hc, hrs, hnt, hk⟩ := hT f d hd
 obtain ⟨bs, h1, h2⟩ := xJc e
 refine ⟨⟨fn, hf, hnm, by rw [hb]; simp⟩, fun w im as' vs K him ha hC => ?_⟩
 obtain ⟨rfl, hK⟩ := hC
 exact hk _ h1 w im bs vs K him (xCt (fun h hv => xJb 12 h hv) h2 ha) ⟨rfl, hK⟩
theorem clC_ok {h : HT} {hp : List Blk} (r : HRel h hp) {x y : SV} (e : clC h x = some y) : ∀ E v, RHp E hp -> Rv E x v -> ∃ E2 hp2, Closed E E2 /\ RHp E2 hp2 /\ Cv E2.w E2.im y v := by
 intro E v hr hv
 unfold clC at e
 split at e
 ·cases e; exact ⟨E, hp, .refl E, hr, xBy 0 rfl hv⟩
 ·cases e; exact ⟨E, hp, .refl E, hr, xBy 0 rfl hv⟩
 ·split at e <;> cases e
  rename_i h2 hcw
  obtain ⟨hp2, r2, hcv⟩ := xFa 8 r hcw
  obtain ⟨E2, c2, hr2, v2⟩ := xDd 8 hr hv hcv
  exact ⟨E2, hp2, c2, hr2, v2⟩
theorem callQ_ok {P : Program} {T : Nat -> Option Fdn} (hT : TabR P T) {rn : Rn} (hrn : RunOk P rn) : CqOk P (callQ T rn) := by
 classical
 intro fv args x e E vf vs hp hok hr hfv ha
 unfold callQ at e
 split at e <;> first | (cases e; done) | skip
 rename_i f caps
 split at e <;> first | (cases e; done) | skip
 rename_i hclo
 split at e
 ·rename_i x' hkf
  cases e
  obtain ⟨hkn, hp0⟩ := knF_ok hT hkf
  have pure : PureOk P f (fcC fun as => if as = ap args caps then some (True, x) else none) := by
   intro w im as us K him has hC
   refine hp0 w im as us K him has ?_
   unfold fcC at hC
   split at hC
   ·rename_i p r0 hr0
    simp only at hr0
    split at hr0
    ·rename_i he; cases hr0; exact ⟨he, hC.2⟩
    ·cases hr0
   ·exact hC.elim
  obtain ⟨cvs, hcvs, rfl⟩ := hfv.fnE
  have hcon := xNv pure E hp (ap args caps) (vs ++ cvs) (fun r hp' => r = x /\ hp' = hp) hr (by rw [xBu]; exact ha.append hcvs) ⟨hclo, by simp⟩
  refine .inl ⟨f, #[], cvs.toArray, rfl, hkn, ?_⟩
  have e1 : #[] ++ vs.toArray ++ cvs.toArray = (vs ++ cvs).toArray := by apply Array.ext'; simp
  rw [e1]
  refine hcon.mono ?_
  rintro e w' ⟨r, v, E', hp', rfl, rfl, h1, h2, h3, rfl, rfl⟩
  exact ⟨v, rfl, E', rfl, h1, h2, h3⟩
 split at e <;> first | (cases e; done) | skip
 rename_i y h1 hfn
 obtain ⟨hp1, r1, _, hkn, hcall⟩ := xDc hT hrn hfn (HRel.nil 0)
 have hcv := clC_ok r1 e
 have pure : PureOk P f (fcC fun as => if as = ap args caps then some (True, x) else none) := by
  intro w im as us K him has hC
  have hC' : as = ap args caps /\ K x := by
   unfold fcC at hC
   split at hC
   ·rename_i p r0 hr0
    simp only at hr0
    split at hr0
    ·rename_i he; cases hr0; exact ⟨he, hC.2⟩
    ·cases hr0
   ·exact hC.elim
  obtain ⟨rfl, hKx⟩ := hC'
  let E0 : Env := { w := w, im := im, n := 0, rs := fun _ => False, blk := fun _ => 0, val := fun _ => undef, live := fun _ => False, W := w, M := fun _ => False, im0 := im, df := [], ok := fun c r => cK P c = some r }
  have hr0 : RHp E0 [] := by
   refine ⟨⟨fun _ _ _ => rfl, fun _ => rfl, Nat.le_refl _, rfl, rfl, rfl, him, fun b hb => .inl hb⟩, ⟨rfl, ?_, ?_, ?_, ?_, ?_, ?_⟩⟩
   all_goals (intro l; intros; simp_all)
  refine (hcall E0 us rfl hr0 (Cvs.rv (E := E0) has)).mono ?_
  rintro e w' ⟨v, rfl, E', rfl, hle, hr', hv⟩
  obtain ⟨E2, hp2, c2, hr2, v2⟩ := hcv E' v hr' hv
  have hW : E2.W = w := c2.le.W.trans hle.W
  have hM : E2.M = fun _ => False := c2.le.M.trans hle.M
  have hI : E2.im0 = im := c2.le.im0.trans hle.im0
  have ew := c2.w
  refine ⟨x, v, E2.im, rfl, hKx, by rw [ew] at v2; exact v2, fun b hb => c2.le.im b (hle.im b hb), fun b hb => ?_, fun b hb => by have := hr2.imlt hb; rwa [ew] at this, ?_⟩
  ·have := hr2.g.im0 b hb
   rw [hW, hM, hI] at this
   simpa using this
  ·have g := hr2.g
   refine ⟨fun b hb => ?_, fun a => ?_, ?_, ?_, ?_, ?_⟩
   ·rw [<- ew]; have := g.fr b (by rw [hW]; exact hb) (by rw [hM]; exact id); rwa [hW] at this
   ·rw [<- ew]; have := g.fz a; rwa [hW] at this
   ·rw [<- ew]; have := g.sz; rwa [hW] at this
   ·rw [<- ew]; have := g.os; rwa [hW] at this
   ·rw [<- ew]; have := g.tape; rwa [hW] at this
   ·rw [<- ew]; have := g.output; rwa [hW] at this
 obtain ⟨cvs, hcvs, rfl⟩ := hfv.fnE
 have hcon := xNv pure E hp (ap args caps) (vs ++ cvs) (fun r hp' => r = x /\ hp' = hp) hr (by rw [xBu]; exact ha.append hcvs) ⟨hclo, by simp⟩
 refine .inl ⟨f, #[], cvs.toArray, rfl, hkn, ?_⟩
 have e1 : #[] ++ vs.toArray ++ cvs.toArray = (vs ++ cvs).toArray := by apply Array.ext'; simp
 rw [e1]
 refine hcon.mono ?_
 rintro e w' ⟨r, v, E', hp', rfl, rfl, h1, h2, h3, rfl, rfl⟩
 exact ⟨v, rfl, E', rfl, h1, h2, h3⟩
theorem lbE {E : Env} {k : LK} {l : Nat} {u : Value} (h : Rv E (.lb k l) u) : E.has l /\ u = k.val (E.blk l) := by cases h; exact ⟨‹_›, rfl⟩
theorem mvE {E : Env} {f : Nat} {fs cs : List SV} {u : Value} (h : Rv E (.mv f fs cs) u) : ∃ us vs, Rvs E fs us /\ Rvs E cs vs /\ u = .func (.func f) us.toArray vs.toArray := by cases h; exact ⟨_, _, ‹_›, ‹_›, rfl⟩
theorem yldF_ok {P : Program} {rn : Rn} (hrn : RunOk P rn) {l : Nat} {args : List SV} {h h' : HT} {x : SV} (e : yldF rn l args h = some (x, h')) {hp : List Blk} (r : HRel h hp) :
  ∃ hp', HRel h' hp' /\ Frm h h' /\ ∀ E vf vs, OkE P E -> RHp E hp -> Rv E (.lb .yl l) vf -> Rvs E args vs -> CallV P vf vs E.w fun v w' => ∃ E', E'.w = w' /\ E.Le E' /\ RHp E' hp' /\ Rv E' x v := by
 unfold yldF at e
 rw [r.g] at e
 split at e <;> first | (cases e; done) | skip
 rename_i pd fr ps a b df hg
 obtain ⟨hpl, e⟩ := setps_ok e
 split at e <;> first | (cases e; done) | skip
 rename_i fr1 ds1 h1 hrun1
 obtain ⟨hp1, r1, f1, hh1, _⟩ := hrn _ _ _ _ _ _ hrun1 hp r
 simp only at r1 f1 hh1
 rw [r1.g] at e
 split at e <;> first | (cases e; done) | skip
 rename_i pd0 fr0 ps0 a0 b0 df0 hg1
 rw [HT.set_eq] at e
 have hlt1 := r1.lt (b := .ob (.lp .ready pd0 fr0 ps0 a0 b0 df0)) (by rw [r1.g]; exact hg1) (by simp)
 split at e <;> first | (cases e; done) | skip
 rename_i ex fr2 ds2 h2 hrun2
 obtain ⟨hp2, r2, f2, hh2, _⟩ := hrn _ _ _ _ _ _ hrun2 _ (r1.set (.ob (.lp .busy pd0 fr0 ps0 a0 b0 df0)) hlt1)
 simp only at r2 f2 hh2
 unfold endY at e
 rw [r2.g] at e
 split at e <;> first | (cases e; done) | skip
 rename_i st3 pd3 fr3 ps3 a3 b3 df3 hg2
 simp only [HT.set_eq] at e
 have hlt2 := r2.lt (b := .ob (.lp st3 pd3 fr3 ps3 a3 b3 df3)) (by rw [r2.g]; exact hg2) (by simp)
 have fmain := f1.trans ((Frm.set r1.f (.ob (.lp .busy pd0 fr0 ps0 a0 b0 df0)) hlt1).trans f2)
 obtain ⟨st4, pd4, bv, hst, hx, hh', hex⟩ : ∃ (st4 : LoopState) (pd4 : Option (Option Nat)) (bv : Bool), ((pdC pd4).isNone = bv /\ st4 = if bv then .ready else .done) /\ x = .lit (.bool bv) /\ h' = h2.setd l (.ob (.lp st4 pd4 fr3 ps3 a3 b3 df3)) /\
   (∀ {R : Ending -> World -> Prop} {a : Act} {w : World} {g : Nat}, (∃ v w', (Instr.endRound g (pdC pd4)).run P w = .ok v w' /\ R (.returned v) w') -> roundPost P g R (xt ex) a w) := by
  cases ex with
  | nm => cases e; exact ⟨.ready, none, true, ⟨rfl, rfl⟩, rfl, rfl, fun h => h⟩
  | rt => cases e; exact ⟨.done, some none, false, ⟨rfl, rfl⟩, rfl, rfl, fun h => h⟩
  | ex id => cases e; exact ⟨.done, some (some id), false, ⟨rfl, rfl⟩, rfl, rfl, fun h => h⟩
 subst hh'
 refine ⟨_, r2.set _ hlt2, fmain.trans (Frm.set r2.f _ hlt2), fun E vf vs hok hr hvf ha => ?_⟩
 obtain ⟨hhas, rfl⟩ := lbE hvf
 have hget := xAa hg (by simp)
 obtain ⟨hdf, fn, us, ca, cb, hus, hca, hcb, hobj⟩ := hr.b.blk l _ hget
 have hca : cK P ca = some a := by rw [hok] at hca; exact hca
 have hcb : cK P cb = some b := by rw [hok] at hcb; exact hcb
 have hvl : vs.length = ps.length := by rw [<- ha.length]; exact hpl.symm
 refine .inr ⟨E.blk l, rfl, fn, _, ca, cb, run_yield hobj (by simpa using hvl), fun ro n => roundIn_of_wpIn (F := fen ro) trivial ?_⟩
 show ca.wpIn (fen (some (E.blk l))) n P _ _ E.w
 refine hh1 ca E _ (some (E.blk l)) n _ hca hok ⟨?_, hr, rfl, fun l hl => by cases hl⟩ ⟨hhas, rfl⟩ ?_
 ·have h0 := xGu (ps := ps) hus ha
  rw [<- xGv] at h0
  exact h0
 intro E1 a1 hle1 hs1
 have hget1 := xAa hg1 (by simp)
 obtain ⟨hdf1, fn1, us1, ca1, cb1, hus1, hca1, hcb1, hobj1⟩ := hs1.hp.b.blk l _ hget1
 have hb1 : E1.blk l = E.blk l := hle1.blk l hhas
 obtain ⟨hr2', hle2⟩ := xDa (o2 := .lp .busy pd0 fr0 ps0 a0 b0 df0) (obj' := .loop { state := .busy, pending := pdC pd0, fn := fn1, tmps := us1.toArray, params := ps0.toArray, assign := ca1, body := cb1, defers := E1.blk df0 }) hs1.hp hget1 hobj1 rfl rfl
  ⟨hdf1, fn1, us1, ca1, cb1, hus1.mono (Env.to_le fun b hb => World.putObj_heap_other (r := E1.blk l) (k := b) (fun e => hs1.hp.b.imx l _ (E1.blk l) hget1 rfl (by rw [e] at hb; exact hb))), hca1, hcb1, World.putObj_heap_same (Array.getElem?_eq_some_iff.1 hobj1).1⟩
 refine ⟨_, by rw [<- hb1]; exact run_beginRound hobj1 rfl, ?_⟩
 have hle12 := hle1.trans hle2
 show cb.wpIn (fen (some (E.blk l))) n P _ _ _
 refine hh2 cb (E1.to _) a1 (some (E.blk l)) n _ hcb (hok.le hle12) (hs1.of hle2 hr2' (hs1.fr.mono hle2) rfl) ⟨hle12.has l hhas, by show some (E.blk l) = some (E1.blk l); rw [hb1]⟩ ?_
 intro E3 a4 hle3 hs3
 have hle13 := hle12.trans hle3
 have hget3 := xAa hg2 (by simp)
 obtain ⟨hdf3, fn3, us3, ca3, cb3, hus3, hca3, hcb3, hobj3⟩ := hs3.hp.b.blk l _ hget3
 have hb3 : E3.blk l = E.blk l := hle13.blk l hhas
 refine hex ?_
 have hrun := run_endRound (P := P) (pdC pd4) hobj3
 rw [hb3] at hrun
 refine ⟨_, _, hrun, _, rfl, ?_⟩
 obtain ⟨h41, h42⟩ := xDa (o2 := .lp st4 pd4 fr3 ps3 a3 b3 df3) (obj' := .loop { state := st4, pending := pdC pd4, fn := fn3, tmps := us3.toArray, params := ps3.toArray, assign := ca3, body := cb3, defers := E3.blk df3 }) hs3.hp hget3 hobj3 rfl rfl
  ⟨hdf3, fn3, us3, ca3, cb3, hus3.mono (Env.to_le fun b hb => World.putObj_heap_other (r := E3.blk l) (k := b) (fun e => hs3.hp.b.imx l _ (E3.blk l) hget3 rfl (by rw [e] at hb; exact hb))), hca3, hcb3, World.putObj_heap_same (Array.getElem?_eq_some_iff.1 hobj3).1⟩
 obtain ⟨hst1, hst2⟩ := hst
 refine ⟨E3.to _, ?_, hle13.trans h42, h41, ?_⟩
 ·rw [<- hb3, hst1, hst2]; rfl
 ·rw [hx, hst1]; exact .lit _
def clMV (hp : List Blk) (x : SV) : Option (SV × List Blk) :=
 match x with
 | .lb .mp l => clV 1 hp (.lb .mp l)
 | x => match clo 8 x with
  | true => some (x, hp)
  | false => none
theorem clM_ok {h h' : HT} {x x' : SV} {hp : List Blk} (r : HRel h hp) (e : clM h x = some (x', h')) : ∃ hp', HRel h' hp' /\ clMV hp x = some (x', hp') := by
 unfold clM at e
 unfold clMV
 split at e
 ·exact xFa 1 r e
 ·rename_i hne
  split at e
  ·rename_i hc
   cases e
   refine ⟨hp, r, ?_⟩
   split
   ·rename_i l; exact absurd rfl (hne l)
   ·rw [hc]
  ·cases e
theorem clMV_ok {E : Env} {hp hp' : List Blk} {x x' : SV} {v : Value} (h : RHp E hp) (hx : Rv E x v) (e : clMV hp x = some (x', hp')) : ∃ E', Closed E E' /\ RHp E' hp' /\ Cv E'.w E'.im x' v := by
 unfold clMV at e
 split at e
 ·exact xDd 1 h hx e
 ·split at e
  ·rename_i hc; cases e; exact ⟨E, .refl E, h, xBy 8 hc hx⟩
  ·cases e
theorem plnB_ok {w w' : World} {im im' : Nat -> Prop} : ∀ (n : Nat) {x : SV} {v : Value}, plnB n x = true -> Cv w im x v -> Cv w' im' x v := by
 intro n
 induction n with
 | zero => intro x v h hx; cases hx <;> first | (simp [plnB] at h; done) | constructor
 | succ n ih =>
  have hs : ∀ {xs : List SV} {vs : List Value}, plnB.plnL n xs = true -> Cvs w im xs vs -> Cvs w' im' xs vs := by
   intro xs
   induction xs with
   | nil => intro vs _ h; cases h; exact .nil
   | cons x xs ihs =>
    intro vs h hr
    cases hr with
    | cons _ v _ vs hx hr =>
     simp only [plnB.plnL] at h
     split at h
     ·rename_i h1; exact .cons _ _ _ _ (ih h1 hx) (ihs h hr)
     ·cases h
  intro x v h hx
  cases hx with
  | agg cs vs h' => exact .agg _ _ (hs h h')
  | tup cs vs h' => exact .tup _ _ (hs h h')
  | _ => first | (simp [plnB] at h; done) | constructor
theorem frzF_ok {P : Program} {T : Nat -> Option Fdn} (hT : TabR P T) {f : Nat} {as : List SV} {h h1 : HT} {x : SV} (e : frzF T f as h = some (x, h1)) {hp : List Blk} (r : HRel h hp) :
  h1 = h /\ Known P f /\ ∀ E us, OkE P E -> RHp E hp -> Rvs E as us -> Calls P f us.toArray E.w fun e w' => ∃ v, e = .returned v /\ ∃ E', E'.w = w' /\ E.Le E' /\ RHp E' hp /\ Rv E' x v := by
 unfold frzF at e
 split at e <;> first | (cases e; done) | skip
 split at e <;> first | (cases e; done) | skip
 split at e <;> first | (cases e; done) | skip
 split at e <;> first | (cases e; done) | skip
 rename_i bs h2 hcl
 split at e <;> first | (cases e; done) | skip
 rename_i hclo
 split at e <;> first | (cases e; done) | skip
 rename_i y hkf
 split at e <;> first | (cases e; done) | skip
 rename_i hpl
 cases e
 obtain ⟨hp1, r1, g1⟩ := xHc (f := clM) (f' := clMV) (fun r e => clM_ok r e) r hcl
 obtain ⟨hkn, hp0⟩ := knF_ok hT hkf
 refine ⟨rfl, hkn, fun E us hok hr ha => ?_⟩
 obtain ⟨E1, c1, hr1, hbs⟩ := xIs (f := clMV) (fun h hx e => clMV_ok h hx e) hr ha g1
 rw [c1.w] at hbs
 refine (hp0 E.w E1.im bs us (fun z => z = x) (fun b hb => by have := hr1.imlt hb; rwa [c1.w] at this) hbs ⟨rfl, rfl⟩).mono ?_
 rintro e w' ⟨z, v, im', rfl, rfl, hv, _, _, _, hl⟩
 obtain ⟨n1, n2⟩ := xBe hr (im' := E.im) (fun b hb => hb) (fun b hb => .inl hb) (fun b hb => Nat.lt_of_lt_of_le (hr.imlt hb) hl.sz) hl
 exact ⟨v, rfl, _, rfl, n1, n2, (plnB_ok 4 hpl hv).rv⟩
theorem knW_ok {P : Program} {T : Nat -> Option Fdn} (hT : TabR P T) {f : Nat} {as : List SV} {h h1 : HT} {x : SV} (e : knW T f as h = some (x, h1)) {hp : List Blk} (r : HRel h hp) :
  ∃ hp1, HRel h1 hp1 /\ Frm h h1 /\ Known P f /\ ∀ E us, OkE P E -> RHp E hp -> Rvs E as us -> Calls P f us.toArray E.w fun e w' => ∃ v, e = .returned v /\ ∃ E', E'.w = w' /\ E.Le E' /\ RHp E' hp1 /\ Rv E' x v := by
 unfold knW at e
 split at e <;> first | (cases e; done) | skip
 split at e <;> first | (cases e; done) | skip
 obtain ⟨bs, h2, hp1, r1, f1, e1, hh⟩ := xJd r e
 split at e1 <;> first | (cases e1; done) | skip
 rename_i y hkf
 cases e1
 obtain ⟨hkn, hp0⟩ := knF_ok hT hkf
 refine ⟨hp1, r1, f1, hkn, fun E us hok hr ha => ?_⟩
 obtain ⟨E1, c1, hr1, hbs⟩ := hh E us hr ha
 rw [<- c1.w]
 refine (hp0 E1.w E1.im bs us (fun z => z = x) (fun b hb => hr1.imlt hb) hbs ⟨rfl, rfl⟩).mono ?_
 rintro e w' ⟨z, v, im', rfl, rfl, hv, i1, i2, i3, hl⟩
 obtain ⟨n1, n2⟩ := xBe hr1 i1 i2 i3 hl
 exact ⟨v, rfl, _, rfl, c1.le.trans n1, n2, hv.rv⟩
theorem clQ_ok {P : Program} {T : Nat -> Option Fdn} (hT : TabR P T) {rn : Rn} (hrn : RunOk P rn) {f : Nat} {as : List SV} {h h1 : HT} {x : SV} (e : clQ (callQ T rn) f as h = some (x, h1)) {hp : List Blk} (r : HRel h hp) :
  ∃ hp1, HRel h1 hp1 /\ Frm h h1 /\ ∀ E us, OkE P E -> RHp E hp -> Rvs E as us -> Known P f /\ Calls P f us.toArray E.w fun e w' => ∃ v, e = .returned v /\ ∃ E', E'.w = w' /\ E.Le E' /\ RHp E' hp1 /\ Rv E' x v := by
 unfold clQ at e
 split at e <;> first | (cases e; done) | skip
 obtain ⟨bs, h2, hp1, r1, f1, e1, hh⟩ := xJd r e
 split at e1 <;> first | (cases e1; done) | skip
 rename_i y hq
 cases e1
 refine ⟨hp1, r1, f1, fun E us hok hr ha => ?_⟩
 obtain ⟨E1, c1, hr1, hbs⟩ := hh E us hr ha
 have h0 := callQ_ok hT hrn _ _ _ hq E1 (.func (.func f) #[] [].toArray) us hp1 (hok.le c1.le) hr1 (.fn f [] [] .nil) hbs.rv
 rcases h0 with ⟨f', first, caps, h3, h4, h5⟩ | ⟨l, h3, _⟩
 ·cases h3
  refine ⟨h4, ?_⟩
  have e1 : #[] ++ us.toArray ++ [].toArray = us.toArray := by simp
  rw [e1, c1.w] at h5
  refine h5.mono ?_
  rintro e w' ⟨v, rfl, E', h6, h7, h8, h9⟩
  exact ⟨v, rfl, E', h6, c1.le.trans h7, h8, h9⟩
 ·cases h3
theorem callF_ok {P : Program} {T : Nat -> Option Fdn} (hT : TabR P T) {rn : Rn} (hrn : RunOk P rn) : ClOk P (callF T rn) := by
 intro fv args h x h' e hp r
 unfold callF at e
 split at e <;> first | (cases e; done) | skip
 ·rename_i f caps
  have open_ : fnF T rn f (ap args caps) h = some (x, h') -> ∃ hp', HRel h' hp' /\ Frm h h' /\
    ∀ E vf vs, OkE P E -> RHp E hp -> Rv E (.fn f caps) vf -> Rvs E args vs -> CallV P vf vs E.w fun v w' => ∃ E', E'.w = w' /\ E.Le E' /\ RHp E' hp' /\ Rv E' x v := fun e => by
   obtain ⟨hp', r', hf, hkn, hcall⟩ := xDc hT hrn e r
   refine ⟨hp', r', hf, fun E vf vs hok hr hfv ha => ?_⟩
   obtain ⟨cvs, hcvs, rfl⟩ := hfv.fnE
   refine .inl ⟨f, #[], cvs.toArray, rfl, hkn, ?_⟩
   have e1 : #[] ++ vs.toArray ++ cvs.toArray = (vs ++ cvs).toArray := by apply Array.ext'; simp
   rw [e1]
   exact hcall E (vs ++ cvs) hok hr (by rw [xBu]; exact ha.append hcvs)
  split at e
  ·rename_i r1 hfz
   cases e
   split at hfz
   ·rename_i r2 hfz
    cases hfz
    rename_i hfz
    obtain ⟨rfl, hkn, hcall⟩ := frzF_ok hT hfz r
    refine ⟨hp, r, .refl _, fun E vf vs hok hr hfv ha => ?_⟩
    obtain ⟨cvs, hcvs, rfl⟩ := hfv.fnE
    refine .inl ⟨f, #[], cvs.toArray, rfl, hkn, ?_⟩
    have e1 : #[] ++ vs.toArray ++ cvs.toArray = (vs ++ cvs).toArray := by apply Array.ext'; simp
    rw [e1]
    exact hcall E (vs ++ cvs) hok hr (by rw [xBu]; exact ha.append hcvs)
   ·obtain ⟨hp1, r1, f1, hkn, hcall⟩ := knW_ok hT hfz r
    refine ⟨hp1, r1, f1, fun E vf vs hok hr hfv ha => ?_⟩
    obtain ⟨cvs, hcvs, rfl⟩ := hfv.fnE
    refine .inl ⟨f, #[], cvs.toArray, rfl, hkn, ?_⟩
    have e1 : #[] ++ vs.toArray ++ cvs.toArray = (vs ++ cvs).toArray := by apply Array.ext'; simp
    rw [e1]
    exact hcall E (vs ++ cvs) hok hr (by rw [xBu]; exact ha.append hcvs)
  ·split at e
   ·exact open_ e
   ·split at e
    ·rename_i y hq
     cases e
     exact ⟨hp, r, .refl _, fun E vf vs hok hr hfv ha => callQ_ok hT hrn _ _ _ hq E vf vs hp hok hr hfv ha⟩
    ·split at e
     ·rename_i r2 hcq
      cases e
      obtain ⟨hp1, r1, f1, hcall⟩ := clQ_ok hT hrn hcq r
      refine ⟨hp1, r1, f1, fun E vf vs hok hr hfv ha => ?_⟩
      obtain ⟨cvs, hcvs, rfl⟩ := hfv.fnE
      obtain ⟨hkn, hcall⟩ := hcall E (vs ++ cvs) hok hr (by rw [xBu]; exact ha.append hcvs)
      refine .inl ⟨f, #[], cvs.toArray, rfl, hkn, ?_⟩
      have e1 : #[] ++ vs.toArray ++ cvs.toArray = (vs ++ cvs).toArray := by apply Array.ext'; simp
      rw [e1]
      exact hcall
     ·exact open_ e
 ·rename_i f first caps
  obtain ⟨hp', r', hf, hkn, hcall⟩ := xDc hT hrn e r
  refine ⟨hp', r', hf, fun E vf vs hok hr hfv ha => ?_⟩
  obtain ⟨us, cvs, hus, hcvs, rfl⟩ := mvE hfv
  refine .inl ⟨f, us.toArray, cvs.toArray, rfl, hkn, ?_⟩
  have e1 : us.toArray ++ vs.toArray ++ cvs.toArray = (us ++ (vs ++ cvs)).toArray := by apply Array.ext'; simp
  rw [e1]
  exact hcall E _ hok hr (by rw [xBu, xBu]; exact hus.append (ha.append hcvs))
 ·rename_i l
  exact yldF_ok hrn e r
end Go.Vg
end
section
namespace Go.Vg
open Go
theorem xMe {P : Program} {ops : Array Oper} {c : RC} (h : cdraw2 P ops = some c) : ∃ ps, c = .drw ps := by
 unfold cdraw2 at h
 split at h
 ·cases h
 ·split at h
  ·split at h
   ·cases h
   ·cases h; exact ⟨_, rfl⟩
  ·cases h
section
variable {P : Program} {code : Code}
theorem xBa {c : RC} (h : cK P code = some c) :
  match c with
  | .skip => code = .skip \/ ∃ l, code = .label l
  | .reg lo => ∃ id ops, code = .region id ops false /\ cops2 P ops ops.toList = some lo
  | .drw ps => ∃ id ops, code = .region id ops true /\ cdraw2 P ops = some (.drw ps)
  | .seq a b => ∃ x y, code = .seq x y /\ cK P x = some a /\ cK P y = some b
  | .cond g a b => ∃ o x y, code = .cond o x y /\ cX o = some g /\ cK P x = some a /\ cK P y = some b
  | .block id a => ∃ x, code = .block id x /\ cK P x = some a
  | .loop a => ∃ x, code = .loop x /\ cK P x = some a
  | .exit id => code = .exit id
  | .ret => code = .ret
  | .scp a => ∃ x, code = .scope x /\ cK P x = some a
  | .rng g ps a b => ∃ o qs x y, code = .rangeFunc o qs x y /\ ps = qs.toList /\ cX o = some g /\ cK P x = some a /\ cK P y = some b := by
 cases code with
 | region id ops draw =>
  cases draw with
  | false =>
   simp only [cK] at h
   obtain ⟨lo, h1, rfl⟩ := Option.map_eq_some_iff.1 h
   exact ⟨id, ops, rfl, h1⟩
  | true =>
   simp only [cK] at h
   obtain ⟨ps, rfl⟩ := xMe h
   exact ⟨id, ops, rfl, h⟩
 | skip => simp [cK] at h; subst h; exact .inl rfl
 | label l => simp [cK] at h; subst h; exact .inr ⟨l, rfl⟩
 | exit id => simp [cK] at h; subst h; rfl
 | ret => simp [cK] at h; subst h; rfl
 | seq x y =>
  simp only [cK] at h
  split at h
  ·rename_i a b h1 h2; cases h; exact ⟨x, y, rfl, h1, h2⟩
  ·cases h
 | cond o x y =>
  simp only [cK] at h
  split at h
  ·rename_i g a b h1 h2 h3; cases h; exact ⟨o, x, y, rfl, h1, h2, h3⟩
  ·cases h
 | block id x => simp only [cK] at h; obtain ⟨a, h1, rfl⟩ := Option.map_eq_some_iff.1 h; exact ⟨x, rfl, h1⟩
 | loop x => simp only [cK] at h; obtain ⟨a, h1, rfl⟩ := Option.map_eq_some_iff.1 h; exact ⟨x, rfl, h1⟩
 | scope x => simp only [cK] at h; obtain ⟨a, h1, rfl⟩ := Option.map_eq_some_iff.1 h; exact ⟨x, rfl, h1⟩
 | rangeFunc o qs x y =>
  simp only [cK] at h
  split at h
  ·rename_i g a b h1 h2 h3; cases h; exact ⟨o, qs, x, y, rfl, rfl, h1, h2, h3⟩
  ·cases h
 | _ => simp [cK] at h
end
theorem xEk {P : Program} {α : Type} {cl : Cl} (hcl : ClOk P cl) {k : List SV -> HT -> Option α} {res : α} : ∀ (lo : List Opq) {fr : List SV} {h : HT} {hp : List Blk}, HRel h hp -> opsB cl lo fr h k = some res ->
  ∃ fr' h' hp', HRel h' hp' /\ Frm h h' /\ k fr' h' = some res
 | [], fr, h, hp, r, e => ⟨fr, h, hp, r, .refl h, e⟩
 | ⟨d, g, o⟩ :: lo, fr, h, hp, r, e => by
  obtain ⟨b, hg, hf, ht⟩ := xDj e
  cases b with
  | false => exact xEk hcl lo r (hf rfl)
  | true =>
   obtain ⟨x, h1, hp1, r1, f1, e1, _⟩ := xJh (P := P) hcl r (ht rfl)
   obtain ⟨fr', h', hp', r', f', hk⟩ := xEk hcl lo r1 e1
   exact ⟨fr', h', hp', r', f1.trans f', hk⟩
theorem xKx {cl : Cl} {cq : Cq} {fr : List SV} {ds : List Nat} {h : HT} {r : Rs} : ∀ {ps : List Drp}, drwA cl cq fr ds h ps = some r ->
  ∃ p, p ∈ ps /\ (drwR cl cq p fr ds h = some r \/ shD (lbs h.get fr (p.hs.flatMap fun o => usesQ o.1) ++ slaL fr (p.hs.map (·.1))) h (fun h => drwR cl cq p fr ds h) = some r)
 | [], e => by cases e
 | p :: t, e => by
  simp only [drwA] at e
  split at e
  ·rename_i r1 h1; cases e; exact ⟨p, List.mem_cons_self .., .inl h1⟩
  ·split at e
   ·rename_i r1 h1; cases e; exact ⟨p, List.mem_cons_self .., .inr h1⟩
   ·obtain ⟨q, h1, h2⟩ := xKx e
    exact ⟨q, List.mem_cons_of_mem _ h1, h2⟩
theorem xNq {P : Program} {cl : Cl} (hcl : ClOk P cl) {cq : Cq} {sh cs0 : List Nat} {m ne : Nat} {hs : List (Opq × Kd)} {tl : List Opq} {α : Type} {fr : List SV} {h : HT} {hp : List Blk} (r : HRel h hp) {kk : List SV -> HT -> Option α} {res : α}
  (e : shB fr sh h (fun h => resv m h fun h1 => hdB cl cq h.n ne cs0 hs fr h1 [h1] [] fun fr h => opsB cl tl fr h kk) = some res) : ∃ fr' h' hp', HRel h' hp' /\ Frm h h' /\ kk fr' h' = some res := by
 obtain ⟨h1, r1, f1, e⟩ := xFe r e
 obtain ⟨h2, e2, r2, f2⟩ := xEl m r1 (fun h1' => hdB cl cq h1.n ne cs0 hs fr h1' [h1'] [] fun fr h => opsB cl tl fr h kk)
 have e3 := e2.symm.trans e
 obtain ⟨hps', cb', xs, fe, hT, hE, hpE, a1, a2, a3, a4, a5, a6, a7, a8, a9⟩ := xKc (P := P) hcl e3 [] rfl [resvH m (shutH fr sh hp)] rfl (fun i x hx => by
  cases i with
  | zero => simp at hx; subst hx; exact ⟨_, rfl, r2⟩
  | succ i => simp at hx)
 obtain ⟨fr', h', hp', r', f', hk⟩ := xEk hcl tl a6 a9
 exact ⟨fr', h', hp', r', (f1.trans f2).trans (a8.trans f'), hk⟩
theorem xKy {P : Program} {cl : Cl} (hcl : ClOk P cl) {cq : Cq} {sh cs0 : List Nat} {m ne : Nat} {hs : List (Opq × Kd)} {tl : List Opq} {fl : Option Nat} {α : Type} {fr : List SV} {h : HT} {hp : List Blk} (r : HRel h hp) {kk : List SV -> HT -> Option α} {res : α}
  (e : blK fr fl (fun fr => shB fr sh h (fun h => resv m h fun h1 => hdB cl cq h.n ne cs0 hs fr h1 [h1] [] fun fr h => opsB cl tl fr h kk)) = some res) : ∃ fr' h' hp', HRel h' hp' /\ Frm h h' /\ kk fr' h' = some res := by
 cases fl with
 | none => exact xNq hcl r e
 | some d => exact xNq hcl r (by simp only [blK, xGj] at e; exact e)
theorem xDh {P : Program} {w : World} {g : Nat} {r : Loop} (h : w.heap[g]? = some (.loop r)) (fn : FuncId) (tmps : Array Value) (ps : Array Tmp) (assign body : Code) :
  (Instr.enterLoop fn tmps ps assign body (some g)).run P w = .ok (w.heap.size, []) (w.alloc (.loop { state := .ready, pending := none, fn, tmps, params := ps, assign, body, defers := r.defers })) := by
 unfold Instr.enterLoop
 simp only [Sem.run_bind, run_getLoop h, run_newObj_alloc, Result.andThen, Sem.run_pure]
theorem xRc {P : Program} {ro : Option Nat} {n : Nat} {o : Operand} {qs : Array Tmp} {x y : Code} {Q : Exit -> Act -> World -> Prop} {a : Act} {E : Env} {fid : Nat} {cvs : List Value} {l : Nat} {mark : List Deferred} {hp2 hp3 : List Blk} {z : SV} {capsSV : List SV}
  (hfv : a.eval o = .func (.func fid) #[] cvs.toArray) (hkn : Known P fid)
  (hent : ∀ fn, ∃ E2 : Env, (Instr.enterLoop fn a.tmps qs x y ro).run P E.w = .ok (E2.blk l, mark) E2.w /\ E.Le E2 /\ RHp E2 hp2 /\ E2.has l /\
   (∀ E3, E2.Le E3 -> RHp E3 hp3 -> ∃ jump w4, (Instr.endLoop (E2.blk l)).run P E3.w = .ok jump w4 /\ (match jump with
    | none => Q .normal { a with defers := mark ++ a.defers } w4
    | some c => c.wpIn (fen ro) n P Q { a with defers := mark ++ a.defers } w4)))
  (hcaps : Rvs E capsSV cvs) (hok : OkE P E)
  (hcall : ∀ E vs, OkE P E -> RHp E hp2 -> Rvs E (.lb .yl l :: capsSV) vs -> Calls P fid vs.toArray E.w fun e w' => ∃ v, e = .returned v /\ ∃ E', E'.w = w' /\ E.Le E' /\ RHp E' hp3 /\ Rv E' z v) :
  (Code.rangeFunc o qs x y).wpIn (fen ro) n P Q a E.w := by
 refine wpIn_rangeFunc fun fn _ => ?_
 obtain ⟨E2, h1, h2, h3, h4, h5⟩ := hent fn
 obtain ⟨f0, hf0, hnm, hbd⟩ := hkn
 refine ⟨E2.blk l, mark, E2.w, { target := .fn (.func fid) cvs.toArray, args := #[.func (.yield (E2.blk l)) #[] #[]] }, E2.w, fid, #[.func (.yield (E2.blk l)) #[] #[]] ++ cvs.toArray, E2.w, h1, ?_, fun _ _ => trivial, ?_, fun h => by simp [fen, Fence.wide] at h, ?_⟩
 ·simp only [resolve, hfv]
  simp [Deferred.ofValue, Act.eval]
 ·simp only [invoke]
  exact xAl hf0 hnm hbd
 ·have e1 : #[Value.func (.yield (E2.blk l)) #[] #[]] ++ cvs.toArray = (Value.func (.yield (E2.blk l)) #[] #[] :: cvs).toArray := by apply Array.ext'; simp
  rw [e1]
  refine xAu ((hcall E2 _ (hok.le h2) h3 (.cons _ _ _ _ (.lb .yl l h4) (hcaps.mono h2))).mono ?_)
  rintro e w' ⟨v, rfl, E3, rfl, h6, h7, _⟩
  exact h5 E3 h6 h7
theorem xNr {P : Program} {T : Nat -> Option Fdn} (hT : TabR P T) : ∀ n, RunOk P (run T n)
 | 0 => fun rd c fr ds h r e => by simp [run] at e
 | m + 1 => by
  have ih := xNr hT m
  have hcl := callF_ok hT ih
  have hcq := callQ_ok hT ih
  intro rd c fr ds h r e hp rh
  have fin : ∀ (re : XT), (∃ fr0 : List SV, True) -> True := fun _ _ => trivial
  cases c with
  | skip =>
   simp only [run, Option.some.injEq] at e; subst e
   refine ⟨hp, rh, .refl _, fun code E a ro n Q hc hok hs hrd hq => ?_, fun code E a ro n Q c0 h => by cases h⟩
   rcases xBa hc with rfl | ⟨l, rfl⟩
   ·exact wpIn_skip (hq E a (.refl E) hs)
   ·exact wpIn_label (hq E a (.refl E) hs)
  | exit id =>
   simp only [run, Option.some.injEq] at e; subst e
   refine ⟨hp, rh, .refl _, fun code E a ro n Q hc hok hs hrd hq => ?_, fun code E a ro n Q c0 h => by cases h⟩
   have := xBa hc; simp only at this; subst this
   exact wpIn_exit (hq E a (.refl E) hs)
  | ret =>
   simp only [run, Option.some.injEq] at e; subst e
   refine ⟨hp, rh, .refl _, fun code E a ro n Q hc hok hs hrd hq => ?_, fun code E a ro n Q c0 h => by cases h⟩
   have := xBa hc; simp only at this; subst this
   exact wpIn_ret (hq E a (.refl E) hs)
  | reg lo =>
   simp only [run] at e
   obtain ⟨fr', h', hp', r', hf, hk⟩ := xEk hcl lo rh e
   cases hk
   refine ⟨hp', r', hf, fun code E a ro n Q hc hok hs hrd hq => ?_, fun code E a ro n Q c0 h => by cases h⟩
   obtain ⟨id, ops, rfl, hops⟩ := xBa hc
   obtain ⟨fr2, h2, hp2, r2, _, hk2, hh⟩ := xEv (P := P) hcl _ _ hops rh e
   cases hk2
   have := r2.uniq r'; subst this
   exact wpIn_region_list (hh E a ro n Q hok hs.hp hs.fr fun E' a' hle hr hfr hdf => hq E' a' hle (hs.of hle hr hfr hdf))
  | drw ps =>
   simp only [run] at e
   obtain ⟨p, hmem, hdr | hdr⟩ := xKx e
   ·obtain ⟨sh, mm, ne, hs0, cs0, tl, fl⟩ := p
    unfold drwR at hdr
    obtain ⟨fr', h', hp', r', hf, hk⟩ := xKy hcl rh hdr
    cases hk
    refine ⟨hp', r', hf, fun code E a ro n Q hc hok hs hrd hq => ?_, fun code E a ro n Q c0 h => by cases h⟩
    obtain ⟨id, ops, rfl, hops⟩ := xBa hc
    obtain ⟨hp2, r2, _, hh⟩ := xOf hcl hcq hops hmem rh (frF := fr') (hF := h') (fun fr1 h1 e1 => by cases e1; exact ⟨rfl, rfl⟩) hdr
    have := r2.uniq r'; subst this
    exact hh E a ro n Q id hok hs.hp hs.fr fun E' a' hle hr hfr hdf => hq E' a' hle (hs.of hle hr hfr hdf)
   ·obtain ⟨sh, mm, ne, hs0, cs0, tl, fl⟩ := p
    obtain ⟨h1, hp1, r1, f1, e, hcl0⟩ := xGd rh hdr
    unfold drwR at e
    obtain ⟨fr', h', hp', r', hf, hk⟩ := xKy hcl r1 e
    cases hk
    refine ⟨hp', r', f1.trans hf, fun code E a ro n Q hc hok hs hrd hq => ?_, fun code E a ro n Q c0 h => by cases h⟩
    obtain ⟨id, ops, rfl, hops⟩ := xBa hc
    obtain ⟨E1, c1, hr1⟩ := hcl0 E hs.hp
    obtain ⟨hp2, r2, _, hh⟩ := xOf hcl hcq hops hmem r1 (frF := fr') (hF := h') (fun fr1 h1 e1 => by cases e1; exact ⟨rfl, rfl⟩) e
    have := r2.uniq r'; subst this
    have := hh E1 a ro n Q id (hok.le c1.le) hr1 (hs.fr.mono c1.le) fun E' a' hle hr hfr hdf => hq E' a' (c1.le.trans hle) (hs.of (c1.le.trans hle) hr hfr hdf)
    rw [c1.w] at this
    exact this
  | seq a b =>
   simp only [run] at e
   cases h1 : run T m rd a fr ds h with
   | none => rw [h1] at e; cases e
   | some r1 =>
    rw [h1] at e
    obtain ⟨hp1, rh1, f1, hh1, _⟩ := ih _ _ _ _ _ _ h1 hp rh
    obtain ⟨e1, fr1, ds1, h1'⟩ := r1
    cases e1 with
    | nm =>
     simp only at e rh1 f1 hh1
     obtain ⟨hp2, rh2, f2, hh2, _⟩ := ih _ _ _ _ _ _ e hp1 rh1
     refine ⟨hp2, rh2, f1.trans f2, fun code E a' ro n Q hc hok hs hrd hq => ?_, fun code E a ro n Q c0 h => by cases h⟩
     obtain ⟨x, y, rfl, hx, hy⟩ := xBa hc
     refine wpIn_seq (hh1 x E a' ro n _ hx hok hs hrd fun E1 a1 hle1 hs1 => ?_)
     exact hh2 y E1 a1 ro n Q hy (hok.le hle1) hs1 (RdOk.le hle1 hrd) fun E2 a2 hle2 hs2 => hq E2 a2 (hle1.trans hle2) hs2
    | rt =>
     cases e
     refine ⟨hp1, rh1, f1, fun code E a' ro n Q hc hok hs hrd hq => ?_, fun code E a ro n Q c0 h => by cases h⟩
     obtain ⟨x, y, rfl, hx, hy⟩ := xBa hc
     exact wpIn_seq (hh1 x E a' ro n _ hx hok hs hrd fun E1 a1 hle1 hs1 => hq E1 a1 hle1 hs1)
    | ex id =>
     cases e
     refine ⟨hp1, rh1, f1, fun code E a' ro n Q hc hok hs hrd hq => ?_, fun code E a ro n Q c0 h => by cases h⟩
     obtain ⟨x, y, rfl, hx, hy⟩ := xBa hc
     exact wpIn_seq (hh1 x E a' ro n _ hx hok hs hrd fun E1 a1 hle1 hs1 => hq E1 a1 hle1 hs1)
  | cond c a b =>
   simp only [run] at e
   split at e <;> first | (cases e; done) | skip
   ·rename_i hcv
    obtain ⟨hp1, rh1, f1, hh1, _⟩ := ih _ _ _ _ _ _ e hp rh
    refine ⟨hp1, rh1, f1, fun code E a' ro n Q hc hok hs hrd hq => ?_, fun code E a ro n Q c0 h => by cases h⟩
    obtain ⟨o, x, y, rfl, ho, hx, hy⟩ := xBa hc
    have k1 := X.ok hs.fr ho
    rw [hcv] at k1
    exact wpIn_cond_true k1.litE (hh1 x E a' ro n Q hx hok hs hrd hq)
   ·rename_i hcv
    obtain ⟨hp1, rh1, f1, hh1, _⟩ := ih _ _ _ _ _ _ e hp rh
    refine ⟨hp1, rh1, f1, fun code E a' ro n Q hc hok hs hrd hq => ?_, fun code E a ro n Q c0 h => by cases h⟩
    obtain ⟨o, x, y, rfl, ho, hx, hy⟩ := xBa hc
    have k1 := X.ok hs.fr ho
    rw [hcv] at k1
    exact wpIn_cond_false k1.litE (hh1 y E a' ro n Q hy hok hs hrd hq)
  | block id a =>
   simp only [run] at e
   cases h1 : run T m rd a fr ds h with
   | none => rw [h1] at e; cases e
   | some r1 =>
    rw [h1] at e
    obtain ⟨hp1, rh1, f1, hh1, _⟩ := ih _ _ _ _ _ _ h1 hp rh
    obtain ⟨e1, fr1, ds1, h1'⟩ := r1
    cases e1 with
    | ex j =>
     simp only at e rh1 f1 hh1
     split at e
     ·rename_i hb
      have hb := xAc hb
      cases e
      refine ⟨hp1, rh1, f1, fun code E a' ro n Q hc hok hs hrd hq => ?_, fun code E a ro n Q c0 h => by cases h⟩
      obtain ⟨x, rfl, hx⟩ := xBa hc
      refine wpIn_block (hh1 x E a' ro n _ hx hok hs hrd fun E1 a1 hle1 hs1 => ?_)
      simp only [xt, Exit.inBlock, hb, if_true]
      exact hq E1 a1 hle1 hs1
     ·rename_i hb
      have hb : j ≠ id := fun h => by subst h; rw [Nat.beq_refl] at hb; cases hb
      cases e
      refine ⟨hp1, rh1, f1, fun code E a' ro n Q hc hok hs hrd hq => ?_, fun code E a ro n Q c0 h => by cases h⟩
      obtain ⟨x, rfl, hx⟩ := xBa hc
      refine wpIn_block (hh1 x E a' ro n _ hx hok hs hrd fun E1 a1 hle1 hs1 => ?_)
      simp only [xt, Exit.inBlock, hb, if_false]
      exact hq E1 a1 hle1 hs1
    | nm =>
     cases e
     refine ⟨hp1, rh1, f1, fun code E a' ro n Q hc hok hs hrd hq => ?_, fun code E a ro n Q c0 h => by cases h⟩
     obtain ⟨x, rfl, hx⟩ := xBa hc
     exact wpIn_block (hh1 x E a' ro n _ hx hok hs hrd fun E1 a1 hle1 hs1 => hq E1 a1 hle1 hs1)
    | rt =>
     cases e
     refine ⟨hp1, rh1, f1, fun code E a' ro n Q hc hok hs hrd hq => ?_, fun code E a ro n Q c0 h => by cases h⟩
     obtain ⟨x, rfl, hx⟩ := xBa hc
     exact wpIn_block (hh1 x E a' ro n _ hx hok hs hrd fun E1 a1 hle1 hs1 => hq E1 a1 hle1 hs1)
  | loop a =>
   have main : ∃ hp', HRel r.h hp' /\ Frm h r.h /\ (∀ code E a' ro n Q, cK P code = some a -> OkE P E -> St2 E hp fr ds a' -> RdOk E rd ro -> (∀ E' a'', E.Le E' -> St2 E' hp' r.fr r.ds a'' -> Q (xt r.e) a'' E'.w) -> InL (fen ro) n P code Q a' E.w) := by
    simp only [run] at e
    cases h1 : run T m rd a fr ds h with
    | none => rw [h1] at e; cases e
    | some r1 =>
     rw [h1] at e
     obtain ⟨hp1, rh1, f1, hh1, _⟩ := ih _ _ _ _ _ _ h1 hp rh
     obtain ⟨e1, fr1, ds1, h1'⟩ := r1
     cases e1 with
     | nm =>
      simp only at e rh1 f1 hh1
      obtain ⟨hp2, rh2, f2, _, hh2⟩ := ih _ _ _ _ _ _ e hp1 rh1
      refine ⟨hp2, rh2, f1.trans f2, fun code E a' ro n Q hc hok hs hrd hq => xHe (hh1 code E a' ro n _ hc hok hs hrd fun E1 a1 hle1 hs1 => ?_)⟩
      exact hh2 code E1 a1 ro n Q a rfl hc (hok.le hle1) hs1 (RdOk.le hle1 hrd) fun E2 a2 hle2 hs2 => hq E2 a2 (hle1.trans hle2) hs2
     | rt =>
      cases e
      exact ⟨hp1, rh1, f1, fun code E a' ro n Q hc hok hs hrd hq => xHe (hh1 code E a' ro n _ hc hok hs hrd fun E1 a1 hle1 hs1 => hq E1 a1 hle1 hs1)⟩
     | ex id =>
      cases e
      exact ⟨hp1, rh1, f1, fun code E a' ro n Q hc hok hs hrd hq => xHe (hh1 code E a' ro n _ hc hok hs hrd fun E1 a1 hle1 hs1 => hq E1 a1 hle1 hs1)⟩
   obtain ⟨hp', rh', f', hh⟩ := main
   refine ⟨hp', rh', f', fun code E a' ro n Q hc hok hs hrd hq => ?_, fun code E a' ro n Q c0 h hc => by cases h; exact hh code E a' ro n Q hc⟩
   obtain ⟨x, rfl, hx⟩ := xBa hc
   exact xPs (hh x E a' ro n Q hx hok hs hrd hq)
  | scp a =>
   simp only [run] at e
   obtain ⟨hp1, rh1, f1, hh1, _⟩ := ih _ _ _ _ _ _ e hp rh
   refine ⟨hp1, rh1, f1, fun code E a' ro n Q hc hok hs hrd hq => ?_, fun code E a ro n Q c0 h => by cases h⟩
   obtain ⟨x, rfl, hx⟩ := xBa hc
   refine xFu (hh1 x E a' ro n _ hx hok hs hrd fun E1 a1 hle1 hs1 => ?_)
   have := hq E1 a1 hle1 hs1
   cases hre : r.e <;> rw [hre] at this <;> exact this
  | rng f ps a b =>
   simp only [run] at e
   split at e <;> first | (cases e; done) | skip
   rename_i fid caps hfv
   have fin : ∀ {q : Option (SV × HT)} {l : Nat} {ds' : List Nat}, rngE q l fr ds' = some r -> ∃ z h3, q = some (z, h3) /\ ∀ hp3, HRel h3 hp3 -> ∃ hp4, HRel r.h hp4 /\ Frm h3 r.h /\ r.fr = fr /\ r.ds = ds' /\
     ∀ (E3 : Env) (g : Nat) (ro : Option Nat) (n : Nat) (Q : Exit -> Act -> World -> Prop) (a' : Act), RHp E3 hp3 -> g = E3.blk l -> (∀ E4, E3.Le E4 -> RHp E4 hp4 -> Q (xt r.e) a' E4.w) ->
      ∃ jump w4, (Instr.endLoop g).run P E3.w = .ok jump w4 /\ (match jump with
       | none => Q .normal a' w4
       | some c => c.wpIn (fen ro) n P Q a' w4) := by
    intro q l ds' hq
    unfold rngE at hq
    split at hq <;> first | (cases hq; done) | skip
    rename_i z h3
    refine ⟨z, h3, rfl, fun hp3 r3 => ?_⟩
    rw [r3.g] at hq
    split at hq <;> first | (cases hq; done) | skip
    rename_i st pd fr0 ps0 a0 b0 df hg
    have hlt := r3.lt (b := .ob (.lp st pd fr0 ps0 a0 b0 df)) (by rw [r3.g]; exact hg) (by simp)
    have hst : st ≠ .busy := by intro h; subst h; simp at hq
    have hq' : (match (generalizing := false) pd with
      | none => some (⟨.nm, fr, ds', h3.setd l (.ob (.lp .exhausted pd fr0 ps0 a0 b0 df))⟩ : Rs)
      | some none => some ⟨.rt, fr, ds', h3.setd l (.ob (.lp .exhausted pd fr0 ps0 a0 b0 df))⟩
      | some (some id) => some ⟨.ex id, fr, ds', h3.setd l (.ob (.lp .exhausted pd fr0 ps0 a0 b0 df))⟩) = some r := by
     cases st <;> first | exact absurd rfl hst | (simp only [HT.set_eq] at hq; exact hq)
    have hrh : r.h = h3.setd l (.ob (.lp .exhausted pd fr0 ps0 a0 b0 df)) /\ r.fr = fr /\ r.ds = ds' := by
     cases pd with
     | none => cases hq'; exact ⟨rfl, rfl, rfl⟩
     | some x => cases x <;> (cases hq'; exact ⟨rfl, rfl, rfl⟩)
    obtain ⟨e1, e2, e3⟩ := hrh
    refine ⟨_, by rw [e1]; exact r3.set _ hlt, by rw [e1]; exact .set r3.f _ hlt, e2, e3, fun E3 g ro n Q a' hr3 hgl hQ => ?_⟩
    subst hgl
    have hget := xAa hg (by simp)
    obtain ⟨hdf, fn1, us1, ca1, cb1, hus1, hca1, hcb1, hobj1⟩ := hr3.b.blk l _ hget
    obtain ⟨k1, k2⟩ := xDa (o2 := .lp .exhausted pd fr0 ps0 a0 b0 df) (obj' := .loop { state := .exhausted, pending := pdC pd, fn := fn1, tmps := us1.toArray, params := ps0.toArray, assign := ca1, body := cb1, defers := E3.blk df }) hr3 hget hobj1 rfl rfl
     ⟨hdf, fn1, us1, ca1, cb1, hus1.mono (Env.to_le fun b hb => World.putObj_heap_other (r := E3.blk l) (k := b) (fun e => hr3.b.imx l _ (E3.blk l) hget rfl (by rw [e] at hb; exact hb))), hca1, hcb1, World.putObj_heap_same (Array.getElem?_eq_some_iff.1 hobj1).1⟩
    have hQ' := hQ _ k2 k1
    refine ⟨pdC pd, _, run_endLoop hobj1 hst, ?_⟩
    cases pd with
    | none => cases hq'; exact hQ'
    | some x =>
     cases x with
     | none => cases hq'; exact wpIn_ret hQ'
     | some id => cases hq'; exact wpIn_exit hQ'
   cases rd with
   | none =>
    simp only [HT.push_eq] at e
    obtain ⟨z, h3, hq, hfin⟩ := fin e
    have rh2 := (rh.push (.ob .df)).push (.ob (.lp .ready none fr ps a b h.n))
    have ff := (Frm.push rh.f (.ob .df)).trans (Frm.push (rh.push (.ob .df)).f (.ob (.lp .ready none fr ps a b h.n)))
    obtain ⟨hp3, r3, f3, hkn, hcall⟩ := xDc hT ih hq rh2
    obtain ⟨hp4, r4, f4, e1, e2, hend⟩ := hfin hp3 r3
    refine ⟨hp4, r4, ff.trans (f3.trans f4), fun code E a' ro n Q hc hok hs hrd hQ => ?_, fun code E a ro n Q c0 h => by cases h⟩
    obtain ⟨o, qs, x, y, rfl, hps, ho, hx, hy⟩ := xBa hc
    have hrd : ro = none := hrd
    subst hrd
    have k1 := X.ok hs.fr ho
    rw [hfv] at k1
    obtain ⟨cvs, hcvs, k1⟩ := k1.fnE
    have hn : h.n = E.n := by rw [rh.n, xBn]; exact hs.hp.b.n.symm
    refine xRc k1 hkn (fun fn => ?_) hcvs hok hcall (mark := [{ target := .collected E.w.heap.size, args := #[] }])
    obtain ⟨E1, p1, p2, hb1, hw1, hn1, hhas⟩ : ∃ E1 : Env, RHp E1 (pb hp (.ob .df)) /\ E.Le E1 /\ E1.blk E.n = E.w.heap.size /\ E1.w = E.w.alloc (.deferred (some [])) /\ E1.n = E.n + 1 /\ E1.has E.n := by
     obtain ⟨p1, p2⟩ := xDg (o := .df) (obj := .deferred (some [])) hs.hp rfl (by
      show (E.w.alloc _).heap[(E.push (E.w.alloc _) E.w.heap.size undef).blk E.n]? = _
      simp only [Env.push, if_true]; exact World.alloc_heap_new _ _)
     exact ⟨_, p1, p2, by simp [Env.push], rfl, rfl, Env.push_has⟩
    have hbn : ∀ (E : Env) (w : World) (g : Nat) (v : Value), (E.push w g v).blk E.n = g := fun E w g v => by simp [Env.push]
    have hle2 : ∀ obj, E1.Le (E1.push (E1.w.alloc obj) E1.w.heap.size undef) := fun obj => Env.push_le fun b hb => heap_alloc_old _ _ (p1.imlt hb)
    obtain ⟨p3, p4⟩ := xDg (o := .lp .ready none fr ps a b h.n) (obj := .loop { state := .ready, pending := none, fn, tmps := a'.tmps, params := qs, assign := x, body := y, defers := E.w.heap.size }) p1 rfl (by
     refine ⟨(hle2 _).has _ (by rw [hn]; exact hhas), fn, a'.tmps.toList, x, y, hs.fr.mono (p2.trans (hle2 _)), by rw [((p2.trans (hle2 _)).ok : _ = E.ok), hok]; exact hx, by rw [((p2.trans (hle2 _)).ok : _ = E.ok), hok]; exact hy, ?_⟩
     rw [(hle2 _).blk h.n (by rw [hn]; exact hhas), hn, hb1, hbn, hps]
     exact World.alloc_heap_new _ _)
    have hl : (h.pushed (.ob .df)).n = E1.n := by show h.n + 1 = E1.n; rw [hn, hn1]
    refine ⟨_, ?_, p2.trans p4, p3, by rw [hl]; exact Env.push_has, fun E3 hle3 hr3 => hend E3 _ none n Q _ hr3 ?_ fun E4 hle4 hr4 => ?_⟩
    ·rw [hl, hbn, show E1.w.heap.size = E.w.heap.size + 1 by rw [hw1, World.size_alloc]]
     show _ = Result.ok _ (E1.w.alloc _)
     rw [hw1]
     exact run_enterLoop_outer _ _ _ _ _
    ·rw [hl, hle3.blk _ Env.push_has]
    ·have hall := (p2.trans p4).trans (hle3.trans hle4)
     have hbk : E4.blk E.n = E.w.heap.size := by rw [hle4.blk _ (hle3.has _ (p4.has _ hhas)), hle3.blk _ (p4.has _ hhas), p4.blk _ hhas, hb1]
     refine hQ E4 _ hall ?_
     rw [e1, e2]
     refine ⟨hs.fr.mono hall, hr4, ?_, fun l hl => ?_⟩
     ·show _ :: a'.defers = _
      rw [hs.df, <- xEj hall hs.ds]
      simp only [dfsOf, List.map_cons, hn, hbk]
     ·cases hl with
      | head => rw [hn]; exact hle4.has _ (hle3.has _ (p4.has _ hhas))
      | tail _ hl => exact hall.has l (hs.ds l hl)
   | some l0 =>
    simp only [HT.push_eq, rh.g] at e
    split at e <;> first | (cases e; done) | skip
    rename_i st9 pd9 fr9 ps9 a9 b9 df hg0
    obtain ⟨z, h3, hq, hfin⟩ := fin e
    have rh2 := rh.push (.ob (.lp .ready none fr ps a b df))
    have ff := Frm.push rh.f (.ob (.lp .ready none fr ps a b df))
    obtain ⟨hp3, r3, f3, hkn, hcall⟩ := xDc hT ih hq rh2
    obtain ⟨hp4, r4, f4, e1, e2, hend⟩ := hfin hp3 r3
    refine ⟨hp4, r4, ff.trans (f3.trans f4), fun code E a' ro n Q hc hok hs hrd hQ => ?_, fun code E a ro n Q c0 h => by cases h⟩
    obtain ⟨o, qs, x, y, rfl, hps, ho, hx, hy⟩ := xBa hc
    obtain ⟨hl0, hro⟩ : E.has l0 /\ ro = some (E.blk l0) := hrd
    subst hro
    have k1 := X.ok hs.fr ho
    rw [hfv] at k1
    obtain ⟨cvs, hcvs, k1⟩ := k1.fnE
    have hn : h.n = E.n := by rw [rh.n, xBn]; exact hs.hp.b.n.symm
    have hget0 := xAa hg0 (by simp)
    obtain ⟨hdf, fn9, us9, ca9, cb9, _, _, _, hobj9⟩ := hs.hp.b.blk l0 _ hget0
    refine xRc k1 hkn (fun fn => ?_) hcvs hok hcall (mark := [])
    have hle2 : E.Le (E.push (E.w.alloc (.loop { state := .ready, pending := none, fn, tmps := a'.tmps, params := qs, assign := x, body := y, defers := E.blk df })) E.w.heap.size undef) := Env.push_le fun b hb => heap_alloc_old _ _ (hs.hp.imlt hb)
    obtain ⟨p3, p4⟩ := xDg (o := .lp .ready none fr ps a b df) (obj := .loop { state := .ready, pending := none, fn, tmps := a'.tmps, params := qs, assign := x, body := y, defers := E.blk df }) hs.hp rfl (by
     refine ⟨hle2.has _ hdf, fn, a'.tmps.toList, x, y, hs.fr.mono hle2, by show E.ok x a; rw [hok]; exact hx, by show E.ok y b; rw [hok]; exact hy, ?_⟩
     show (E.w.alloc _).heap[(E.push _ E.w.heap.size undef).blk E.n]? = _
     rw [show (E.push (E.w.alloc (.loop { state := .ready, pending := none, fn, tmps := a'.tmps, params := qs, assign := x, body := y, defers := E.blk df })) E.w.heap.size undef).blk E.n = E.w.heap.size by simp [Env.push], World.alloc_heap_new, hps]
     simp only [pdC]
     rw [hle2.blk _ hdf])
    refine ⟨_, ?_, p4, p3, by rw [hn]; exact Env.push_has, fun E3 hle3 hr3 => hend E3 _ (some (E.blk l0)) n Q _ hr3 ?_ fun E4 hle4 hr4 => ?_⟩
    ·rw [hn, show (E.push (E.w.alloc (.loop { state := .ready, pending := none, fn, tmps := a'.tmps, params := qs, assign := x, body := y, defers := E.blk df })) E.w.heap.size undef).blk E.n = E.w.heap.size by simp [Env.push]]
     exact xDh hobj9 _ _ _ _ _
    ·rw [hn, hle3.blk _ Env.push_has]
    ·have hall := p4.trans (hle3.trans hle4)
     refine hQ E4 _ hall ?_
     rw [e1, e2]
     exact ⟨hs.fr.mono hall, hr4, by show a'.defers = _; rw [hs.df, xEj hall hs.ds], fun l hl => hall.has l (hs.ds l hl)⟩
end Go.Vg
end
