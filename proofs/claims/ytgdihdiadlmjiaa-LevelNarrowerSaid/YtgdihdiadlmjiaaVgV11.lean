import Derived.Test.YtgdihdiadlmjiaaVgV10
set_option linter.all false
namespace Go.Vg
open Go
def Env.wn (E : Env) (k : Nat) (d : List Deferred) : Env := { E with n0 := k, df := d }
theorem Env.wn_le0 (E : Env) (k : Nat) (d : List Deferred) : E.Le0 (E.wn k d) := ⟨Nat.le_refl _, fun _ h => h, fun _ _ => rfl, fun _ _ => rfl, fun _ _ h => h, fun _ h => h, fun _ _ => rfl, rfl⟩
theorem RHp.wn {E : Env} {hp : List Blk} (h : RHp E hp) (k : Nat) (d : List Deferred) : RHp (E.wn k d) hp := by
 have hat : ∀ l (b : Blk), b.at (E.wn k d) l = b.at E l := fun l b => by cases b <;> rfl
 exact ⟨⟨h.g.fr, h.g.fz, h.g.sz, h.g.os, h.g.tape, h.g.output, h.g.imb, h.g.im0⟩,
  ⟨h.b.n, h.b.rs, fun l b hb => (h.b.blk l b hb).keep0 (E.wn_le0 k d) (h.has hb) (fun _ _ => rfl), h.b.live, fun l b g hb hg => h.b.imx l b g hb (by rw [<- hat]; exact hg), fun l b g hb hg => h.b.base l b g hb (by rw [<- hat]; exact hg),
   fun l l' b b' g hb hb' hg hg' => h.b.dj l l' b b' g hb hb' (by rw [<- hat]; exact hg) (by rw [<- hat]; exact hg')⟩⟩
theorem xJo {P : Program} {Γ : Gm} {Γq : Nat -> Option FC} (hΓ : GmOk P Γ) (hG : ∀ f C, Γ f = some C -> Known P f) (hΓq : ∀ f F, Γq f = some F -> FcOk P f F) (hGq : ∀ f F, Γq f = some F -> Known P f)
  {c : Code} {sc : SC} (hc : cC P c = some sc) (hns : sc.nosem = true) {ro : Option Nat} {n : Nat} {K : Exit -> St -> Prop} {s : St} {E : Env} {a : Act} {Q : Exit -> Act -> World -> Prop}
  (hfr : Rvs E s.fr a.tmps.toList) (hhp : RHp E s.hp) (he : exec (ln s.hp) Γ Γq sc K s)
  (hq : ∀ e E' s' a', E.Le E' -> RHp E' s'.hp -> Rvs E' s'.fr a'.tmps.toList -> a'.defers = a.defers -> K e s' -> Q e a' E'.w) : c.wpIn (fen ro) n P Q a E.w := by
 have hn : E.n = ln s.hp := by rw [xBn]; exact hhp.b.n
 refine xNa hΓ hG hΓq hGq (N := ln s.hp) c sc hc (.inr hns) (E := E.wn E.n a.defers) (s := s) (a := a) (by show E.n <= _; omega) (Nat.le_refl _) ⟨hfr.mono0 (E.wn_le0 _ _), hhp.wn _ _, rfl⟩ he ?_
 intro e E' s' a' hx hr' hk
 have x := hx.x
 have hd : E'.df = a.defers := hx.nd hns
 have hle : E.Le (E'.wn E.n0 E.df) :=
  ⟨x.n, fun l hl => x.has l hl.1 hl, fun l hl => x.blk l hl.1 hl, fun l hl => x.val l hl.1 hl, fun l hl => x.live l hl.1 hl, x.im, x.mem, x.W, x.M, x.im0, rfl, rfl, x.ok, fun l hl hr => x.rs l hl hr⟩
 exact hq e (E'.wn E.n0 E.df) s' a' hle (hr'.hp.wn _ _) (hr'.fr.mono0 (E'.wn_le0 _ _)) (hr'.df.trans hd) hk
theorem xDz {w : World} {o : Obj} (h : o.isCells = false) (a : Addr) : (w.alloc o).frozen? a = w.frozen? a := by
 rcases Nat.lt_trichotomy a.block w.heap.size with hlt | heq | hgt
 ·exact World.frozen?_of_block (heap_alloc_old w o hlt)
 ·have hn := World.alloc_heap_new w o
  rw [xBi (w := w) (fun c t f e => by rw [heq] at e; simp at e), xBi (fun c t f e => by rw [heq, hn] at e; cases e; simp [Obj.isCells] at h)]
 ·rw [xBi (w := w) (fun c t f e => by have := (Array.getElem?_eq_some_iff.1 e).1; omega), xBi (fun c t f e => by have := (Array.getElem?_eq_some_iff.1 e).1; rw [World.size_alloc] at this; omega)]
section
variable {E : Env} {hp : List Blk}
theorem xDa (h : RHp E hp) {l : Nat} {o o2 : OB} (hl : hp[l]? = some (.ob o)) {obj obj' : Obj} (hobj : E.w.heap[E.blk l]? = some obj) (hc : obj.isCells = false) (hc' : obj'.isCells = false)
  (hnew : Rob (E.to (E.w.putObj (E.blk l) obj')) l o2) : RHp (E.to (E.w.putObj (E.blk l) obj')) (sb hp l (.ob o2)) /\ E.Le (E.to (E.w.putObj (E.blk l) obj')) :=
 h.set (b0 := .ob o) (newb := .ob o2) (g0 := E.blk l) hl rfl (grownBy_putObj' _ _ _) (xGb hobj hc hc') hnew rfl
theorem xDg (h : RHp E hp) {obj : Obj} (hc : obj.isCells = false) {o : OB} (hnew : Rob (E.push (E.w.alloc obj) E.w.heap.size undef) E.n o) :
  RHp (E.push (E.w.alloc obj) E.w.heap.size undef) (pb hp (.ob o)) /\ E.Le (E.push (E.w.alloc obj) E.w.heap.size undef) :=
 h.push (newb := .ob o) (xFi _ _) (xDz hc) hnew (fun g hg => by simp [Blk.at, Env.push] at hg; omega)
end
def setL : List SV -> List Nat -> List SV -> List SV
 | fr, p :: ps, x :: xs => setL (st fr p x) ps xs
 | fr, _, _ => fr
theorem xGu {E : Env} : ∀ {ps : List Nat} {fr xs : List SV} {us vs : List Value}, Rvs E fr us -> Rvs E xs vs -> Rvs E (setL fr ps xs) ((ps.zip vs).foldl (fun t p => t.set p.1 p.2) us)
 | [], fr, xs, us, vs, h, k => by simpa [setL] using h
 | p :: ps, fr, [], us, [], h, .nil => by simpa [setL] using h
 | p :: ps, fr, x :: xs, us, v :: vs, h, .cons _ _ _ _ hx k => by
  simp only [setL, List.zip_cons_cons, List.foldl_cons]
  exact xGu (h.st p hx) k
theorem xNb (l : List (Nat × Value)) : ∀ (t : Array Value), (l.foldl (fun t (p : Nat × Value) => t.setIfInBounds p.1 p.2) t).toList = l.foldl (fun t p => t.set p.1 p.2) t.toList := by
 induction l with
 | nil => intro t; rfl
 | cons x l ih => intro t; simp only [List.foldl_cons]; rw [ih, Array.toList_setIfInBounds]
theorem xGv (ps : List Nat) (vs us : List Value) : ((ps.toArray.zip vs.toArray).foldl (fun tmps (t, a) => tmps.setIfInBounds t a) us.toArray).toList = (ps.zip vs).foldl (fun t p => t.set p.1 p.2) us := by
 have := xNb (ps.zip vs) us.toArray
 simpa using this
def yK2 (L : Nat) (k : SV -> List Blk -> Prop) (e : Exit) (s : St) : Prop :=
 match gb s.hp L with
 | .ob (.wl st pd fr ps ca cb df) => match e with
  | .normal => k (.lit (.bool true)) (sb s.hp L (.ob (.wl .ready none fr ps ca cb df)))
  | .ret => k (.lit (.bool false)) (sb s.hp L (.ob (.wl .done (some none) fr ps ca cb df)))
  | .exit id => k (.lit (.bool false)) (sb s.hp L (.ob (.wl .done (some (some id)) fr ps ca cb df)))
  | _ => False
 | _ => False
def yK1 (Γ : Gm) (Γq : Nat -> Option FC) (sy : SC) (L : Nat) (k : SV -> List Blk -> Prop) (e : Exit) (s : St) : Prop :=
 match e with
 | .normal => match gb s.hp L with
  | .ob (.wl .ready pd fr ps ca cb df) => exec (ln s.hp) Γ Γq sy (yK2 L k) ⟨s.fr, sb s.hp L (.ob (.wl .busy pd fr ps ca cb df))⟩
  | _ => False
 | _ => False
theorem ln_pb : ∀ (hp : List Blk) (b : Blk), ln (pb hp b) = ln hp + 1
 | [], _ => rfl
 | _ :: t, b => by simp only [pb, ln, ln_pb t b]
theorem sb_sb : ∀ (hp : List Blk) (l : Nat) (a b : Blk), sb (sb hp l a) l b = sb hp l b
 | [], _, _, _ => rfl
 | _ :: _, 0, _, _ => rfl
 | x :: t, l + 1, a, b => by simp only [sb, sb_sb t l a b]
theorem sb_get {hp : List Blk} {l : Nat} {b : Blk} (h : l < hp.length) : (sb hp l b)[l]? = some b := by rw [xEf]; simp [h]
theorem sb_ne {hp : List Blk} {l k : Nat} {b : Blk} (h : l ≠ k) : (sb hp l b)[k]? = hp[k]? := by rw [xEf, List.getElem?_set_ne h]
theorem ln_sb : ∀ (hp : List Blk) (l : Nat) (b : Blk), ln (sb hp l b) = ln hp
 | [], _, _ => rfl
 | _ :: _, 0, _ => rfl
 | _ :: t, l + 1, b => by simp only [sb, ln, ln_sb t l b]
section
variable {P : Program} {Γ : Gm} {Γq : Nat -> Option FC} (hΓ : GmOk P Γ) (hG : ∀ f C, Γ f = some C -> Known P f) (hΓq : ∀ f F, Γq f = some F -> FcOk P f F) (hGq : ∀ f F, Γq f = some F -> Known P f)
include hΓ hG hΓq hGq
theorem ysem_of {L : Nat} {args : List SV} {hp : List Blk} {k : SV -> List Blk -> Prop} {pd : Option (Option Nat)} {fr : List SV} {ps : List Nat} {ca cb : Code} {df : Nat} {sx sy : SC}
  (hg : gb hp L = .ob (.wl .ready pd fr ps ca cb df)) (hx : cC P ca = some sx) (hy : cC P cb = some sy) (hnx : sx.nosem = true) (hny : sy.nosem = true) (hpl : ps.length = args.length)
  (he : exec (ln hp) Γ Γq sx (fun e s => (∀ pd' fr' ps' ca' cb' df', gb s.hp L = .ob (.wl .ready pd' fr' ps' ca' cb' df') -> cb' = cb) /\ yK1 Γ Γq sy L k e s) ⟨setL fr ps args, hp⟩) : YSem P L args hp k := by
 intro E vs hr hhas ha
 have hget := xAa hg (by simp)
 obtain ⟨hdf, fn, us, hus, hobj⟩ := hr.b.blk L _ hget
 have hvl : vs.length = ps.length := by rw [<- ha.length]; exact hpl.symm
 refine .inr ⟨E.blk L, rfl, fn, _, ca, cb, run_yield hobj (by simpa using hvl), fun ro n => roundIn_of_wpIn (F := fen ro) trivial ?_⟩
 show ca.wpIn (fen (some (E.blk L))) n P _ _ E.w
 refine xJo hΓ hG hΓq hGq hx hnx (s := ⟨setL fr ps args, hp⟩) (E := E) ?_ hr he ?_
 ·have h0 := xGu (ps := ps) hus ha
  rw [<- xGv] at h0
  exact h0
 rintro e E1 s1 a1 hle1 hr1 hf1 hd1 ⟨hcb, hk1⟩
 unfold yK1 at hk1
 split at hk1 <;> first | exact hk1.elim | skip
 split at hk1 <;> first | exact hk1.elim | skip
 rename_i pd0 fr0 ps0 ca0 cb0 df0 hg1
 obtain rfl := hcb _ _ _ _ _ _ hg1
 have hget1 := xAa hg1 (by simp)
 obtain ⟨hdf1, fn1, us1, hus1, hobj1⟩ := hr1.b.blk L _ hget1
 have hb1 : E1.blk L = E.blk L := hle1.blk L hhas
 obtain ⟨hr2', hle2⟩ := xDa (o2 := .wl .busy pd0 fr0 ps0 ca0 cb0 df0) (obj' := .loop { state := .busy, pending := pdC pd0, fn := fn1, tmps := us1.toArray, params := ps0.toArray, assign := ca0, body := cb0, defers := E1.blk df0 }) hr1 hget1 hobj1 rfl rfl
  ⟨hdf1, fn1, us1, hus1.mono (Env.to_le fun b hb => World.putObj_heap_other (r := E1.blk L) (k := b) (fun e => hr1.b.imx L _ (E1.blk L) hget1 rfl (by rw [e] at hb; exact hb))), World.putObj_heap_same (Array.getElem?_eq_some_iff.1 hobj1).1⟩
 refine ⟨_, by rw [<- hb1]; exact run_beginRound hobj1 rfl, ?_⟩
 have hle12 := hle1.trans hle2
 show cb0.wpIn (fen (some (E.blk L))) n P _ _ _
 rw [show ln s1.hp = ln (sb s1.hp L (.ob (.wl .busy pd0 fr0 ps0 ca0 cb0 df0))) from (ln_sb _ _ _).symm] at hk1
 refine xJo hΓ hG hΓq hGq hy hny (s := ⟨s1.fr, sb s1.hp L (.ob (.wl .busy pd0 fr0 ps0 ca0 cb0 df0))⟩) (E := E1.to _) (hf1.mono hle2) hr2' hk1 ?_
 intro e3 E3 s3 a4 hle3 hr3 hf3 hd3 hk3
 have hle13 := hle12.trans hle3
 unfold yK2 at hk3
 split at hk3 <;> first | exact hk3.elim | skip
 rename_i st3 pd3 fr3 ps3 ca3 cb3 df3 hg2
 have hget3 := xAa hg2 (by simp)
 obtain ⟨hdf3, fn3, us3, hus3, hobj3⟩ := hr3.b.blk L _ hget3
 have hb3 : E3.blk L = E.blk L := hle13.blk L hhas
 have fin : ∀ (st4 : LoopState) (pd4 : Option (Option Nat)) (bv : Bool), ((pdC pd4).isNone = bv /\ st4 = if bv then .ready else .done) -> k (.lit (.bool bv)) (sb s3.hp L (.ob (.wl st4 pd4 fr3 ps3 ca3 cb3 df3))) ->
   ∃ v w', (Instr.endRound (E.blk L) (pdC pd4)).run P E3.w = .ok v w' /\ ∃ v', Ending.returned v = .returned v' /\ ∃ r E' hp', E'.w = w' /\ E.Le E' /\ RHp E' hp' /\ Rv E' r v' /\ k r hp' := by
  intro st4 pd4 bv hst hkk
  have hrun := run_endRound (P := P) (pdC pd4) hobj3
  rw [hb3] at hrun
  obtain ⟨h41, h42⟩ := xDa (o2 := .wl st4 pd4 fr3 ps3 ca3 cb3 df3) (obj' := .loop { state := st4, pending := pdC pd4, fn := fn3, tmps := us3.toArray, params := ps3.toArray, assign := ca3, body := cb3, defers := E3.blk df3 }) hr3 hget3 hobj3 rfl rfl
   ⟨hdf3, fn3, us3, hus3.mono (Env.to_le fun b hb => World.putObj_heap_other (r := E3.blk L) (k := b) (fun e => hr3.b.imx L _ (E3.blk L) hget3 rfl (by rw [e] at hb; exact hb))), World.putObj_heap_same (Array.getElem?_eq_some_iff.1 hobj3).1⟩
  obtain ⟨hst1, hst2⟩ := hst
  refine ⟨_, _, hrun, _, rfl, .lit (.bool bv), E3.to _, _, ?_, hle13.trans h42, h41, ?_, hkk⟩
  ·rw [<- hb3, hst1, hst2]; rfl
  ·rw [hst1]; exact .lit _
 cases e3 with
 | normal => exact fin .ready none true ⟨rfl, rfl⟩ hk3
 | ret => exact fin .done (some none) false ⟨rfl, rfl⟩ hk3
 | exit id => exact fin .done (some (some id)) false ⟨rfl, rfl⟩ hk3
 | _ => exact hk3.elim
def rK (K : Exit -> St -> Prop) (fr : List SV) (D L : Nat) (e : Exit) (s : St) : Prop :=
 (e = .normal \/ e = .ret) /\ match gb s.hp L with
 | .ob (.wl st pd _ _ _ _ df) => st ≠ .busy /\ df = D /\ gb s.hp D = .ob .df /\ match pd with
  | none => K .normal ⟨fr, sb (sb s.hp L .dead) D .dead⟩
  | some none => K .ret ⟨fr, sb (sb s.hp L .dead) D .dead⟩
  | some (some id) => K (.exit id) ⟨fr, sb (sb s.hp L .dead) D .dead⟩
 | _ => False
theorem sem_rng {N : Nat} {o : Operand} {qs : Array Tmp} {ca cb : Code} {K : Exit -> St -> Prop} {fr : List SV} {hp : List Blk} {x : X} {g : Nat} {caps : List SV} {fng : Func} {sg : SC} {nt : Nat}
  (ho : cX o = some x) (hx : x.get fr = .fn g caps) (hf : P.funcs[g]? = some fng) (hnm : fng.name ≠ "runtime.NumGoroutine")
  (hk : (fng.body.bind (cC P), cR P fng.results.toList, fng.ntmps) = (some sg, some [], nt)) (hns : sg.nosem = true)
  (he : exec (ln hp + 2) Γ Γq sg (rK K fr (ln hp) (ln hp + 1)) ⟨mkfr (.lb .yl (ln hp + 1) :: caps) nt, pb (pb hp (.ob .df)) (.ob (.wl .ready none fr qs.toList ca cb (ln hp)))⟩) :
  SemOk P N (.rangeFunc o qs ca cb) K ⟨fr, hp⟩ := by
 intro n E a Q hN hn0 hr hQ
 simp only [Prod.mk.injEq, Option.bind_eq_some_iff] at hk
 obtain ⟨⟨c, hb, hc⟩, hrs, rfl⟩ := hk
 have k1 := X.ok hr.fr ho
 rw [hx] at k1
 obtain ⟨cvs, hcvs, k1⟩ := k1.fnE
 have hn : ln hp = E.n := by rw [xBn]; exact hr.hp.b.n.symm
 refine wpIn_rangeFunc fun fn _ => ?_
 obtain ⟨E1, p1, p2, hb1, hw1, hn1, hhas⟩ : ∃ E1 : Env, RHp E1 (pb hp (.ob .df)) /\ E.Le E1 /\ E1.blk E.n = E.w.heap.size /\ E1.w = E.w.alloc (.deferred (some [])) /\ E1.n = E.n + 1 /\ E1.has E.n := by
  obtain ⟨p1, p2⟩ := xDg (o := .df) (obj := .deferred (some [])) hr.hp rfl (by
   show (E.w.alloc _).heap[(E.push (E.w.alloc _) E.w.heap.size undef).blk E.n]? = _
   simp only [Env.push, if_true]; exact World.alloc_heap_new _ _)
  exact ⟨_, p1, p2, by simp [Env.push], rfl, rfl, Env.push_has⟩
 have hbn : ∀ (E : Env) (w : World) (g : Nat) (v : Value), (E.push w g v).blk E.n = g := fun E w g v => by simp [Env.push]
 have hle2 : ∀ obj, E1.Le (E1.push (E1.w.alloc obj) E1.w.heap.size undef) := fun obj => Env.push_le fun b hb => heap_alloc_old _ _ (p1.imlt hb)
 obtain ⟨p3, p4⟩ := xDg (o := .wl .ready none fr qs.toList ca cb (ln hp)) (obj := .loop { state := .ready, pending := none, fn, tmps := a.tmps, params := qs, assign := ca, body := cb, defers := E.w.heap.size }) p1 rfl (by
  refine ⟨(hle2 _).has _ (by rw [hn]; exact hhas), fn, a.tmps.toList, hr.fr.mono (p2.trans (hle2 _)), ?_⟩
  rw [(hle2 _).blk (ln hp) (by rw [hn]; exact hhas), hn, hb1, hbn]
  simp only [Array.toArray_toList]
  exact World.alloc_heap_new _ _)
 have hl : ln hp + 1 = E1.n := by rw [hn1, hn]
 generalize hE2 : E1.push (E1.w.alloc (.loop { state := .ready, pending := none, fn, tmps := a.tmps, params := qs, assign := ca, body := cb, defers := E.w.heap.size })) E1.w.heap.size undef = E2 at p3 p4
 have hL2 : E2.blk (ln hp + 1) = E.w.heap.size + 1 := by rw [<- hE2, hl, hbn, hw1, World.size_alloc]
 have hw2 : E2.w = E1.w.alloc (.loop { state := .ready, pending := none, fn, tmps := a.tmps, params := qs, assign := ca, body := cb, defers := E.w.heap.size }) := by rw [<- hE2]; rfl
 have hasL : E2.has (ln hp + 1) := by rw [<- hE2, hl]; exact Env.push_has
 have le2 := p2.trans p4
 have hasD : E2.has (ln hp) := by rw [hn]; exact p4.has _ hhas
 have hD2 : E2.blk (ln hp) = E.w.heap.size := by rw [hn, p4.blk _ hhas, hb1]
 refine ⟨E2.blk (ln hp + 1), [{ target := .collected E.w.heap.size, args := #[] }], E2.w, { target := .fn (.func g) cvs.toArray, args := #[.func (.yield (E2.blk (ln hp + 1))) #[] #[]] }, E2.w, g, #[.func (.yield (E2.blk (ln hp + 1))) #[] #[]] ++ cvs.toArray, E2.w, ?_, ?_, fun _ _ => trivial, ?_, fun h => by simp [fen, Fence.wide] at h, ?_⟩
 ·rw [hL2, hw2, hw1]
  exact run_enterLoop_outer _ _ _ _ _
 ·simp only [resolve, k1]
  simp [Deferred.ofValue, Act.eval]
 ·simp only [invoke]
  exact xAl hf hnm (by rw [hb]; simp)
 have e1 : #[Value.func (.yield (E2.blk (ln hp + 1))) #[] #[]] ++ cvs.toArray = (Value.func (.yield (E2.blk (ln hp + 1))) #[] #[] :: cvs).toArray := by apply Array.ext'; simp
 rw [e1]
 refine xAu ((callsIn_wide (n := 0)).1 (callsIn_of_wp_marks (F := Fence.wide) hf hb trivial ?_ rfl))
 refine xJo (ro := none) (n := 0) hΓ hG hΓq hGq hc hns (s := ⟨mkfr (.lb .yl (ln hp + 1) :: caps) fng.ntmps, pb (pb hp (.ob .df)) (.ob (.wl .ready none fr qs.toList ca cb (ln hp)))⟩) (E := E2) ?_ p3 (by rw [ln_pb, ln_pb]; exact he) ?_
 ·have := xHk (E := E2) fng.ntmps (.cons _ _ _ _ (.lb .yl (ln hp + 1) hasL) (hcvs.mono le2))
  simpa [LK.val] using this
 rintro e E3 s3 a3 hle3 hr3 hf3 hd3 ⟨hee, hk3⟩
 split at hk3 <;> first | exact hk3.elim | skip
 rename_i st pd fr0 ps0 ca0 cb0 df0 hg3
 obtain ⟨hst, rfl, hgD, hk3⟩ := hk3
 have hget3 := xAa hg3 (by simp)
 obtain ⟨hdf3, fn3, us3, hus3, hobj3⟩ := hr3.b.blk (ln hp + 1) _ hget3
 have hL3 : E3.blk (ln hp + 1) = E2.blk (ln hp + 1) := hle3.blk _ hasL
 obtain ⟨h41, h42⟩ := xDa (o2 := .wl .exhausted pd fr0 ps0 ca0 cb0 (ln hp)) (obj' := .loop { state := .exhausted, pending := pdC pd, fn := fn3, tmps := us3.toArray, params := ps0.toArray, assign := ca0, body := cb0, defers := E3.blk (ln hp) }) hr3 hget3 hobj3 rfl rfl
  ⟨hdf3, fn3, us3, hus3.mono (Env.to_le fun b hb => World.putObj_heap_other (r := E3.blk (ln hp + 1)) (k := b) (fun e => hr3.b.imx _ _ (E3.blk (ln hp + 1)) hget3 rfl (by rw [e] at hb; exact hb))), World.putObj_heap_same (Array.getElem?_eq_some_iff.1 hobj3).1⟩
 have hltL : ln hp + 1 < s3.hp.length := (List.getElem?_eq_some_iff.1 hget3).1
 obtain ⟨E5, c5, i5, r5⟩ := xAo h41 (l := ln hp + 1) (newb := .dead) (sb_get hltL) (by simp) (fun _ _ _ => trivial) (fun _ => rfl)
 rw [sb_sb] at r5
 have hgetD : (sb s3.hp (ln hp + 1) .dead)[ln hp]? = some (.ob .df) := by rw [sb_ne (by omega)]; exact xAa hgD (by simp)
 have hwD : E5.w.heap[E5.blk (ln hp)]? = some (.deferred (some [])) := r5.b.blk (ln hp) _ hgetD
 obtain ⟨E6, c6, i6, r6⟩ := xAo r5 (l := ln hp) (newb := .dead) hgetD (by simp) (fun _ _ _ => trivial) (fun _ => rfl)
 have leA : E.Le E6 := le2.trans (hle3.trans (h42.trans (c5.le.trans c6.le)))
 have hD5 : E5.blk (ln hp) = E.w.heap.size := by
  rw [c5.blk]
  show E3.blk (ln hp) = _
  rw [hle3.blk _ hasD, hD2]
 have hw6 : E6.w = E3.w.putObj (E3.blk (ln hp + 1)) (.loop { state := .exhausted, pending := pdC pd, fn := fn3, tmps := us3.toArray, params := ps0.toArray, assign := ca0, body := cb0, defers := E3.blk (ln hp) }) := c6.w.trans c5.w
 have hx := leA.xt hn0
 have xg : E.Xg false (E6.wn E6.n0 ({ target := .collected E.w.heap.size, args := #[] } :: E.df)) :=
  ⟨⟨hx.n, hx.has, hx.blk, hx.val, hx.live, hx.im, hx.W, hx.M, hx.im0, rfl, hx.n0, hx.ok, hx.mem, hx.rs⟩, (fun h => by cases h), ⟨[E.w.heap.size], rfl, by simp, fun D hD => by
   have : D = E.w.heap.size := by simpa using hD
   subst this
   refine ⟨⟨?_, fun h => absurd (hr.hp.imlt h) (Nat.lt_irrefl _), hr.hp.g.sz⟩, ?_⟩
   ·rw [<- hD5]; exact i6 _ rfl
   ·show E6.w.heap[_]? = _
    rw [c6.w, <- hD5]; exact hwD⟩⟩
 have rep : Rep (E6.wn E6.n0 ({ target := .collected E.w.heap.size, args := #[] } :: E.df)) ⟨fr, sb (sb s3.hp (ln hp + 1) .dead) (ln hp) .dead⟩ { a with defers := [{ target := .collected E.w.heap.size, args := #[] }] ++ a.defers } :=
  ⟨(hr.fr.mono leA).mono0 (E6.wn_le0 _ _), r6.wn _ _, by show _ :: a.defers = _; rw [hr.df]; rfl⟩
 have post : ∀ v : Value, ∃ jump w4, (Instr.endLoop (E2.blk (ln hp + 1))).run P E3.w = .ok jump w4 /\ (match jump with
    | none => Q .normal { a with defers := [{ target := .collected E.w.heap.size, args := #[] }] ++ a.defers } w4
    | some c => c.wpIn (fen none) n P Q { a with defers := [{ target := .collected E.w.heap.size, args := #[] }] ++ a.defers } w4) := by
  intro v
  have hrun := run_endLoop (P := P) hobj3 hst
  rw [hL3] at hrun
  refine ⟨_, _, hrun, ?_⟩
  have hww : (E6.wn E6.n0 ({ target := .collected E.w.heap.size, args := #[] } :: E.df)).w = E3.w.putObj (E2.blk (ln hp + 1)) (.loop { state := .exhausted, pending := pdC pd, fn := fn3, tmps := us3.toArray, params := ps0.toArray, assign := ca0, body := cb0, defers := E3.blk (ln hp) }) := by
   rw [<- hL3]; exact hw6
  cases pd with
  | none => have := hQ _ _ _ _ xg rep hk3; rw [hww] at this; exact this
  | some y =>
   cases y with
   | none => have := hQ _ _ _ _ xg rep hk3; rw [hww] at this; exact wpIn_ret this
   | some id => have := hQ _ _ _ _ xg rep hk3; rw [hww] at this; exact wpIn_exit this
 have lv : LeavesInM Fence.wide 0 P fng a3.tmps (rangePost (fen none) n P (E2.blk (ln hp + 1)) Q { a with defers := [{ target := .collected E.w.heap.size, args := #[] }] ++ a.defers }) a3.defers .returning E3.w := by
  rw [hd3]
  obtain ⟨v, g1, _⟩ := xGa (P := P) (E := E3.wn E3.n0 a3.defers) (s := s3) (a := a3) ⟨hf3.mono0 (E3.wn_le0 _ _), hr3.wn _ _, rfl⟩ hrs (show rdR s3 [] = some [] from rfl)
  exact ⟨v, g1, post v⟩
 rcases hee with rfl | rfl
 ·exact lv
 ·exact lv
end
end Go.Vg
