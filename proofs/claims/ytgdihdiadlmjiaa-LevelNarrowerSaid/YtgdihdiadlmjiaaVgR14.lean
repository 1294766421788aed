import Derived.Test.YtgdihdiadlmjiaaVgR13
import Derived.RangeFuncOwn
set_option linter.all false
namespace Go.Vg
open Go
theorem xHc {f : HT -> SV -> Option (SV × HT)} {f' : List Blk -> SV -> Option (SV × List Blk)} (hf : ∀ {h h' : HT} {x x' : SV} {hp : List Blk}, HRel h hp -> f h x = some (x', h') -> ∃ hp', HRel h' hp' /\ f' hp x = some (x', hp')) :
  ∀ {cs cs' : List SV} {h h' : HT} {hp : List Blk}, HRel h hp -> clL2 f h cs = some (cs', h') -> ∃ hp', HRel h' hp' /\ clL f' hp cs = some (cs', hp')
 | [], cs', h, h', hp, r, e => by simp [clL2] at e; obtain ⟨rfl, rfl⟩ := e; exact ⟨hp, r, rfl⟩
 | x :: t, cs', h, h', hp, r, e => by
  simp only [clL2] at e
  split at e
  ·rename_i x1 h1 e1
   split at e
   ·rename_i t2 h2 e2
    cases e
    obtain ⟨hp1, r1, g1⟩ := hf r e1
    obtain ⟨hp2, r2, g2⟩ := xHc (f := f) (f' := f') @hf r1 e2
    exact ⟨hp2, r2, by simp only [clL, g1, g2]⟩
   ·cases e
  ·cases e
theorem xHd {h h' : HT} {x x' : SV} {hp : List Blk} (r : HRel h hp) (e : clS2 h x = some (x', h')) : ∃ hp', HRel h' hp' /\ clS hp x = some (x', hp') := by
 unfold clS2 at e
 split at e
 ·rename_i hc; cases e; exact ⟨hp, r, by simp [clS, hc]⟩
 ·cases e
theorem xFa : ∀ (n : Nat) {h h' : HT} {x x' : SV} {hp : List Blk}, HRel h hp -> clW n h x = some (x', h') -> ∃ hp', HRel h' hp' /\ clV n hp x = some (x', hp')
 | 0, h, h', x, x', hp, r, e => xHd r e
 | n + 1, h, h', x, x', hp, r, e => by
  have hL := @xHc (clW n) (clV n) (fun r e => xFa n r e)
  simp only [clW, HT.set_eq, r.g] at e
  simp only [clV]
  split at e
  ·rename_i l
   split at e
   ·rename_i k t xs hg
    cases e
    simp only [hg]
    exact ⟨_, r.set _ (r.lt (b := .oi k t xs) (by rw [r.g]; exact hg) (by simp)), rfl⟩
   ·rename_i t sz len f hg
    cases e
    simp only [hg]
    exact ⟨_, r.set _ (r.lt (b := .orw t sz len f) (by rw [r.g]; exact hg) (by simp)), rfl⟩
   ·rename_i y hg
    simp only [hg]; exact xHd r e
   ·cases e
  ·split at e
   ·rename_i cs' h1 e1; cases e; obtain ⟨hp1, r1, g1⟩ := hL r e1; simp only [g1]; exact ⟨hp1, r1, rfl⟩
   ·cases e
  ·split at e
   ·rename_i cs' h1 e1; cases e; obtain ⟨hp1, r1, g1⟩ := hL r e1; simp only [g1]; exact ⟨hp1, r1, rfl⟩
   ·cases e
  ·split at e
   ·rename_i cs' h1 e1; cases e; obtain ⟨hp1, r1, g1⟩ := hL r e1; simp only [g1]; exact ⟨hp1, r1, rfl⟩
   ·cases e
  ·split at e
   ·rename_i y h1 e1; cases e; obtain ⟨hp1, r1, g1⟩ := xFa n r e1; simp only [g1]; exact ⟨hp1, r1, rfl⟩
   ·cases e
  ·split at e
   ·rename_i y h1 e1; cases e; obtain ⟨hp1, r1, g1⟩ := xFa n r e1; simp only [g1]; exact ⟨hp1, r1, rfl⟩
   ·cases e
  ·rename_i l off
   split at e
   ·rename_i t cs hg
    simp only [hg]
    split at e
    ·rename_i cs' h1 e1
     obtain ⟨hp1, r1, g1⟩ := hL r e1
     simp only [g1]
     rw [r1.g] at e
     split at e
     ·rename_i t' cs'' hg'
      cases e
      simp only [hg']
      exact ⟨_, r1.set _ (r1.lt (b := .box t' cs'') (by rw [r1.g]; exact hg') (by simp)), rfl⟩
     ·cases e
    ·cases e
   ·rename_i t cs hg
    simp only [hg]
    split at e
    ·rename_i hc; cases e; simp only [hc]; exact ⟨hp, r, rfl⟩
    ·cases e
   ·cases e
  ·rename_i l len
   split at e
   ·rename_i t cs hg
    simp only [hg]
    split at e
    ·rename_i cs' h1 e1
     obtain ⟨hp1, r1, g1⟩ := hL r e1
     simp only [g1]
     rw [r1.g] at e
     split at e
     ·rename_i t' cs'' hg'
      have hs := r1.set (.fbox t' cs') (r1.lt (b := .box t' cs'') (by rw [r1.g]; exact hg') (by simp))
      simp only [hg']
      split at e
      ·rename_i k xs hxs
       simp only [hxs]
       split at e
       ·rename_i hle; cases e; simp only [hle]; exact ⟨_, hs, rfl⟩
       ·rename_i hle
        split at e
        ·rename_i hle2; cases e; simp only [hle, hle2]; exact ⟨_, hs, rfl⟩
        ·cases e
      ·rename_i hxs
       simp only [hxs]
       split at e
       ·rename_i hle; cases e; simp only [hle]; exact ⟨_, hs, rfl⟩
       ·cases e
     ·cases e
    ·cases e
   ·cases e
  ·cases e; exact ⟨hp, r, rfl⟩
  ·cases e; exact ⟨hp, r, rfl⟩
  ·rename_i l
   split at e
   ·rename_i es hg
    simp only [hg]
    split at e
    ·rename_i hcl
     cases e
     simp only [hcl]
     exact ⟨_, r.set _ (r.lt (b := .ob (.mp es)) (by rw [r.g]; exact hg) (by simp)), rfl⟩
    ·rename_i hcl
     split at e <;> first | (cases e; done) | skip
     rename_i hck
     split at e <;> first | (cases e; done) | skip
     rename_i vs h1 e1
     obtain ⟨hp1, r1, g1⟩ := hL r e1
     rw [r1.g] at e
     split at e <;> first | (cases e; done) | skip
     rename_i es1 hg1
     cases e
     rw [hcl]
     simp only [hck, g1, hg1]
     exact ⟨_, r1.set _ (r1.lt (b := .ob (.mp es1)) (by rw [r1.g]; exact hg1) (by simp)), rfl⟩
   ·cases e
  ·cases x with
   | lb k l => cases k <;> first | exact xHd r e | (exfalso; simp_all; done)
   | mv f a b => exact absurd e (by simp [clS2, clo])
   | _ => first | exact xHd r e | (exfalso; simp_all; done)
def dfsOf (E : Env) (ds : List Nat) : List Deferred := ds.map fun l => { target := .collected (E.blk l), args := #[] }
theorem xEj {E E' : Env} (h : E.Le E') {ds : List Nat} (hd : ∀ l ∈ ds, E.has l) : dfsOf E' ds = dfsOf E ds := by
 unfold dfsOf
 exact List.map_congr_left fun l hl => by rw [h.blk l (hd l hl)]
theorem xNo {α : Type} {k : HT -> Option α} {res : α} {P : Program} : ∀ {ds : List Nat} {h : HT} {hp : List Blk}, HRel h hp -> clsD ds h k = some res -> ∃ h' hp', HRel h' hp' /\ Frm h h' /\ k h' = some res /\
  ∀ (E : Env) (n : Nat) (fn : Func) (tmps : Array Value) (R : Ending -> World -> Prop), RHp E hp -> (∀ l ∈ ds, E.has l) -> (∀ E', E.Le E' -> RHp E' hp' -> LeavesIn Fence.wide n P fn tmps R [] .returning E'.w) -> LeavesInM Fence.wide n P fn tmps R (dfsOf E ds) .returning E.w
 | [], h, hp, r, e => ⟨h, hp, r, .refl h, e, fun E n fn tmps R hr _ hq => hq E (.refl E) hr⟩
 | l :: t, h, hp, r, e => by
  simp only [clsD, HT.set_eq, r.g] at e
  split at e <;> first | (cases e; done) | skip
  rename_i hg
  have hlt := r.lt (b := .ob .df) (by rw [r.g]; exact hg) (by simp)
  obtain ⟨h', hp', r', hf, hk, hh⟩ := xNo (r.set (.ob .dn) hlt) e
  refine ⟨h', hp', r', (Frm.set r.f _ hlt).trans hf, hk, fun E n fn tmps R hr hds hq => ?_⟩
  have hget := xAa hg (by simp)
  have hobj : E.w.heap[E.blk l]? = some (.deferred (some [])) := hr.b.blk l _ hget
  obtain ⟨h1, h2⟩ := xDa (o2 := .dn) (obj' := .deferred none) hr hget hobj rfl rfl (by
   show (E.w.putObj (E.blk l) _).heap[E.blk l]? = _
   exact World.putObj_heap_same (Array.getElem?_eq_some_iff.1 hobj).1)
  refine ⟨by simp, .inl ⟨E.blk l, _, rfl, run_takeDeferred hobj, ?_⟩⟩
  have := hh (E.to (E.w.putObj (E.blk l) (.deferred none))) n fn tmps R h1 (fun l hl => h2.has l (hds l (List.mem_cons_of_mem _ hl))) (fun E' hle hr' => hq E' (h2.trans hle) hr')
  rw [xEj h2 (fun l hl => hds l (List.mem_cons_of_mem _ hl))] at this
  exact this
theorem xJw {fr : List SV} {hp : List Blk} : ∀ rs : List RV, rdRB fr (gb hp) rs = rdR ⟨fr, hp⟩ rs
 | [] => rfl
 | .t n :: l => by simp only [rdRB, rdR, xJw l]; rfl
 | .c n sz :: l => by simp only [rdRB, rdR, xJw l]; rfl
structure St2 (E : Env) (hp : List Blk) (fr : List SV) (ds : List Nat) (a : Act) : Prop where
 fr : Rvs E fr a.tmps.toList
 hp : RHp E hp
 df : a.defers = dfsOf E ds
 ds : ∀ l ∈ ds, E.has l
def RdOk (E : Env) : Option Nat -> Option Nat -> Prop
 | none, ro => ro = none
 | some l, ro => E.has l /\ ro = some (E.blk l)
theorem RdOk.le {E E' : Env} (h : E.Le E') {rd ro : Option Nat} (hr : RdOk E rd ro) : RdOk E' rd ro := by
 cases rd with
 | none => exact hr
 | some l => exact ⟨h.has l hr.1, by rw [h.blk l hr.1]; exact hr.2⟩
theorem St2.of {E E' : Env} {hp hp' : List Blk} {fr fr' : List SV} {ds : List Nat} {a a' : Act} (h : St2 E hp fr ds a) (hle : E.Le E') (hr : RHp E' hp') (hf : Rvs E' fr' a'.tmps.toList) (hd : a'.defers = a.defers) : St2 E' hp' fr' ds a' :=
 ⟨hf, hr, by rw [hd, h.df, xEj hle h.ds], fun l hl => hle.has l (h.ds l hl)⟩
def xt : XT -> Exit
 | .nm => .normal
 | .rt => .ret
 | .ex id => .exit id
def InL (F : Fence) (n : Nat) (P : Program) (c : Code) (Q : Exit -> Act -> World -> Prop) (a : Act) (w : World) : Prop :=
 ∀ (b : Frame) (k : List Item) (cs : List Frame), b.roundOf = F.round -> F.fn b.fn -> F.room (cs.length + 1 + n) ->
  ∃ e a' w', Q e a' w' /\ ArrivesIn (Machine.fenced P F) P (lone (b.atR a (.code c :: .inLoop c :: k)) cs w) b k cs e a' w'
theorem xPs {F : Fence} {n : Nat} {P : Program} {c : Code} {Q : Exit -> Act -> World -> Prop} {a : Act} {w : World} (h : InL F n P c Q a w) : (Code.loop c).wpIn F n P Q a w := by
 intro b k cs hro hb hr
 obtain ⟨e, a', w', hq, harr⟩ := h b k cs hro hb hr
 exact ⟨e, a', w', hq, .of_steps (.one (fenced_calm hb hr rfl) stepR_loop) harr⟩
theorem xHe {F : Fence} {n : Nat} {P : Program} {c : Code} {Q : Exit -> Act -> World -> Prop} {a : Act} {w : World} (h : c.wpIn F n P (Exit.then (fun a' w' => InL F n P c Q a' w') Q) a w) : InL F n P c Q a w := by
 intro b k cs hro hb hr
 obtain ⟨e, a₁, w₁, hq, harr⟩ := h b (.inLoop c :: k) cs hro hb hr
 cases e with
 | normal =>
  obtain ⟨e₂, a₂, w₂, hq₂, harr₂⟩ := hq b k cs hro hb hr
  exact ⟨e₂, a₂, w₂, hq₂, .of_steps (StepsIn.trans harr (.one (fenced_calm hb hr rfl) stepR_inLoop)) harr₂⟩
 | exit id => exact ⟨_, a₁, w₁, hq, .pass (x := .inLoop c) rfl (fun _ _ => .inl (by simp)) harr⟩
 | goto l => exact ⟨_, a₁, w₁, hq, .pass (x := .inLoop c) rfl (fun _ _ => .inl (by simp)) harr⟩
 | ret => exact ⟨_, a₁, w₁, hq, .pass (x := .inLoop c) rfl (fun _ _ => .inl (by simp)) harr⟩
 | panic ch => exact ⟨_, a₁, w₁, hq, .pass (x := .inLoop c) rfl (fun _ _ => .inl (by simp)) harr⟩
 | outgrown => exact ⟨_, a₁, w₁, hq, .pass (x := .inLoop c) rfl (fun _ _ => .inl (by simp)) harr⟩
def RunOk (P : Program) (rn : Rn) : Prop :=
 ∀ rd c fr ds h r, rn rd c fr ds h = some r -> ∀ hp, HRel h hp -> ∃ hp', HRel r.h hp' /\ Frm h r.h /\
  (∀ code E a ro n Q, cK P code = some c -> OkE P E -> St2 E hp fr ds a -> RdOk E rd ro -> (∀ E' a', E.Le E' -> St2 E' hp' r.fr r.ds a' -> Q (xt r.e) a' E'.w) -> code.wpIn (fen ro) n P Q a E.w) /\
  (∀ code E a ro n Q c0, c = .loop c0 -> cK P code = some c0 -> OkE P E -> St2 E hp fr ds a -> RdOk E rd ro -> (∀ E' a', E.Le E' -> St2 E' hp' r.fr r.ds a' -> Q (xt r.e) a' E'.w) -> InL (fen ro) n P code Q a E.w)
def TabR (P : Program) (T : Nat -> Option Fdn) : Prop :=
 ∀ f d, T f = some d -> ∃ fn c, P.funcs[f]? = some fn /\ fn.name ≠ "runtime.NumGoroutine" /\ fn.body = some c /\ cK P c = some d.sc /\ cR P fn.results.toList = some d.rs /\ fn.ntmps = d.nt /\ ∀ p, p ∈ d.kn -> PureOk P f (fun as K => as = p.1 /\ K p.2)
theorem xDc {P : Program} {T : Nat -> Option Fdn} (hT : TabR P T) {rn : Rn} (hrn : RunOk P rn) {f : Nat} {args : List SV} {h h' : HT} {x : SV} (e : fnF T rn f args h = some (x, h')) {hp : List Blk} (r : HRel h hp) :
  ∃ hp', HRel h' hp' /\ Frm h h' /\ Known P f /\ ∀ E vs, OkE P E -> RHp E hp -> Rvs E args vs -> Calls P f vs.toArray E.w fun e w' => ∃ v, e = .returned v /\ ∃ E', E'.w = w' /\ E.Le E' /\ RHp E' hp' /\ Rv E' x v := by
 unfold fnF at e
 split at e <;> first | (cases e; done) | skip
 rename_i sc rs nt _ _ hTf
 obtain ⟨fn, c, hf, hnm, hb, hc, hrs, hnt, _⟩ := hT f _ hTf
 have go : ∀ (re : XT) (fr : List SV) (ds : List Nat) (h1 : HT), (re = .nm \/ re = .rt) -> rn none sc (mkfr args nt) [] h = some ⟨re, fr, ds, h1⟩ -> retF rs fr ds h1 = some (x, h') ->
   ∃ hp', HRel h' hp' /\ Frm h h' /\ Known P f /\ ∀ E vs, OkE P E -> RHp E hp -> Rvs E args vs -> Calls P f vs.toArray E.w fun e w' => ∃ v, e = .returned v /\ ∃ E', E'.w = w' /\ E.Le E' /\ RHp E' hp' /\ Rv E' x v := by
  intro re fr ds h1 hre hrun hret
  obtain ⟨hp1, r1, f1, hh, _⟩ := hrn none sc _ _ h _ hrun hp r
  unfold retF at hret
  obtain ⟨h2, hp2, r2, f2, hk, hl⟩ := xNo (P := P) r1 hret
  split at hk <;> first | (cases hk; done) | skip
  rename_i ys hys
  cases hk
  rw [r2.g, xJw] at hys
  refine ⟨hp2, r2, f1.trans f2, ⟨fn, hf, hnm, by rw [hb]; simp⟩, fun E vs hok hr ha => ?_⟩
  refine (callsIn_wide (n := 0)).1 (callsIn_of_wp_marks (F := Fence.wide) hf hb trivial ?_ rfl)
  refine hh c E _ none 0 _ hc hok ⟨?_, hr, rfl, fun l hl => by cases hl⟩ rfl ?_
  ·have := xHk (E := E) fn.ntmps ha
   have hnt : fn.ntmps = nt := hnt
   rw [<- hnt]
   simpa using this
  intro E' a' hle hs
  have fin : LeavesInM Fence.wide 0 P fn a'.tmps (fun e w' => ∃ v, e = .returned v /\ ∃ E', E'.w = w' /\ E.Le E' /\ RHp E' hp2 /\ Rv E' (tupled ys) v) a'.defers .returning E'.w := by
   rw [hs.df]
   refine hl E' 0 fn a'.tmps _ hs.hp hs.ds fun E2 hle2 hr2 => ?_
   obtain ⟨v, g1, g2⟩ := xGa (P := P) (E := E2.wdf a'.defers) (s := ⟨fr, hp2⟩) (a := a') ⟨(hs.fr.mono hle2).mono0 (E2.wdf_le0 _), hr2.wdf _, rfl⟩ hrs hys
   exact ⟨v, g1, v, rfl, E2, rfl, hle.trans hle2, hr2, g2.mono0 ((E2.wdf a'.defers).wdf_le0 E2.df)⟩
  rcases hre with rfl | rfl
  ·exact fin
  ·exact fin
 split at e
 ·rename_i fr ds h1 hrun; exact go .nm fr ds h1 (.inl rfl) hrun e
 ·rename_i fr ds h1 hrun; exact go .rt fr ds h1 (.inr rfl) hrun e
 ·cases e
end Go.Vg
