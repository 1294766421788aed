import Derived.Test.YtplldhepmmjmmaaVgV10
namespace Go.Vg
open Go
set_option linter.unusedVariables false
set_option linter.unusedSimpArgs false
theorem frozen_alloc {w : World} {o : Obj} (h : o.isCells = false) (a : Addr) : (w.alloc o).frozen? a = w.frozen? a := by
 rcases Nat.lt_trichotomy a.block w.heap.size with hlt | heq | hgt
 ·exact World.frozen?_of_block (heap_alloc_old w o hlt)
 ·have hn := World.alloc_heap_new w o
  rw [frozen_none (w := w) (fun c t f e => by rw [heq] at e; simp at e), frozen_none (fun c t f e => by rw [heq, hn] at e; cases e; simp [Obj.isCells] at h)]
 ·rw [frozen_none (w := w) (fun c t f e => by have := (Array.getElem?_eq_some_iff.1 e).1; omega), frozen_none (fun c t f e => by have := (Array.getElem?_eq_some_iff.1 e).1; rw [World.size_alloc] at this; omega)]
section
variable {E : Env} {hp : List Blk}
theorem put_ob (h : RHp E hp) {l : Nat} {o o2 : OB} (hl : hp[l]? = some (.ob o)) {obj obj' : Obj} (hobj : E.w.heap[E.blk l]? = some obj) (hc : obj.isCells = false) (hc' : obj'.isCells = false)
  (hnew : Rob (E.to (E.w.putObj (E.blk l) obj')) l o2) : RHp (E.to (E.w.putObj (E.blk l) obj')) (sb hp l (.ob o2)) ∧ E.Le (E.to (E.w.putObj (E.blk l) obj')) :=
 h.set (b0 := .ob o) (newb := .ob o2) (g0 := E.blk l) hl rfl (grownBy_putObj' _ _ _) (frozen_put hobj hc hc') hnew rfl
theorem push_ob (h : RHp E hp) {obj : Obj} (hc : obj.isCells = false) {o : OB} (hnew : Rob (E.push (E.w.alloc obj) E.w.heap.size undef) E.n o) :
  RHp (E.push (E.w.alloc obj) E.w.heap.size undef) (pb hp (.ob o)) ∧ E.Le (E.push (E.w.alloc obj) E.w.heap.size undef) :=
 h.push (newb := .ob o) (alloc_grown _ _) (frozen_alloc hc) hnew (fun g hg => by simp [Blk.at, Env.push] at hg; omega)
end
def setL : List SV → List Nat → List SV → List SV
 | fr, p :: ps, x :: xs => setL (st fr p x) ps xs
 | fr, _, _ => fr
theorem setL_rv {E : Env} : ∀ {ps : List Nat} {fr xs : List SV} {us vs : List Value}, Rvs E fr us → Rvs E xs vs → Rvs E (setL fr ps xs) ((ps.zip vs).foldl (fun t p => t.set p.1 p.2) us)
 | [], fr, xs, us, vs, h, k => by simpa [setL] using h
 | p :: ps, fr, [], us, [], h, .nil => by simpa [setL] using h
 | p :: ps, fr, x :: xs, us, v :: vs, h, .cons _ _ _ _ hx k => by
  simp only [setL, List.zip_cons_cons, List.foldl_cons]
  exact setL_rv (h.st p hx) k
theorem fold_tmps (l : List (Nat × Value)) : ∀ (t : Array Value), (l.foldl (fun t (p : Nat × Value) => t.setIfInBounds p.1 p.2) t).toList = l.foldl (fun t p => t.set p.1 p.2) t.toList := by
 induction l with
 | nil => intro t; rfl
 | cons x l ih => intro t; simp only [List.foldl_cons]; rw [ih, Array.toList_setIfInBounds]
theorem zip_fold (ps : List Nat) (vs us : List Value) : ((ps.toArray.zip vs.toArray).foldl (fun tmps (t, a) => tmps.setIfInBounds t a) us.toArray).toList = (ps.zip vs).foldl (fun t p => t.set p.1 p.2) us := by
 have := fold_tmps (ps.zip vs) us.toArray
 simpa using this
theorem ln_pb : ∀ (hp : List Blk) (b : Blk), ln (pb hp b) = ln hp + 1
 | [], _ => rfl
 | _ :: t, b => by simp only [pb, ln, ln_pb t b]
theorem ln_sb : ∀ (hp : List Blk) (l : Nat) (b : Blk), ln (sb hp l b) = ln hp
 | [], _, _ => rfl
 | _ :: _, 0, _ => rfl
 | _ :: t, l + 1, b => by simp only [sb, ln, ln_sb t l b]
section
variable {P : Program} {Γ : Gm} {Γq : Nat → Option FC} (hΓ : GmOk P Γ) (hG : ∀ f C, Γ f = some C → Known P f) (hΓq : ∀ f F, Γq f = some F → FcOk P f F) (hGq : ∀ f F, Γq f = some F → Known P f)
include hΓ hG hΓq hGq
end
end Go.Vg
