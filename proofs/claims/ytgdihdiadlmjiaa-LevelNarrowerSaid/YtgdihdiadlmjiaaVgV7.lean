import Derived.Test.YtgdihdiadlmjiaaVgV6
set_option linter.all false
namespace Go.Vg
open Go
def inb (n : Nat) : Nat -> SV -> Bool
 | _, .ptr l _ | _, .ep l _ _ _ | _, .own l | _, .bsl l _ | _, .bso l _ _ _ | _, .lb _ l => decide (l < n)
 | k + 1, .agg cs | k + 1, .tup cs | k + 1, .fn _ cs => inbs k cs
 | k + 1, .mv _ a b => inbs k a && inbs k b
 | k + 1, .ifc _ x | k + 1, .mm _ x => inb n k x
 | _, .agg _ | _, .tup _ | _, .fn .. | _, .ifc .. | _, .mm .. | _, .mv .. => false
 | _, _ => true
where inbs (k : Nat) : List SV -> Bool
 | [] => true
 | x :: t => inb n k x && inbs k t
theorem inb_ok {E E' : Env} {n : Nat} (hn : ∀ l, l < n -> E.has l -> E'.has l) (hb : ∀ l, l < n -> E'.blk l = E.blk l) (hv : ∀ l, l < n -> E'.val l = E.val l) (hl : ∀ l, l < n -> E'.live l -> E.live l) (hw : E'.w = E.w) (hi : E'.im = E.im) :
  ∀ (k : Nat) {x : SV} {v : Value}, inb n k x = true -> Rv E x v -> Rv E' x v := by
 intro k
 induction k with
 | zero =>
  intro x v h hx
  cases hx with
  | ptr l off h0 =>
   have h : l < n := by simpa [inb] using h
   rw [<- hb l h]; exact .ptr l off (hn l h h0)
  | ep l sz i off h0 =>
   have h : l < n := by simpa [inb] using h
   rw [<- hb l h]; exact .ep l sz i off (hn l h h0)
  | bsl l len h0 =>
   have h : l < n := by simpa [inb] using h
   rw [<- hb l h]; exact .bsl l len (hn l h h0)
  | bso l off len cap h0 =>
   have h : l < n := by simpa [inb] using h
   rw [<- hb l h]; exact .bso l off len cap (hn l h h0)
  | own l v h0 h1 h2 =>
   have h : l < n := by simpa [inb] using h
   exact .own l v (hn l h h0) h1 fun hx => by rw [hv l h]; exact h2 (hl l h hx)
  | rp _ _ _ h => exact .rp _ _ _ (by rw [hw, hi]; exact h)
  | ints _ _ _ h => exact .ints _ _ _ (by rw [hw, hi]; exact h)
  | clip _ _ _ h => exact .clip _ _ _ (by rw [hw, hi]; exact h)
  | clipr _ _ _ _ h => exact .clipr _ _ _ _ (by rw [hw, hi]; exact h)
  | rd _ _ _ _ h => exact .rd _ _ _ _ (by rw [hw, hi]; exact h)
  | cm _ _ _ h => exact .cm _ _ _ (by rw [hw, hi]; exact h)
  | lb kk l h0 =>
   have h : l < n := by simpa [inb] using h
   rw [<- hb l h]; exact .lb kk l (hn l h h0)
  | agg _ _ _ | tup _ _ _ | fn _ _ _ _ | ifc _ _ _ _ | mm _ _ _ _ | mv _ _ _ _ _ _ _ => simp [inb] at h
  | lit v => exact .lit v
  | int k n => exact .int k n
  | bool b => exact .bool b
  | any v => exact .any v
 | succ k ih =>
  have hs : ∀ {xs : List SV} {vs : List Value}, inb.inbs n k xs = true -> Rvs E xs vs -> Rvs E' xs vs := by
   intro xs
   induction xs with
   | nil => intro vs _ h; cases h; exact .nil
   | cons x xs ihs =>
    intro vs h hr
    cases hr with
    | cons _ v _ vs hx hr =>
     simp only [inb.inbs, Bool.and_eq_true] at h
     exact .cons _ _ _ _ (ih h.1 hx) (ihs h.2 hr)
  intro x v h hx
  cases hx with
  | ptr l off h0 =>
   have h : l < n := by simpa [inb] using h
   rw [<- hb l h]; exact .ptr l off (hn l h h0)
  | ep l sz i off h0 =>
   have h : l < n := by simpa [inb] using h
   rw [<- hb l h]; exact .ep l sz i off (hn l h h0)
  | bsl l len h0 =>
   have h : l < n := by simpa [inb] using h
   rw [<- hb l h]; exact .bsl l len (hn l h h0)
  | bso l off len cap h0 =>
   have h : l < n := by simpa [inb] using h
   rw [<- hb l h]; exact .bso l off len cap (hn l h h0)
  | own l v h0 h1 h2 =>
   have h : l < n := by simpa [inb] using h
   exact .own l v (hn l h h0) h1 fun hx => by rw [hv l h]; exact h2 (hl l h hx)
  | rp _ _ _ h => exact .rp _ _ _ (by rw [hw, hi]; exact h)
  | ints _ _ _ h => exact .ints _ _ _ (by rw [hw, hi]; exact h)
  | clip _ _ _ h => exact .clip _ _ _ (by rw [hw, hi]; exact h)
  | clipr _ _ _ _ h => exact .clipr _ _ _ _ (by rw [hw, hi]; exact h)
  | rd _ _ _ _ h => exact .rd _ _ _ _ (by rw [hw, hi]; exact h)
  | cm _ _ _ h => exact .cm _ _ _ (by rw [hw, hi]; exact h)
  | lb kk l h0 =>
   have h : l < n := by simpa [inb] using h
   rw [<- hb l h]; exact .lb kk l (hn l h h0)
  | mv f a b us vs h1 h2 =>
   simp only [inb, Bool.and_eq_true] at h
   exact .mv _ _ _ _ _ (hs h.1 h1) (hs h.2 h2)
  | agg cs vs h' => exact .agg _ _ (hs h h')
  | tup cs vs h' => exact .tup _ _ (hs h h')
  | fn f cs vs h' => exact .fn _ _ _ (hs h h')
  | ifc t x v h' => exact .ifc _ _ _ (ih h h')
  | mm m x v h' => exact .mm _ _ _ (ih h h')
  | lit v => exact .lit v
  | int k n => exact .int k n
  | bool b => exact .bool b
  | any v => exact .any v
def news : List Blk -> Prop
 | [] => True
 | .oi _ _ xs :: t => xs = [] /\ news t
 | .orw _ _ len _ :: t => len = 0 /\ news t
 | .dead :: t => news t
 | _ => False
section
variable {E : Env} {n1 n2 : Nat}
def Env.cut (E : Env) (n1 n2 : Nat) : Env :=
 { E with n := n2, rs := fun l => l < n1 /\ E.rs l, val := fun l => if l < n1 then E.val l else .slice none 0 0, live := fun l => n1 <= l \/ E.live l }
end
def Nx {G : Type} (N : Nat) (I : G -> St) (p : G -> Prop) (m : G -> Nat) (n : Nat) (s : St) : Prop :=
 ∃ k s'', k < n /\ Lw N s s'' /\ ∃ g, p g /\ m g = k /\ s'' = I g
theorem Nx.mk {G : Type} {N : Nat} {I : G -> St} {p : G -> Prop} {m : G -> Nat} {n : Nat} {s : St} (g : G) (hp : p g) (hm : m g < n) (hl : Lw N s (I g)) : Nx N I p m n s := ⟨m g, I g, hm, hl, g, hp, rfl, rfl⟩
theorem xMn {G : Type} {N : Nat} {body : (Exit -> St -> Prop) -> St -> Prop} {K : Exit -> St -> Prop} {s : St} (I : G -> St) (p : G -> Prop) (m : G -> Nat) (g0 : G) (h0 : p g0) (hw : Lw N s (I g0))
  (hr : ∀ g, p g -> body (loopK K (Nx N I p m (m g))) (I g)) : LoopP N body K s :=
 ⟨fun n s => ∃ g, p g /\ m g = n /\ s = I g, ⟨m g0, I g0, hw, g0, h0, rfl, rfl⟩, by
  rintro n s ⟨g, hp, rfl, rfl⟩
  exact hr g hp⟩
end Go.Vg
