import Derived.WalkKit
import Derived.CallsIn
import Derived.TacticsIn
import Derived.RowKit3
set_option linter.all false
namespace Go.Vg
open Go
inductive LK where
 | mp
 | yl
def LK.val : LK -> Nat -> Value
 | .mp, b => .map (some b)
 | .yl, b => .func (.yield b) #[] #[]
inductive SV where
 | lit (v : Value)
 | int (k : IntKind) (n : Int)
 | bool (b : Bool)
 | ptr (l off : Nat)
 | ep (l sz i off : Nat)
 | rp (cs : List SV) (off : Nat)
 | agg (cs : List SV)
 | tup (cs : List SV)
 | fn (f : Nat) (caps : List SV)
 | ifc (t : Nat) (x : SV)
 | ints (k : IntKind) (xs : List Int)
 | rd (sz len : Nat) (f : Nat -> List SV)
 | clip (k : IntKind) (xs : List Int)
 | clipr (sz len : Nat) (f : Nat -> List SV)
 | own (l : Nat)
 | bsl (l len : Nat)
 | bso (l off len cap : Nat)
 | lb (k : LK) (l : Nat)
 | mv (f : Nat) (first caps : List SV)
 | cm (ks vs : List SV)
 | mm (m : String) (x : SV)
 | any
inductive X where
 | t (n : Nat)
 | c (x : SV)
inductive VOp where
 | mov (x : X)
 | pick (c a b : X)
 | bin (op : BinOp) (x y : X)
 | binb (op : BinOp) (x y : X)
 | neg (x : X)
 | not (x : X)
 | conv (k : IntKind) (x : X)
 | ifc (t : Nat) (x : X)
 | mkfn (f : Nat) (caps : List X)
 | mkmv (f : Nat) (first caps : List X)
 | off (x : X) (k : Nat)
 | fld (x : X) (off : Nat) (n : Option Nat)
 | ixa (x i : X) (sz : Nat)
 | ixarr (x i : X) (len sz : Nat)
 | ixv (x i : X) (len sz : Nat) (n : Option Nat)
 | load (x : X) (n : Option Nat)
 | len (x : X)
 | ext (x : X) (i : Nat)
 | slc (x : X) (lo hi mx : Option X) (sz : Nat)
 | max2 (x y : X)
 | min2 (x y : X)
 | mx3 (mn : Bool) (x y z : X)
 | eqs (ks : List (Option IntKind)) (ng : Bool) (x y : X)
 | isnil (ng : Bool) (x : X)
 | mkmm (m : String) (x : X)
 | strl (x : X)
 | nckv (x : X)
 | stri (x i : X)
 | strb (op : BinOp) (x y : X)
inductive Op1 where
 | v (o : VOp)
 | new (t : Nat) (z : List SV)
 | box (t : Nat) (x : X)
 | bsl (e len : Nat) (z : List SV) (parts : List (Nat × Nat × X))
 | bld (z : List SV) (parts : List (Nat × Nat × X))
 | store (sz : Nat) (x v : X)
 | app (e sz bytes : Nat) (s x : X)
 | call (f : X) (args : List X)
 | inv (mt : List (Nat × Nat)) (x : X) (args : List X)
 | slc (x : X) (lo hi mx : Option X) (sz : Nat)
 | mki (t : Nat) (k : IntKind) (len cap : X)
 | emp (sz : Nat)
 | nck (x : X)
structure Opr where
 d : Option Nat
 g : Option (Nat × Bool)
 o : Op1
inductive DT where
 | leaf
 | stop
 | op (o : Opr) (sub sib : DT)
inductive SC where
 | tre (t : DT)
 | skip
 | reg (ops : List Opr)
 | drw (hs : List (Nat × Opr × Bool)) (cre : Option Opr) (tl : List Opr)
 | seq (a b : SC)
 | cond (c : X) (a b : SC)
 | block (id : Nat) (c : SC)
 | loop (c : SC)
 | exit (id : Nat)
 | ret
 | shut (ds : List Nat) (c : SC)
 | scp (c : SC)
 | sem (c : Code)
inductive KK where
 | w (ks : List (Option IntKind))
 | i (q : IntKind)
 | b
 | s
inductive E1 where
 | bad
 | mnil (ng : Bool)
 | tas (t : Nat)
 | lenm
 | capn
 | cln
 | sla (n sz : Nat)
inductive Op2 where
 | o (o : Op1)
 | msl (e sz : Nat) (z : List SV) (len cap : X)
 | spr (e sz bytes : Nat) (s x : X)
 | mkm
 | lku (kk : KK) (z : SV) (ok : Bool) (m k : X)
 | upd (kk : KK) (m k v : X)
 | nck (x : X)
 | mkmv (f : Nat) (first caps : List X)
 | bs0 (sz : Nat)
 | slb (x : X) (lo hi : Option X) (sz : Nat)
 | cpy (sz : Nat) (x y : X)
 | e1 (o : E1) (x : X)
structure Opq where
 d : Option Nat
 g : Option (Nat × Bool)
 o : Op2
inductive Kd where
 | val (k : Nat) (cs : List Nat)
 | cre (j : Nat)
 | eff (c : Nat) (cs : List Nat)
 | pur
 | prd (ps : List Nat)
 | efs (c : Nat) (cs ls : List Nat)
structure Drp where
 sh : List Nat
 m : Nat
 ne : Nat
 hs : List (Opq × Kd)
 cs : List Nat
 tl : List Opq
 fl : Option Nat
inductive RC where
 | skip
 | reg (ops : List Opq)
 | drw (ps : List Drp)
 | seq (a b : RC)
 | cond (c : X) (a b : RC)
 | block (id : Nat) (c : RC)
 | loop (c : RC)
 | exit (id : Nat)
 | ret
 | scp (c : RC)
 | rng (f : X) (ps : List Nat) (a b : RC)
structure Env where
 w : World
 im : Nat -> Prop
 n : Nat
 rs : Nat -> Prop
 blk : Nat -> Nat
 val : Nat -> Value
 live : Nat -> Prop
 W : World
 M : Nat -> Prop
 im0 : Nat -> Prop
 df : List Deferred
 n0 : Nat := 0
 ok : Code -> RC -> Prop
mutual
inductive Cv (w : World) (im : Nat -> Prop) : SV -> Value -> Prop
 | lit (v : Value) : Cv w im (.lit v) v
 | int (k : IntKind) (n : Int) : Cv w im (.int k n) (.int k n)
 | bool (b : Bool) : Cv w im (.bool b) (.bool b)
 | rp (cs : List SV) (vs : List Value) (off b base : Nat) : Cvs w im cs vs -> im b -> (∀ j v, vs[j]? = some v -> w.cell? ⟨b, base + j, none⟩ = some v) ->
   Cv w im (.rp cs off) (.pointer (some ⟨b, base + off, none⟩))
 | agg (cs : List SV) (vs : List Value) : Cvs w im cs vs -> Cv w im (.agg cs) (.agg vs.toArray)
 | tup (cs : List SV) (vs : List Value) : Cvs w im cs vs -> Cv w im (.tup cs) (.tuple vs.toArray)
 | fn (f : Nat) (caps : List SV) (vs : List Value) : Cvs w im caps vs -> Cv w im (.fn f caps) (.func (.func f) #[] vs.toArray)
 | ifc (t : Nat) (x : SV) (v : Value) : Cv w im x v -> Cv w im (.ifc t x) (.iface t v)
 | intsNil (k : IntKind) : Cv w im (.ints k []) (.slice none 0 0)
 | intsE (k : IntKind) (a : Addr) (cap : Nat) : Cv w im (.ints k []) (.slice (some a) 0 cap)
 | ints (k : IntKind) (xs : List Int) (b off cap : Nat) : im b -> (∀ j x, xs[j]? = some x -> w.cell? ⟨b, off + j, none⟩ = some (.int k x)) -> xs.length <= cap ->
   Cv w im (.ints k xs) (.slice (some ⟨b, off, none⟩) xs.length cap)
 | clipNil (k : IntKind) : Cv w im (.clip k []) (.slice none 0 0)
 | clipE (k : IntKind) (a : Addr) : Cv w im (.clip k []) (.slice (some a) 0 0)
 | clip (k : IntKind) (xs : List Int) (b off : Nat) : im b -> (∀ j x, xs[j]? = some x -> w.cell? ⟨b, off + j, none⟩ = some (.int k x)) ->
   Cv w im (.clip k xs) (.slice (some ⟨b, off, none⟩) xs.length xs.length)
 | cliprNil (sz : Nat) (f : Nat -> List SV) : Cv w im (.clipr sz 0 f) (.slice none 0 0)
 | cliprE (sz : Nat) (f : Nat -> List SV) (a : Addr) : Cv w im (.clipr sz 0 f) (.slice (some a) 0 0)
 | clipr (sz len : Nat) (f : Nat -> List SV) (b off : Nat) (vs : Nat -> List Value) : im b -> (∀ i, i < len -> Cvs w im (f i) (vs i)) -> (∀ i, i < len -> (vs i).length = sz) ->
   (∀ i j v, i < len -> (vs i)[j]? = some v -> w.cell? ⟨b, off + (i * sz + j), none⟩ = some v) -> Cv w im (.clipr sz len f) (.slice (some ⟨b, off, none⟩) len len)
 | rdNil (sz : Nat) (f : Nat -> List SV) : Cv w im (.rd sz 0 f) (.slice none 0 0)
 | rdE (sz : Nat) (f : Nat -> List SV) (a : Addr) (cap : Nat) : Cv w im (.rd sz 0 f) (.slice (some a) 0 cap)
 | rd (sz len : Nat) (f : Nat -> List SV) (b off cap : Nat) (vs : Nat -> List Value) : im b -> (∀ i, i < len -> Cvs w im (f i) (vs i)) -> (∀ i, i < len -> (vs i).length = sz) ->
   (∀ i j v, i < len -> (vs i)[j]? = some v -> w.cell? ⟨b, off + (i * sz + j), none⟩ = some v) -> len <= cap -> Cv w im (.rd sz len f) (.slice (some ⟨b, off, none⟩) len cap)
 | cm (ks vs : List SV) (kv vv : List Value) (xs : List MapEntry) (b : Nat) : Cvs w im ks kv -> Cvs w im vs vv -> kv = xs.map (·.key) -> vv = xs.map (·.val) -> (∀ (i : Nat) e, xs[i]? = some e -> e.born = i) -> im b ->
   w.heap[b]? = some (.map xs.toArray xs.length) -> Cv w im (.cm ks vs) (.map (some b))
 | mm (m : String) (x : SV) (v : Value) : Cv w im x v -> Cv w im (.mm m x) (.func (.method m) #[v] #[])
 | mv (f : Nat) (fs cs : List SV) (us vs : List Value) : Cvs w im fs us -> Cvs w im cs vs -> Cv w im (.mv f fs cs) (.func (.func f) us.toArray vs.toArray)
inductive Cvs (w : World) (im : Nat -> Prop) : List SV -> List Value -> Prop
 | nil : Cvs w im [] []
 | cons (x : SV) (v : Value) (xs : List SV) (vs : List Value) : Cv w im x v -> Cvs w im xs vs -> Cvs w im (x :: xs) (v :: vs)
end
structure Stays (w w' : World) (im0 im1 : Nat -> Prop) : Prop where
 im : ∀ b, im0 b -> im1 b
 mem : ∀ b, im0 b -> w'.heap[b]? = w.heap[b]?
theorem Stays.cell {w w' : World} {im im' : Nat -> Prop} (h : Stays w w' im im') {b o : Nat} {v : Value} (hb : im b) (hc : w.cell? ⟨b, o, none⟩ = some v) : w'.cell? ⟨b, o, none⟩ = some v :=
 (World.cell?_of_block (a := ⟨b, o, none⟩) (h.mem b hb)).trans hc
theorem Cv.mono {w w' : World} {im im' : Nat -> Prop} (h : Stays w w' im im') {x : SV} {v : Value} (hx : Cv w im x v) : Cv w' im' x v := by
 refine Cv.rec (motive_1 := fun x v _ => Cv w' im' x v) (motive_2 := fun xs vs _ => Cvs w' im' xs vs) ?_ ?_ ?_ ?_ ?_ ?_ ?_ ?_ ?_ ?_ ?_ ?_ ?_ ?_ ?_ ?_ ?_ ?_ ?_ ?_ ?_ ?_ ?_ ?_ ?_ hx
 ·exact fun v => .lit v
 ·exact fun k n => .int k n
 ·exact fun b => .bool b
 ·intro cs vs off b base _ hb hc ih; exact .rp cs vs off b base ih (h.im b hb) (fun j v hv => h.cell hb (hc j v hv))
 ·exact fun cs vs _ ih => .agg cs vs ih
 ·exact fun cs vs _ ih => .tup cs vs ih
 ·exact fun f cs vs _ ih => .fn f cs vs ih
 ·exact fun t x v _ ih => .ifc t x v ih
 ·exact fun k => .intsNil k
 ·exact fun k a cap => .intsE k a cap
 ·intro k xs b off cap hb hc hl; exact .ints k xs b off cap (h.im b hb) (fun j v hv => h.cell hb (hc j v hv)) hl
 ·exact fun k => .clipNil k
 ·exact fun k a => .clipE k a
 ·intro k xs b off hb hc; exact .clip k xs b off (h.im b hb) (fun j v hv => h.cell hb (hc j v hv))
 ·exact fun sz f => .cliprNil sz f
 ·exact fun sz f a => .cliprE sz f a
 ·intro sz len f b off vs hb _ hl hc ih; exact .clipr sz len f b off vs (h.im b hb) ih hl (fun i j v hi hv => h.cell hb (hc i j v hi hv))
 ·exact fun sz f => .rdNil sz f
 ·exact fun sz f a cap => .rdE sz f a cap
 ·intro sz len f b off cap vs hb _ hl hc hcap ih; exact .rd sz len f b off cap vs (h.im b hb) ih hl (fun i j v hi hv => h.cell hb (hc i j v hi hv)) hcap
 ·intro ks vs kv vv xs b _ _ h1 h2 h3 hb hm i1 i2; exact .cm ks vs kv vv xs b i1 i2 h1 h2 h3 (h.im b hb) ((h.mem b hb).trans hm)
 ·exact fun m x v _ ih => .mm m x v ih
 ·exact fun f fs cs us vs _ _ i1 i2 => .mv f fs cs us vs i1 i2
 ·exact .nil
 ·exact fun x v xs vs _ _ i1 i2 => .cons x v xs vs i1 i2
theorem Cvs.mono {w w' : World} {im im' : Nat -> Prop} (h : Stays w w' im im') : ∀ {xs : List SV} {vs : List Value}, Cvs w im xs vs -> Cvs w' im' xs vs
 | [], [], .nil => .nil
 | _ :: _, _ :: _, .cons x v xs vs hx hs => .cons x v xs vs (hx.mono h) (Cvs.mono h hs)
def Env.has (E : Env) (l : Nat) : Prop := l < E.n /\ ¬ E.rs l
mutual
inductive Rv (E : Env) : SV -> Value -> Prop
 | lit (v : Value) : Rv E (.lit v) v
 | int (k : IntKind) (n : Int) : Rv E (.int k n) (.int k n)
 | bool (b : Bool) : Rv E (.bool b) (.bool b)
 | ptr (l off : Nat) : E.has l -> Rv E (.ptr l off) (.pointer (some ⟨E.blk l, off, none⟩))
 | ep (l sz i off : Nat) : E.has l -> Rv E (.ep l sz i off) (.pointer (some ⟨E.blk l, i * sz + off, none⟩))
 | rp (cs : List SV) (off : Nat) (v : Value) : Cv E.w E.im (.rp cs off) v -> Rv E (.rp cs off) v
 | agg (cs : List SV) (vs : List Value) : Rvs E cs vs -> Rv E (.agg cs) (.agg vs.toArray)
 | tup (cs : List SV) (vs : List Value) : Rvs E cs vs -> Rv E (.tup cs) (.tuple vs.toArray)
 | fn (f : Nat) (caps : List SV) (vs : List Value) : Rvs E caps vs -> Rv E (.fn f caps) (.func (.func f) #[] vs.toArray)
 | ifc (t : Nat) (x : SV) (v : Value) : Rv E x v -> Rv E (.ifc t x) (.iface t v)
 | ints (k : IntKind) (xs : List Int) (v : Value) : Cv E.w E.im (.ints k xs) v -> Rv E (.ints k xs) v
 | rd (sz len : Nat) (f : Nat -> List SV) (v : Value) : Cv E.w E.im (.rd sz len f) v -> Rv E (.rd sz len f) v
 | clip (k : IntKind) (xs : List Int) (v : Value) : Cv E.w E.im (.clip k xs) v -> Rv E (.clip k xs) v
 | clipr (sz len : Nat) (f : Nat -> List SV) (v : Value) : Cv E.w E.im (.clipr sz len f) v -> Rv E (.clipr sz len f) v
 | own (l : Nat) (v : Value) : E.has l -> v.oneCell' = true -> (E.live l -> v = E.val l) -> Rv E (.own l) v
 | bsl (l len : Nat) : E.has l -> Rv E (.bsl l len) (.slice (some ⟨E.blk l, 0, none⟩) len len)
 | bso (l off len cap : Nat) : E.has l -> Rv E (.bso l off len cap) (.slice (some ⟨E.blk l, off, none⟩) len cap)
 | lb (k : LK) (l : Nat) : E.has l -> Rv E (.lb k l) (k.val (E.blk l))
 | mv (f : Nat) (fs cs : List SV) (us vs : List Value) : Rvs E fs us -> Rvs E cs vs -> Rv E (.mv f fs cs) (.func (.func f) us.toArray vs.toArray)
 | cm (ks vs : List SV) (v : Value) : Cv E.w E.im (.cm ks vs) v -> Rv E (.cm ks vs) v
 | any (v : Value) : Rv E .any v
 | mm (m : String) (x : SV) (v : Value) : Rv E x v -> Rv E (.mm m x) (.func (.method m) #[v] #[])
inductive Rvs (E : Env) : List SV -> List Value -> Prop
 | nil : Rvs E [] []
 | cons (x : SV) (v : Value) (xs : List SV) (vs : List Value) : Rv E x v -> Rvs E xs vs -> Rvs E (x :: xs) (v :: vs)
end
theorem Cv.rv {E : Env} {x : SV} {v : Value} (hx : Cv E.w E.im x v) : Rv E x v := by
 refine Cv.rec (motive_1 := fun x v _ => Rv E x v) (motive_2 := fun xs vs _ => Rvs E xs vs) ?_ ?_ ?_ ?_ ?_ ?_ ?_ ?_ ?_ ?_ ?_ ?_ ?_ ?_ ?_ ?_ ?_ ?_ ?_ ?_ ?_ ?_ ?_ ?_ ?_ hx
 ·exact fun v => .lit v
 ·exact fun k n => .int k n
 ·exact fun b => .bool b
 ·intro cs vs off b base h hb hc _; exact .rp _ _ _ (.rp cs vs off b base h hb hc)
 ·exact fun cs vs _ ih => .agg cs vs ih
 ·exact fun cs vs _ ih => .tup cs vs ih
 ·exact fun f cs vs _ ih => .fn f cs vs ih
 ·exact fun t x v _ ih => .ifc t x v ih
 ·exact fun k => .ints _ _ _ (.intsNil k)
 ·exact fun k a cap => .ints _ _ _ (.intsE k a cap)
 ·intro k xs b off cap hb hc hl; exact .ints _ _ _ (.ints k xs b off cap hb hc hl)
 ·exact fun k => .clip _ _ _ (.clipNil k)
 ·exact fun k a => .clip _ _ _ (.clipE k a)
 ·intro k xs b off hb hc; exact .clip _ _ _ (.clip k xs b off hb hc)
 ·exact fun sz f => .clipr _ _ _ _ (.cliprNil sz f)
 ·exact fun sz f a => .clipr _ _ _ _ (.cliprE sz f a)
 ·intro sz len f b off vs hb h hl hc _; exact .clipr _ _ _ _ (.clipr sz len f b off vs hb h hl hc)
 ·exact fun sz f => .rd _ _ _ _ (.rdNil sz f)
 ·exact fun sz f a cap => .rd _ _ _ _ (.rdE sz f a cap)
 ·intro sz len f b off cap vs hb h hl hc hcap _; exact .rd _ _ _ _ (.rd sz len f b off cap vs hb h hl hc hcap)
 ·intro ks vs kv vv xs b h1 h2 h3 h4 h5 hb hm _ _; exact .cm _ _ _ (.cm ks vs kv vv xs b h1 h2 h3 h4 h5 hb hm)
 ·exact fun m x v _ ih => .mm m x v ih
 ·exact fun f fs cs us vs _ _ i1 i2 => .mv f fs cs us vs i1 i2
 ·exact .nil
 ·exact fun x v xs vs _ _ i1 i2 => .cons x v xs vs i1 i2
theorem Cvs.rv {E : Env} : ∀ {xs : List SV} {vs : List Value}, Cvs E.w E.im xs vs -> Rvs E xs vs
 | [], [], .nil => .nil
 | _ :: _, _ :: _, .cons x v xs vs hx hs => .cons x v xs vs hx.rv hs.rv
structure Env.Le (E E' : Env) : Prop where
 n : E.n <= E'.n
 has : ∀ l, E.has l -> E'.has l
 blk : ∀ l, E.has l -> E'.blk l = E.blk l
 val : ∀ l, E.has l -> E'.val l = E.val l
 live : ∀ l, E.has l -> E'.live l -> E.live l
 im : ∀ b, E.im b -> E'.im b
 mem : ∀ b, E.im b -> E'.w.heap[b]? = E.w.heap[b]?
 W : E'.W = E.W
 M : E'.M = E.M
 im0 : E'.im0 = E.im0
 df : E'.df = E.df
 n0 : E'.n0 = E.n0
 ok : E'.ok = E.ok
 rs : ∀ l, l < E.n -> E.rs l -> E'.rs l
structure Env.Le0 (E E' : Env) : Prop where
 n : E.n <= E'.n
 has : ∀ l, E.has l -> E'.has l
 blk : ∀ l, E.has l -> E'.blk l = E.blk l
 val : ∀ l, E.has l -> E'.val l = E.val l
 live : ∀ l, E.has l -> E'.live l -> E.live l
 im : ∀ b, E.im b -> E'.im b
 mem : ∀ b, E.im b -> E'.w.heap[b]? = E.w.heap[b]?
 ok : E'.ok = E.ok
theorem Env.Le.le0 {E E' : Env} (h : E.Le E') : E.Le0 E' := ⟨h.n, h.has, h.blk, h.val, h.live, h.im, h.mem, h.ok⟩
theorem Env.Le0.trans {A B C : Env} (h : A.Le0 B) (k : B.Le0 C) : A.Le0 C :=
  ⟨Nat.le_trans h.n k.n, fun l hl => k.has l (h.has l hl), fun l hl => (k.blk l (h.has l hl)).trans (h.blk l hl), fun l hl => (k.val l (h.has l hl)).trans (h.val l hl),
   fun l hl x => h.live l hl (k.live l (h.has l hl) x), fun b x => k.im b (h.im b x), fun b x => (k.mem b (h.im b x)).trans (h.mem b x), k.ok.trans h.ok⟩
theorem Env.Le.refl (E : Env) : E.Le E := ⟨Nat.le_refl _, fun _ h => h, fun _ _ => rfl, fun _ _ => rfl, fun _ _ h => h, fun _ h => h, fun _ _ => rfl, rfl, rfl, rfl, rfl, rfl, rfl, fun _ _ h => h⟩
theorem Env.Le.trans {A B C : Env} (h : A.Le B) (k : B.Le C) : A.Le C :=
  ⟨Nat.le_trans h.n k.n, fun l hl => k.has l (h.has l hl), fun l hl => (k.blk l (h.has l hl)).trans (h.blk l hl), fun l hl => (k.val l (h.has l hl)).trans (h.val l hl),
   fun l hl x => h.live l hl (k.live l (h.has l hl) x), fun b x => k.im b (h.im b x), fun b x => (k.mem b (h.im b x)).trans (h.mem b x),
   k.W.trans h.W, k.M.trans h.M, k.im0.trans h.im0, k.df.trans h.df, k.n0.trans h.n0, k.ok.trans h.ok, fun l hl hr => k.rs l (Nat.lt_of_lt_of_le hl h.n) (h.rs l hl hr)⟩
structure Env.Xt (E E' : Env) : Prop where
 n : E.n0 <= E'.n
 has : ∀ l, l < E.n0 -> E.has l -> E'.has l
 blk : ∀ l, l < E.n0 -> E.has l -> E'.blk l = E.blk l
 val : ∀ l, l < E.n0 -> E.has l -> E'.val l = E.val l
 live : ∀ l, l < E.n0 -> E.has l -> E'.live l -> E.live l
 im : ∀ b, E.im b -> E'.im b
 W : E'.W = E.W
 M : E'.M = E.M
 im0 : E'.im0 = E.im0
 df : E'.df = E.df
 n0 : E'.n0 = E.n0
 ok : E'.ok = E.ok
 mem : ∀ b, E.im b -> E'.w.heap[b]? = E.w.heap[b]?
 rs : ∀ l, l < E.n0 -> E.rs l -> E'.rs l
theorem Env.Le.xt {E E' : Env} (h : E.Le E') (hn : E.n0 <= E.n) : E.Xt E' :=
  ⟨Nat.le_trans hn h.n, fun l _ hl => h.has l hl, fun l _ hl => h.blk l hl, fun l _ hl => h.val l hl, fun l _ hl => h.live l hl, h.im, h.W, h.M, h.im0, h.df, h.n0, h.ok, h.mem,
   fun l hl hr => h.rs l (Nat.lt_of_lt_of_le hl hn) hr⟩
theorem Env.Xt.trans {A B C : Env} (h : A.Xt B) (k : B.Xt C) : A.Xt C :=
  ⟨by have := k.n; rw [h.n0] at this; exact this, fun l hl hx => k.has l (by rw [h.n0]; exact hl) (h.has l hl hx), fun l hl hx => (k.blk l (by rw [h.n0]; exact hl) (h.has l hl hx)).trans (h.blk l hl hx),
   fun l hl hx => (k.val l (by rw [h.n0]; exact hl) (h.has l hl hx)).trans (h.val l hl hx),
   fun l hl hx x => h.live l hl hx (k.live l (by rw [h.n0]; exact hl) (h.has l hl hx) x), fun b x => k.im b (h.im b x), k.W.trans h.W, k.M.trans h.M, k.im0.trans h.im0, k.df.trans h.df, k.n0.trans h.n0, k.ok.trans h.ok,
   fun b hb => (k.mem b (h.im b hb)).trans (h.mem b hb), fun l hl hr => k.rs l (by rw [h.n0]; exact hl) (h.rs l hl hr)⟩
structure Env.Xg (b : Bool) (E E' : Env) : Prop where
 x : E.Xt { E' with df := E.df }
 nd : b = true -> E'.df = E.df
 d : ∃ ds : List Nat, E'.df = ds.map (fun D => { target := .collected D, args := #[] }) ++ E.df /\ ds.Nodup /\ ∀ D ∈ ds, (E'.im D /\ ¬ E.im D /\ E.W.heap.size <= D) /\ E'.w.heap[D]? = some (.deferred (some []))
theorem Env.Xt.g {b : Bool} {E E' : Env} (h : E.Xt E') : E.Xg b E' :=
 ⟨⟨h.n, h.has, h.blk, h.val, h.live, h.im, h.W, h.M, h.im0, rfl, h.n0, h.ok, h.mem, h.rs⟩, fun _ => h.df, ⟨[], by rw [h.df]; rfl, .nil, fun D hD => by simp at hD⟩⟩
theorem Env.Xg.weak {b b' : Bool} {E E' : Env} (h : E.Xg b E') (hb : b' = true -> b = true) : E.Xg b' E' := ⟨h.x, fun hh => h.nd (hb hh), h.d⟩
theorem Env.Xg.trans {b b' : Bool} {A B C : Env} (h : A.Xg b B) (k : B.Xg b' C) : A.Xg (b && b') C := by
 refine ⟨?_, fun hb => ?_, ?_⟩
 ·have h1 := h.x
  have k1 := k.x
  exact ⟨by have := k1.n; rw [show B.n0 = A.n0 from h1.n0] at this; exact this, fun l hl hx => k1.has l (by rw [show B.n0 = A.n0 from h1.n0]; exact hl) (h1.has l hl hx),
   fun l hl hx => (k1.blk l (by rw [show B.n0 = A.n0 from h1.n0]; exact hl) (h1.has l hl hx)).trans (h1.blk l hl hx),
   fun l hl hx => (k1.val l (by rw [show B.n0 = A.n0 from h1.n0]; exact hl) (h1.has l hl hx)).trans (h1.val l hl hx),
   fun l hl hx x => h1.live l hl hx (k1.live l (by rw [show B.n0 = A.n0 from h1.n0]; exact hl) (h1.has l hl hx) x), fun b x => k1.im b (h1.im b x), k1.W.trans h1.W, k1.M.trans h1.M, k1.im0.trans h1.im0, rfl, k1.n0.trans h1.n0, k1.ok.trans h1.ok,
   fun b hb => (k1.mem b (h1.im b hb)).trans (h1.mem b hb), fun l hl hr => k1.rs l (by rw [show B.n0 = A.n0 from h1.n0]; exact hl) (h1.rs l hl hr)⟩
 ·simp only [Bool.and_eq_true] at hb
  exact (k.nd hb.2).trans (h.nd hb.1)
 ·obtain ⟨d1, e1, n1, f1⟩ := h.d
  obtain ⟨d2, e2, n2, f2⟩ := k.d
  refine ⟨d2 ++ d1, by rw [e2, e1, List.map_append, List.append_assoc], List.nodup_append.2 ⟨n2, n1, fun x hx y hy e => ?_⟩, fun D hD => ?_⟩
  ·subst e
   exact (f2 x hx).1.2.1 (f1 x hy).1.1
  rcases List.mem_append.1 hD with h1 | h1
  ·obtain ⟨⟨g1, g2, g3⟩, g4⟩ := f2 D h1
   exact ⟨⟨g1, fun h' => g2 (h.x.im D h'), by rw [show B.W = A.W from h.x.W] at g3; exact g3⟩, g4⟩
  ·obtain ⟨⟨g1, g2, g3⟩, g4⟩ := f1 D h1
   exact ⟨⟨k.x.im D g1, g2, g3⟩, (k.x.mem D g1).trans g4⟩
theorem Env.Le0.stays {E E' : Env} (h : E.Le0 E') : Stays E.w E'.w E.im E'.im := ⟨h.im, h.mem⟩
theorem Env.Le.stays {E E' : Env} (h : E.Le E') : Stays E.w E'.w E.im E'.im := ⟨h.im, h.mem⟩
theorem Rv.mono0 {E E' : Env} (h : E.Le0 E') {x : SV} {v : Value} (hx : Rv E x v) : Rv E' x v := by
 refine Rv.rec (motive_1 := fun x v _ => Rv E' x v) (motive_2 := fun xs vs _ => Rvs E' xs vs) ?_ ?_ ?_ ?_ ?_ ?_ ?_ ?_ ?_ ?_ ?_ ?_ ?_ ?_ ?_ ?_ ?_ ?_ ?_ ?_ ?_ ?_ ?_ ?_ hx
 ·exact fun v => .lit v
 ·exact fun k n => .int k n
 ·exact fun b => .bool b
 ·intro l off hl; rw [<- h.blk l hl]; exact .ptr l off (h.has l hl)
 ·intro l sz i off hl; rw [<- h.blk l hl]; exact .ep l sz i off (h.has l hl)
 ·exact fun cs off v hv => .rp _ _ _ (hv.mono h.stays)
 ·exact fun cs vs _ ih => .agg cs vs ih
 ·exact fun cs vs _ ih => .tup cs vs ih
 ·exact fun f cs vs _ ih => .fn f cs vs ih
 ·exact fun t x v _ ih => .ifc t x v ih
 ·exact fun k xs v hv => .ints _ _ _ (hv.mono h.stays)
 ·exact fun sz len f v hv => .rd _ _ _ _ (hv.mono h.stays)
 ·exact fun k xs v hv => .clip _ _ _ (hv.mono h.stays)
 ·exact fun sz len f v hv => .clipr _ _ _ _ (hv.mono h.stays)
 ·intro l v hl h1 hv; exact .own l v (h.has l hl) h1 (fun x => (hv (h.live l hl x)).trans (h.val l hl).symm)
 ·intro l len hl; rw [<- h.blk l hl]; exact .bsl l len (h.has l hl)
 ·intro l off len cap hl; rw [<- h.blk l hl]; exact .bso l off len cap (h.has l hl)
 ·intro k l hl; rw [<- h.blk l hl]; exact .lb k l (h.has l hl)
 ·exact fun f fs cs us vs _ _ i1 i2 => .mv f fs cs us vs i1 i2
 ·exact fun ks vs v hv => .cm _ _ _ (hv.mono h.stays)
 ·exact fun v => .any v
 ·exact fun m x v _ ih => .mm m x v ih
 ·exact .nil
 ·exact fun x v xs vs _ _ i1 i2 => .cons x v xs vs i1 i2
theorem Rvs.mono0 {E E' : Env} (h : E.Le0 E') : ∀ {xs : List SV} {vs : List Value}, Rvs E xs vs -> Rvs E' xs vs
 | [], [], .nil => .nil
 | _ :: _, _ :: _, .cons x v xs vs hx hs => .cons x v xs vs (hx.mono0 h) (Rvs.mono0 h hs)
theorem Rv.mono {E E' : Env} (h : E.Le E') {x : SV} {v : Value} (hx : Rv E x v) : Rv E' x v := hx.mono0 h.le0
theorem Rvs.mono {E E' : Env} (h : E.Le E') {xs : List SV} {vs : List Value} (hx : Rvs E xs vs) : Rvs E' xs vs := hx.mono0 h.le0
def gt : List SV -> Nat -> SV
 | [], _ => .any
 | x :: _, 0 => x
 | _ :: t, i + 1 => gt t i
def gq : List SV -> Nat -> Option SV
 | [], _ => none
 | x :: _, 0 => some x
 | _ :: t, i + 1 => gq t i
def st : List SV -> Nat -> SV -> List SV
 | [], _, _ => []
 | _ :: t, 0, v => v :: t
 | x :: t, i + 1, v => x :: st t i v
def dr : Nat -> List SV -> List SV
 | 0, l => l
 | _ + 1, [] => []
 | n + 1, _ :: t => dr n t
def tk : Nat -> List SV -> Option (List SV)
 | 0, _ => some []
 | _ + 1, [] => none
 | n + 1, x :: t => match tk n t with
  | some r => some (x :: r)
  | none => none
def sp : List SV -> Nat -> List SV -> Option (List SV)
 | old, 0, new => spl old new
 | [], _ + 1, _ => none
 | x :: t, n + 1, new => match sp t n new with
  | some r => some (x :: r)
  | none => none
where spl : List SV -> List SV -> Option (List SV)
 | old, [] => some old
 | [], _ :: _ => none
 | _ :: t, y :: new => match spl t new with
  | some r => some (y :: r)
  | none => none
section
variable {E : Env}
theorem Rvs.length : ∀ {xs : List SV} {vs : List Value}, Rvs E xs vs -> xs.length = vs.length
 | [], [], .nil => rfl
 | _ :: _, _ :: _, .cons _ _ _ _ _ h => by simp [h.length]
theorem Rvs.gt : ∀ {xs : List SV} {vs : List Value} (i : Nat), Rvs E xs vs -> Rv E (gt xs i) (vs.getD i undef)
 | [], [], i, .nil => .any _
 | _ :: _, _ :: _, 0, .cons _ _ _ _ h _ => by simpa [Vg.gt] using h
 | _ :: _, _ :: _, i + 1, .cons _ _ _ _ _ h => by simpa [Vg.gt] using h.gt i
theorem Rvs.gq : ∀ {xs : List SV} {vs : List Value} (i : Nat) {x : SV}, Rvs E xs vs -> gq xs i = some x -> ∃ v, vs[i]? = some v /\ Rv E x v
 | [], [], i, x, .nil, h => by simp [Vg.gq] at h
 | _ :: _, _ :: _, 0, x, .cons y v _ _ h _, e => by simp [Vg.gq] at e; subst e; exact ⟨v, by simp, h⟩
 | _ :: _, _ :: _, i + 1, x, .cons _ _ _ _ _ h, e => by simpa using h.gq i e
theorem Rvs.st : ∀ {xs : List SV} {vs : List Value} (i : Nat) {x : SV} {v : Value}, Rvs E xs vs -> Rv E x v -> Rvs E (st xs i x) (vs.set i v)
 | [], [], i, x, v, .nil, _ => .nil
 | _ :: _, _ :: _, 0, x, v, .cons _ _ _ _ _ h, hv => .cons _ _ _ _ hv h
 | _ :: _, _ :: _, i + 1, x, v, .cons _ _ _ _ h0 h, hv => .cons _ _ _ _ h0 (h.st i hv)
theorem Rvs.dr : ∀ (n : Nat) {xs : List SV} {vs : List Value}, Rvs E xs vs -> Rvs E (dr n xs) (vs.drop n)
 | 0, _, _, h => by simpa [Vg.dr] using h
 | _ + 1, [], [], .nil => .nil
 | n + 1, _ :: _, _ :: _, .cons _ _ _ _ _ h => by simpa [Vg.dr] using h.dr n
theorem Rvs.tk : ∀ (n : Nat) {xs ys : List SV} {vs : List Value}, Rvs E xs vs -> tk n xs = some ys -> n <= vs.length /\ Rvs E ys (vs.take n)
 | 0, _, ys, _, h, e => by simp [Vg.tk] at e; subst e; exact ⟨Nat.zero_le _, by simpa using .nil⟩
 | _ + 1, [], _, [], .nil, e => by simp [Vg.tk] at e
 | n + 1, x :: xs, ys, v :: vs, .cons _ _ _ _ h0 h, e => by
  simp only [Vg.tk] at e
  split at e
  ·rename_i r hr
   cases e
   obtain ⟨h1, h2⟩ := h.tk n hr
   exact ⟨by simp; omega, by simpa using .cons _ _ _ _ h0 h2⟩
  ·cases e
theorem Rvs.append : ∀ {xs ys : List SV} {vs us : List Value}, Rvs E xs vs -> Rvs E ys us -> Rvs E (xs ++ ys) (vs ++ us)
 | [], _, [], _, .nil, h => h
 | _ :: _, _, _ :: _, _, .cons _ _ _ _ h0 h, k => .cons _ _ _ _ h0 (h.append k)
theorem Rvs.spl : ∀ {xs new ys : List SV} {vs us : List Value}, Rvs E xs vs -> Rvs E new us -> sp.spl xs new = some ys -> us.length <= vs.length /\ Rvs E ys (us ++ vs.drop us.length)
 | xs, [], ys, vs, [], h, .nil, e => by simp [sp.spl] at e; subst e; exact ⟨Nat.zero_le _, by simpa using h⟩
 | [], _ :: _, _, [], _ :: _, .nil, .cons .., e => by simp [sp.spl] at e
 | _ :: xs, y :: new, ys, _ :: vs, u :: us, .cons _ _ _ _ _ h, .cons _ _ _ _ k0 k, e => by
  simp only [sp.spl] at e
  split at e
  ·rename_i r hr
   cases e
   obtain ⟨h1, h2⟩ := h.spl k hr
   exact ⟨by simp; omega, by simpa using .cons _ _ _ _ k0 h2⟩
  ·cases e
theorem Rvs.sp : ∀ (off : Nat) {xs new ys : List SV} {vs us : List Value}, Rvs E xs vs -> Rvs E new us -> sp xs off new = some ys -> off + us.length <= vs.length /\
  Rvs E ys (vs.take off ++ us ++ vs.drop (off + us.length))
 | 0, xs, new, ys, vs, us, h, k, e => by
  obtain ⟨h1, h2⟩ := h.spl k (by simpa [Vg.sp] using e)
  exact ⟨by omega, by simpa using h2⟩
 | _ + 1, [], _, _, [], _, .nil, _, e => by simp [Vg.sp] at e
 | off + 1, _ :: xs, new, ys, v :: vs, us, .cons _ _ _ _ h0 h, k, e => by
  simp only [Vg.sp] at e
  split at e
  ·rename_i r hr
   cases e
   obtain ⟨h1, h2⟩ := h.sp off k hr
   refine ⟨by simp; omega, ?_⟩
   have : off + 1 + us.length = (off + us.length) + 1 := by omega
   simpa [this, List.append_assoc] using .cons _ _ _ _ h0 (by simpa [List.append_assoc] using h2)
  ·cases e
end
theorem Cv.unclip {w : World} {im : Nat -> Prop} {k : IntKind} {xs : List Int} {v : Value} (h : Cv w im (.clip k xs) v) : Cv w im (.ints k xs) v := by
 cases h with
 | clipNil => exact .intsNil k
 | clipE => exact .intsE _ _ _
 | clip _ _ b off hb hc => exact .ints k xs b off _ hb hc (Nat.le_refl _)
theorem Cv.unclipr {w : World} {im : Nat -> Prop} {sz len : Nat} {f : Nat -> List SV} {v : Value} (h : Cv w im (.clipr sz len f) v) : Cv w im (.rd sz len f) v := by
 cases h with
 | cliprNil => exact .rdNil sz f
 | cliprE => exact .rdE _ _ _ _
 | clipr _ _ _ b off vs hb hv hl hc => exact .rd sz len f b off _ vs hb hv hl hc (Nat.le_refl _)
def one : SV -> Bool
 | .int .. | .bool .. | .ptr .. | .ep .. | .rp .. | .fn .. | .ifc .. | .ints .. | .rd .. | .clip .. | .clipr .. | .own .. | .bsl .. | .bso .. | .lb .. | .mv .. | .cm .. | .mm .. => true
 | .lit v => v.oneCell'
 | _ => false
def allOne : List SV -> Bool
 | [] => true
 | x :: t => one x && allOne t
theorem Rv.one {E : Env} {x : SV} {v : Value} (h : Rv E x v) (h1 : one x = true) : v.oneCell' = true := by
 cases h with
 | rp _ _ _ h => cases h; rfl
 | ints _ _ _ h => cases h <;> rfl
 | rd _ _ _ _ h => cases h <;> rfl
 | clip _ _ _ h => cases h <;> rfl
 | clipr _ _ _ _ h => cases h <;> rfl
 | cm _ _ _ h => cases h; rfl
 | lb k l _ => cases k <;> rfl
 | _ => first | rfl | assumption | (simp [Vg.one] at h1; assumption) | simp [Vg.one] at h1
theorem Rvs.allOne {E : Env} : ∀ {xs : List SV} {vs : List Value}, Rvs E xs vs -> allOne xs = true -> ∀ v ∈ vs, v.oneCell' = true
 | [], [], .nil, _, _, hm => by cases hm
 | _ :: _, _ :: _, .cons _ _ _ _ h0 h, e, v, hm => by
  simp only [Vg.allOne, Bool.and_eq_true] at e
  cases hm with
  | head => exact h0.one e.1
  | tail _ hm => exact h.allOne e.2 v hm
theorem cells_of_one {v : Value} (h : v.oneCell' = true) : v.cells = #[v] := by cases v <;> first | rfl | simp [Value.oneCell'] at h
def cs1 : SV -> Option (List SV)
 | .agg cs => some cs
 | x => if one x then some [x] else none
theorem xGm {E : Env} {x : SV} {v : Value} {cs : List SV} (h : Rv E x v) (e : cs1 x = some cs) : Rvs E cs v.cells.toList := by
 unfold cs1 at e
 split at e
 ·cases e; cases h; simpa [Value.cells]
 ·split at e
  ·rename_i h1
   cases e
   rw [cells_of_one (h.one h1)]
   exact .cons _ _ _ _ h .nil
  ·cases e
def clo : Nat -> SV -> Bool
 | _, .lit _ | _, .int .. | _, .bool _ | _, .rp .. | _, .ints .. | _, .rd .. | _, .clip .. | _, .clipr .. | _, .cm .. => true
 | n + 1, .agg cs | n + 1, .tup cs | n + 1, .fn _ cs => clos n cs
 | n + 1, .ifc _ x | n + 1, .mm _ x => clo n x
 | n + 1, .mv _ a b => clos n a && clos n b
 | _, _ => false
where clos (n : Nat) : List SV -> Bool
 | [] => true
 | x :: t => clo n x && clos n t
theorem xBy {E : Env} : ∀ (n : Nat) {x : SV} {v : Value}, clo n x = true -> Rv E x v -> Cv E.w E.im x v := by
 intro n
 induction n with
 | zero => intro x v h hx; cases hx <;> first | (simp [clo] at h; done) | assumption | constructor
 | succ n ih =>
  have hs : ∀ {xs : List SV} {vs : List Value}, clo.clos n xs = true -> Rvs E xs vs -> Cvs E.w E.im xs vs := by
   intro xs
   induction xs with
   | nil => intro vs _ h; cases h; exact .nil
   | cons x xs ihs =>
    intro vs h hr
    cases hr with
    | cons _ v _ vs hx hr =>
     simp only [clo.clos, Bool.and_eq_true] at h
     exact .cons _ _ _ _ (ih h.1 hx) (ihs h.2 hr)
  intro x v h hx
  cases hx with
  | agg cs vs h' => exact .agg _ _ (hs h h')
  | tup cs vs h' => exact .tup _ _ (hs h h')
  | fn f cs vs h' => exact .fn _ _ _ (hs h h')
  | ifc t x v h' => exact .ifc _ _ _ (ih h h')
  | mm m x v h' => exact .mm _ _ _ (ih h h')
  | mv f fs cs us vs h1 h2 =>
   simp only [clo, Bool.and_eq_true] at h
   exact .mv _ _ _ _ _ (hs h.1 h1) (hs h.2 h2)
  | _ => first | (simp [clo] at h; done) | assumption | constructor
theorem xAj {E : Env} (n : Nat) : ∀ {xs : List SV} {vs : List Value}, clo.clos n xs = true -> Rvs E xs vs -> Cvs E.w E.im xs vs
 | [], [], _, .nil => .nil
 | _ :: _, _ :: _, h, .cons _ _ _ _ hx hr => by
  simp only [clo.clos, Bool.and_eq_true] at h
  exact .cons _ _ _ _ (xBy n h.1 hx) (xAj n h.2 hr)
end Go.Vg
