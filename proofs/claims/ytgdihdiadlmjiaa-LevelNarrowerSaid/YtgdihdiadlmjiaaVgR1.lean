import Derived.Test.YtgdihdiadlmjiaaVgV6
import Derived.RangeFuncLeaves
set_option linter.all false
namespace Go.Vg
open Go
inductive Tr where
 | e
 | nd (b : Blk) (l r : Tr)
def Tr.get : Tr -> Nat -> Blk
 | .e, _ => .dead
 | .nd b l r, i => match i with
  | 0 => b
  | i + 1 => match i % 2 with
   | 0 => l.get (i / 2)
   | _ => r.get (i / 2)
def Tr.put {α : Type} : Tr -> Nat -> Blk -> (Tr -> α) -> α
 | .e, _, x, k => k (.nd x .e .e)
 | .nd b l r, i, x, k => match i with
  | 0 => k (.nd x l r)
  | i + 1 => match i % 2 with
   | 0 => l.put (i / 2) x fun l => k (.nd b l r)
   | _ => r.put (i / 2) x fun r => k (.nd b l r)
structure HT where
 n : Nat
 w : Nat
 t : Tr
def HT.get (h : HT) (l : Nat) : Blk := h.t.get l
def sucK {α : Type} (n : Nat) (k : Nat -> α) : α :=
 match n with
 | 0 => k 1
 | m + 1 => k (Nat.succ (Nat.succ m))
def HT.push {α : Type} (h : HT) (b : Blk) (k : HT -> α) : α := h.t.put h.n b fun t => sucK h.n fun n => k ⟨n, h.w, t⟩
def HT.set {α : Type} (h : HT) (l : Nat) (b : Blk) (k : HT -> α) : α := h.t.put l b fun t => match Nat.ble h.w l with
 | true => k ⟨h.n, h.w, t⟩
 | false => k ⟨h.n, l, t⟩
def stK {α : Type} : List SV -> Nat -> SV -> (List SV -> α) -> α
 | [], _, _, k => k []
 | _ :: t, 0, x, k => k (x :: t)
 | a :: t, i + 1, x, k => stK t i x fun t => k (a :: t)
def putB {α : Type} (fr : List SV) (d : Option Nat) (x : SV) (k : List SV -> α) : α :=
 match d with
 | none => k fr
 | some d => stK fr d x k
def frc {α : Type} (n : Int) (k : Int -> α) : α :=
 match n with
 | .ofNat m => match m with
  | 0 => k (.ofNat 0)
  | m + 1 => k (.ofNat (Nat.succ m))
 | .negSucc m => match m with
  | 0 => k (.negSucc 0)
  | m + 1 => k (.negSucc (Nat.succ m))
def frcV {α : Type} (x : SV) (k : SV -> α) : α :=
 match x with
 | .int q n => frc n fun n => k (.int q n)
 | .bool b => match b with
  | true => k (.lit (.bool true))
  | false => k (.lit (.bool false))
 | x => k x
def inRB : IntKind -> Int -> Bool
 | .i64, n => decide (-9223372036854775808 <= n) && decide (n <= 9223372036854775807)
 | k, n => decide (k.wrap n = n)
instance (k : IntKind) (n : Int) : Decidable (InR k n) :=
 match h : inRB k n with
 | true => isTrue (by cases k <;> simpa [inRB, InR] using h)
 | false => isFalse (by cases k <;> simpa [inRB, InR] using h)
def inQB : IntKind -> Int -> Bool
 | .i64, n => decide (-9223372036854775808 <= n) && decide (n <= 9223372036854775807)
 | k, n => (Lit.int k n).wf
instance (k : IntKind) (n : Int) : Decidable (InQ k n) :=
 match h : inQB k n with
 | true => isTrue (by cases k <;> simpa [inQB, InQ] using h)
 | false => isFalse (by cases k <;> simpa [inQB, InQ] using h)
def ikq (k k' : IntKind) : Bool := Nat.beq k.ctorIdx k'.ctorIdx
theorem xBt {k k' : IntKind} (h : ikq k k' = true) : k = k' := by cases k <;> cases k' <;> first | rfl | exact absurd h (by decide)
def chk (b : Bool) (x : SV) : Option SV :=
 match b with
 | true => some x
 | false => none
def binB2 (op : BinOp) (k k' : IntKind) (a b : Int) : Option SV :=
 match op with
 | .add => frc (a + b) fun n => chk (ikq k k' && inRB k n) (.int k n)
 | .sub => frc (a - b) fun n => chk (ikq k k' && inRB k n) (.int k n)
 | .mul => frc (a * b) fun n => chk (ikq k k' && inRB k n) (.int k n)
 | .quo => frc (a.tdiv b) fun n => chk (ikq k k' && !(decide (b = 0)) && inRB k n) (.int k n)
 | .rem => frc (a.tmod b) fun n => chk (ikq k k' && !(decide (b = 0))) (.int k n)
 | .shl => frc (a * ((2 ^ b.toNat : Nat) : Int)) fun n => chk ((decide (0 <= b) && Nat.ble b.toNat k.bits) && inRB k n) (.int k n)
 | .shr => frc (a / ((2 ^ b.toNat : Nat) : Int)) fun n => chk (decide (0 <= b) && Nat.ble b.toNat k.bits) (.int k n)
 | .and => frc ((a.toNat &&& b.toNat : Nat) : Int) fun n => chk (ikq k k' && ((decide (0 <= a) && decide (0 <= b)) && (decide (a < ((2 ^ (k.bits - 1) : Nat) : Int)) && decide (b < ((2 ^ (k.bits - 1) : Nat) : Int))))) (.int k n)
 | .lss => chk (ikq k k') (.bool (decide (a < b)))
 | .leq => chk (ikq k k') (.bool (decide (a <= b)))
 | .gtr => chk (ikq k k') (.bool (decide (b < a)))
 | .geq => chk (ikq k k') (.bool (decide (b <= a)))
 | .eql => chk (ikq k k') (.bool (decide (a = b)))
 | .neq => chk (ikq k k') (.bool (!decide (a = b)))
 | _ => none
def ixB (i : Int) (n : Nat) : Bool := decide (0 <= i) && decide (i < n)
def ixsB (g : Nat -> Blk) (sz : Nat) (i : Int) : SV -> Option SV
 | .ints k xs => chk (Nat.beq sz 1 && ixB i xs.length) (.rp [.int k (xs.getD i.toNat 0)] 0)
 | .rd sz' len f => chk (Nat.beq sz sz' && ixB i len) (.rp (f i.toNat) 0)
 | .clip k xs => chk (Nat.beq sz 1 && ixB i xs.length) (.rp [.int k (xs.getD i.toNat 0)] 0)
 | .clipr sz' len f => chk (Nat.beq sz sz' && ixB i len) (.rp (f i.toNat) 0)
 | .bsl l len => chk (ixB i len) (.ptr l (i.toNat * sz))
 | .bso l off len _ => chk (ixB i len) (.ptr l (off + i.toNat * sz))
 | .own l => match g l with
  | .oi _ _ xs => chk (Nat.beq sz 1 && ixB i xs.length) (.ep l 1 i.toNat 0)
  | .orw _ sz' len _ => chk (Nat.beq sz sz' && ixB i len) (.ep l sz i.toNat 0)
  | .fz (.ints k xs) => chk (Nat.beq sz 1 && ixB i xs.length) (.rp [.int k (xs.getD i.toNat 0)] 0)
  | .fz (.rd sz' len f) => chk (Nat.beq sz sz' && ixB i len) (.rp (f i.toNat) 0)
  | _ => none
 | _ => none
def lensB (g : Nat -> Blk) : SV -> Option Nat
 | .ints _ xs => some xs.length
 | .rd _ len _ => some len
 | .clip _ xs => some xs.length
 | .clipr _ len _ => some len
 | .bsl _ len => some len
 | .bso _ _ len _ => some len
 | .lit (.slice _ n _) => some n
 | .own l => match g l with
  | .oi _ _ xs => some xs.length
  | .orw _ _ len _ => some len
  | .fz (.ints _ xs) => some xs.length
  | .fz (.rd _ len _) => some len
  | _ => none
 | _ => none
def ldaB (g : Nat -> Blk) (n : Option Nat) : SV -> Option SV
 | .rp cs off => ld cs off n
 | .ptr l off => match g l with
  | .box _ cs | .fbox _ cs => ld cs off n
  | _ => none
 | .ep l sz i off => match g l with
  | .oi k _ xs => match n, off with
   | none, 0 => chk (Nat.beq sz 1 && decide (i < xs.length)) (.int k (xs.getD i 0))
   | _, _ => none
  | .orw _ sz' len f => match chk (Nat.beq sz sz' && decide (i < len)) .any with
   | some _ => ld (f i) off n
   | none => none
  | _ => none
 | _ => none
def fitB : List (Option IntKind) -> List SV -> Option (List Int)
 | [], [] => some []
 | none :: ks, x :: xs => match asB x, fitB ks xs with
  | some b, some l => some ((bif b then 1 else 0) :: l)
  | _, _ => none
 | some k :: ks, .int k' n :: xs => match ikq k' k && inQB k n with
  | true => match fitB ks xs with
   | some l => some (n :: l)
   | none => none
  | false => none
 | _, _ => none
def eqlB : List Int -> List Int -> Bool
 | [], [] => true
 | a :: s, b :: t => decide (a = b) && eqlB s t
 | _, _ => false
def nilqB (g : Nat -> Blk) : SV -> Option Bool
 | .lit (.slice none _ _) => some true
 | .ints _ xs => match xs with
  | [] => none
  | _ => some false
 | .clip _ xs => match xs with
  | [] => none
  | _ => some false
 | .rd _ len _ => match len with
  | 0 => none
  | _ => some false
 | .bsl _ _ => some false
 | .bso _ _ _ _ => some false
 | .own l => match g l with
  | .oi _ _ xs => match xs with
   | [] => none
   | _ => some false
  | .orw _ _ len _ => match len with
   | 0 => none
   | _ => some false
  | .fz (.ints _ xs) => match xs with
   | [] => none
   | _ => some false
  | .fz (.rd _ len _) => match len with
   | 0 => none
   | _ => some false
  | _ => none
 | _ => none
def evpB (fr : List SV) (g : Nat -> Blk) : VOp -> Option SV
 | .mov x => some (x.get fr)
 | .pick c a b => match c.get fr with
  | .lit (.bool true) => some (a.get fr)
  | .lit (.bool false) => some (b.get fr)
  | _ => none
 | .bin op x y => match x.get fr, y.get fr with
  | .int k a, .int k' b => binB2 op k k' a b
  | _, _ => none
 | .binb op x y => match asB (x.get fr), asB (y.get fr) with
  | some a, some b => match op with
   | .eql => some (.bool (a == b))
   | .neq => some (.bool (!(a == b)))
   | _ => none
  | _, _ => none
 | .neg x => match x.get fr with
  | .int k n => frc (-n) fun n => chk (inRB k n) (.int k n)
  | _ => none
 | .not x => match x.get fr with
  | .lit (.bool true) => some (.lit (.bool false))
  | .lit (.bool false) => some (.lit (.bool true))
  | _ => none
 | .conv k x => match x.get fr with
  | .int _ n => chk (inRB k n) (.int k n)
  | _ => none
 | .ifc t x => some (.ifc t (x.get fr))
 | .mkfn f caps => some (.fn f (gets fr caps))
 | .mkmv f a b => some (.mv f (gets fr a) (gets fr b))
 | .off x k => match x.get fr with
  | .ptr l off => some (.ptr l (off + k))
  | .rp cs off => some (.rp cs (off + k))
  | .ep l sz i off => some (.ep l sz i (off + k))
  | _ => none
 | .fld x off n => match x.get fr with
  | .agg cs => ld cs off n
  | _ => none
 | .ixa x i sz => match i.get fr with
  | .int _ i => ixsB g sz i (x.get fr)
  | _ => none
 | .ixarr x i len sz => match i.get fr with
  | .int _ i => match x.get fr with
   | .ptr l off => chk (ixB i len) (.ptr l (off + i.toNat * sz))
   | .rp cs off => chk (ixB i len) (.rp cs (off + i.toNat * sz))
   | _ => none
  | _ => none
 | .ixv x i len sz n => match i.get fr, x.get fr with
  | .int _ i, .agg cs => match ixB i len with
   | true => ld cs (i.toNat * sz) n
   | false => none
  | _, _ => none
 | .load x n => ldaB g n (x.get fr)
 | .len x => match lensB g (x.get fr) with
  | some n => some (.int .i64 n)
  | none => none
 | .ext x i => match x.get fr with
  | .tup cs => gq cs i
  | _ => none
 | .slc x lo hi mx sz => none
 | .max2 x y => match x.get fr, y.get fr with
  | .int k a, .int _ b => some (.int k (if a < b then b else a))
  | _, _ => none
 | .min2 x y => match x.get fr, y.get fr with
  | .int k a, .int _ b => some (.int k (if b < a then b else a))
  | _, _ => none
 | .mx3 mn x y z => match x.get fr, y.get fr, z.get fr with
  | .int k a, .int _ b, .int _ c => some (.int k (match mn with
   | false => if (if a < b then b else a) < c then c else (if a < b then b else a)
   | true => if c < (if b < a then b else a) then c else (if b < a then b else a)))
  | _, _, _ => none
 | .eqs ks ng x y => match x.get fr, y.get fr with
  | .agg xs, .agg ys => match fitB ks xs, fitB ks ys with
   | some a, some b => some (.bool (bif ng then !eqlB a b else eqlB a b))
   | _, _ => none
  | _, _ => none
 | .isnil ng x => match nilqB g (x.get fr) with
  | some b => some (nb ng b)
  | none => none
 | .mkmm m x => some (.mm m (x.get fr))
 | .strl x => strlV (x.get fr)
 | .nckv x => match nckV (x.get fr) with
  | true => some (x.get fr)
  | false => none
 | .stri x i => striV (x.get fr) (i.get fr)
 | .strb op x y => strbV op (x.get fr) (y.get fr)
end Go.Vg
