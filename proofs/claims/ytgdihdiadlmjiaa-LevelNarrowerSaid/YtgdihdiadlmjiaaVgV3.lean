import Derived.Test.YtgdihdiadlmjiaaVgV2
import Derived.Test.YtgdihdiadlmjiaaVgV0
set_option linter.all false
namespace Go.Vg
open Go
def ofC : Value -> SV
 | .int k n => .int k n
 | v => .lit v
def ofV : Value -> SV
 | .int k n => .int k n
 | .agg cs => .agg (cs.toList.map ofC)
 | .tuple _ => .any
 | v => .lit v
def cX : Operand -> Option X
 | .tmp t => some (.t t)
 | .const v => some (.c (ofV v))
 | .func f => some (.c (.fn f []))
 | .global _ => none
def X.get (fr : List SV) : X -> SV
 | .t n => gt fr n
 | .c x => x
theorem ofC_ok (E : Env) (v : Value) : Rv E (ofC v) v := by cases v <;> first | exact .int _ _ | exact .lit _
theorem xBo (E : Env) : ∀ vs : List Value, Rvs E (vs.map ofC) vs
 | [] => .nil
 | v :: vs => .cons _ _ _ _ (ofC_ok E v) (xBo E vs)
theorem xRi (E : Env) (v : Value) : Rv E (ofV v) v := by
 cases v with
 | int k n => exact .int k n
 | agg cs => exact .agg _ cs.toList (xBo E _)
 | tuple vs => exact .any _
 | _ => exact .lit _
theorem X.ok {E : Env} {fr : List SV} {a : Act} (h : Rvs E fr a.tmps.toList) {o : Operand} {x : X} (hc : cX o = some x) : Rv E (x.get fr) (a.eval o) := by
 cases o with
 | tmp t => simp [cX] at hc; subst hc; simpa [X.get, Act.eval] using h.gt t
 | const v => simp [cX] at hc; subst hc; exact xRi E v
 | func f => simp [cX] at hc; subst hc; exact .fn f [] [] .nil
 | global g => simp [cX] at hc
def cXs : List Operand -> Option (List X)
 | [] => some []
 | o :: t => match cX o, cXs t with
  | some x, some xs => some (x :: xs)
  | _, _ => none
def gets (fr : List SV) : List X -> List SV
 | [] => []
 | x :: t => x.get fr :: gets fr t
theorem Xs.ok {E : Env} {fr : List SV} {a : Act} (h : Rvs E fr a.tmps.toList) : ∀ {os : List Operand} {xs : List X}, cXs os = some xs -> Rvs E (gets fr xs) (os.map a.eval)
 | [], xs, hc => by simp [cXs] at hc; subst hc; exact .nil
 | o :: os, xs, hc => by
  simp only [cXs] at hc
  split at hc
  ·rename_i x xs' hx hxs
   cases hc
   exact .cons _ _ _ _ (X.ok h hx) (Xs.ok h hxs)
  ·cases hc
def InR : IntKind -> Int -> Prop
 | .i64, n => -9223372036854775808 <= n /\ n <= 9223372036854775807
 | k, n => k.wrap n = n
theorem InR.wrap {k : IntKind} {n : Int} (h : InR k n) : k.wrap n = n := by
 cases k <;> first | exact h | exact IntWalk.i64_in _ h
def asB : SV -> Option Bool
 | .bool b => some b
 | .lit (.bool b) => some b
 | _ => none
theorem xGe {E : Env} {x : SV} {v : Value} {b : Bool} (h : Rv E x v) (e : asB x = some b) : v = .bool b := by
 unfold asB at e
 split at e <;> cases e <;> cases h <;> rfl
section
variable {E : Env} {u : Value}
theorem Rv.litE {v : Value} (h : Rv E (.lit v) u) : u = v := by cases h; rfl
theorem Rv.intE {k : IntKind} {n : Int} (h : Rv E (.int k n) u) : u = .int k n := by cases h; rfl
theorem Rv.boolE {b : Bool} (h : Rv E (.bool b) u) : u = .bool b := by cases h; rfl
theorem Rv.ptrE {l off : Nat} (h : Rv E (.ptr l off) u) : E.has l /\ u = .pointer (some ⟨E.blk l, off, none⟩) := by cases h; exact ⟨‹_›, rfl⟩
theorem Rv.epE {l sz i off : Nat} (h : Rv E (.ep l sz i off) u) : E.has l /\ u = .pointer (some ⟨E.blk l, i * sz + off, none⟩) := by cases h; exact ⟨‹_›, rfl⟩
theorem Rv.rpE {cs : List SV} {off : Nat} (h : Rv E (.rp cs off) u) : ∃ vs b base, Cvs E.w E.im cs vs /\ E.im b /\ (∀ j v, vs[j]? = some v -> E.w.cell? ⟨b, base + j, none⟩ = some v) /\ u = .pointer (some ⟨b, base + off, none⟩) := by
 cases h with
 | rp _ _ _ h => cases h; exact ⟨_, _, _, ‹_›, ‹_›, ‹_›, rfl⟩
theorem Rv.aggE {cs : List SV} (h : Rv E (.agg cs) u) : ∃ vs, Rvs E cs vs /\ u = .agg vs.toArray := by cases h; exact ⟨_, ‹_›, rfl⟩
theorem Rv.tupE {cs : List SV} (h : Rv E (.tup cs) u) : ∃ vs, Rvs E cs vs /\ u = .tuple vs.toArray := by cases h; exact ⟨_, ‹_›, rfl⟩
theorem Rv.fnE {f : Nat} {cs : List SV} (h : Rv E (.fn f cs) u) : ∃ vs, Rvs E cs vs /\ u = .func (.func f) #[] vs.toArray := by cases h; exact ⟨_, ‹_›, rfl⟩
theorem Rv.ifcE {t : Nat} {x : SV} (h : Rv E (.ifc t x) u) : ∃ v, Rv E x v /\ u = .iface t v := by cases h; exact ⟨_, ‹_›, rfl⟩
theorem Rv.mmE {m : String} {x : SV} (h : Rv E (.mm m x) u) : ∃ v, Rv E x v /\ u = .func (.method m) #[v] #[] := by cases h; exact ⟨_, ‹_›, rfl⟩
theorem Rv.bsoE {l off len cap : Nat} (h : Rv E (.bso l off len cap) u) : E.has l /\ u = .slice (some ⟨E.blk l, off, none⟩) len cap := by cases h; exact ⟨‹_›, rfl⟩
theorem Rv.bslE {l len : Nat} (h : Rv E (.bsl l len) u) : E.has l /\ u = .slice (some ⟨E.blk l, 0, none⟩) len len := by cases h; exact ⟨‹_›, rfl⟩
theorem Rv.ownE {l : Nat} (h : Rv E (.own l) u) : E.has l /\ u.oneCell' = true /\ (E.live l -> u = E.val l) := by cases h; exact ⟨‹_›, ‹_›, ‹_›⟩
theorem Rv.intsE {k : IntKind} {xs : List Int} (h : Rv E (.ints k xs) u) : (xs = [] /\ ∃ a cap, u = .slice a 0 cap /\ (a = none -> cap = 0)) \/
  ∃ b off cap, E.im b /\ (∀ j x, xs[j]? = some x -> E.w.cell? ⟨b, off + j, none⟩ = some (.int k x)) /\ xs.length <= cap /\ u = .slice (some ⟨b, off, none⟩) xs.length cap := by
 cases h with
 | ints _ _ _ h =>
  cases h
  ·exact .inl ⟨rfl, _, _, rfl, fun _ => rfl⟩
  ·exact .inl ⟨rfl, _, _, rfl, fun h => by cases h⟩
  ·exact .inr ⟨_, _, _, ‹_›, ‹_›, ‹_›, rfl⟩
theorem Rv.rdE {sz len : Nat} {f : Nat -> List SV} (h : Rv E (.rd sz len f) u) : (len = 0 /\ ∃ a cap, u = .slice a 0 cap /\ (a = none -> cap = 0)) \/
  ∃ (b off cap : Nat) (vs : Nat -> List Value), E.im b /\ (∀ i, i < len -> Cvs E.w E.im (f i) (vs i)) /\ (∀ i, i < len -> (vs i).length = sz) /\
   (∀ i j v, i < len -> (vs i)[j]? = some v -> E.w.cell? ⟨b, off + (i * sz + j), none⟩ = some v) /\ len <= cap /\ u = .slice (some ⟨b, off, none⟩) len cap := by
 cases h with
 | rd _ _ _ _ h =>
  cases h
  ·exact .inl ⟨rfl, _, _, rfl, fun _ => rfl⟩
  ·exact .inl ⟨rfl, _, _, rfl, fun h => by cases h⟩
  ·exact .inr ⟨_, _, _, _, ‹_›, ‹_›, ‹_›, ‹_›, ‹_›, rfl⟩
theorem Rv.clipE {k : IntKind} {xs : List Int} (h : Rv E (.clip k xs) u) : Cv E.w E.im (.clip k xs) u := by
 cases h with
 | clip _ _ _ h => exact h
theorem Rv.cliprE {sz len : Nat} {f : Nat -> List SV} (h : Rv E (.clipr sz len f) u) : Cv E.w E.im (.clipr sz len f) u := by
 cases h with
 | clipr _ _ _ _ h => exact h
end
def ld (cs : List SV) (off : Nat) : Option Nat -> Option SV
 | none => gq cs off
 | some n => match tk n (dr off cs) with
  | some r => some (.agg r)
  | none => none
def bin (op : BinOp) (k k' : IntKind) (a b : Int) : Option (Prop × SV) :=
 match op with
 | .add => some (k = k' /\ InR k (a + b), .int k (a + b))
 | .sub => some (k = k' /\ InR k (a - b), .int k (a - b))
 | .mul => some (k = k' /\ InR k (a * b), .int k (a * b))
 | .quo => some (k = k' /\ b ≠ 0 /\ InR k (a.tdiv b), .int k (a.tdiv b))
 | .rem => some (k = k' /\ b ≠ 0, .int k (a.tmod b))
 | .lss => some (k = k', .bool (decide (a < b)))
 | .shl => some ((0 <= b /\ b.toNat <= k.bits) /\ InR k (a * ((2 ^ b.toNat : Nat) : Int)), .int k (a * ((2 ^ b.toNat : Nat) : Int)))
 | .shr => some (0 <= b /\ b.toNat <= k.bits, .int k (a / ((2 ^ b.toNat : Nat) : Int)))
 | .and => some (k = k' /\ (0 <= a /\ 0 <= b) /\ a < ((2 ^ (k.bits - 1) : Nat) : Int) /\ b < ((2 ^ (k.bits - 1) : Nat) : Int), .int k ((a.toNat &&& b.toNat : Nat) : Int))
 | .leq => some (k = k', .bool (decide (a <= b)))
 | .gtr => some (k = k', .bool (decide (b < a)))
 | .geq => some (k = k', .bool (decide (b <= a)))
 | .eql => some (k = k', .bool (decide (a = b)))
 | .neq => some (k = k', .bool (!decide (a = b)))
 | _ => none
def binB (op : BinOp) (a b : Bool) : Option (Prop × SV) :=
 match op with
 | .eql => some (True, .bool (a == b))
 | .neq => some (True, .bool (!(a == b)))
 | _ => none
def ixs (hp : List Blk) (sz : Nat) (i : Int) : SV -> Option (Prop × SV)
 | .ints k xs => some (sz = 1 /\ 0 <= i /\ i < xs.length, .rp [.int k (xs.getD i.toNat 0)] 0)
 | .rd sz' len f => some (sz = sz' /\ 0 <= i /\ i < len, .rp (f i.toNat) 0)
 | .clip k xs => some (sz = 1 /\ 0 <= i /\ i < xs.length, .rp [.int k (xs.getD i.toNat 0)] 0)
 | .clipr sz' len f => some (sz = sz' /\ 0 <= i /\ i < len, .rp (f i.toNat) 0)
 | .bsl l len => some (0 <= i /\ i < len, .ptr l (i.toNat * sz))
 | .bso l off len _ => some (0 <= i /\ i < len, .ptr l (off + i.toNat * sz))
 | .own l => match gb hp l with
  | .oi _ _ xs => some (sz = 1 /\ 0 <= i /\ i < xs.length, .ep l 1 i.toNat 0)
  | .orw _ sz' len _ => some (sz = sz' /\ 0 <= i /\ i < len, .ep l sz i.toNat 0)
  | .fz (.ints k xs) => some (sz = 1 /\ 0 <= i /\ i < xs.length, .rp [.int k (xs.getD i.toNat 0)] 0)
  | .fz (.rd sz' len f) => some (sz = sz' /\ 0 <= i /\ i < len, .rp (f i.toNat) 0)
  | _ => none
 | _ => none
def lens (hp : List Blk) : SV -> Option Nat
 | .ints _ xs => some xs.length
 | .rd _ len _ => some len
 | .clip _ xs => some xs.length
 | .clipr _ len _ => some len
 | .bsl _ len => some len
 | .bso _ _ len _ => some len
 | .lit (.slice _ n _) => some n
 | .own l => match gb hp l with
  | .oi _ _ xs => some xs.length
  | .orw _ _ len _ => some len
  | .fz (.ints _ xs) => some xs.length
  | .fz (.rd _ len _) => some len
  | _ => none
 | _ => none
def lda (hp : List Blk) (n : Option Nat) : SV -> Option (Prop × SV)
 | .rp cs off => match ld cs off n with
  | some x => some (True, x)
  | none => none
 | .ptr l off => match gb hp l with
  | .box _ cs | .fbox _ cs => match ld cs off n with
   | some x => some (True, x)
   | none => none
  | _ => none
 | .ep l sz i off => match gb hp l with
  | .oi k _ xs => match n, off with
   | none, 0 => some (sz = 1 /\ i < xs.length, .int k (xs.getD i 0))
   | _, _ => none
  | .orw _ sz' len f => match ld (f i) off n with
   | some x => some (sz = sz' /\ i < len, x)
   | none => none
  | _ => none
 | _ => none
def InQ : IntKind -> Int -> Prop
 | .i64, n => -9223372036854775808 <= n /\ n <= 9223372036854775807
 | k, n => (Lit.int k n).wf = true
def fit : List (Option IntKind) -> List SV -> Option (Prop × List Int)
 | [], [] => some (True, [])
 | none :: ks, x :: xs => match asB x, fit ks xs with
  | some b, some (p, l) => some (p, (bif b then 1 else 0) :: l)
  | _, _ => none
 | some k :: ks, .int k' n :: xs => match fit ks xs with
  | some (p, l) => some ((k' = k /\ InQ k n) /\ p, n :: l)
  | none => none
 | _, _ => none
def nilq (hp : List Blk) : SV -> Option (Prop × Bool)
 | .lit (.slice none _ _) => some (True, true)
 | .ints _ xs => some (xs ≠ [], false)
 | .clip _ xs => some (xs ≠ [], false)
 | .rd _ len _ => some (0 < len, false)
 | .bsl _ _ => some (True, false)
 | .bso _ _ _ _ => some (True, false)
 | .own l => match gb hp l with
  | .oi _ _ xs => some (xs ≠ [], false)
  | .orw _ _ len _ => some (0 < len, false)
  | .fz (.ints _ xs) => some (xs ≠ [], false)
  | .fz (.rd _ len _) => some (0 < len, false)
  | _ => none
 | _ => none
def nb : Bool -> Bool -> SV
 | true, true | false, false => .lit (.bool false)
 | _, _ => .lit (.bool true)
def strAt (s : ByteArray) (n : Int) : Option SV :=
 match decide (0 <= n) with
 | true => match s.data.toList[n.toNat]? with
  | some b => some (.int .u8 b.toNat)
  | none => none
 | false => none
def eqBs : List UInt8 -> List UInt8 -> Bool
 | [], [] => true
 | a :: x, b :: y => match Nat.beq a.toNat b.toNat with
  | true => eqBs x y
  | false => false
 | _, _ => false
def ltBs : List UInt8 -> List UInt8 -> Bool
 | _, [] => false
 | [], _ :: _ => true
 | a :: x, b :: y => match Nat.blt a.toNat b.toNat with
  | true => true
  | false => match Nat.beq a.toNat b.toNat with
   | true => ltBs x y
   | false => false
def strC (op : BinOp) (x y : List UInt8) : Option SV :=
 match op with
 | .eql => some (.bool (eqBs x y))
 | .neq => some (.bool (!eqBs x y))
 | .lss => some (.bool (ltBs x y))
 | .leq => some (.bool (ltBs x y || eqBs x y))
 | .gtr => some (.bool (!(ltBs x y || eqBs x y)))
 | .geq => some (.bool (!ltBs x y))
 | _ => none
def strlV : SV -> Option SV
 | .lit (.string s) => some (.int .i64 s.size)
 | _ => none
def striV (x : SV) : SV -> Option SV
 | .int _ n => match x with
  | .lit (.string s) => strAt s n
  | _ => none
 | _ => none
def strbV (op : BinOp) (x y : SV) : Option SV :=
 match x with
 | .lit (.string a) => match y with
  | .lit (.string b) => strC op a.data.toList b.data.toList
  | _ => none
 | _ => none
def tt : Option SV -> Option (Prop × SV)
 | some x => some (True, x)
 | none => none
def nckV : SV -> Bool
 | .ptr .. | .ep .. | .rp .. | .fn .. | .ifc .. | .mv .. => true
 | _ => false
def evp (fr : List SV) (hp : List Blk) : VOp -> Option (Prop × SV)
 | .mov x => some (True, x.get fr)
 | .pick c a b => match c.get fr with
  | .lit (.bool true) => some (True, a.get fr)
  | .lit (.bool false) => some (True, b.get fr)
  | .bool g => match asB (a.get fr), asB (b.get fr) with
   | some x, some y => some (True, .bool (bif g then x else y))
   | _, _ => none
  | _ => none
 | .bin op x y => match x.get fr, y.get fr with
  | .int k a, .int k' b => bin op k k' a b
  | _, _ => none
 | .binb op x y => match asB (x.get fr), asB (y.get fr) with
  | some a, some b => binB op a b
  | _, _ => none
 | .neg x => match x.get fr with
  | .int k n => some (InR k (-n), .int k (-n))
  | _ => none
 | .not x => match x.get fr with
  | .lit (.bool true) => some (True, .lit (.bool false))
  | .lit (.bool false) => some (True, .lit (.bool true))
  | .bool b => some (True, .bool (!b))
  | _ => none
 | .conv k x => match x.get fr with
  | .int _ n => some (InR k n, .int k n)
  | _ => none
 | .ifc t x => some (True, .ifc t (x.get fr))
 | .mkfn f caps => some (True, .fn f (gets fr caps))
 | .mkmv f a b => some (True, .mv f (gets fr a) (gets fr b))
 | .off x k => match x.get fr with
  | .ptr l off => some (True, .ptr l (off + k))
  | .rp cs off => some (True, .rp cs (off + k))
  | .ep l sz i off => some (True, .ep l sz i (off + k))
  | _ => none
 | .fld x off n => match x.get fr with
  | .agg cs => match ld cs off n with
   | some y => some (True, y)
   | none => none
  | _ => none
 | .ixa x i sz => match i.get fr with
  | .int _ i => ixs hp sz i (x.get fr)
  | _ => none
 | .ixarr x i len sz => match i.get fr, x.get fr with
  | .int _ i, .ptr l off => some (0 <= i /\ i < len, .ptr l (off + i.toNat * sz))
  | .int _ i, .rp cs off => some (0 <= i /\ i < len, .rp cs (off + i.toNat * sz))
  | _, _ => none
 | .ixv x i len sz n => match i.get fr, x.get fr with
  | .int _ i, .agg cs => match ld cs (i.toNat * sz) n with
   | some y => some (0 <= i /\ i < len, y)
   | none => none
  | _, _ => none
 | .load x n => lda hp n (x.get fr)
 | .len x => match lens hp (x.get fr) with
  | some n => some (True, .int .i64 n)
  | none => none
 | .ext x i => match x.get fr with
  | .tup cs => match gq cs i with
   | some y => some (True, y)
   | none => none
  | _ => none
 | .slc x lo hi mx sz => none
 | .max2 x y => match x.get fr, y.get fr with
  | .int k a, .int _ b => some (True, .int k (if a < b then b else a))
  | _, _ => none
 | .min2 x y => match x.get fr, y.get fr with
  | .int k a, .int _ b => some (True, .int k (if b < a then b else a))
  | _, _ => none
 | .mx3 mn x y z => match x.get fr, y.get fr, z.get fr with
  | .int k a, .int _ b, .int _ c => some (True, .int k (match mn with
   | false => if (if a < b then b else a) < c then c else (if a < b then b else a)
   | true => if c < (if b < a then b else a) then c else (if b < a then b else a)))
  | _, _, _ => none
 | .eqs ks ng x y => match x.get fr, y.get fr with
  | .agg xs, .agg ys => match fit ks xs, fit ks ys with
   | some (p, a), some (q, b) => some (p /\ q, .bool (bif ng then !decide (a = b) else decide (a = b)))
   | _, _ => none
  | _, _ => none
 | .isnil ng x => match nilq hp (x.get fr) with
  | some (p, b) => some (p, nb ng b)
  | none => none
 | .mkmm m x => some (True, .mm m (x.get fr))
 | .strl x => tt (strlV (x.get fr))
 | .nckv x => match nckV (x.get fr) with
  | true => some (True, x.get fr)
  | false => none
 | .stri x i => tt (striV (x.get fr) (i.get fr))
 | .strb op x y => tt (strbV op (x.get fr) (y.get fr))
def aggSize (P : Program) (t : TypeId) : Option (Option Nat) :=
 match P.underlying t, P.info? t with
 | some (.struct _), some i | some (.array _ _), some i => some (some i.size)
 | some _, some _ => some none
 | _, _ => none
def opMm (o : Oper) : Bool :=
 match o.op with
 | .makeFunc (.method _) _ _ => true
 | _ => false
def codeMm : Code -> Bool
 | .region _ ops _ => ops.toList.any opMm
 | .seq a b => codeMm a || codeMm b
 | .cond _ a b => codeMm a || codeMm b
 | .block _ c => codeMm c
 | .loop c => codeMm c
 | .scope c => codeMm c
 | .rangeFunc _ _ a b => codeMm a || codeMm b
 | _ => false
def progMm (P : Program) : Bool := P.funcs.toList.any fun fn => match fn.body with
 | some c => codeMm c
 | none => false
def cV (P : Program) (o : Oper) : Option VOp :=
 match o.op with
 | .move x | .assign x => (cX x).map .mov
 | .pick c a b => match cX c, cX a, cX b with
  | some c, some a, some b => some (.pick c a b)
  | _, _, _ => none
 | .binOp op t x y _ => match cX x, cX y with
  | some x, some y => match P.underlying t with
   | some (.int _) => some (.bin op x y)
   | some .bool => some (.binb op x y)
   | some (.struct _) | some (.array _ _) => match op, eqks P t with
    | .eql, some ks => some (.eqs ks false x y)
    | .neq, some ks => some (.eqs ks true x y)
    | _, _ => none
   | some (.slice _) => match op, y with
    | .eql, .c (.lit (.slice none _ _)) => some (.isnil false x)
    | .neq, .c (.lit (.slice none _ _)) => some (.isnil true x)
    | _, _ => none
   | some .string => some (.strb op x y)
   | _ => none
  | _, _ => none
 | .unOp .neg _ x => (cX x).map .neg
 | .unOp .not _ x => (cX x).map .not
 | .convert s d x => match P.underlying s, P.underlying d, cX x with
  | some _, some (.int k), some x => some (.conv k x)
  | _, _, _ => none
 | .makeInterface t x => match P.underlying t, cX x with
  | some (.interface _), _ => none
  | some _, some x => some (.ifc t x)
  | _, _ => none
 | .makeFunc (.func f) first caps => if first.size = 0 then (cXs caps.toList).map (.mkfn f) else match cXs first.toList, cXs caps.toList with
  | some a, some b => some (.mkmv f a b)
  | _, _ => none
 | .fieldAddr s x f => match P.underlying s, cX x with
  | some (.struct fs), some x => match fs[f]? with
   | some fd => match P.info? fd.type with
    | some i => if i.size = 0 then none else some (.off x fd.offset)
    | none => none
   | none => none
  | _, _ => none
 | .field s x f => match P.underlying s, cX x with
  | some (.struct fs), some x => match fs[f]? with
   | some fd => (aggSize P fd.type).map (.fld x fd.offset)
   | none => none
  | _, _ => none
 | .indexAddr t x i => match P.underlying t, cX x, cX i with
  | some (.slice e), some x, some i => (P.info? e).map fun d => .ixa x i d.size
  | some (.array n e), some x, some i => (P.info? e).map fun d => .ixarr x i n d.size
  | _, _, _ => none
 | .index t x i => match P.underlying t, cX x, cX i with
  | some (.array n e), some x, some i => match P.info? e, aggSize P e with
   | some d, some s => some (.ixv x i n d.size s)
   | _, _ => none
  | some .string, some x, some i => some (.stri x i)
  | _, _, _ => none
 | .load t x => match aggSize P t, cX x with
  | some n, some x => some (.load x n)
  | _, _ => none
 | .extract x i => (cX x).map (.ext · i)
 | .call { callee := .builtin .len, args, argTypes } => match args.toList, argTypes.toList with
  | [x], [t] => match P.underlying t, cX x with
   | some (.slice _), some x => some (.len x)
   | some .string, some x => some (.strl x)
   | _, _ => none
  | _, _ => none
 | .call { callee := .builtin .max, args, argTypes } => match args.toList with
  | [x, y] => match cX x, cX y with
   | some x, some y => some (.max2 x y)
   | _, _ => none
  | [x, y, z] => match cX x, cX y, cX z with
   | some x, some y, some z => some (.mx3 false x y z)
   | _, _, _ => none
  | _ => none
 | .call { callee := .builtin .min, args, argTypes } => match args.toList with
  | [x, y] => match cX x, cX y with
   | some x, some y => some (.min2 x y)
   | _, _ => none
  | [x, y, z] => match cX x, cX y, cX z with
   | some x, some y, some z => some (.mx3 true x y z)
   | _, _, _ => none
  | _ => none
 | .nilCheck x => match progMm P with
  | false => (cX x).map .nckv
  | true => none
 | _ => none
section
variable {P : Program} {E : Env} {fr : List SV} {hp : List Blk} {a : Act}
theorem xEn {cs : List SV} {vs : List Value} {off : Nat} {n : Option Nat} {x : SV} (h : Rvs E cs vs) (e : ld cs off n = some x) :
  match n with
  | none => ∃ v, vs[off]? = some v /\ Rv E x v
  | some n => off + n <= vs.length /\ Rv E x (.agg ((vs.drop off).take n).toArray) \/ n = 0 /\ Rv E x (.agg #[]) := by
 cases n with
 | none => exact h.gq off e
 | some n =>
  simp only [ld] at e
  split at e
  ·rename_i r hr
   cases e
   obtain ⟨h1, h2⟩ := (h.dr off).tk n hr
   rw [List.length_drop] at h1
   by_cases hn : n = 0
   ·subst hn
    refine .inr ⟨rfl, ?_⟩
    simpa using Rv.agg _ _ h2
   ·exact .inl ⟨by omega, .agg _ _ h2⟩
  ·cases e
theorem xAs {w : World} {t : TypeId} {b base off : Nat} {n : Option Nat} {cs : List SV} {vs : List Value} {x : SV} (hs : aggSize P t = some n) (h : Rvs E cs vs)
  (hc : ∀ j v, vs[j]? = some v -> w.cell? ⟨b, base + j, none⟩ = some v) (e : ld cs off n = some x) :
  ∃ v, (loadVar t ⟨b, base + off, none⟩).run P w = .ok v w /\ Rv E x v := by
 unfold aggSize at hs
 have ha : ∀ j : Nat, (⟨b, base + off, none⟩ : Addr).add j = ⟨b, base + (off + j), none⟩ := fun j => by
  unfold Addr.add; split <;> simp_all [Nat.add_assoc]
 have agg : ∀ i, P.info? t = some i -> some (some i.size) = some n -> (isAgg t).run P w = .ok true w -> ∃ v, (loadVar t ⟨b, base + off, none⟩).run P w = .ok v w /\ Rv E x v := by
  intro i hi hn hagg
  cases hn
  have hl := xEn h e
  simp only at hl
  have hld : (loadCells ⟨b, base + off, none⟩ ((vs.drop off).take i.size).length).run P w = .ok ((vs.drop off).take i.size).toArray w :=
   run_loadCells_list w _ _ (fun j v hv => by
    rw [ha]; refine hc _ v ?_
    rw [List.getElem?_take] at hv
    split at hv
    ·simpa using hv
    ·cases hv)
  rcases hl with ⟨h1, h2⟩ | ⟨h1, h2⟩
  ·have : ((vs.drop off).take i.size).length = i.size := by rw [List.length_take, List.length_drop]; omega
   rw [this] at hld
   refine ⟨_, ?_, h2⟩
   simp [loadVar, hagg, sizeOf, typeInfo, hi, hld]
  ·refine ⟨_, ?_, h2⟩
   simp [loadVar, hagg, sizeOf, typeInfo, hi, h1, loadCells, loadCellsFrom]
 split at hs
 ·rename_i i hu hi
  exact agg _ hi hs (by simp [isAgg, run_underlying hu])
 ·rename_i i hu hi
  exact agg _ hi hs (by simp [isAgg, run_underlying hu])
 ·rename_i d i hd1 hd2 hu hi
  cases hs
  obtain ⟨v, hv, hx⟩ := xEn h e
  refine ⟨v, ?_, hx⟩
  have := hc off v hv
  have hne : ∀ w, (isAgg t).run P w = .ok false w := by
   intro w
   simp only [isAgg, Sem.run_bind, run_underlying hu, Result.andThen_ok]
   rfl
  simp [loadVar, hne, this]
 ·cases hs
theorem xAr (vs : Nat -> List Value) (sz : Nat) : ∀ len, (∀ i, i < len -> (vs i).length = sz) -> ((List.range len).flatMap vs).length = len * sz
 | 0, _ => by simp
 | len + 1, h => by
  rw [List.range_succ, List.flatMap_append, List.length_append, xAr vs sz len (fun i hi => h i (by omega))]
  simp [h len (by omega), Nat.add_mul]
theorem xCf (vs : Nat -> List Value) (sz : Nat) : ∀ len i j v, (∀ i, i < len -> (vs i).length = sz) -> i < len -> (vs i)[j]? = some v -> ((List.range len).flatMap vs)[i * sz + j]? = some v
 | 0, _, _, _, _, hi, _ => by omega
 | len + 1, i, j, v, h, hi, hv => by
  have hl := xAr vs sz len (fun i hi => h i (by omega))
  have hj : j < sz := by have := (List.getElem?_eq_some_iff.1 hv).1; rw [h i hi] at this; exact this
  rw [List.range_succ, List.flatMap_append, List.getElem?_append, hl]
  by_cases hc : i < len
  ·have : (i + 1) * sz <= len * sz := Nat.mul_le_mul_right _ hc
   rw [Nat.add_mul] at this
   rw [if_pos (by omega)]
   exact xCf vs sz len i j v (fun i hi => h i (by omega)) hc hv
  ·have : i = len := by omega
   subst this
   rw [if_neg (by omega)]
   simpa using hv
theorem xAf {w : World} {g : Nat} {t : TypeId} {vs : List Value} {fz : Nat × Nat} (h : w.heap[g]? = some (.cells vs.toArray t fz)) (j : Nat) (v : Value) (hv : vs[j]? = some v) :
  w.cell? ⟨g, j, none⟩ = some v := by
 simp [World.cell?, h, hv]
theorem lda_ok (hh : RHp E hp) {t : TypeId} {n : Option Nat} (hs : aggSize P t = some n) {x y : SV} {u : Value} (hx : Rv E x u) {p : Prop} (e : lda hp n x = some (p, y)) (hp' : p) :
  ∃ v, (Instr.loadAt t u).run P E.w = .ok v E.w /\ Rv E y v := by
 unfold lda at e
 split at e
 ·rename_i cs off
  split at e
  ·rename_i z hz
   cases e
   obtain ⟨vs, b, base, h1, h2, h3, rfl⟩ := hx.rpE
   obtain ⟨v, h4, h5⟩ := xAs (w := E.w) hs h1.rv h3 hz
   exact ⟨v, by simpa [Instr.loadAt, Instr.sureAddr] using h4, h5⟩
  ·cases e
 ·rename_i l off
  have go : ∀ t' cs, (∃ vs, Rvs E cs vs /\ E.w.heap[E.blk l]? = some (.cells vs.toArray t' (0, 0))) -> (match ld cs off n with
   | some x => some (True, x)
   | none => none) = some (p, y) -> ∃ v, (Instr.loadAt t u).run P E.w = .ok v E.w /\ Rv E y v := by
   intro t' cs ⟨vs, h1, h2⟩ e
   split at e
   ·rename_i z hz
    cases e
    cases hx with
    | ptr _ _ hl =>
     obtain ⟨v, h4, h5⟩ := xAs (w := E.w) (b := E.blk l) (base := 0) hs h1 (fun j v hv => by rw [Nat.zero_add]; exact xAf h2 j v hv) hz
     exact ⟨v, by simpa [Instr.loadAt, Instr.sureAddr] using h4, h5⟩
   ·cases e
  split at e
  ·rename_i t' cs hg
   exact go t' cs (hh.b.blk l _ (xAa hg (by simp))) e
  ·rename_i t' cs hg
   exact go t' cs (hh.b.blk l _ (xAa hg (by simp))).2 e
  ·cases e
 ·rename_i l sz i off
  split at e
  ·rename_i k t' xs hg
   split at e
   ·cases e
    obtain ⟨rfl, hi⟩ := hp'
    obtain ⟨h1, h2⟩ := hh.b.blk l _ (xAa hg (by simp))
    cases hx with
    | ep _ _ _ _ hl =>
     have hx' : (xs.map (Value.int k))[i]? = some (.int k (xs.getD i 0)) := by simp [hi]
     have hown : (E.val l).ownBlock = some (E.blk l) := by
      rcases h1.2 with ⟨hv, hn⟩ | ⟨g, cap, cur, hv, _⟩
      ·omega
      ·have := h2 g (by rw [hv]; rfl)
       rw [hv, <- this]; rfl
     have := h1.cells hown i _ hx'
     have hadd : (⟨E.blk l, 0, none⟩ : Addr).add i = ⟨E.blk l, i * 1 + 0, none⟩ := by unfold Addr.add; split <;> simp_all
     rw [hadd] at this
     obtain ⟨v, h4, h5⟩ := xAs (P := P) (E := E) (w := E.w) (b := E.blk l) (base := i * 1) (off := 0) (cs := [.int k (xs.getD i 0)]) (vs := [.int k (xs.getD i 0)]) (x := .int k (xs.getD i 0)) hs
      (.cons _ _ _ _ (.int _ _) .nil) (fun j v hv => by
       cases j with
       | zero => simp at hv; subst hv; simpa using this
       | succ j => simp at hv) rfl
     exact ⟨v, by simpa [Instr.loadAt, Instr.sureAddr] using h4, h5⟩
   ·cases e
  ·rename_i t' sz' len f hg
   split at e
   ·rename_i z hz
    cases e
    obtain ⟨rfl, hi⟩ := hp'
    obtain ⟨⟨vs, h1, h2, h3⟩, h4⟩ := hh.b.blk l _ (xAa hg (by simp))
    cases hx with
    | ep _ _ _ _ hl =>
     have hown : (E.val l).ownBlock = some (E.blk l) := by
      rcases h3.2 with ⟨hv, hn⟩ | ⟨g, cap, cur, hv, _⟩
      ·omega
      ·have := h4 g (by rw [hv]; rfl)
       rw [hv, <- this]; rfl
     have hcell : ∀ j v, (vs i)[j]? = some v -> E.w.cell? ⟨E.blk l, i * sz + j, none⟩ = some v := by
      intro j v hv
      have hj : j < sz := by have := (List.getElem?_eq_some_iff.1 hv).1; rw [h2 i hi] at this; exact this
      have : ((List.range len).flatMap vs)[i * sz + j]? = some v := by
       exact xCf vs sz len i j v h2 hi hv
      have h5 := h3.cells hown _ _ this
      have hadd : (⟨E.blk l, 0, none⟩ : Addr).add (i * sz + j) = ⟨E.blk l, i * sz + j, none⟩ := by unfold Addr.add; split <;> simp_all
      rwa [hadd] at h5
     obtain ⟨v, h5, h6⟩ := xAs (w := E.w) (b := E.blk l) (base := i * sz) hs (h1 i hi).rv hcell hz
     exact ⟨v, by simpa [Instr.loadAt, Instr.sureAddr] using h5, h6⟩
   ·cases e
  ·cases e
 ·cases e
theorem xBb {α β : Type} (f : α -> β) (xs : Array α) : xs.map f = (xs.toList.map f).toArray := by rw [<- Array.toList_map]
theorem xQa (k : IntKind) {r : Nat} (h : r < 2 ^ (k.bits - 1)) : k.wrap (r : Int) = r := by
 cases k <;> simp [IntKind.bits, IntKind.wrap, IntKind.signed] at h ⊢ <;> omega
theorem xIu (k : IntKind) {a : Int} (h1 : 0 <= a) (h3 : a < ((2 ^ (k.bits - 1) : Nat) : Int)) : (BitVec.ofInt k.bits a).toNat = a.toNat := by
 rw [BitVec.toNat_ofInt]
 congr 1
 apply Int.emod_eq_of_lt h1
 refine Int.lt_trans h3 ?_
 cases k <;> simp [IntKind.bits]
theorem xQb (k : IntKind) {a b : Int} (h1 : 0 <= a) (h2 : 0 <= b) (h3 : a < ((2 ^ (k.bits - 1) : Nat) : Int)) (h4 : b < ((2 ^ (k.bits - 1) : Nat) : Int)) :
  k.wrap ((BitVec.ofInt k.bits a &&& BitVec.ofInt k.bits b).toNat : Int) = ((a.toNat &&& b.toNat : Nat) : Int) := by
 rw [BitVec.toNat_and, xIu k h1 h3, xIu k h2 h4]
 refine xQa k (Nat.lt_of_le_of_lt Nat.and_le_left ?_)
 omega
theorem xQc {k : IntKind} {n : Int} {m : Nat} (h : InR k (n * ((2 ^ m : Nat) : Int))) : k.wrap (n * 2 ^ m) = n * ((2 ^ m : Nat) : Int) := by
 have : (n * 2 ^ m : Int) = n * ((2 ^ m : Nat) : Int) := by rw [Int.natCast_pow]; rfl
 rw [this]; exact h.wrap
theorem xSm {n : Int} {m : Nat} : n.fdiv (2 ^ m) = n / ((2 ^ m : Nat) : Int) := by
 have : (2 ^ m : Int) = ((2 ^ m : Nat) : Int) := by rw [Int.natCast_pow]; rfl
 rw [this, Int.fdiv_eq_ediv_of_nonneg _ (Int.natCast_nonneg _)]
theorem bin_ok {op : BinOp} {k k' : IntKind} {n m : Int} {t : Nat} {p : Prop} {y : SV} (e : bin op k k' n m = some (p, y)) (hp' : p) (ox oy : Operand) :
  ∃ v, (do eqGuard op t ox oy (.int k n) (.int k' m); binOp op t (.int k n) (.int k' m) : Sem Value).run P E.w = .ok v E.w /\ Rv E y v := by
 cases op <;> simp only [bin, Option.some.injEq, Prod.mk.injEq, reduceCtorEq, and_false] at e <;> obtain ⟨rfl, rfl⟩ := e
 case add => obtain ⟨rfl, h⟩ := hp'; exact ⟨_, by simp [eqGuard, binOp, Op.intArith, h.wrap], .int _ _⟩
 case sub => obtain ⟨rfl, h⟩ := hp'; exact ⟨_, by simp [eqGuard, binOp, Op.intArith, h.wrap], .int _ _⟩
 case mul => obtain ⟨rfl, h⟩ := hp'; exact ⟨_, by simp [eqGuard, binOp, Op.intArith, h.wrap], .int _ _⟩
 case quo => obtain ⟨rfl, h0, h⟩ := hp'; exact ⟨_, by simp [eqGuard, binOp, Op.intDiv, h0, h.wrap], .int _ _⟩
 case rem => obtain ⟨rfl, h0⟩ := hp'; exact ⟨_, by simp [eqGuard, binOp, Op.intDiv, h0], .int _ _⟩
 case and => obtain ⟨rfl, ⟨h1, h2⟩, h3, h4⟩ := hp'; exact ⟨_, by have h5 := xQb k h1 h2 h3 h4; simp only [BitVec.toNat_and, BitVec.toNat_ofInt] at h5; simp only [eqGuard, binOp, Op.intBits, ne_eq, not_true_eq_false, if_false, BitVec.toNat_and, BitVec.toNat_ofInt, h5]; simp, .int _ _⟩
 case shl => obtain ⟨⟨h0, h1⟩, h⟩ := hp'; exact ⟨_, by simp [eqGuard, binOp, Op.shift, Int.not_lt.2 h0, Nat.min_eq_left h1, xQc h], .int _ _⟩
 case shr => obtain ⟨h0, h1⟩ := hp'; exact ⟨_, by simp [eqGuard, binOp, Op.shift, Int.not_lt.2 h0, Nat.min_eq_left h1, xSm], .int _ _⟩
 case eql => subst hp'; exact ⟨.bool (decide (n = m)), by simp [eqGuard, binOp, Op.intCmp]; rfl, .bool _⟩
 case neq => subst hp'; exact ⟨.bool (!decide (n = m)), by simp [eqGuard, binOp, Op.intCmp, bne]; rfl, .bool _⟩
 case lss => subst hp'; exact ⟨_, by simp [eqGuard, binOp, Op.intCmp], .bool _⟩
 case leq => subst hp'; exact ⟨_, by simp [eqGuard, binOp, Op.intCmp], .bool _⟩
 case gtr => subst hp'; exact ⟨_, by simp [eqGuard, binOp, Op.intCmp], .bool _⟩
 case geq => subst hp'; exact ⟨_, by simp [eqGuard, binOp, Op.intCmp], .bool _⟩
theorem xOg {t : TypeId} {n : Option Nat} {cs : List SV} {vs : List Value} {off : Nat} {x : SV} (hs : aggSize P t = some n) (h : Rvs E cs vs) (e : ld cs off n = some x) (w : World) :
  ∃ v, (part t vs.toArray off).run P w = .ok v w /\ Rv E x v := by
 unfold aggSize at hs
 have agg : ∀ i, P.info? t = some i -> some (some i.size) = some n -> (isAgg t).run P w = .ok true w -> ∃ v, (part t vs.toArray off).run P w = .ok v w /\ Rv E x v := by
  intro i hi hn hagg
  cases hn
  have hl := xEn h e
  simp only at hl
  have hex : vs.toArray.extract off (off + i.size) = ((vs.drop off).take i.size).toArray := by
   apply Array.ext'; simp
  rcases hl with ⟨h1, h2⟩ | ⟨h1, h2⟩
  ·exact ⟨_, by simp [part, hagg, sizeOf, typeInfo, hi, hex], h2⟩
  ·exact ⟨_, by simp [part, hagg, sizeOf, typeInfo, hi, h1], h2⟩
 split at hs
 ·rename_i i hu hi
  exact agg _ hi hs (by simp [isAgg, run_underlying hu])
 ·rename_i i hu hi
  exact agg _ hi hs (by simp [isAgg, run_underlying hu])
 ·rename_i d i hd1 hd2 hu hi
  cases hs
  obtain ⟨v, hv, hx⟩ := xEn h e
  refine ⟨v, ?_, hx⟩
  have hne : ∀ w, (isAgg t).run P w = .ok false w := by
   intro w
   simp only [isAgg, Sem.run_bind, run_underlying hu, Result.andThen_ok]
   rfl
  simp [part, hne, hv]
 ·cases hs
theorem own_blk {l : Nat} {t sz n : Nat} {xs : List Value} (h : E.w.ownsRow 0 t sz (E.val l) n xs) (h2 : ∀ g, (E.val l).ownBlock = some g -> g = E.blk l) (hn : 0 < n) :
  ∃ cap, E.val l = .slice (some ⟨E.blk l, 0, none⟩) n cap := by
 rcases h.2 with ⟨hv, hn⟩ | ⟨g, cap, cur, hv, _⟩
 ·omega
 ·have := h2 g (by rw [hv]; rfl)
  exact ⟨cap, by rw [hv, <- this]⟩
theorem ixs_ok (hh : RHp E hp) {sz : Nat} {n : Int} {k : IntKind} {t : TypeId} {x y : SV} {u : Value} {p : Prop} (e : ixs hp sz n x = some (p, y)) (hp' : p) (hx : Rv E x u)
  (run : ∀ (b off len cap : Nat), 0 <= n -> n < (len : Int) -> (Instr.indexAt t (.slice (some ⟨b, off, none⟩) len cap) (.int k n)).run P E.w = .ok (.pointer (some ⟨b, off + n.toNat * sz, none⟩)) E.w) :
  ∃ v, (Instr.indexAt t u (.int k n)).run P E.w = .ok v E.w /\ Rv E y v := by
 have ints : ∀ k' xs, Rv E (.ints k' xs) u -> sz = 1 /\ 0 <= n /\ n < xs.length -> ∃ v, (Instr.indexAt t u (.int k n)).run P E.w = .ok v E.w /\ Rv E (.rp [.int k' (xs.getD n.toNat 0)] 0) v := by
  intro k' xs hx ⟨hsz, h0, h1⟩
  rcases hx.intsE with ⟨rfl, _⟩ | ⟨b, off, cap, h2, h3, h4, rfl⟩
  ·simp at h1; omega
  ·refine ⟨_, run _ _ _ _ h0 h1, ?_⟩
   subst hsz
   have hlt : n.toNat < xs.length := by omega
   refine .rp _ _ _ (.rp _ [.int k' (xs.getD n.toNat 0)] 0 b (off + n.toNat * 1) (.cons _ _ _ _ (.int _ _) .nil) h2 ?_)
   intro j v hv
   cases j with
   | zero => simp at hv; subst hv; have := h3 n.toNat xs[n.toNat] (by simp [hlt]); simpa [hlt] using this
   | succ j => simp at hv
 have rd : ∀ sz' len f, Rv E (.rd sz' len f) u -> sz = sz' /\ 0 <= n /\ n < (len : Int) -> ∃ v, (Instr.indexAt t u (.int k n)).run P E.w = .ok v E.w /\ Rv E (.rp (f n.toNat) 0) v := by
  intro sz' len f hx ⟨hsz, h0, h1⟩
  rcases hx.rdE with ⟨rfl, _⟩ | ⟨b, off, cap, vs, h2, h3, h4, h5, h6, rfl⟩
  ·omega
  ·refine ⟨_, run _ _ _ _ h0 h1, ?_⟩
   subst hsz
   have hlt : n.toNat < len := by omega
   refine .rp _ _ _ (.rp _ (vs n.toNat) 0 b (off + n.toNat * sz) (h3 _ hlt) h2 ?_)
   intro j v hv
   have := h5 n.toNat j v hlt hv
   rwa [<- Nat.add_assoc] at this
 unfold ixs at e
 split at e
 ·cases e; exact ints _ _ hx hp'
 ·cases e; exact rd _ _ _ hx hp'
 ·cases e; exact ints _ _ hx.clipE.unclip.rv hp'
 ·cases e; exact rd _ _ _ hx.cliprE.unclipr.rv hp'
 ·cases e
  obtain ⟨hl, rfl⟩ := hx.bslE
  refine ⟨_, run _ _ _ _ hp'.1 hp'.2, ?_⟩
  rw [Nat.zero_add]; exact .ptr _ _ hl
 ·cases e
  obtain ⟨hl, rfl⟩ := hx.bsoE
  exact ⟨_, run _ _ _ _ hp'.1 hp'.2, .ptr _ _ hl⟩
 ·rename_i l
  obtain ⟨hl, _, hv⟩ := hx.ownE
  have get : ∀ {b : Blk}, gb hp l = b -> b ≠ .dead -> Rblk E l b /\ u = E.val l := fun h1 h2 => ⟨hh.b.blk l _ (xAa h1 h2), hv (hh.b.live l _ (xAa h1 h2) h2)⟩
  split at e
  ·rename_i k' t' xs hg
   cases e
   obtain ⟨⟨h1, h2⟩, rfl⟩ := get hg (by simp)
   obtain ⟨rfl, h0, h3⟩ := hp'
   obtain ⟨cap, hc⟩ := own_blk h1 h2 (by omega)
   rw [hc]
   refine ⟨_, run _ _ _ _ h0 h3, ?_⟩
   rw [Nat.zero_add]; exact .ep l 1 _ 0 hl
  ·rename_i t' sz' len f hg
   cases e
   obtain ⟨⟨⟨vs, _, _, h1⟩, h2⟩, rfl⟩ := get hg (by simp)
   obtain ⟨rfl, h0, h3⟩ := hp'
   obtain ⟨cap, hc⟩ := own_blk h1 h2 (by omega)
   rw [hc]
   refine ⟨_, run _ _ _ _ h0 h3, ?_⟩
   rw [Nat.zero_add]; exact .ep l sz _ 0 hl
  ·rename_i k' xs hg
   cases e
   obtain ⟨h1, rfl⟩ := get hg (by simp)
   exact ints _ _ h1 hp'
  ·rename_i sz' len f hg
   cases e
   obtain ⟨h1, rfl⟩ := get hg (by simp)
   exact rd _ _ _ h1 hp'
  ·cases e
 ·cases e
theorem xSn (hh : RHp E hp) {n : Nat} {x : SV} {u : Value} (e : lens hp x = some n) (hx : Rv E x u) : ∃ a cap, u = .slice a n cap := by
 have ints : ∀ k' xs, Rv E (.ints k' xs) u -> ∃ a cap, u = .slice a xs.length cap := by
  intro k' xs hx
  rcases hx.intsE with ⟨rfl, _, _, rfl, _⟩ | ⟨b, off, cap, h2, h3, h4, rfl⟩ <;> exact ⟨_, _, rfl⟩
 have rd : ∀ sz' len f, Rv E (.rd sz' len f) u -> ∃ a cap, u = .slice a len cap := by
  intro sz' len f hx
  rcases hx.rdE with ⟨rfl, _, _, rfl, _⟩ | ⟨b, off, cap, vs, h2, h3, h4, h5, h6, rfl⟩ <;> exact ⟨_, _, rfl⟩
 have own : ∀ {w : World} {v : Value} {t sz n : Nat} {xs : List Value}, w.ownsRow 0 t sz v n xs -> ∃ a cap, v = .slice a n cap := by
  intro w v t sz n xs h
  rcases h.2 with ⟨rfl, rfl⟩ | ⟨g, cap, cur, rfl, _⟩ <;> exact ⟨_, _, rfl⟩
 unfold lens at e
 split at e
 ·cases e; exact ints _ _ hx
 ·cases e; exact rd _ _ _ hx
 ·cases e; exact ints _ _ hx.clipE.unclip.rv
 ·cases e; exact rd _ _ _ hx.cliprE.unclipr.rv
 ·cases e; obtain ⟨_, rfl⟩ := hx.bslE; exact ⟨_, _, rfl⟩
 ·cases e; obtain ⟨_, rfl⟩ := hx.bsoE; exact ⟨_, _, rfl⟩
 ·cases e; exact ⟨_, _, hx.litE⟩
 ·rename_i l
  obtain ⟨hl, _, hv⟩ := hx.ownE
  have get : ∀ {b : Blk}, gb hp l = b -> b ≠ .dead -> Rblk E l b /\ u = E.val l := fun h1 h2 => ⟨hh.b.blk l _ (xAa h1 h2), hv (hh.b.live l _ (xAa h1 h2) h2)⟩
  split at e
  ·rename_i hg; cases e; obtain ⟨h1, rfl⟩ := get hg (by simp); exact own h1.1
  ·rename_i hg; cases e; obtain ⟨h1, rfl⟩ := get hg (by simp); obtain ⟨⟨vs, _, _, h1⟩, _⟩ := h1; exact own h1
  ·rename_i hg; cases e; obtain ⟨h1, rfl⟩ := get hg (by simp); exact ints _ _ h1
  ·rename_i hg; cases e; obtain ⟨h1, rfl⟩ := get hg (by simp); exact rd _ _ _ h1
  ·cases e
 ·cases e
theorem xOh {o : Oper} {op : BinOp} {t yt : TypeId} {x z : Operand} {b1 b2 : Bool} {p : Prop} {y : SV} (e : binB op b1 b2 = some (p, y)) (hp' : p)
  (ho : o.op = .binOp op t x z yt) (e1 : a.eval x = .bool b1) (e2 : a.eval z = .bool b2) (hbool : P.underlying t = some .bool) :
  ∃ v, (execOp a.eval o).run P E.w = .ok (.value v) E.w /\ Rv E y v := by
 cases op <;> simp only [binB, Option.some.injEq, Prod.mk.injEq, reduceCtorEq, and_false] at e <;> obtain ⟨rfl, rfl⟩ := e
 ·exact ⟨.bool (b1 == b2), by simp [execOp, ho, e1, e2, eqGuard, binOp, run_equal_bool _ t b1 b2 hbool], .bool _⟩
 ·exact ⟨.bool (!(b1 == b2)), by simp [execOp, ho, e1, e2, eqGuard, binOp, run_equal_bool _ t b1 b2 hbool], .bool _⟩
theorem InQ.wf {k : IntKind} {n : Int} (h : InQ k n) : (Lit.int k n).wf = true := by
 cases k <;> first | exact h | (obtain ⟨h1, h2⟩ := h; simp [Lit.wf, IntKind.min, IntKind.max, IntKind.signed, IntKind.bits]; omega)
theorem xIv : ∀ {ks : List (Option IntKind)} {xs : List SV} {vs : List Value} {p : Prop} {l : List Int}, fit ks xs = some (p, l) -> p -> Rvs E xs vs -> ∃ ls, Fits ks vs ls l
 | [], [], _, p, l, h, hp, .nil => by simp only [fit, Option.some.injEq, Prod.mk.injEq] at h; obtain ⟨_, rfl⟩ := h; exact ⟨[], .nil⟩
 | none :: ks, x :: xs, _, p, l, h, hp, .cons _ v _ vs hx hs => by
  simp only [fit] at h
  split at h
  ·rename_i b q l' hb hq
   cases h
   obtain ⟨ls, hf⟩ := xIv hq hp hs
   rw [xGe hx hb]
   exact ⟨_, .b b _ _ _ _ hf⟩
  ·cases h
 | some k :: ks, x :: xs, _, p, l, h, hp, .cons _ v _ vs hx hs => by
  cases x with
  | int k' n =>
   simp only [fit] at h
   split at h
   ·rename_i q l' hq
    cases h
    obtain ⟨⟨rfl, hw⟩, hp⟩ := hp
    obtain ⟨ls, hf⟩ := xIv hq hp hs
    rw [hx.intE]
    exact ⟨_, .i _ n _ _ _ _ hw.wf hf⟩
   ·cases h
  | _ => simp [fit] at h
 | [], _ :: _, _, _, _, h, _, _ => by simp [fit] at h
 | none :: _, [], _, _, _, h, _, _ => by simp [fit] at h
 | some _ :: _, [], _, _, _, h, _, _ => by simp [fit] at h
theorem xLe {o : Oper} {op : BinOp} {t yt : TypeId} {x z : Operand} {x' z' : X} {ks : List (Option IntKind)} {ng : Bool} {p : Prop} {y : SV} (e : evp fr hp (.eqs ks ng x' z') = some (p, y)) (hp' : p)
  (hks : eqks P t = some ks) (hng : op = bif ng then .neq else .eql) (ho : o.op = .binOp op t x z yt) (k1 : Rv E (x'.get fr) (a.eval x)) (k2 : Rv E (z'.get fr) (a.eval z)) :
  ∃ v, (execOp a.eval o).run P E.w = .ok (.value v) E.w /\ Rv E y v := by
 simp only [evp] at e
 split at e
 ·rename_i xs ys hx hy
  rw [hx] at k1; rw [hy] at k2
  obtain ⟨vs, h1, e1⟩ := k1.aggE
  obtain ⟨us, h2, e2⟩ := k2.aggE
  split at e
  ·rename_i p1 a1 p2 b1 f1 f2
   cases e
   obtain ⟨l1, g1⟩ := xIv f1 hp'.1 h1
   obtain ⟨l2, g2⟩ := xIv f2 hp'.2 h2
   obtain ⟨h3, h4⟩ := xSs hks E.w (xs := vs.toArray) (ys := us.toArray) (by simpa using g1) (by simpa using g2)
   refine ⟨.bool (bif ng then !decide (a1 = b1) else decide (a1 = b1)), ?_, .bool _⟩
   cases ng <;> (subst hng; simp [execOp, ho, e1, e2, eqGuard, binOp, h3, h4])
  ·cases e
 ·cases e
theorem xSo {r : Option SV} {p : Prop} {y : SV} (e : tt r = some (p, y)) : r = some y /\ p = True := by
 cases r with
 | none => simp [tt] at e
 | some x => simp only [tt, Option.some.injEq, Prod.mk.injEq] at e; exact ⟨by rw [e.2], e.1.symm⟩
theorem xKa : ∀ {a b : List UInt8}, eqBs a b = (a == b)
 | [], [] => rfl
 | [], _ :: _ => rfl
 | _ :: _, [] => rfl
 | a :: x, b :: y => by
  have ih := xKa (a := x) (b := y)
  simp only [eqBs]
  by_cases h : a = b
  ·subst h; simp [ih]
  ·have h2 : Nat.beq a.toNat b.toNat = false := by
    rw [Bool.eq_false_iff]; intro h3; exact h (UInt8.toNat_inj.1 (Nat.eq_of_beq_eq_true h3))
   rw [h2]; simp [h]
theorem xOi : ∀ {a b : List UInt8}, ltBs a b = Op.bytesLess a b
 | [], [] => rfl
 | [], _ :: _ => rfl
 | _ :: _, [] => rfl
 | a :: x, b :: y => by
  have ih := xOi (a := x) (b := y)
  simp only [ltBs, Op.bytesLess, ih]
  by_cases hl : a < b
  ·have h1 : Nat.blt a.toNat b.toNat = true := by rw [Nat.blt_eq]; exact UInt8.lt_iff_toNat_lt.1 hl
   simp [h1, hl]
  ·have h1 : Nat.blt a.toNat b.toNat = false := by
    rw [Bool.eq_false_iff]; intro h3; exact hl (UInt8.lt_iff_toNat_lt.2 (by rw [Nat.blt_eq] at h3; exact h3))
   by_cases h : a = b
   ·subst h; simp [h1]
   ·have h2 : Nat.beq a.toNat b.toNat = false := by
     rw [Bool.eq_false_iff]; intro h3; exact h (UInt8.toNat_inj.1 (Nat.eq_of_beq_eq_true h3))
    simp [h1, h2, hl, h]
theorem xQd {p : Prop} {x y : SV} {v : Value} (e : tt (strlV x) = some (p, y)) (h : Rv E x v) : ∃ s : ByteArray, p = True /\ y = .int .i64 s.size /\ v = .string s := by
 obtain ⟨e, hp⟩ := xSo e
 unfold strlV at e
 split at e
 ·cases e; exact ⟨_, hp, rfl, h.litE⟩
 ·cases e
theorem xSp {o : Oper} {p : Prop} {x' i' y : SV} {t : TypeId} {x i : Operand} (e : tt (striV x' i') = some (p, y)) (ho : o.op = .index t x i) (k1 : Rv E x' (a.eval x)) (k2 : Rv E i' (a.eval i)) (hs : P.underlying t = some .string) :
  ∃ v, (execOp a.eval o).run P E.w = .ok (.value v) E.w /\ Rv E y v := by
 obtain ⟨e, hp⟩ := xSo e
 unfold striV at e
 split at e <;> first | (cases e; done) | skip
 split at e <;> first | (cases e; done) | skip
 unfold strAt at e
 split at e <;> first | (cases e; done) | skip
 rename_i h0
 split at e <;> first | (cases e; done) | skip
 rename_i b hb
 cases e
 have k1 := k1.litE
 have k2 := k2.intE
 have h0 := of_decide_eq_true h0
 refine ⟨_, ?_, .int _ _⟩
 have hg : ∀ (s : ByteArray) (n : Nat), s[n]? = s.data[n]? := fun s n => by
  by_cases hn : n < s.size
  ·rw [getElem?_pos s n hn, Array.getElem?_eq_getElem hn]
   rfl
  ·rw [getElem?_neg s n hn, Array.getElem?_eq_none (by simpa using hn)]
 rw [Array.getElem?_toList] at hb
 simp [execOp, ho, k1, k2, Instr.index, run_underlying hs, asIntOf, h0, hg, hb]
theorem xSq {o : Oper} {p : Prop} {x' y' z : SV} {op : BinOp} {t yt : TypeId} {x y : Operand} (e : tt (strbV op x' y') = some (p, z)) (ho : o.op = .binOp op t x y yt) (k1 : Rv E x' (a.eval x)) (k2 : Rv E y' (a.eval y)) :
  ∃ v, (execOp a.eval o).run P E.w = .ok (.value v) E.w /\ Rv E z v := by
 obtain ⟨e, hp⟩ := xSo e
 unfold strbV at e
 split at e <;> first | (cases e; done) | skip
 split at e <;> first | (cases e; done) | skip
 have k1 := k1.litE
 have k2 := k2.litE
 unfold strC at e
 split at e <;> first | (cases e; done) | skip
 all_goals
  cases e
  refine ⟨_, ?_, .bool _⟩
  simp only [xKa, xOi, <- ByteArray.toList_eq]
  simp [execOp, ho, k1, k2, eqGuard, binOp, Op.stringOp]
theorem xLf (hh : RHp E hp) {o : Oper} {op : BinOp} {t yt e : TypeId} {x z : Operand} {x' : X} {n c : Nat} {ng : Bool} {p : Prop} {y : SV} (he : evp fr hp (.isnil ng x') = some (p, y)) (hp' : p)
  (hng : op = bif ng then .neq else .eql) (ho : o.op = .binOp op t x z yt) (k1 : Rv E (x'.get fr) (a.eval x)) (k2 : Rv E ((X.c (.lit (.slice none n c))).get fr) (a.eval z)) (hu : P.underlying t = some (.slice e)) :
  ∃ v, (execOp a.eval o).run P E.w = .ok (.value v) E.w /\ Rv E y v := by
 have k2 := Rv.litE (show Rv E (.lit (.slice none n c)) (a.eval z) from k2)
 have go : ∀ (ad : Option Addr) (m d : Nat), a.eval x = .slice ad m d -> Rv E y (.bool (bif ng then !ad.isNone else ad.isNone)) -> ∃ v, (execOp a.eval o).run P E.w = .ok (.value v) E.w /\ Rv E y v := by
  intro ad m d h1 h2
  refine ⟨_, ?_, h2⟩
  have h3 : (Op.equal t (.slice ad m d) (.slice none n c)).run P E.w = .ok ad.isNone E.w := by
   have : ∀ k, (Op.equalIn (k + 1) t (.slice ad m d) (.slice none n c)).run P E.w = .ok ad.isNone E.w := by
    intro k
    cases ad <;> simp [Op.equalIn, run_underlying hu]
   exact this 9999
  cases ng <;> (subst hng; simp [execOp, ho, h1, k2, eqGuard, binOp, h3])
 simp only [evp] at he
 split at he
 ·rename_i q b hq
  cases he
  unfold nilq at hq
  split at hq
  ·rename_i hx
   rw [hx] at k1
   cases hq
   have k1 := k1.litE
   refine go _ _ _ k1 ?_
   cases ng <;> exact .lit _
  ·rename_i k xs hx
   rw [hx] at k1
   cases hq
   rcases k1.intsE with ⟨h1, _⟩ | ⟨b, off, cap, _, _, _, h1⟩
   ·exact absurd h1 hp'
   ·refine go _ _ _ h1 ?_
    cases ng <;> exact .lit _
  ·rename_i k xs hx
   rw [hx] at k1
   cases hq
   have k1 := k1.clipE
   generalize hu' : a.eval x = u at k1
   cases k1 with
   | clipNil => exact absurd rfl hp'
   | clipE => exact absurd rfl hp'
   | clip _ _ b off h1 h2 =>
    refine go _ _ _ hu' ?_
    cases ng <;> exact .lit _
  ·rename_i sz len f hx
   rw [hx] at k1
   cases hq
   rcases k1.rdE with ⟨h1, _⟩ | ⟨b, off, cap, vs, _, _, _, _, _, h1⟩
   ·omega
   ·refine go _ _ _ h1 ?_
    cases ng <;> exact .lit _
  ·rename_i l len hx
   rw [hx] at k1
   cases hq
   obtain ⟨_, h1⟩ := k1.bslE
   refine go _ _ _ h1 ?_
   cases ng <;> exact .lit _
  ·rename_i l off len cap hx
   rw [hx] at k1
   cases hq
   obtain ⟨_, h1⟩ := k1.bsoE
   refine go _ _ _ h1 ?_
   cases ng <;> exact .lit _
  ·rename_i l hx
   rw [hx] at k1
   obtain ⟨_, _, hv⟩ := k1.ownE
   have get : ∀ {b : Blk}, gb hp l = b -> b ≠ .dead -> Rblk E l b /\ a.eval x = E.val l := fun h1 h2 => ⟨hh.b.blk l _ (xAa h1 h2), hv (hh.b.live l _ (xAa h1 h2) h2)⟩
   split at hq
   ·rename_i k' t' xs hg
    cases hq
    obtain ⟨⟨h1, h2⟩, h3⟩ := get hg (by simp)
    obtain ⟨cap, hc⟩ := own_blk h1 h2 (by cases xs with | nil => exact absurd rfl hp' | cons _ _ => simp)
    rw [hc] at h3
    refine go _ _ _ h3 ?_
    cases ng <;> exact .lit _
   ·rename_i t' sz' len f hg
    cases hq
    obtain ⟨⟨⟨vs, _, _, h1⟩, h2⟩, h3⟩ := get hg (by simp)
    obtain ⟨cap, hc⟩ := own_blk h1 h2 hp'
    rw [hc] at h3
    refine go _ _ _ h3 ?_
    cases ng <;> exact .lit _
   ·rename_i k' xs hg
    cases hq
    obtain ⟨h1, h3⟩ := get hg (by simp)
    rcases h1.intsE with ⟨h2, h4⟩ | ⟨b, off, cap, _, _, _, h4⟩
    ·exact absurd h2 hp'
    ·rw [h4] at h3
     refine go _ _ _ h3 ?_
     cases ng <;> exact .lit _
   ·rename_i sz' len f hg
    cases hq
    obtain ⟨h1, h3⟩ := get hg (by simp)
    rcases h1.rdE with ⟨h2, h4⟩ | ⟨b, off, cap, vs, _, _, _, _, _, h4⟩
    ·omega
    ·rw [h4] at h3
     refine go _ _ _ h3 ?_
     cases ng <;> exact .lit _
   ·cases hq
  ·cases hq
 ·cases he
theorem evp_ok (hfr : Rvs E fr a.tmps.toList) (hh : RHp E hp) {o : Oper} {vo : VOp} (hc : cV P o = some vo) {p : Prop} {y : SV} (e : evp fr hp vo = some (p, y)) (hp' : p) :
  ∃ v, (execOp a.eval o).run P E.w = .ok (.value v) E.w /\ Rv E y v := by
 unfold cV at hc
 split at hc
 case h_1 x ho =>
  obtain ⟨x', hx, rfl⟩ := Option.map_eq_some_iff.1 hc
  simp only [evp, Option.some.injEq, Prod.mk.injEq] at e
  obtain ⟨rfl, rfl⟩ := e
  exact ⟨_, by simp [execOp, ho], X.ok hfr hx⟩
 case h_2 x ho =>
  obtain ⟨x', hx, rfl⟩ := Option.map_eq_some_iff.1 hc
  simp only [evp, Option.some.injEq, Prod.mk.injEq] at e
  obtain ⟨rfl, rfl⟩ := e
  exact ⟨_, by simp [execOp, ho], X.ok hfr hx⟩
 case h_3 c b d ho =>
  split at hc
  ·rename_i c' b' d' h1 h2 h3
   cases hc
   have k1 := X.ok hfr h1
   have k2 := X.ok hfr h2
   have k3 := X.ok hfr h3
   simp only [evp] at e
   generalize c'.get fr = cv at *
   split at e
   ·cases e; have k1 := k1.litE; exact ⟨_, by simp [execOp, ho, asBool, k1], k2⟩
   ·cases e; have k1 := k1.litE; exact ⟨_, by simp [execOp, ho, asBool, k1], k3⟩
   ·split at e
    ·rename_i g _ _ u v hu hv
     cases e
     have e1 := xGe k2 hu
     have e2 := xGe k3 hv
     have k1 := k1.boolE
     refine ⟨.bool (bif g then u else v), ?_, .bool _⟩
     cases g <;> simp [execOp, ho, asBool, k1, e1, e2]
    ·cases e
   ·cases e
  ·cases hc
 case h_4 op t x z yt ho =>
  split at hc
  ·rename_i x' z' h1 h2
   have k1 := X.ok hfr h1
   have k2 := X.ok hfr h2
   split at hc
   ·cases hc
    simp only [evp] at e
    split at e
    ·rename_i e1 e2
     rw [e1] at k1; rw [e2] at k2
     have k1 := k1.intE
     have k2 := k2.intE
     obtain ⟨v, h3, h4⟩ := bin_ok (P := P) (E := E) (t := t) e hp' x z
     exact ⟨v, by simp only [execOp, ho, k1, k2, Sem.run_bind] at h3 ⊢; rw [h3]; rfl, h4⟩
    ·cases e
   ·rename_i hbool
    cases hc
    simp only [evp] at e
    split at e
    ·rename_i b1 b2 hb1 hb2
     exact xOh e hp' ho (xGe k1 hb1) (xGe k2 hb2) hbool
    ·cases e
   ·split at hc
    ·rename_i ks hks; cases hc; exact xLe e hp' hks (ng := false) rfl ho k1 k2
    ·rename_i ks hks; cases hc; exact xLe e hp' hks (ng := true) rfl ho k1 k2
    ·cases hc
   ·split at hc
    ·rename_i ks hks; cases hc; exact xLe e hp' hks (ng := false) rfl ho k1 k2
    ·rename_i ks hks; cases hc; exact xLe e hp' hks (ng := true) rfl ho k1 k2
    ·cases hc
   ·rename_i hu
    split at hc
    ·cases hc; exact xLf hh e hp' (ng := false) rfl ho k1 k2 hu
    ·cases hc; exact xLf hh e hp' (ng := true) rfl ho k1 k2 hu
    ·cases hc
   ·cases hc
    exact xSq e ho k1 k2
   ·cases hc
  ·cases hc
 case h_5 t x ho =>
  obtain ⟨x', hx, rfl⟩ := Option.map_eq_some_iff.1 hc
  have k1 := X.ok hfr hx
  simp only [evp] at e
  split at e
  ·rename_i k n hk
   rw [hk] at k1
   cases e
   have k1 := k1.intE
   exact ⟨_, by simp [execOp, ho, k1, Op.unary, Op.intArith, hp'.wrap], .int _ _⟩
  ·cases e
 case h_6 t x ho =>
  obtain ⟨x', hx, rfl⟩ := Option.map_eq_some_iff.1 hc
  have k1 := X.ok hfr hx
  simp only [evp] at e
  split at e
  ·rename_i hk
   rw [hk] at k1; cases e; have k1 := k1.litE
   exact ⟨_, by simp [execOp, ho, k1, Op.unary], .lit _⟩
  ·rename_i hk
   rw [hk] at k1; cases e; have k1 := k1.litE
   exact ⟨_, by simp [execOp, ho, k1, Op.unary], .lit _⟩
  ·rename_i hk
   rw [hk] at k1; cases e; have k1 := k1.boolE
   exact ⟨_, by simp [execOp, ho, k1, Op.unary], .bool _⟩
  ·cases e
 case h_7 s d x ho =>
  split at hc
  ·rename_i hs hd hx
   cases hc
   have k1 := X.ok hfr hx
   simp only [evp] at e
   split at e
   ·rename_i n hk
    rw [hk] at k1; cases e; have k1 := k1.intE
    exact ⟨_, by simp [execOp, ho, k1, convert, run_underlying hs, run_underlying hd, Conv.intToInt, hp'.wrap], .int _ _⟩
   ·cases e
  ·cases hc
 case h_8 t x ho =>
  split at hc
  ·cases hc
  ·rename_i d x' h1 h2 h3
   cases hc
   have k1 := X.ok hfr h3
   simp only [evp, Option.some.injEq, Prod.mk.injEq] at e
   obtain ⟨rfl, rfl⟩ := e
   refine ⟨_, ?_, .ifc t _ _ k1⟩
   simp only [execOp, ho, Instr.makeInterface, Sem.run_bind, run_underlying h2, Result.andThen_ok]
   cases d <;> first | rfl | exact absurd rfl (h1 _)
  ·cases hc
 case h_9 f first caps ho =>
  split at hc
  ·rename_i hf
   obtain ⟨xs, hx, rfl⟩ := Option.map_eq_some_iff.1 hc
   simp only [evp, Option.some.injEq, Prod.mk.injEq] at e
   obtain ⟨rfl, rfl⟩ := e
   have k := Xs.ok hfr hx
   have hf' : first = #[] := Array.eq_empty_of_size_eq_zero hf
   subst hf'
   refine ⟨_, ?_, .fn f _ _ k⟩
   simp [execOp, ho, Instr.makeFunc, xBb]
  ·split at hc
   ·rename_i xs ys hx hy
    cases hc
    simp only [evp, Option.some.injEq, Prod.mk.injEq] at e
    obtain ⟨rfl, rfl⟩ := e
    refine ⟨_, ?_, .mv f _ _ _ _ (Xs.ok hfr hx) (Xs.ok hfr hy)⟩
    simp [execOp, ho, Instr.makeFunc, xBb]
   ·cases hc
 case h_10 t x f ho =>
  split at hc
  ·rename_i fs x' hs hx
   have k1 := X.ok hfr hx
   split at hc
   ·rename_i fd hfd
    split at hc
    ·rename_i i hi
     split at hc
     ·cases hc
     ·rename_i hz
      cases hc
      have run : ∀ b off, (Instr.fieldAt t (.pointer (some ⟨b, off, none⟩)) f).run P E.w = .ok (.pointer (some ⟨b, off + fd.offset, none⟩)) E.w := by
       intro b off
       have hadd : (⟨b, off, none⟩ : Addr).add fd.offset = ⟨b, off + fd.offset, none⟩ := by unfold Addr.add; split <;> simp_all
       simp [Instr.fieldAt, run_underlying hs, hfd, Instr.sureAddr, fieldPlace, sizeOf, typeInfo, hi, hz, hadd]
      simp only [evp] at e
      split at e
      ·rename_i l off hk
       rw [hk] at k1; cases e
       obtain ⟨hl, k1⟩ := k1.ptrE
       exact ⟨_, by simp [execOp, ho, k1, run], .ptr l _ hl⟩
      ·rename_i cs off hk
       rw [hk] at k1; cases e
       obtain ⟨vs, b, base, h1, h2, h3, k1⟩ := k1.rpE
       refine ⟨_, by simp [execOp, ho, k1, run]; rfl, ?_⟩
       rw [Nat.add_assoc]; exact .rp _ _ _ (.rp cs vs _ b base h1 h2 h3)
      ·rename_i l sz i off hk
       rw [hk] at k1; cases e
       obtain ⟨hl, k1⟩ := k1.epE
       refine ⟨_, by simp [execOp, ho, k1, run]; rfl, ?_⟩
       rw [Nat.add_assoc]; exact .ep l sz i _ hl
      ·cases e
    ·cases hc
   ·cases hc
  ·cases hc
 case h_11 t x f ho =>
  split at hc
  ·rename_i fs x' hs hx
   have k1 := X.ok hfr hx
   split at hc
   ·rename_i fd hfd
    obtain ⟨n, hn, rfl⟩ := Option.map_eq_some_iff.1 hc
    simp only [evp] at e
    split at e
    ·rename_i cs hk
     rw [hk] at k1
     obtain ⟨vs, h1, k1⟩ := k1.aggE
     split at e
     ·rename_i z hz
      cases e
      obtain ⟨v, h2, h3⟩ := xOg (P := P) (E := E) hn h1 hz E.w
      exact ⟨v, by simp [execOp, ho, k1, Instr.field, run_underlying hs, hfd, asAgg, h2], h3⟩
     ·cases e
    ·cases e
   ·cases hc
  ·cases hc
 case h_12 t x i ho =>
  split at hc
  ·rename_i el x' i' hs hx hi
   obtain ⟨d, hd, rfl⟩ := Option.map_eq_some_iff.1 hc
   have k1 := X.ok hfr hx
   have k2 := X.ok hfr hi
   simp only [evp] at e
   split at e
   ·rename_i k n hn
    rw [hn] at k2
    have k2 := k2.intE
    have run : ∀ (b off len cap : Nat), 0 <= n -> n < (len : Int) -> (Instr.indexAt t (.slice (some ⟨b, off, none⟩) len cap) (.int k n)).run P E.w = .ok (.pointer (some ⟨b, off + n.toNat * d.size, none⟩)) E.w := by
     intro b off len cap h1 h2
     have hadd : (⟨b, off, none⟩ : Addr).add (n.toNat * d.size) = ⟨b, off + n.toNat * d.size, none⟩ := by unfold Addr.add; split <;> simp_all
     simp [Instr.indexAt, run_underlying hs, asIntOf, sizeOf, typeInfo, hd, h1, h2, hadd]
    obtain ⟨v, h1, h2⟩ := ixs_ok hh e hp' k1 run
    exact ⟨v, by simp [execOp, ho, k2, h1], h2⟩
   ·cases e
  ·rename_i len el x' i' hs hx hi
   obtain ⟨d, hd, rfl⟩ := Option.map_eq_some_iff.1 hc
   have k1 := X.ok hfr hx
   have k2 := X.ok hfr hi
   have run : ∀ k n b off, 0 <= n -> n < (len : Int) -> (Instr.indexAt t (.pointer (some ⟨b, off, none⟩)) (.int k n)).run P E.w = .ok (.pointer (some ⟨b, off + n.toNat * d.size, none⟩)) E.w := by
    intro k n b off h1 h2
    have hadd : (⟨b, off, none⟩ : Addr).add (n.toNat * d.size) = ⟨b, off + n.toNat * d.size, none⟩ := by unfold Addr.add; split <;> simp_all
    simp [Instr.indexAt, run_underlying hs, asIntOf, sizeOf, typeInfo, hd, h1, h2, hadd, Instr.sureAddr]
   simp only [evp] at e
   split at e
   ·rename_i k n l off hn hxx
    rw [hn] at k2; rw [hxx] at k1; cases e
    have k2 := k2.intE
    obtain ⟨hl, k1⟩ := k1.ptrE
    exact ⟨_, by simp only [execOp, ho, k2, k1, Sem.run_bind]; rw [run _ _ _ _ hp'.1 hp'.2]; rfl, .ptr l _ hl⟩
   ·rename_i k n cs off hn hxx
    rw [hn] at k2; rw [hxx] at k1; cases e
    have k2 := k2.intE
    obtain ⟨vs, b, base, h1, h2, h3, k1⟩ := k1.rpE
    refine ⟨_, by simp only [execOp, ho, k2, k1, Sem.run_bind]; rw [run _ _ _ _ hp'.1 hp'.2]; rfl, ?_⟩
    rw [Nat.add_assoc]; exact .rp _ _ _ (.rp cs vs _ b base h1 h2 h3)
   ·cases e
  ·cases hc
 case h_13 t x i ho =>
  split at hc
  ·rename_i len el x' i' hs hx hi
   split at hc
   ·rename_i d s hd hsz
    cases hc
    have k1 := X.ok hfr hx
    have k2 := X.ok hfr hi
    simp only [evp] at e
    split at e
    ·rename_i k n cs hn hxx
     rw [hn] at k2; rw [hxx] at k1
     have k2 := k2.intE
     obtain ⟨vs, h1, k1⟩ := k1.aggE
     split at e
     ·rename_i y' hy
      cases e
      obtain ⟨v, h2, h3⟩ := xOg (P := P) (E := E) hsz h1 hy E.w
      exact ⟨v, by simp [execOp, ho, k1, k2, Instr.index, run_underlying hs, asIntOf, hp'.1, hp'.2, sizeOf, typeInfo, hd, h2], h3⟩
     ·cases e
    ·cases e
   ·cases hc
  ·rename_i x' i' hs hx hi
   cases hc
   exact xSp e ho (X.ok hfr hx) (X.ok hfr hi) hs
  ·cases hc
 case h_14 t x ho =>
  split at hc
  ·rename_i n x' hs hx
   cases hc
   obtain ⟨v, h1, h2⟩ := lda_ok hh hs (X.ok hfr hx) e hp'
   exact ⟨v, by simp [execOp, ho, h1], h2⟩
  ·cases hc
 case h_15 x i ho =>
  obtain ⟨x', hx, rfl⟩ := Option.map_eq_some_iff.1 hc
  have k1 := X.ok hfr hx
  simp only [evp] at e
  split at e
  ·rename_i cs hk
   rw [hk] at k1
   obtain ⟨vs, h1, k1⟩ := k1.tupE
   split at e
   ·rename_i z hz
    cases e
    obtain ⟨v, h2, h3⟩ := h1.gq i hz
    exact ⟨v, by simp [execOp, ho, k1, Instr.extract, h2], h3⟩
   ·cases e
  ·cases e
 case h_16 args tys ho =>
  split at hc
  ·rename_i x t ha ht
   split at hc
   ·rename_i el x' hs hx
    cases hc
    have k1 := X.ok hfr hx
    simp only [evp] at e
    split at e
    ·rename_i n hn
     cases e
     obtain ⟨a0, cap, hv⟩ := xSn hh hn k1
     have hargs : args = #[x] := by apply Array.ext'; simpa using ha
     have htys : tys = #[t] := by apply Array.ext'; simpa using ht
     refine ⟨_, ?_, .int _ _⟩
     simp [execOp, ho, resolve, invoke, builtin, hargs, htys, Builtin.len_, run_underlying hs, hv, goInt]
    ·cases e
   ·rename_i x' hs hx
    cases hc
    have k1 := X.ok hfr hx
    obtain ⟨s, rfl, rfl, hs1⟩ := xQd e k1
    have hargs : args = #[x] := by apply Array.ext'; simpa using ha
    have htys : tys = #[t] := by apply Array.ext'; simpa using ht
    refine ⟨_, ?_, .int _ _⟩
    simp [execOp, ho, resolve, invoke, builtin, hargs, htys, Builtin.len_, run_underlying hs, hs1, goInt]
   ·cases hc
  ·cases hc
 case h_17 args tys ho =>
  split at hc
  ·rename_i x z ha
   split at hc
   ·rename_i x' z' hx hz
    cases hc
    have k1 := X.ok hfr hx
    have k2 := X.ok hfr hz
    simp only [evp] at e
    split at e
    ·rename_i k n _ m hn hm
     rw [hn] at k1; rw [hm] at k2; cases e
     have k1 := k1.intE
     have k2 := k2.intE
     have hargs : args = #[x, z] := by apply Array.ext'; simpa using ha
     refine ⟨_, ?_, .int _ _⟩
     simp [execOp, ho, resolve, invoke, builtin, hargs, Builtin.max_, Builtin.max2, k1, k2]
    ·cases e
   ·cases hc
  ·rename_i x z u ha
   split at hc
   ·rename_i x' z' u' hx hz hu
    cases hc
    have k1 := X.ok hfr hx
    have k2 := X.ok hfr hz
    have k3 := X.ok hfr hu
    simp only [evp] at e
    split at e
    ·rename_i k n _ m _ l hn hm hl
     rw [hn] at k1; rw [hm] at k2; rw [hl] at k3; cases e
     have k1 := k1.intE
     have k2 := k2.intE
     have k3 := k3.intE
     have hargs : args = #[x, z, u] := by apply Array.ext'; simpa using ha
     refine ⟨_, ?_, .int _ _⟩
     simp [execOp, ho, resolve, invoke, builtin, hargs, Builtin.max_, Builtin.max2, k1, k2, k3]
    ·cases e
   ·cases hc
  ·cases hc
 case h_18 args tys ho =>
  split at hc
  ·rename_i x z ha
   split at hc
   ·rename_i x' z' hx hz
    cases hc
    have k1 := X.ok hfr hx
    have k2 := X.ok hfr hz
    simp only [evp] at e
    split at e
    ·rename_i k n _ m hn hm
     rw [hn] at k1; rw [hm] at k2; cases e
     have k1 := k1.intE
     have k2 := k2.intE
     have hargs : args = #[x, z] := by apply Array.ext'; simpa using ha
     refine ⟨_, ?_, .int _ _⟩
     simp [execOp, ho, resolve, invoke, builtin, hargs, Builtin.min_, Builtin.min2, k1, k2]
    ·cases e
   ·cases hc
  ·rename_i x z u ha
   split at hc
   ·rename_i x' z' u' hx hz hu
    cases hc
    have k1 := X.ok hfr hx
    have k2 := X.ok hfr hz
    have k3 := X.ok hfr hu
    simp only [evp] at e
    split at e
    ·rename_i k n _ m _ l hn hm hl
     rw [hn] at k1; rw [hm] at k2; rw [hl] at k3; cases e
     have k1 := k1.intE
     have k2 := k2.intE
     have k3 := k3.intE
     have hargs : args = #[x, z, u] := by apply Array.ext'; simpa using ha
     refine ⟨_, ?_, .int _ _⟩
     simp [execOp, ho, resolve, invoke, builtin, hargs, Builtin.min_, Builtin.min2, k1, k2, k3]
    ·cases e
   ·cases hc
  ·cases hc
 case h_19 x ho =>
  split at hc <;> first | (cases hc; done) | skip
  obtain ⟨x', hx, rfl⟩ := Option.map_eq_some_iff.1 hc
  have k1 := X.ok hfr hx
  simp only [evp] at e
  split at e <;> first | (cases e; done) | skip
  rename_i hy
  cases e
  refine ⟨a.eval x, ?_, k1⟩
  generalize x'.get fr = y at k1 hy
  unfold nckV at hy
  split at hy <;> first | (cases hy; done) | skip
  ·obtain ⟨_, k1⟩ := k1.ptrE; simp [execOp, ho, k1]
  ·obtain ⟨_, k1⟩ := k1.epE; simp [execOp, ho, k1]
  ·obtain ⟨_, _, _, _, _, _, k1⟩ := k1.rpE; simp [execOp, ho, k1]
  ·obtain ⟨_, _, k1⟩ := k1.fnE; simp [execOp, ho, k1]
  ·obtain ⟨_, _, k1⟩ := k1.ifcE; simp [execOp, ho, k1]
  ·obtain ⟨g0, us, vs, k1⟩ : ∃ (g0 : Nat) (us vs : List Value), a.eval x = .func (.func g0) us.toArray vs.toArray := by generalize a.eval x = u at k1; cases k1; exact ⟨_, _, _, rfl⟩
   simp [execOp, ho, k1]
 case h_20 => cases hc
end
end Go.Vg
