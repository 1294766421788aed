import Derived.Test.YtgdihdiadlmjiaaVgR4k
set_option linter.all false
namespace Go.Vg
open Go
abbrev Cl := SV -> List SV -> HT -> Option (SV × HT)
abbrev Cq := SV -> List SV -> Option SV
def nckB : SV -> Option SV
 | .ptr l off => some (.ptr l off)
 | .ep l sz i off => some (.ep l sz i off)
 | .rp cs off => some (.rp cs off)
 | .fn f cs => some (.fn f cs)
 | .ifc t x => some (.ifc t x)
 | _ => none
def e1V (o : E1) (x : SV) : Option SV :=
 match o with
 | .mnil ng => match x with
  | .lb .mp _ => some (nb ng false)
  | .cm _ _ => some (nb ng false)
  | _ => none
 | .tas t => match x with
  | .ifc t' y => match Nat.beq t' t with
   | true => some y
   | false => none
  | _ => none
 | .capn => match x with
  | .lit (.slice none 0 0) => some (.int .i64 0)
  | _ => none
 | .lenm => match x with
  | .cm ks _ => some (.int .i64 (ll ks))
  | _ => none
 | _ => none
def slaR (cs : List SV) (off n sz : Nat) : Option SV :=
 match clo.clos 8 cs with
 | true => match tk (n * sz) (dr off cs) with
  | some seg => rowB seg n
  | none => none
 | false => none
def whole (off n : Nat) (cs : List SV) : Bool :=
 match off with
 | 0 => Nat.beq n (ll cs)
 | _ => false
def e1M {α : Type} (h : HT) (o : E1) (x : SV) (k : SV -> HT -> Option α) : Option α :=
 match o with
 | .lenm => match x with
  | .lb .mp l => match h.get l with
   | .ob (.mp es) => k (.int .i64 (es.length)) h
   | _ => none
  | _ => none
 | .cln => match x with
  | .ifc t y => match y with
   | .lb .mp l => match h.get l with
    | .ob (.mp es) => h.push (.ob (.mp es)) fun h' => k (.ifc t (.lb .mp h.n)) h'
    | _ => none
   | .cm ks vs => h.push (.ob (.mp (zp ks vs))) fun h' => k (.ifc t (.lb .mp h.n)) h'
   | _ => none
  | _ => none
 | .sla n sz => match x with
  | .ptr l off => match h.get l with
   | .box t cs => match whole off (n * sz) cs with
    | true => k (.bsl l n) h
    | false => match slaR cs off n sz with
     | some y => h.set l (.fbox t cs) fun h => k y h
     | none => k (.bso l off n n) h
   | .fbox t cs => match slaR cs off n sz with
    | some y => k y h
    | none => none
   | _ => none
  | _ => none
 | _ => none
def e1B {α : Type} (h : HT) (o : E1) (x : SV) (k : SV -> HT -> Option α) : Option α :=
 match e1V o x with
 | some y => k y h
 | none => e1M h o x k
def slbV (x : SV) (lo hi : Option Int) (sz : Nat) : Option SV :=
 match x with
 | .bsl l len => match decide (0 <= od 0 lo) && (decide (od 0 lo <= od len hi) && (decide (od len hi <= len) && (decide (od 0 lo = 0) || decide (od 0 lo < len)))) with
  | true => some (.bso l ((od 0 lo).toNat * sz) (od len hi - od 0 lo).toNat (len - (od 0 lo).toNat))
  | false => none
 | _ => none
def cpD : SV -> Option (Nat × Nat × Nat)
 | .bsl l len => some (l, 0, len)
 | .bso l off len _ => some (l, off, len)
 | _ => none
def rowsC (f : Nat -> List SV) : Nat -> List SV
 | 0 => []
 | n + 1 => ap (rowsC f n) (f n)
def cpS (g : Nat -> Blk) (sz : Nat) (y : SV) : Option (Nat × (Nat -> Option (List SV))) :=
 match y with
 | .rd sz2 len f => match Nat.beq sz2 sz with
  | true => some (len, fun n => some (rowsC f n))
  | false => none
 | .bsl l len => match g l with
  | .box _ cs | .fbox _ cs => some (len, fun n => tk (n * sz) cs)
  | _ => none
 | .bso l off len _ => match g l with
  | .box _ cs | .fbox _ cs => some (len, fun n => tk (n * sz) (dr off cs))
  | _ => none
 | _ => none
def cpyB {α : Type} (h : HT) (sz : Nat) (x y : SV) (k : SV -> HT -> Option α) : Option α :=
 match cpD x, cpS h.get sz y with
 | some (l, off, n1), some (n2, fs) => match fs (Nat.min n2 n1) with
  | some seg => match Nat.beq (ll seg) (Nat.min n2 n1 * sz) && allOne seg with
   | true => match h.get l with
    | .box t cs => match sp cs off seg with
     | some new => h.set l (.box t new) fun h => k (.int .i64 (Nat.min n2 n1)) h
     | none => none
    | _ => none
   | false => none
  | none => none
 | _, _ => none
def clB0 {α : Type} (f : List SV -> HT -> (List SV -> HT -> Option α) -> Option α) : List SV -> HT -> (List SV -> HT -> Option α) -> Option α
 | [], h, k => k [] h
 | x :: t, h, k => match clo 8 x with
  | true => clB0 f t h fun ys h => k (x :: ys) h
  | false => match x with
   | .bsl l len => bslC h l len fun y h => clB0 f t h fun ys h => k (y :: ys) h
   | .agg cs => f cs h fun cs' h => clB0 f t h fun ys h => k (.agg cs' :: ys) h
   | _ => none
def clB1 {α : Type} : List SV -> HT -> (List SV -> HT -> Option α) -> Option α := clB0 fun _ _ _ => none
def clB {α : Type} (as : List SV) (h : HT) (k : List SV -> HT -> Option α) : Option α := clB0 clB1 as h k
def bslD {α : Type} (h : HT) (l len : Nat) (k : SV -> HT -> Option α) : Option α :=
 match h.get l with
 | .box _ cs => match clo.clos 8 cs with
  | true => bslC h l len k
  | false => clB cs h fun cs' h1 => match h1.get l with
   | .box t' _ => match rowB cs' len with
    | some y => h1.set l (.fbox t' cs') fun h2 => k y h2
    | none => none
   | _ => none
 | _ => bslC h l len k
def isLit (y : SV) : Bool :=
 match y with
 | .bsl _ m => !(Nat.beq m 1)
 | _ => false
def appW {α : Type} (h : HT) (x y : SV) (e sz bytes : Nat) (k : SV -> HT -> Option α) : Option α :=
 match y with
 | .bsl l m => bslD h l m fun z h' => match x with
  | .own l1 => match z with
   | .rd sz2 len2 g => appMB h' l1 sz2 len2 g e sz bytes k
   | .ints kk ys => appMIB h' l1 kk ys e sz bytes k
   | _ => none
  | x => appN h' x z e sz bytes k
 | _ => none
def slcD {α : Type} (fr : List SV) (h : HT) (x : SV) (lo hi mx : Option X) (sz : Nat) (k : SV -> HT -> Option α) : Option α :=
 match x with
 | .bsl l len => match bnd fr lo, bnd fr hi, bnd fr mx with
  | some lo, some hi, some mx => bslD h l len fun y h => match slvB sz y lo hi mx with
   | some z => k z h
   | none => none
  | _, _, _ => none
 | _ => none
def evX {α : Type} (cl : Cl) (fr : List SV) (h : HT) (o : Op2) (k : SV -> HT -> Option α) : Option α :=
  match o with
  | .o (.call f args) => match cl (f.get fr) (gets fr args) h with
    | some (x, h) => k x h
    | none => none
  | .o (.inv mt x args) => match x.get fr with
    | .ifc t y => match lkm mt t with
      | some f => match cl (.fn f []) (y :: gets fr args) h with
        | some (x, h) => k x h
        | none => none
      | none => none
    | _ => none
  | .o (.app e sz bytes x y) => match appQ h.get (x.get fr) (y.get fr) with
    | true => appN h (x.get fr) (y.get fr) e sz bytes k
    | false => match isLit (y.get fr) with
     | true => appW h (x.get fr) (y.get fr) e sz bytes k
     | false => match appV sz bytes (x.get fr) (y.get fr) with
      | some z => k z h
      | none => evO fr h (.app e sz bytes x y) k
  | .o (.slc x lo hi mx sz) => match isBsl (x.get fr) with
    | true => slcD fr h (x.get fr) lo hi mx sz k
    | false => evO fr h (.slc x lo hi mx sz) k
  | .o o => evO fr h o k
  | .lku kk z ok m q => match lkuB fr h.get kk z ok m q with
    | some x => k x h
    | none => none
  | .upd kk m q v => updB fr h kk m q v k
  | .msl e sz z a b => mslB fr h e sz z a b k
  | .mkm => h.push (.ob (.mp [])) fun h' => k (.lb .mp h.n) h'
  | .mkmv f a b => k (.mv f (gets fr a) (gets fr b)) h
  | .nck x => match nckB (x.get fr) with
    | some x => k x h
    | none => none
  | .bs0 sz => k (.clipr sz 0 fun _ => []) h
  | .e1 o x => e1B h o (x.get fr) k
  | .slb x lo hi sz => match bnd fr lo, bnd fr hi with
    | some lo, some hi => match slbV (x.get fr) lo hi sz with
      | some y => k y h
      | none => none
    | _, _ => none
  | .cpy sz x y => cpyB h sz (x.get fr) (y.get fr) k
  | _ => none
def opsB {α : Type} (cl : Cl) : List Opq -> List SV -> HT -> (List SV -> HT -> Option α) -> Option α
 | [], fr, h, k => k fr h
 | ⟨d, g, o⟩ :: t, fr, h, k => match gdl fr g with
  | some true => evX cl fr h o fun x h => frcV x fun x => putB fr d x fun fr => opsB cl t fr h k
  | some false => putB fr d (.lit undef) fun fr => opsB cl t fr h k
  | none => none
def slQB (g : Nat -> Blk) : SV -> Option SV
 | .own l => match g l with
  | .fz (.ints k xs) => some (.ints k xs)
  | .fz (.rd sz len f) => some (.rd sz len f)
  | _ => none
 | .ints k xs => some (.ints k xs)
 | .clip k xs => some (.ints k xs)
 | .rd sz len f => some (.rd sz len f)
 | .clipr sz len f => some (.rd sz len f)
 | .lit (.slice none 0 0) => some (.lit (.slice none 0 0))
 | _ => none
def clR (cs : List SV) (len : Nat) : Option SV :=
 match clo.clos 8 cs with
 | true => rowB cs len
 | false => none
def slQV (g : Nat -> Blk) (x : SV) : Option SV :=
 match x with
 | .bsl l len => match g l with
  | .fbox _ cs => clR cs len
  | _ => none
 | x => slQB g x
def clDp : Nat -> (Nat -> Blk) -> SV -> Option SV
 | 0, g, x => match clo 8 x with
  | true => some x
  | false => slQV g x
 | n + 1, g, x => match clo 8 x with
  | true => some x
  | false => match x with
   | .agg cs => match clDs n g cs with
    | some cs => some (.agg cs)
    | none => none
   | x => slQV g x
where clDs (n : Nat) (g : Nat -> Blk) : List SV -> Option (List SV)
 | [] => some []
 | x :: t => match clDp n g x with
  | some y => match clDs n g t with
   | some l => some (y :: l)
   | none => none
  | none => none
def clA (g : Nat -> Blk) (x : SV) : Option SV :=
 match clo 8 x with
 | true => some x
 | false => clDp 3 g x
def clAs (g : Nat -> Blk) : List SV -> Option (List SV)
 | [] => some []
 | x :: t => match clA g x with
  | some y => match clAs g t with
   | some l => some (y :: l)
   | none => none
  | none => none
def e1W (g : Nat -> Blk) (o : E1) (x : SV) : Option SV :=
 match o with
 | .sla n sz => match x with
  | .ptr l off => match g l with
   | .fbox _ cs => slaR cs off n sz
   | _ => none
  | _ => none
 | o => e1V o x
def evV (cq : Cq) (fr : List SV) (g : Nat -> Blk) : Op2 -> Option SV
 | .o (.v vo) => evpB fr g vo
 | .o (.bld z ps) => match lay z (getp fr ps) with
  | some cs => some (.agg cs)
  | none => none
 | .o (.slc x lo hi mx sz) => match slQV g (x.get fr), bnd fr lo, bnd fr hi, bnd fr mx with
  | some y, some lo, some hi, some mx => slvB sz y lo hi mx
  | _, _, _, _ => none
 | .o (.call f args) => match clAs g (gets fr args) with
  | some as => cq (f.get fr) as
  | none => none
 | .o (.inv mt x args) => match x.get fr with
  | .ifc t y => match lkm mt t with
   | some f => cq (.fn f []) (y :: gets fr args)
   | none => none
  | _ => none
 | .o (.app e sz bytes x y) => appV sz bytes (x.get fr) (y.get fr)
 | .lku kk z ok m q => lkuB fr g kk z ok m q
 | .mkmv f a b => some (.mv f (gets fr a) (gets fr b))
 | .nck x => nckB (x.get fr)
 | .bs0 sz => some (.clipr sz 0 fun _ => [])
 | .mkm => some (.cm [] [])
 | .e1 o x => e1W g o (x.get fr)
 | .slb x lo hi sz => match bnd fr lo, bnd fr hi with
  | some lo, some hi => slbV (x.get fr) lo hi sz
  | _, _ => none
 | .o (.bsl _ len z ps) => match lay z (getp fr ps) with
  | some cs => clR cs len
  | none => none
 | .msl _ sz z a b => match a.get fr, b.get fr with
  | .int _ a, .int _ c => match decide (a = c) && (decide (0 <= a) && (decide (a <= 65536) && decide (a.toNat * sz <= 16777216))) with
   | true => clR (mslC z sz a.toNat) a.toNat
   | false => none
  | _, _ => none
 | _ => none
def nthH : List HT -> Nat -> Option HT
 | [], _ => none
 | h :: _, 0 => some h
 | _ :: t, n + 1 => nthH t n
def nthB : List (Nat × Blk) -> Nat -> Option Blk
 | [], _ => none
 | (j, b) :: t, i => match Nat.beq j i with
  | true => some b
  | false => nthB t i
def fill {α : Type} (n0 : Nat) (cb : List (Nat × Blk)) : List Nat -> HT -> (HT -> Option α) -> Option α
 | [], h, k => k h
 | j :: t, h, k => match nthB cb j with
  | some b => match Nat.blt (n0 + j) h.n with
   | true => h.set (n0 + j) b fun h => fill n0 cb t h k
   | false => none
  | none => none
def resv {α : Type} : Nat -> HT -> (HT -> α) -> α
 | 0, h, k => k h
 | n + 1, h, k => h.push .dead fun h => resv n h k
def deadB (h : HT) (n0 : Nat) : List Nat -> Bool
 | [] => true
 | j :: t => match h.get (n0 + j) with
  | .dead => deadB h n0 t
  | _ => false
def inP (fr : List SV) (l : Nat) : List Nat -> Bool
 | [] => false
 | p :: t => match gt fr p with
  | .ptr l' _ => match Nat.beq l' l with
   | true => true
   | false => inP fr l t
  | _ => true
def mskG (fr : List SV) (ps : List Nat) (g : Nat -> Blk) (l : Nat) : Blk :=
 match inP fr l ps with
 | true => .dead
 | false => g l
def hdB {α : Type} (cl : Cl) (cq : Cq) (n0 ne : Nat) (cs0 : List Nat) : List (Opq × Kd) -> List SV -> HT -> List HT -> List (Nat × Blk) -> (List SV -> HT -> Option α) -> Option α
 | [], fr, h, hs, cb, k => match Nat.beq hs.length (ne + 1) with
  | true => fill n0 cb cs0 h fun h => k fr h
  | false => none
 | (⟨d, g, o⟩, kd) :: t, fr, h, hs, cb, k => match kd with
  | .val mn cs => match gdl fr g with
   | some false => putB fr d (.lit undef) fun fr => hdB cl cq n0 ne cs0 t fr h hs cb k
   | some true => match nthH hs mn with
    | some hv => fill n0 cb cs hv fun hv => match evV cq fr hv.get o with
     | some x => frcV x fun x => putB fr d x fun fr => hdB cl cq n0 ne cs0 t fr h hs cb k
     | none => none
    | none => none
   | none => none
  | .cre j => match o with
   | .o o1 => match crv fr (n0 + j) o1, nthB cb j with
    | some (x, b), none => putB fr d x fun fr => hdB cl cq n0 ne cs0 t fr h hs (cb ++ [(j, b)]) k
    | _, _ => none
   | _ => none
  | .eff c cs => match Nat.beq hs.length (c + 1), gdl fr g with
   | true, some false => fill n0 cb cs h fun h1 => putB fr d (.lit undef) fun fr => hdB cl cq n0 ne cs0 t fr h1 (hs ++ [h1]) cb k
   | true, some true => fill n0 cb cs h fun h0 => evX cl fr ⟨h0.n, h0.n, h0.t⟩ o fun x h1 => match Nat.beq h1.w h0.n with
    | true => frcV x fun x => putB fr d x fun fr => hdB cl cq n0 ne cs0 t fr ⟨h1.n, h0.w, h1.t⟩ (hs ++ [⟨h1.n, h0.w, h1.t⟩]) cb k
    | false => none
   | _, _ => none
  | .pur => match gdl fr g with
   | some false => putB fr d (.lit undef) fun fr => hdB cl cq n0 ne cs0 t fr h hs cb k
   | some true => match evV cq fr (fun _ => .dead) o with
    | some x => frcV x fun x => putB fr d x fun fr => hdB cl cq n0 ne cs0 t fr h hs cb k
    | none => none
   | none => none
  | .prd ps => match gdl fr g with
   | some false => putB fr d (.lit undef) fun fr => hdB cl cq n0 ne cs0 t fr h hs cb k
   | some true => match nthH hs 0 with
    | some h0 => match evV cq fr (mskG fr ps h0.get) o with
     | some x => frcV x fun x => putB fr d x fun fr => hdB cl cq n0 ne cs0 t fr h hs cb k
     | none => none
    | none => none
   | none => none
  | .efs c cs ls => match Nat.beq hs.length (c + 1), gdl fr g with
   | true, some false => fill n0 cb cs h fun h1 => match deadB h1 n0 ls with
    | true => putB fr d (.lit undef) fun fr => hdB cl cq n0 ne cs0 t fr h1 (hs ++ [h1]) cb k
    | false => none
   | true, some true => fill n0 cb cs h fun h0 => evX cl fr h0 o fun x h1 => match deadB h1 n0 ls with
    | true => frcV x fun x => putB fr d x fun fr => hdB cl cq n0 ne cs0 t fr h1 (hs ++ [h1]) cb k
    | false => none
   | _, _ => none
def shB {α : Type} (fr : List SV) : List Nat -> HT -> (HT -> Option α) -> Option α
 | [], h, k => k h
 | d :: t, h, k => match gt fr d with
  | .own l => match h.get l with
   | .oi q ty xs => h.set l (.fz (.ints q xs)) fun h => shB fr t h k
   | .orw ty sz len f => h.set l (.fz (.rd sz len f)) fun h => shB fr t h k
   | _ => shB fr t h k
  | _ => shB fr t h k
def uses2 : Op2 -> List Nat
 | .o o => uses1 o
 | .msl _ _ _ a b => usesX a ++ usesX b
 | .spr _ _ _ a b => usesX a ++ usesX b
 | .mkm => []
 | .lku _ _ _ a b => usesX a ++ usesX b
 | .upd _ a b c => usesX a ++ (usesX b ++ usesX c)
 | .mkmv _ a b => usesXs a ++ usesXs b
 | .nck x => usesX x
 | .bs0 _ => []
 | .slb x a b _ => usesX x ++ (usesO a ++ usesO b)
 | .cpy _ x y => usesX x ++ usesX y
 | .e1 _ x => usesX x
def usesQ (o : Opq) : List Nat := usesG o.g ++ uses2 o.o
def lbsV (g : Nat -> Blk) : Nat -> SV -> List Nat
 | 0, _ => []
 | n + 1, x => match x with
  | .own l => [l]
  | .ptr l _ => match g l with
   | .box _ cs => cs.flatMap (lbsV g n)
   | _ => []
  | .bsl l _ => match g l with
   | .box _ cs => cs.flatMap (lbsV g n) ++ [l]
   | _ => []
  | .agg cs => cs.flatMap (lbsV g n)
  | _ => []
def lbs (g : Nat -> Blk) (fr : List SV) (ds : List Nat) : List Nat := ds.flatMap fun d => lbsV g 3 (gt fr d)
def shD {α : Type} : List Nat -> HT -> (HT -> Option α) -> Option α
 | [], h, k => k h
 | l :: t, h, k => match h.get l with
  | .oi q ty xs => h.set l (.fz (.ints q xs)) fun h => shD t h k
  | .orw ty sz len f => h.set l (.fz (.rd sz len f)) fun h => shD t h k
  | .box ty cs => match clo.clos 8 cs with
   | true => h.set l (.fbox ty cs) fun h => shD t h k
   | false => shD t h k
  | _ => shD t h k
inductive XT where
 | nm
 | rt
 | ex (id : Nat)
structure Rs where
 e : XT
 fr : List SV
 ds : List Nat
 h : HT
structure Fdn where
 sc : RC
 rs : List RV
 nt : Nat
 kn : List (List SV × SV) := []
 op : Bool := false
def rdRB (fr : List SV) (g : Nat -> Blk) : List RV -> Option (List SV)
 | [] => some []
 | .t n :: l => match rdRB fr g l with
  | some r => some (gt fr n :: r)
  | none => none
 | .c n sz :: l => match gt fr n with
  | .ptr lb off => match g lb with
   | .box _ cs | .fbox _ cs => match ld cs off sz, rdRB fr g l with
    | some x, some r => some (x :: r)
    | _, _ => none
   | _ => none
  | _ => none
def clsD {α : Type} : List Nat -> HT -> (HT -> Option α) -> Option α
 | [], h, k => k h
 | l :: t, h, k => match h.get l with
  | .ob .df => h.set l (.ob .dn) fun h => clsD t h k
  | _ => none
abbrev Rn := Option Nat -> RC -> List SV -> List Nat -> HT -> Option Rs
def retF (rs : List RV) (fr : List SV) (ds : List Nat) (h : HT) : Option (SV × HT) :=
 clsD ds h fun h => match rdRB fr h.get rs with
  | some r => some (tupled r, h)
  | none => none
def fnF (T : Nat -> Option Fdn) (rn : Rn) (f : Nat) (args : List SV) (h : HT) : Option (SV × HT) :=
 match T f with
 | some ⟨sc, rs, nt, _, _⟩ => match rn none sc (mkfr args nt) [] h with
  | some ⟨.nm, fr, ds, h⟩ => retF rs fr ds h
  | some ⟨.rt, fr, ds, h⟩ => retF rs fr ds h
  | _ => none
 | none => none
def setps {α : Type} : List SV -> List Nat -> List SV -> (List SV -> Option α) -> Option α
 | fr, [], [], k => k fr
 | fr, p :: ps, x :: xs, k => stK fr p x fun fr => setps fr ps xs k
 | _, _, _, _ => none
def endY (l : Nat) (e : XT) (h : HT) : Option (SV × HT) :=
 match h.get l with
 | .ob (.lp _ _ fr ps a b df) => match e with
  | .nm => h.set l (.ob (.lp .ready none fr ps a b df)) fun h => some (.lit (.bool true), h)
  | .rt => h.set l (.ob (.lp .done (some none) fr ps a b df)) fun h => some (.lit (.bool false), h)
  | .ex id => h.set l (.ob (.lp .done (some (some id)) fr ps a b df)) fun h => some (.lit (.bool false), h)
 | _ => none
def yldF (rn : Rn) (l : Nat) (args : List SV) (h : HT) : Option (SV × HT) :=
 match h.get l with
 | .ob (.lp .ready pd fr ps a b df) => setps fr ps args fun fr => match rn (some l) a fr [] h with
  | some ⟨.nm, fr, ds, h⟩ => match h.get l with
   | .ob (.lp .ready pd fr0 ps0 a0 b0 df0) => h.set l (.ob (.lp .busy pd fr0 ps0 a0 b0 df0)) fun h => match rn (some l) b fr ds h with
    | some ⟨e, _, _, h⟩ => endY l e h
    | none => none
   | _ => none
  | _ => none
 | _ => none
def clL2 (f : HT -> SV -> Option (SV × HT)) : HT -> List SV -> Option (List SV × HT)
 | h, [] => some ([], h)
 | h, x :: t => match f h x with
  | some (x, h) => match clL2 f h t with
   | some (t, h) => some (x :: t, h)
   | none => none
  | none => none
def clS2 (h : HT) (x : SV) : Option (SV × HT) :=
 match clo 0 x with
 | true => some (x, h)
 | false => none
def clW : Nat -> HT -> SV -> Option (SV × HT)
 | 0, h, x => clS2 h x
 | n + 1, h, x => match x with
  | .own l => match h.get l with
   | .oi k t xs => h.set l (.fz (.ints k xs)) fun h => some (.ints k xs, h)
   | .orw t sz len f => h.set l (.fz (.rd sz len f)) fun h => some (.rd sz len f, h)
   | .fz y => clS2 h y
   | _ => none
  | .agg cs => match clL2 (clW n) h cs with
   | some (cs, h) => some (.agg cs, h)
   | none => none
  | .tup cs => match clL2 (clW n) h cs with
   | some (cs, h) => some (.tup cs, h)
   | none => none
  | .fn f cs => match clL2 (clW n) h cs with
   | some (cs, h) => some (.fn f cs, h)
   | none => none
  | .ifc t x => match clW n h x with
   | some (x, h) => some (.ifc t x, h)
   | none => none
  | .mm m x => match clW n h x with
   | some (x, h) => some (.mm m x, h)
   | none => none
  | .ptr l off => match h.get l with
   | .box t cs => match clL2 (clW n) h cs with
    | some (cs', h') => match h'.get l with
     | .box t' cs'' => h'.set l (.fbox t' cs') fun h => some (.rp cs' off, h)
     | _ => none
    | none => none
   | .fbox t cs => match clo.clos 8 cs with
    | true => some (.rp cs off, h)
    | false => none
   | _ => none
  | .bsl l len => match h.get l with
   | .box t cs => match clL2 (clW n) h cs with
    | some (cs', h') => match h'.get l with
     | .box t' cs'' => match toInts cs' with
      | some (k, xs) => match ll cs' == len with
       | true => h'.set l (.fbox t' cs') fun h => some (.ints k xs, h)
       | false => match len * (ll cs' / len) == ll cs' with
        | true => h'.set l (.fbox t' cs') fun h => some (.rd (ll cs' / len) len (rowOf (ll cs' / len) cs'), h)
        | false => none
      | none => match len * (ll cs' / len) == ll cs' with
       | true => h'.set l (.fbox t' cs') fun h => some (.rd (ll cs' / len) len (rowOf (ll cs' / len) cs'), h)
       | false => none
     | _ => none
    | none => none
   | _ => none
  | .clip k xs => some (.ints k xs, h)
  | .clipr sz len f => some (.rd sz len f, h)
  | .lb .mp l => match h.get l with
   | .ob (.mp es) => match clo.clos 8 (es.map (·.1)) && clo.clos 8 (es.map (·.2)) with
    | true => h.set l .dead fun h => some (.cm (es.map (·.1)) (es.map (·.2)), h)
    | false => match clo.clos 8 (es.map (·.1)) with
     | true => match clL2 (clW n) h (es.map (·.2)) with
      | some (vs, h) => match h.get l with
       | .ob (.mp _) => h.set l .dead fun h => some (.cm (es.map (·.1)) vs, h)
       | _ => none
      | none => none
     | false => none
   | _ => none
  | x => clS2 h x
def knF (T : Nat -> Option Fdn) (f : Nat) (as : List SV) : Option SV :=
 match T f with
 | some d => findK d.kn as
 | none => none
def clC (h : HT) (x : SV) : Option SV :=
 match x with
 | .clip k xs => some (.clip k xs)
 | .clipr sz len f => some (.clipr sz len f)
 | x => match clW 8 h x with
  | some (y, _) => some y
  | none => none
def callQ (T : Nat -> Option Fdn) (rn : Rn) : Cq := fun fv args =>
 match fv with
 | .fn f caps => match clo.clos 8 (ap args caps) with
  | true => match knF T f (ap args caps) with
   | some x => some x
   | none => match fnF T rn f (ap args caps) ⟨0, 0, .e⟩ with
    | some (x, h) => clC h x
    | none => none
  | false => none
 | _ => none
def hasCm : List SV -> Bool
 | [] => false
 | x :: t => match x with
  | .cm _ _ => true
  | _ => hasCm t
def isOp (T : Nat -> Option Fdn) (f : Nat) : Bool :=
 match T f with
 | some d => d.op
 | none => false
def opn (T : Nat -> Option Fdn) (f : Nat) (as : List SV) : Bool :=
 match isOp T f with
 | true => true
 | false => match hasCm as with
  | true => match knF T f as with
   | some _ => false
   | none => true
  | false => false
def clM (h : HT) (x : SV) : Option (SV × HT) :=
 match x with
 | .lb .mp l => clW 1 h (.lb .mp l)
 | x => match clo 8 x with
  | true => some (x, h)
  | false => none
def plnB : Nat -> SV -> Bool
 | _, .lit _ | _, .int .. | _, .bool _ => true
 | n + 1, .agg cs | n + 1, .tup cs => plnL n cs
 | _, _ => false
where plnL (n : Nat) : List SV -> Bool
 | [] => true
 | x :: t => match plnB n x with
  | true => plnL n t
  | false => false
def frzF (T : Nat -> Option Fdn) (f : Nat) (as : List SV) (h : HT) : Option (SV × HT) :=
 match clo.clos 8 as with
 | true => none
 | false => match T f with
  | some d => match d.kn with
   | [] => none
   | _ => match clL2 clM h as with
    | some (bs, h1) => match clo.clos 8 bs with
     | true => match knF T f bs with
      | some x => match plnB 4 x with
       | true => some (x, h)
       | false => none
      | none => none
     | false => none
    | none => none
  | none => none
def knW (T : Nat -> Option Fdn) (f : Nat) (as : List SV) (h : HT) : Option (SV × HT) :=
 match T f with
 | some d => match d.kn with
  | [] => none
  | _ => clB as h fun bs h1 => match knF T f bs with
   | some x => some (x, h1)
   | none => none
 | none => none
def clQ (cq : Cq) (f : Nat) (as : List SV) (h : HT) : Option (SV × HT) :=
 match clo.clos 8 as with
 | true => none
 | false => clB as h fun bs h1 => match cq (.fn f []) bs with
  | some x => some (x, h1)
  | none => none
def callF (T : Nat -> Option Fdn) (rn : Rn) : Cl := fun fv args h =>
 match fv with
 | .fn f caps => match (match frzF T f (ap args caps) h with
  | some r => some r
  | none => knW T f (ap args caps) h) with
  | some r => some r
  | none => match opn T f (ap args caps) with
   | true => fnF T rn f (ap args caps) h
   | false => match callQ T rn fv args with
    | some x => some (x, h)
    | none => match clQ (callQ T rn) f (ap args caps) h with
     | some r => some r
     | none => fnF T rn f (ap args caps) h
 | .mv f first caps => fnF T rn f (ap first (ap args caps)) h
 | .lb .yl l => yldF rn l args h
 | _ => none
def rngE (r : Option (SV × HT)) (l : Nat) (fr : List SV) (ds : List Nat) : Option Rs :=
 match r with
 | some (_, h) => match h.get l with
  | .ob (.lp st pd fr0 ps a b df) => match st with
   | .busy => none
   | _ => h.set l (.ob (.lp .exhausted pd fr0 ps a b df)) fun h => match pd with
    | none => some ⟨.nm, fr, ds, h⟩
    | some none => some ⟨.rt, fr, ds, h⟩
    | some (some id) => some ⟨.ex id, fr, ds, h⟩
  | _ => none
 | none => none
def chn (o : Opq) : Option Nat :=
 match o.g, o.o with
 | none, .o (.v (.off (.t q) _)) => some q
 | none, .o (.v (.ixarr (.t q) _ _ _)) => some q
 | _, _ => none
def rootA (lo : List Opq) : Nat -> Nat -> Nat
 | 0, p => p
 | n + 1, p => match (lo.filter fun o => o.d == some p).filterMap chn with
  | q :: _ => rootA lo n q
  | [] => p
def slaL (fr : List SV) (lo : List Opq) : List Nat :=
 lo.filterMap fun o => match o.o with
  | .e1 (.sla ..) (.t p) => match gt fr (rootA lo 6 p) with
   | .ptr l _ => some l
   | _ => none
  | _ => none
def blK {α : Type} (fr : List SV) (d : Option Nat) (k : List SV -> Option α) : Option α :=
 match d with
 | none => k fr
 | some d => stK fr d .any k
def drwR (cl : Cl) (cq : Cq) (p : Drp) (fr : List SV) (ds : List Nat) (h : HT) : Option Rs :=
 blK fr p.fl fun fr => shB fr p.sh h fun h => resv p.m h fun h1 => hdB cl cq h.n p.ne p.cs p.hs fr h1 [h1] [] fun fr h => opsB cl p.tl fr h fun fr h => some ⟨.nm, fr, ds, h⟩
def drwA (cl : Cl) (cq : Cq) (fr : List SV) (ds : List Nat) (h : HT) : List Drp -> Option Rs
 | [] => none
 | p :: t => match drwR cl cq p fr ds h with
  | some r => some r
  | none => match shD (lbs h.get fr (p.hs.flatMap fun o => usesQ o.1) ++ slaL fr (p.hs.map (·.1))) h fun h => drwR cl cq p fr ds h with
   | some r => some r
   | none => drwA cl cq fr ds h t
def run (T : Nat -> Option Fdn) : Nat -> Rn
 | 0, _, _, _, _, _ => none
 | n + 1, rd, c, fr, ds, h => match c with
  | .skip => some ⟨.nm, fr, ds, h⟩
  | .reg ops => opsB (callF T (run T n)) ops fr h fun fr h => some ⟨.nm, fr, ds, h⟩
  | .drw ps => drwA (callF T (run T n)) (callQ T (run T n)) fr ds h ps
  | .seq a b => match run T n rd a fr ds h with
   | some ⟨.nm, fr, ds, h⟩ => run T n rd b fr ds h
   | r => r
  | .cond c a b => match c.get fr with
   | .lit (.bool true) => run T n rd a fr ds h
   | .lit (.bool false) => run T n rd b fr ds h
   | _ => none
  | .block id c => match run T n rd c fr ds h with
   | some ⟨.ex j, fr, ds, h⟩ => match Nat.beq j id with
    | true => some ⟨.nm, fr, ds, h⟩
    | false => some ⟨.ex j, fr, ds, h⟩
   | r => r
  | .loop c => match run T n rd c fr ds h with
   | some ⟨.nm, fr, ds, h⟩ => run T n rd (.loop c) fr ds h
   | r => r
  | .exit id => some ⟨.ex id, fr, ds, h⟩
  | .ret => some ⟨.rt, fr, ds, h⟩
  | .scp c => run T n rd c fr ds h
  | .rng f ps a b => match f.get fr with
   | .fn fid caps => match rd with
    | none => h.push (.ob .df) fun h1 => h1.push (.ob (.lp .ready none fr ps a b h.n)) fun h2 => rngE (fnF T (run T n) fid (.lb .yl h1.n :: caps) h2) h1.n fr (h.n :: ds)
    | some l0 => match h.get l0 with
     | .ob (.lp _ _ _ _ _ _ df) => h.push (.ob (.lp .ready none fr ps a b df)) fun h2 => rngE (fnF T (run T n) fid (.lb .yl h.n :: caps) h2) h.n fr ds
     | _ => none
   | _ => none
def zval (P : Program) (t : TypeId) : Option SV :=
 match P.info? t with
 | some i => match i.zero with
  | some z => some (ofV z)
  | none => none
 | none => none
def c2m (P : Program) (o : Oper) : Option Op2 :=
 match o.op with
 | .lookup t m x ok => match P.underlying t with
  | some (.map key e) => match keyK P key, zval P e, cX m, cX x with
   | some kk, some z, some m, some x => some (.lku kk z ok m x)
   | _, _, _, _ => none
  | _ => none
 | .mapUpdate t m x v => match P.underlying t with
  | some (.map key e) => match keyK P key, cX m, cX x, cX v with
   | some kk, some m, some x, some v => some (.upd kk m x v)
   | _, _, _, _ => none
  | _ => none
 | .makeMap _ none => some .mkm
 | .makeSlice t l c => match P.underlying t with
  | some (.slice e) => match P.info? e, cX l, cX c with
   | some i, some l, some c => match i.zero with
    | some z => if z.cells.size = i.size /\ 0 < i.size /\ i.bytes <= 1073741824 then some (.msl e i.size (z.cells.toList.map ofC) l c) else none
    | none => none
   | _, _, _ => none
  | _ => none
 | .makeFunc (.func f) first caps => match cXs first.toList, cXs caps.toList with
  | some a, some b => some (.mkmv f a b)
  | _, _ => none
 | .nilCheck x => match cX x with
  | some x => some (.nck x)
  | none => none
 | .buildSlice t len parts => match P.underlying t with
  | some (.slice e) => match P.info? e with
   | some i => if len = 0 /\ parts.size = 0 then some (.bs0 i.size) else none
   | none => none
  | _ => none
 | _ => none
def c2e (P : Program) (o : Oper) : Option Op2 :=
 match o.op with
 | .binOp .eql t x y _ => match P.underlying t, cX x, y with
  | some (.map _ _), some x, .const (.map none) => some (.e1 (.mnil false) x)
  | _, _, _ => none
 | .binOp .neq t x y _ => match P.underlying t, cX x, y with
  | some (.map _ _), some x, .const (.map none) => some (.e1 (.mnil true) x)
  | _, _, _ => none
 | .typeAssert x _ t false => match P.underlying t, cX x with
  | some (.map _ _), some x => some (.e1 (.tas t) x)
  | _, _ => none
 | .call { callee := .builtin .len, args, argTypes } => match args.toList, argTypes.toList with
  | [x], [t] => match P.underlying t, cX x with
   | some (.map _ _), some x => some (.e1 .lenm x)
   | _, _ => none
  | _, _ => none
 | .call { callee := .builtin .cap, args, argTypes } => match args.toList, argTypes.toList with
  | [x], [t] => match P.underlying t, cX x with
   | some (.slice _), some x => some (.e1 .capn x)
   | _, _ => none
  | _, _ => none
 | .slice t x none none none => match P.underlying t, cX x with
  | some (.array n e), some x => match P.info? e with
   | some d => some (.e1 (.sla n d.size) x)
   | none => none
  | _, _ => none
 | _ => none
def clnOf (P : Program) (o : Oper) : Option X :=
 match o.op with
 | .call { callee := .value (.func f), args, .. } => match args.toList, P.funcs[f]? with
  | [x], some fn => match decide (fn.name = "maps.clone") && (decide (fn.origin = "") && fn.body.isNone) with
   | true => cX x
   | false => none
  | _, _ => none
 | _ => none
def badOf (o : Oper) : Option Op2 :=
 match o.op with
 | .defer _ => none
 | _ => some (.e1 .bad (.c .any))
def c2 (P : Program) (o : Oper) : Option Op2 :=
 match clnOf P o with
 | some x => some (.e1 .cln x)
 | none => match c1 P o with
  | some o1 => some (.o o1)
  | none => match c2m P o with
   | some o2 => some o2
   | none => match c2e P o with
    | some o2 => some o2
    | none => badOf o
def isCpy (o : Oper) : Bool :=
 match o.op with
 | .call { callee := .builtin .copy, .. } => true
 | _ => false
def c2c (P : Program) (o : Oper) : Option Op2 :=
 match o.op with
 | .slice t x lo hi none => match P.underlying t with
  | some (.slice e) => match P.info? e, cX x, cXo lo, cXo hi with
   | some d, some x, some lo, some hi => some (.slb x lo hi d.size)
   | _, _, _, _ => none
  | _ => none
 | .call { callee := .builtin .copy, args, argTypes } => match args.toList, argTypes.toList with
  | [x, y], [t, _] => match P.underlying t with
   | some (.slice e) => match P.info? e, cX x, cX y with
    | some d, some x, some y => some (.cpy d.size x y)
    | _, _, _ => none
   | _ => none
  | _, _ => none
 | _ => none
def c2s (P : Program) (all : Array Oper) (o : Oper) : Option Op2 :=
 match all.any isCpy with
 | true => match c2c P o with
  | some o2 => some o2
  | none => c2 P o
 | false => c2 P o
def isSC : Op2 -> Bool
 | .slb .. | .cpy .. => true
 | _ => false
def C2 (P : Program) (o : Oper) (o2 : Op2) : Prop := c2 P o = some o2 \/ (isSC o2 = true /\ c2c P o = some o2)
theorem C2.c2 {P : Program} {o : Oper} {o2 : Op2} (h : C2 P o o2) (hn : isSC o2 = false) : c2 P o = some o2 := by
 rcases h with h | ⟨h, _⟩
 ·exact h
 ·rw [hn] at h; cases h
theorem c2c_sc {P : Program} {o : Oper} {o2 : Op2} (h : c2c P o = some o2) : isSC o2 = true := by
 unfold c2c at h
 split at h <;> first | (cases h; done) | skip
 all_goals ((repeat' split at h) <;> first | (cases h; done) | (cases h; rfl))
theorem c2s_C2 {P : Program} {all : Array Oper} {o : Oper} {o2 : Op2} (h : c2s P all o = some o2) : C2 P o o2 := by
 unfold c2s at h
 split at h
 ·split at h
  ·rename_i o3 h3; cases h; exact .inr ⟨c2c_sc h3, h3⟩
  ·exact .inl h
 ·exact .inl h
def cops2 (P : Program) (all : Array Oper) : List Oper -> Option (List Opq)
  | [] => some []
  | o :: t => match c2s P all o, cops2 P all t, (match o.guard with
      | none => some none
      | some (j, want) => match (all[j]?).bind (·.dst) with
        | some d => some (some (d, want))
        | none => none : Option (Option (Nat × Bool))) with
    | some o1, some t, some g => some (⟨o.dst, g, o1⟩ :: t)
    | _, _, _ => none
def creq (q : List Nat) (i : Nat) : Op2 -> Bool
 | .o (.new ..) | .o (.box ..) => true
 | .o (.bsl ..) => !q.contains i
 | _ => false
def effq (q : List Nat) (i : Nat) : Op2 -> Bool
 | .o (.v _) | .o (.bld ..) | .o (.slc ..) | .o (.new ..) | .o (.box ..) | .o (.bsl ..) => false
 | .o (.call ..) | .o (.inv ..) | .o (.app ..) => !q.contains i
 | .lku .. | .mkmv .. | .nck .. | .bs0 .. | .slb .. => false
 | .msl .. | .mkm => !q.contains i
 | .e1 (.mnil _) _ | .e1 (.tas _) _ | .e1 .capn _ | .e1 (.sla ..) _ => false
 | _ => true
def ixs2 (p : Opq -> Nat -> Bool) (lo : List Opq) (h : Nat) : List Nat := (lo.zipIdx.filter fun (o, i) => decide (i < h) && p o i).map (·.2)
def cntIn (es : List Nat) (m : Nat) : Nat := es.countP fun e => m.testBit e
def drawTl (ms : List Nat) (lo : List Opq) (h : Nat) : Bool :=
 lo.zipIdx.all fun (o, i) => !decide (h <= i) || (List.range i).all fun j => (ms.getD i 0).testBit j
def drawOk2 (ms : List Nat) (lo : List Opq) (h : Nat) (es cs : List Nat) : Bool :=
 (lo.zipIdx.all fun (o, i) => decide (h <= i) || lo.zipIdx.all fun (o', j) => decide (h <= j) || i == j || match o'.d with
  | none => true
  | some d => if (some d == o.d) || (usesQ o).contains d then (if j < i then (ms.getD i 0).testBit j else (ms.getD j 0).testBit i) else true) &&
 (es.all fun i => es.all fun j => !decide (j < i) || (ms.getD i 0).testBit j) &&
 (cs.all fun c => match lo[c]? with
  | some o => o.g.isNone && es.all fun e => (ms.getD e 0).testBit c || (ms.getD c 0).testBit e
  | none => false)
def isSlq (o : Opq) : Bool :=
 match o.o with
 | .o (.slc ..) => true
 | _ => false
def isCallApp (o : Opq) (_ : Nat) : Bool :=
 match o.o with
 | .o (.call ..) | .o (.inv ..) | .o (.app ..) => true
 | _ => false
def isCall (o : Opq) (_ : Nat) : Bool :=
 match o.o with
 | .o (.call ..) | .o (.inv ..) => true
 | _ => false
def there (cs es ms : List Nat) (k m : Nat) : List Nat := (cs.zipIdx.filter fun (c, j) => cntIn es (ms.getD c 0) == k && m.testBit c).map (·.2)
def allThere (cs es ms : List Nat) (k : Nat) : List Nat := (cs.zipIdx.filter fun (c, j) => cntIn es (ms.getD c 0) == k).map (·.2)
def laterThere (cs es ms : List Nat) (k : Nat) : List Nat := (cs.zipIdx.filter fun (c, j) => Nat.blt k (cntIn es (ms.getD c 0))).map (·.2)
def stoP (o : Opq) : Option Nat :=
 match o.o with
 | .o (.store _ (.t p) _) => some p
 | _ => none
def stoPs (lo : List Opq) : List Nat -> Option (List Nat)
 | [] => some []
 | e :: t => match (lo[e]?).bind stoP, stoPs lo t with
  | some p, some ps => some (p :: ps)
  | _, _ => none
def kdOf (st : Bool) (pp : Option (List Nat)) (cs es ms : List Nat) (i : Nat) : Kd :=
 match cs.idxOf? i with
 | some j => .cre j
 | none => match es.contains i with
  | true => match st with
   | true => .efs (cntIn es (ms.getD i 0)) (allThere cs es ms (cntIn es (ms.getD i 0))) (laterThere cs es ms (cntIn es (ms.getD i 0)))
   | false => .eff (cntIn es (ms.getD i 0)) (allThere cs es ms (cntIn es (ms.getD i 0)))
  | false => match st && !(es.all fun e => (ms.getD i 0).testBit e || (ms.getD e 0).testBit i) with
   | true => match pp with
    | some ps => .prd ps
    | none => .pur
   | false => .val (cntIn es (ms.getD i 0)) (there cs es ms (cntIn es (ms.getD i 0)) (ms.getD i 0))
def isNw (o : Opq) : Bool :=
 match o.o with
 | .o (.new ..) | .o (.box ..) => true
 | _ => false
def lkA : List (Nat × Nat) -> Nat -> Option Nat
 | [], _ => none
 | (p, s) :: t, q => match p == q with
  | true => some s
  | false => lkA t q
def src (ps : List Nat) (A : List (Nat × Nat)) (q : Nat) : Option Nat :=
 match ps.contains q with
 | true => some (q + 1)
 | false => lkA A q
def isVal : Kd -> Bool
 | .val .. | .pur | .prd _ => true
 | _ => false
def isCre : Kd -> Bool
 | .cre _ => true
 | _ => false
def delA (A : List (Nat × Nat)) (d : Nat) : List (Nat × Nat) := A.filter fun x => !(x.1 == d)
def nxA (ps : List Nat) (A : List (Nat × Nat)) (o : Opq) (kd : Kd) (d : Nat) : List (Nat × Nat) :=
 match isCre kd && isNw o with
 | true => (d, 0) :: delA A d
 | false => match isVal kd, (chn o).bind (src ps A) with
  | true, some s => (d, s) :: delA A d
  | _, _ => delA A d
def stoOkB (ps : List Nat) : List (Nat × Nat) -> List (Opq × Kd) -> Bool
 | _, [] => true
 | A, (o, kd) :: t => (match kd with
   | .efs .. => match stoP o with
    | some p => (src ps A p).isSome
    | none => false
   | .eff .. => false
   | _ => true) && match o.d with
   | some d => !ps.contains d && stoOkB ps (nxA ps A o kd d) t
   | none => stoOkB ps A t
def ppOf (lo : List Opq) (h : Nat) (es cs ms : List Nat) : Option (List Nat) :=
 match stoPs lo es with
 | some pa => match (pa.map (rootA (lo.take h) 6)).filter fun p => (lo.take h).all fun o => !(o.d == some p) with
  | ps => match stoOkB ps [] ((lo.take h).zipIdx.map fun (o, i) => (o, kdOf true (some ps) cs es ms i)) with
   | true => some ps
   | false => none
 | none => none
def liveIn (lo : List Opq) : List Nat := (lo.flatMap usesQ).eraseDups.filter fun s => lo.all fun o => !(o.d == some s)
def cdrawQ (P : Program) (ops : Array Oper) (lo : List Opq) (st : Bool) (q : List Nat) : Option Drp :=
 let ms := masks ops.toList []
 let h := headLen ms
 let es := ixs2 (fun o i => effq q i o.o) lo h
 let cs := ixs2 (fun o i => creq q i o.o) lo h
 if drawTl ms lo h && drawOk2 ms lo h es cs then
  some ⟨if lo.any isSlq || !q.isEmpty then liveIn lo else [], cs.length, es.length,
   (lo.take h).zipIdx.map fun (o, i) => (o, kdOf st (ppOf lo h es cs ms) cs es ms i), allThere cs es ms es.length, lo.drop h, none⟩
 else none
def newD (o : Opq) : Option Nat :=
 match o.g, o.o with
 | none, .o (.new _ _) => o.d
 | _, _ => none
def cdrawF (P : Program) (ops : Array Oper) (lo : List Opq) (st : Bool) (q : List Nat) : Option Drp :=
 let ms := masks ops.toList []
 match headLen ms with
 | 0 => none
 | f + 1 => match (lo[f]?).bind newD with
  | none => none
  | some d =>
   let es := ixs2 (fun o i => effq q i o.o) lo f
   let cs := ixs2 (fun o i => creq q i o.o) lo f
   if drawTl ms lo (f + 1) && (drawOk2 ms lo f es cs && (lo.take f).all fun o => !(usesQ o).contains d && !(o.d == some d)) then
    some ⟨if lo.any isSlq || !q.isEmpty then liveIn lo else [], cs.length, es.length,
     (lo.take f).zipIdx.map fun (o, i) => (o, kdOf st (ppOf lo f es cs ms) cs es ms i), allThere cs es ms es.length, lo.drop f, some d⟩
   else none
def isStore (o : Opq) (_ : Nat) : Bool :=
 match o.o with
 | .o (.store ..) | .upd .. | .cpy .. => true
 | _ => false
def isMake (o : Opq) (_ : Nat) : Bool :=
 match o.o with
 | .msl .. | .mkm => true
 | .o (.bsl ..) => o.g.isSome
 | _ => false
def isAll (o : Opq) (_ : Nat) : Bool :=
 match o.o with
 | .o (.call ..) | .o (.inv ..) | .o (.app ..) | .o (.bsl ..) | .msl .. | .mkm => true
 | _ => false
def isApp (o : Opq) (_ : Nat) : Bool :=
 match o.o with
 | .o (.app ..) => true
 | _ => false
def isBslO (o : Opq) (_ : Nat) : Bool :=
 match o.o with
 | .o (.bsl ..) => true
 | _ => false
def isMsl (o : Opq) (_ : Nat) : Bool :=
 match o.o with
 | .msl .. => true
 | _ => false
def isCallMsl (o : Opq) (_ : Nat) : Bool :=
 match o.o with
 | .o (.call ..) | .o (.inv ..) | .o (.app ..) | .msl .. | .mkm => true
 | _ => false
def updC : Code -> Bool
 | .region _ ops _ => ops.toList.any fun o => match o.op with
  | .mapUpdate .. => true
  | _ => false
 | .seq a b => updC a || updC b
 | .cond _ a b => updC a || updC b
 | .block _ b => updC b
 | .loop b => updC b
 | .scope b => updC b
 | .rangeFunc _ _ a b => updC a || updC b
 | _ => false
def isUpd (P : Program) (o : Opq) : Bool :=
 match o.o with
 | .o (.call (.c (.fn f _)) _) => match P.funcs[f]? with
  | some fn => match fn.body with
   | some c => updC c
   | none => false
  | none => false
 | _ => false
def updR (P : Program) (ops : Array Oper) (lo : List Opq) : List Drp :=
 ((ixs2 (fun o _ => isUpd P o) lo lo.length).filterMap fun c => cdrawQ P ops lo true ((ixs2 isCall lo lo.length).filter fun i => !(i == c)))
def readings0 (P : Program) (ops : Array Oper) (lo : List Opq) : List Drp :=
 let st := !(ixs2 isStore lo (headLen (masks ops.toList []))).isEmpty
 match cdrawQ P ops lo st [] with
  | some p => p :: (match st with
   | true => (cdrawQ P ops lo st (ixs2 isCall lo lo.length)).toList
   | false => [])
  | none => (cdrawF P ops lo st []).toList ++ (match cdrawQ P ops lo st (ixs2 isCall lo lo.length) with
   | some p => [p]
   | none => (cdrawQ P ops lo st (ixs2 isCallApp lo lo.length)).toList) ++
   (match (ixs2 isMake lo (headLen (masks ops.toList []))).isEmpty && ((ixs2 isApp lo (headLen (masks ops.toList []))).isEmpty || (ixs2 isBslO lo (headLen (masks ops.toList []))).isEmpty) with
   | true => []
   | false => (match (ixs2 isMsl lo (headLen (masks ops.toList []))).isEmpty || (ixs2 isBslO lo (headLen (masks ops.toList []))).isEmpty with
    | true => []
    | false => (cdrawQ P ops lo st (ixs2 isCallMsl lo lo.length)).toList) ++ (cdrawQ P ops lo st (ixs2 isAll lo lo.length)).toList) ++
   (match st || (ixs2 isApp lo (headLen (masks ops.toList []))).isEmpty with
   | true => []
   | false => (cdrawQ P ops lo true (ixs2 isCall lo lo.length)).toList)
def readings (P : Program) (ops : Array Oper) (lo : List Opq) : List Drp := updR P ops lo ++ readings0 P ops lo
def cdraw2 (P : Program) (ops : Array Oper) : Option RC :=
 match cops2 P ops ops.toList with
 | none => none
 | some lo => if P.follows .mixedOrders && edgesOk ops.toList then
   match readings P ops lo with
   | [] => none
   | ps => some (.drw ps)
  else none
def cK (P : Program) : Code -> Option RC
 | .skip => some .skip
 | .region _ ops false => (cops2 P ops ops.toList).map .reg
 | .region _ ops true => cdraw2 P ops
 | .seq a b => match cK P a, cK P b with
  | some a, some b => some (.seq a b)
  | _, _ => none
 | .cond c a b => match cX c, cK P a, cK P b with
  | some c, some a, some b => some (.cond c a b)
  | _, _, _ => none
 | .block id c => (cK P c).map (.block id)
 | .loop c => (cK P c).map .loop
 | .exit id => some (.exit id)
 | .scope c => (cK P c).map .scp
 | .label _ => some .skip
 | .ret => some .ret
 | .rangeFunc f ps a b => match cX f, cK P a, cK P b with
  | some f, some a, some b => some (.rng f ps.toList a b)
  | _, _, _ => none
 | _ => none
end Go.Vg
