import Derived.Laws.MakeOwn
import Derived.Test.YtgdihdiadlmjiaaVgV3
import Derived.Test.YtgdihdiadlmjiaaVgS1
import Derived.RangeFuncLeaves
import Derived.RangeFuncOwn
set_option linter.all false
namespace Go.Vg
open Go
structure St where
 fr : List SV
 hp : List Blk
structure Rep (E : Env) (s : St) (a : Act) : Prop where
 fr : Rvs E s.fr a.tmps.toList
 hp : RHp E s.hp
 df : a.defers = E.df
theorem Rep.mono {E E' : Env} {s : St} {a : Act} {hp : List Blk} (h : Rep E s a) (hle : E.Le E') (hh : RHp E' hp) : Rep E' ⟨s.fr, hp⟩ a :=
 ⟨h.fr.mono hle, hh, h.df.trans hle.df.symm⟩
abbrev Con := List SV -> List Blk -> (SV -> List Blk -> Prop) -> Prop
def ConOk (P : Program) (f : FuncId) (C : Con) : Prop :=
 ∀ (E : Env) (hp : List Blk) (args : List SV) (vs : List Value) (K : SV -> List Blk -> Prop), RHp E hp -> Rvs E args vs -> C args hp K ->
  Calls P f vs.toArray E.w fun e w' => ∃ r v E' hp', e = .returned v /\ E'.w = w' /\ E.Le E' /\ RHp E' hp' /\ Rv E' r v /\ K r hp'
def fen (ro : Option Nat) : Fence := { Fence.wide with round := ro }
theorem xAu {ro : Option Nat} {n : Nat} {P : Program} {f : FuncId} {args : Array Value} {w : World} {R : Ending -> World -> Prop} (h : Calls P f args w R) :
  CallsIn (fen ro) n P f args w R := (callsIn_wide (n := n)).2 h
abbrev Known (P : Program) (f : FuncId) : Prop := ∃ fn, P.funcs[f]? = some fn /\ fn.name ≠ "runtime.NumGoroutine" /\ fn.body ≠ none
theorem xAl {P : Program} {f : FuncId} {fn : Func} {args : Array Value} {w : World} (hf : P.funcs[f]? = some fn) (hn : fn.name ≠ "runtime.NumGoroutine") (hb : fn.body ≠ none) :
  (callFunc f args).run P w = .ok (.enter f args) w := by
 simp [callFunc, hf, hn, hb]
def CallV (P : Program) (vf : Value) (vs : List Value) (w : World) (R : Value -> World -> Prop) : Prop :=
 (∃ f first caps, vf = .func (.func f) first caps /\ Known P f /\ Calls P f (first ++ vs.toArray ++ caps) w fun e w' => ∃ v, e = .returned v /\ R v w') \/
 (∃ l, vf = .func (.yield l) #[] #[] /\ ∃ fn tmps ca cb, (Instr.yield l vs.toArray).run P w = .ok (.round l fn tmps ca cb) w /\ ∀ ro n, RoundIn (fen ro) n P l fn tmps ca cb w fun e w' => ∃ v, e = .returned v /\ R v w')
theorem CallV.mono {P : Program} {vf : Value} {vs : List Value} {w : World} {R R' : Value -> World -> Prop} (h : CallV P vf vs w R) (hr : ∀ v w', R v w' -> R' v w') : CallV P vf vs w R' := by
 rcases h with ⟨f, first, caps, h1, h2, h3⟩ | ⟨l, h1, fn, tmps, ca, cb, h2, h3⟩
 ·exact .inl ⟨f, first, caps, h1, h2, h3.mono fun e w' ⟨v, he, hv⟩ => ⟨v, he, hr v w' hv⟩⟩
 ·exact .inr ⟨l, h1, fn, tmps, ca, cb, h2, fun ro n => (h3 ro n).mono fun e w' ⟨v, he, hv⟩ => ⟨v, he, hr v w' hv⟩⟩
theorem xFh {P : Program} {ro : Option Nat} {n : Nat} {o : Oper} {f : Operand} {args : Array Operand} {tys : Array TypeId} (ho : o.op = .call { callee := .value f, args, argTypes := tys }) {a : Act} {w : World} {R : Value -> World -> Prop}
  (h : CallV P (a.eval f) (args.toList.map a.eval) w R) {next : Act -> World -> Prop} {Q : Exit -> Act -> World -> Prop} (hn : ∀ v w', R v w' -> next (a.put o.dst v) w') :
  o.uponIn (fen ro) n P a next Q ((execOp a.eval o).run P w) := by
 have hm : args.map a.eval = (args.toList.map a.eval).toArray := by apply Array.ext'; simp
 rcases h with ⟨fid, first, caps, h1, ⟨fn, hfd, hnm, hbd⟩, h3⟩ | ⟨l, h1, fn, tmps, ca, cb, h2, h3⟩
 ·have hrun : (execOp a.eval o).run P w = .ok (.enter fid (first ++ (args.toList.map a.eval).toArray ++ caps)) w := by
   simp only [execOp, ho, resolve, h1, Deferred.ofValue, invoke, Sem.run_bind, Sem.run_pure, Result.andThen_ok]
   rw [xAl hfd hnm hbd, hm]
  rw [hrun]
  refine ⟨fun h => by simp [fen, Fence.wide] at h, xAu (h3.mono ?_)⟩
  rintro e w' ⟨v, rfl, hv⟩
  exact hn v w' hv
 ·have hrun : (execOp a.eval o).run P w = .ok (.round l fn tmps ca cb) w := by
   simp only [execOp, ho, resolve, h1, Deferred.ofValue, invoke, Sem.run_bind, Sem.run_pure, Result.andThen_ok]
   rw [hm]; simpa using h2
  rw [hrun]
  refine ⟨fun h => by simp [fen, Fence.wide] at h, (h3 ro (n - 1)).mono ?_⟩
  rintro e w' ⟨v, rfl, hv⟩
  exact hn v w' hv
structure Gm where
 P : Program
 f : Nat -> Option Con
instance : CoeFun Gm (fun _ => Nat -> Option Con) := ⟨Gm.f⟩
def GmOk (P : Program) (Γ : Gm) : Prop := Γ.P = P /\ ∀ f C, Γ f = some C -> ConOk P f C
def noG (P : Program) : Gm := ⟨P, fun _ => none⟩
def YSem (P : Program) (l : Nat) (args : List SV) (hp : List Blk) (k : SV -> List Blk -> Prop) : Prop :=
 ∀ (E : Env) (vs : List Value), RHp E hp -> E.has l -> Rvs E args vs -> CallV P (.func (.yield (E.blk l)) #[] #[]) vs E.w fun v w' =>
  ∃ r E' hp', E'.w = w' /\ E.Le E' /\ RHp E' hp' /\ Rv E' r v /\ k r hp'
def ll : List SV -> Nat
 | [] => 0
 | _ :: t => ll t + 1
theorem xDf : ∀ l, ll l = l.length
 | [] => rfl
 | _ :: t => by simp [ll, xDf t]
def ap : List SV -> List SV -> List SV
 | [], l => l
 | x :: t, l => x :: ap t l
theorem xBu : ∀ a b, ap a b = a ++ b
 | [], _ => rfl
 | _ :: t, b => by simp [ap, xBu t]
def putf (fr : List SV) : Option Nat -> SV -> List SV
 | none, _ => fr
 | some d, x => st fr d x
def lay : List SV -> List (Nat × Nat × SV) -> Option (List SV)
 | z, [] => some z
 | z, (off, sz, x) :: t => match cs1 x with
  | none => none
  | some cs => match ll cs == sz with
   | false => none
   | true => match sp z off cs with
    | none => none
    | some z' => lay z' t
def getp (fr : List SV) : List (Nat × Nat × X) -> List (Nat × Nat × SV)
 | [] => []
 | (o, n, x) :: t => (o, n, x.get fr) :: getp fr t
def vK (r : Option (Prop × SV)) (k : SV -> List Blk -> Prop) (hp : List Blk) : Prop :=
 match r with
 | some (p, x) => p /\ k x hp
 | none => False
def boxK (r : Option (List SV)) (t : Nat) (k : SV -> List Blk -> Prop) (hp : List Blk) : Prop :=
 match r with
 | some cs => k (.ptr (ln hp) 0) (pb hp (.box t cs))
 | none => False
def bslK (r : Option (List SV)) (e len : Nat) (k : SV -> List Blk -> Prop) (hp : List Blk) : Prop :=
 match r with
 | some cs => k (.bsl (ln hp) len) (pb hp (.box e cs))
 | none => False
def bldK (r : Option (List SV)) (k : SV -> List Blk -> Prop) (hp : List Blk) : Prop :=
 match r with
 | some cs => k (.agg cs) hp
 | none => False
def storeK3 (r : Option (List SV)) (l t : Nat) (k : SV -> List Blk -> Prop) (hp : List Blk) : Prop :=
 match r with
 | some new => k .any (sb hp l (.box t new))
 | none => False
def storeK2 (b : Blk) (l off : Nat) (cs : List SV) (k : SV -> List Blk -> Prop) (hp : List Blk) : Prop :=
 match b with
 | .box t old => storeK3 (sp old off cs) l t k hp
 | _ => False
def storeR (b : Blk) (l es off sz i : Nat) (cs : List SV) (k : SV -> List Blk -> Prop) (hp : List Blk) : Prop :=
 match b with
 | .orw t sz' len f => match sp (f i) off cs with
  | some new => (es = sz' /\ ll cs = sz /\ allOne cs = true /\ clo.clos 8 new = true /\ i < len) /\ k .any (sb hp l (.orw t sz' len (fun j => if j = i then new else f j)))
  | none => False
 | _ => False
def storeE (b : Blk) (l sz i : Nat) (cs : List SV) (k : SV -> List Blk -> Prop) (hp : List Blk) : Prop :=
 match b, cs with
 | .oi kk t xs, [.int k' y] => (kk = k' /\ sz = 1 /\ i < xs.length) /\ k .any (sb hp l (.oi kk t (xs.set i y)))
 | b, cs => storeR b l 1 0 sz i cs k hp
def storeK (x : SV) (r : Option (List SV)) (sz : Nat) (k : SV -> List Blk -> Prop) (hp : List Blk) : Prop :=
 match x, r with
 | .ptr l off, some cs => (allOne cs = true /\ ll cs = sz) /\ storeK2 (gb hp l) l off cs k hp
 | .ep l 1 i 0, some cs => storeE (gb hp l) l sz i cs k hp
 | .ep l es i off, some cs => storeR (gb hp l) l es off sz i cs k hp
 | _, _ => False
def appK2 (b1 b2 : Blk) (m l e sz bytes : Nat) (k : SV -> List Blk -> Prop) (hp : List Blk) : Prop :=
 match b1, b2, m with
 | .oi kk t xs, .box _ [.int k' y], 1 => (kk = k' /\ t = e /\ sz = 1 /\ (xs.length + 1) * bytes <= 140737488355328 /\ xs.length + 1 <= 9223372036854775807) /\ k (.own (ln hp)) (pb (sb hp l .dead) (.oi kk t (xs ++ [y])))
 | .orw t sz' len f, .box _ cs, 1 => (t = e /\ sz' = sz /\ ll cs = sz /\ allOne cs = true /\ clo.clos 8 cs = true /\ 0 < sz /\ (len + 1) * bytes <= 140737488355328 /\ len + 1 <= 9223372036854775807) /\
   k (.own (ln hp)) (pb (sb hp l .dead) (.orw t sz (len + 1) (fun i => if i < len then f i else cs)))
 | _, _, _ => False
def appC (kk : Option IntKind) (xs : List Int) (b : Blk) (m e sz bytes : Nat) (k : SV -> List Blk -> Prop) (hp : List Blk) : Prop :=
 match b, m with
 | .box _ [.int k' y], 1 => ((kk = some k' \/ xs = []) /\ sz = 1 /\ (xs.length + 1) * bytes <= 140737488355328 /\ xs.length + 1 <= 9223372036854775807) /\ k (.own (ln hp)) (pb hp (.oi k' e (xs ++ [y])))
 | _, _ => False
def rowOf (sz : Nat) (cs : List SV) (i : Nat) : List SV :=
 match tk sz (dr (i * sz) cs) with
 | some r => r
 | none => []
def appD (len : Nat) (cs1 : List SV) (b2 : Blk) (m e sz bytes : Nat) (k : SV -> List Blk -> Prop) (hp : List Blk) : Prop :=
 match b2, m with
 | .box _ cs2, 1 => (ll cs1 = len * sz /\ ll cs2 = sz /\ clo.clos 8 cs1 = true /\ clo.clos 8 cs2 = true /\ 0 < sz /\ (len + 1) * bytes <= 140737488355328 /\ len + 1 <= 9223372036854775807) /\
   k (.own (ln hp)) (pb hp (.orw e sz (len + 1) (fun i => if i < len then rowOf sz cs1 i else cs2)))
 | _, _ => False
def appB1 (b1 : Blk) (len : Nat) (b2 : Blk) (m e sz bytes : Nat) (k : SV -> List Blk -> Prop) (hp : List Blk) : Prop :=
 match b1 with
 | .box _ cs1 => appD len cs1 b2 m e sz bytes k hp
 | .fbox _ cs1 => appD len cs1 b2 m e sz bytes k hp
 | _ => False
def appL (b2 : Blk) (m e sz bytes : Nat) (k : SV -> List Blk -> Prop) (hp : List Blk) : Prop :=
 match b2 with
 | .box t [.int q n] => appC none [] (.box t [.int q n]) m e sz bytes k hp
 | b => appD 0 [] b m e sz bytes k hp
def appE (sz' len : Nat) (f : Nat -> List SV) (b2 : Blk) (m e sz bytes : Nat) (k : SV -> List Blk -> Prop) (hp : List Blk) : Prop :=
 match b2, m with
 | .box _ cs2, 1 => ((sz' = sz \/ len = 0) /\ ll cs2 = sz /\ clo.clos 8 cs2 = true /\ 0 < sz /\ (len + 1) * bytes <= 140737488355328 /\ len + 1 <= 9223372036854775807) /\
   k (.own (ln hp)) (pb hp (.orw e sz (len + 1) (fun i => if i < len then f i else cs2)))
 | _, _ => False
def appM (b : Blk) (l sz2 len2 : Nat) (g : Nat -> List SV) (e sz bytes : Nat) (k : SV -> List Blk -> Prop) (hp : List Blk) : Prop :=
 match b with
 | .orw t sz' len f => (len2 = 0 -> k (.own l) hp) /\ (0 < len2 -> (t = e /\ sz' = sz /\ sz2 = sz /\ (∀ i, i < len2 -> allOne (g i) = true) /\ 0 < sz /\ (len + len2) * bytes <= 140737488355328 /\ len + len2 <= 9223372036854775807) /\
   k (.own (ln hp)) (pb (sb hp l .dead) (.orw t sz (len + len2) (fun i => if i < len then f i else g (i - len)))))
 | _ => False
def appMI (b : Blk) (l : Nat) (kk' : IntKind) (ys : List Int) (e sz bytes : Nat) (k : SV -> List Blk -> Prop) (hp : List Blk) : Prop :=
 match b with
 | .oi kk t xs => (ys = [] -> k (.own l) hp) /\ (ys ≠ [] -> (kk = kk' /\ t = e /\ sz = 1 /\ (xs.length + ys.length) * bytes <= 140737488355328 /\ xs.length + ys.length <= 9223372036854775807) /\
   k (.own (ln hp)) (pb (sb hp l .dead) (.oi kk t (xs ++ ys))))
 | _ => False
def appY (sz2 len2 : Nat) (g : Nat -> List SV) (e sz bytes : Nat) (k : SV -> List Blk -> Prop) (hp : List Blk) : Prop :=
 (len2 = 0 -> k (.clipr sz 0 fun _ => []) hp) /\ (0 < len2 -> (sz2 = sz /\ len2 * bytes <= 140737488355328 /\ len2 <= 9223372036854775807) /\ k (.own (ln hp)) (pb hp (.orw e sz len2 g)))
def appCR (sz' len : Nat) (f : Nat -> List SV) (sz2 len2 : Nat) (g : Nat -> List SV) (e sz bytes : Nat) (k : SV -> List Blk -> Prop) (hp : List Blk) : Prop :=
 (len2 = 0 -> k (.clipr sz' len f) hp) /\ (0 < len2 -> (sz' = sz /\ sz2 = sz /\ 0 < sz /\ (len + len2) * bytes <= 140737488355328 /\ len + len2 <= 9223372036854775807) /\
  k (.own (ln hp)) (pb hp (.orw e sz (len + len2) (fun i => if i < len then f i else g (i - len)))))
def appZ (b : Blk) (e sz bytes : Nat) (k : SV -> List Blk -> Prop) (hp : List Blk) : Prop :=
 match b with
 | .fz (.ints kk xs) => (0 < xs.length /\ sz = 1 /\ xs.length * bytes <= 140737488355328 /\ xs.length <= 9223372036854775807) /\ k (.own (ln hp)) (pb hp (.oi kk e xs))
 | .fz (.rd sz2 len2 g) => appY sz2 len2 g e sz bytes k hp
 | _ => False
def appK (x y : SV) (e sz bytes : Nat) (k : SV -> List Blk -> Prop) (hp : List Blk) : Prop :=
 match x, y with
 | .own l, .bsl l2 m => appK2 (gb hp l) (gb hp l2) m l e sz bytes k hp
 | .clip kk xs, .bsl l2 m => appC (some kk) xs (gb hp l2) m e sz bytes k hp
 | .lit (.slice none 0 0), .bsl l2 m => appL (gb hp l2) m e sz bytes k hp
 | .bsl l len, .bsl l2 m => appB1 (gb hp l) len (gb hp l2) m e sz bytes k hp
 | .clipr _ 0 _, .ints kk xs => (0 < xs.length /\ sz = 1 /\ xs.length * bytes <= 140737488355328 /\ xs.length <= 9223372036854775807) /\ k (.own (ln hp)) (pb hp (.oi kk e xs))
 | .clipr _ 0 _, .own l => appZ (gb hp l) e sz bytes k hp
 | .clipr _ 0 _, .rd sz2 len2 g => appY sz2 len2 g e sz bytes k hp
 | .clipr sz' len f, .rd sz2 len2 g => appCR sz' len f sz2 len2 g e sz bytes k hp
 | .clipr sz' len f, .bsl l2 m => appE sz' len f (gb hp l2) m e sz bytes k hp
 | .own l, .rd sz2 len2 g => appM (gb hp l) l sz2 len2 g e sz bytes k hp
 | .own l, .clipr sz2 len2 g => appM (gb hp l) l sz2 len2 g e sz bytes k hp
 | .own l, .ints kk ys => appMI (gb hp l) l kk ys e sz bytes k hp
 | .own l, .clip kk ys => appMI (gb hp l) l kk ys e sz bytes k hp
 | _, _ => False
def mkiK (len cap : SV) (t : Nat) (kk : IntKind) (k : SV -> List Blk -> Prop) (hp : List Blk) : Prop :=
 match len, cap with
 | .int _ a, .int _ c => (a = c /\ 0 <= a /\ a <= 65536) /\ k (.own (ln hp)) (pb hp (.oi kk t (List.replicate a.toNat 0)))
 | _, _ => False
def conK (r : Option Con) (args : List SV) (hp : List Blk) (k : SV -> List Blk -> Prop) : Prop :=
 match r with
 | some C => C args hp k
 | none => False
def lkm : List (Nat × Nat) -> Nat -> Option Nat
 | [], _ => none
 | (t, f) :: l, n => match t == n with
  | true => some f
  | false => lkm l n
def invK2 (Γ : Gm) (r : Option Nat) (x : SV) (args : List SV) (hp : List Blk) (k : SV -> List Blk -> Prop) : Prop :=
 match r with
 | some f => conK (Γ f) (x :: args) hp k
 | none => False
def invK (Γ : Gm) (mt : List (Nat × Nat)) (x : SV) (args : List SV) (hp : List Blk) (k : SV -> List Blk -> Prop) : Prop :=
 match x with
 | .ifc t x => invK2 Γ (lkm mt t) x args hp k
 | _ => False
def isPtr : TypeDesc -> Bool
 | .pointer _ => true
 | _ => false
def mimp (P : Program) (m : String) (t : Nat) : Option Nat :=
 match P.info? t with
 | some i => match i.methods.find? (·.name == m), P.underlying t with
  | some r, some u => match r.path.toList, r.func, isPtr u with
   | [], some (f, false), false => some f
   | _, _, _ => none
  | _, _ => none
 | none => none
def mtab (P : Program) (m : String) : List (Nat × Nat) := (List.range P.types.size).filterMap fun t => (mimp P m t).map fun f => (t, f)
def callK (Γ : Gm) (f : SV) (args : List SV) (hp : List Blk) (k : SV -> List Blk -> Prop) : Prop :=
 match f with
 | .fn f caps => conK (Γ f) (ap args caps) hp k
 | .mv f first caps => conK (Γ f) (ap first (ap args caps)) hp k
 | .lb .yl l => YSem Γ.P l args hp k
 | .mm m x => invK Γ (mtab Γ.P m) x args hp k
 | _ => False
def nckM (Γ : Gm) (m : String) (x : SV) (k : SV -> List Blk -> Prop) (hp : List Blk) : Prop :=
 match x with
 | .ifc t y => (lkm (mtab Γ.P m) t).isSome = true /\ k (.mm m (.ifc t y)) hp
 | _ => False
def nckK (Γ : Gm) (x : SV) (k : SV -> List Blk -> Prop) (hp : List Blk) : Prop :=
 match x with
 | .mm m x => nckM Γ m x k hp
 | x => nckV x = true /\ k x hp
def slO (hp : List Blk) : SV -> Option (SV × List Blk)
 | .own l => match gb hp l with
  | .oi k t xs => some (.ints k xs, sb hp l (.fz (.ints k xs)))
  | .orw t sz len f => some (.rd sz len f, sb hp l (.fz (.rd sz len f)))
  | .fz (.ints k xs) => some (.ints k xs, hp)
  | .fz (.rd sz len f) => some (.rd sz len f, hp)
  | _ => none
 | .ints k xs | .clip k xs => some (.ints k xs, hp)
 | .rd sz len f | .clipr sz len f => some (.rd sz len f, hp)
 | .lit (.slice none 0 0) => some (.lit (.slice none 0 0), hp)
 | _ => none
def bnd (fr : List SV) : Option X -> Option (Option Int)
 | none => some none
 | some x => match x.get fr with
  | .int _ n => some (some n)
  | _ => none
def slv (sz : Nat) (x : SV) (lo hi mx : Option Int) : Option (Prop × SV) :=
 match x, mx with
 | .ints k xs, none => some (sz = 1 /\ 0 <= od 0 lo /\ od 0 lo <= od xs.length hi /\ od xs.length hi <= xs.length, .ints k ((xs.drop (od 0 lo).toNat).take (od xs.length hi - od 0 lo).toNat))
 | .ints k xs, some m => some (sz = 1 /\ 0 <= od 0 lo /\ od 0 lo <= m /\ hi = some m /\ m <= xs.length, .clip k ((xs.drop (od 0 lo).toNat).take (m - od 0 lo).toNat))
 | .rd sz' len f, none => some (sz = sz' /\ 0 <= od 0 lo /\ od 0 lo <= od len hi /\ od len hi <= len, .rd sz' (od len hi - od 0 lo).toNat (fun i => f ((od 0 lo).toNat + i)))
 | .rd sz' len f, some m => some (sz = sz' /\ 0 <= od 0 lo /\ od 0 lo <= m /\ hi = some m /\ m <= len, .clipr sz' (m - od 0 lo).toNat (fun i => f ((od 0 lo).toNat + i)))
 | .lit (.slice none 0 0), mx => some (od 0 lo = 0 /\ od 0 hi = 0 /\ od 0 mx = 0 /\ (mx = none \/ hi ≠ none), .lit (.slice none 0 0))
 | _, _ => none
def slcK (r : Option (SV × List Blk)) (lo hi mx : Option (Option Int)) (sz : Nat) (k : SV -> List Blk -> Prop) : Prop :=
 match r, lo, hi, mx with
 | some (y, hp), some lo, some hi, some mx => vK (slv sz y lo hi mx) k hp
 | _, _, _, _ => False
def evh (Γ : Gm) (s : St) (k : SV -> List Blk -> Prop) : Op1 -> Prop
 | .v o => vK (evp s.fr s.hp o) k s.hp
 | .new t z => k (.ptr (ln s.hp) 0) (pb s.hp (.box t z))
 | .box t x => boxK (cs1 (x.get s.fr)) t k s.hp
 | .bsl e len z parts => bslK (lay z (getp s.fr parts)) e len k s.hp
 | .bld z parts => bldK (lay z (getp s.fr parts)) k s.hp
 | .store sz x v => storeK (x.get s.fr) (cs1 (v.get s.fr)) sz k s.hp
 | .app e sz bytes x y => appK (x.get s.fr) (y.get s.fr) e sz bytes k s.hp
 | .call f args => callK Γ (f.get s.fr) (gets s.fr args) s.hp k
 | .inv mt x args => invK Γ mt (x.get s.fr) (gets s.fr args) s.hp k
 | .slc x lo hi mx sz => slcK (slO s.hp (x.get s.fr)) (bnd s.fr lo) (bnd s.fr hi) (bnd s.fr mx) sz k
 | .mki t kk len cap => mkiK (len.get s.fr) (cap.get s.fr) t kk k s.hp
 | .emp sz => k (.clipr sz 0 fun _ => []) s.hp
 | .nck x => nckK Γ (x.get s.fr) k s.hp
def gdK (x : SV) (i : Nat) (want : Bool) (s : St) (run skip : St -> Prop) : Prop :=
 match x with
 | .lit (.bool true) => match want with
  | true => run s
  | false => skip s
 | .lit (.bool false) => match want with
  | true => skip s
  | false => run s
 | .lit (.tuple _) => skip s
 | .bool g => match want with
  | true => (g = true -> run ⟨st s.fr i (.lit (.bool true)), s.hp⟩) /\ (g = false -> skip ⟨st s.fr i (.lit (.bool false)), s.hp⟩)
  | false => (g = false -> run ⟨st s.fr i (.lit (.bool false)), s.hp⟩) /\ (g = true -> skip ⟨st s.fr i (.lit (.bool true)), s.hp⟩)
 | _ => False
def gd (s : St) (run skip : St -> Prop) : Option (Nat × Bool) -> Prop
 | none => run s
 | some (i, want) => gdK (gt s.fr i) i want s run skip
def putK (r : St -> Prop) (d : Option Nat) (fr : List SV) (x : SV) (hp : List Blk) : Prop := r ⟨putf fr d x, hp⟩
def runK (Γ : Gm) (r : St -> Prop) (o : Op1) (d : Option Nat) (s : St) : Prop := evh Γ s (putK r d s.fr) o
def skipK (r : St -> Prop) (d : Option Nat) (s : St) : Prop := r ⟨putf s.fr d (.lit undef), s.hp⟩
def evops (Γ : Gm) (k : St -> Prop) : List Opr -> St -> Prop
 | [], s => k s
 | ⟨d, g, o⟩ :: t, s => gd s (runK Γ (evops Γ k t) o d) (skipK (evops Γ k t) d) g
abbrev FC := List SV -> Option (Prop × SV)
def slQ (hp : List Blk) : SV -> Option SV
 | .own l => match gb hp l with
  | .fz (.ints k xs) => some (.ints k xs)
  | .fz (.rd sz len f) => some (.rd sz len f)
  | _ => none
 | .ints k xs | .clip k xs => some (.ints k xs)
 | .rd sz len f | .clipr sz len f => some (.rd sz len f)
 | .lit (.slice none 0 0) => some (.lit (.slice none 0 0))
 | _ => none
def evq (Γq : Nat -> Option FC) (fr : List SV) (hp : List Blk) : Op1 -> Option (Prop × SV)
 | .v o => evp fr hp o
 | .bld z parts => match lay z (getp fr parts) with
  | some cs => some (True, .agg cs)
  | none => none
 | .call f args => match f.get fr with
  | .fn f caps => match Γq f, clo.clos 8 (ap (gets fr args) caps) with
   | some F, true => F (ap (gets fr args) caps)
   | _, _ => none
  | _ => none
 | .slc x lo hi mx sz => match slQ hp (x.get fr), bnd fr lo, bnd fr hi, bnd fr mx with
  | some y, some lo, some hi, some mx => slv sz y lo hi mx
  | _, _, _, _ => none
 | .nck x => match nckV (x.get fr) with
  | true => some (True, x.get fr)
  | false => none
 | _ => none
def gdl (fr : List SV) : Option (Nat × Bool) -> Option Bool
 | none => some true
 | some (i, want) => match gt fr i with
  | .lit (.bool true) => some want
  | .lit (.bool false) => some (!want)
  | .lit (.tuple _) => some false
  | _ => none
def dX (fl : Bool) (x : SV) (d : Option Nat) (r : St -> Prop) (s : St) : Prop :=
 match fl, x with
 | true, .bool g => (g = true -> r ⟨putf s.fr d (.lit (.bool true)), s.hp⟩) /\ (g = false -> r ⟨putf s.fr d (.lit (.bool false)), s.hp⟩)
 | _, x => r ⟨putf s.fr d x, s.hp⟩
def dG (b : Option Bool) (v : Option (Prop × SV)) (fl : Bool) (d : Option Nat) (r : St -> Prop) (s : St) : Prop :=
 match b with
 | some true => match v with
  | some (p, x) => p /\ dX fl x d r s
  | none => False
 | some false => r ⟨putf s.fr d (.lit undef), s.hp⟩
 | none => False
def drun (Γq : Nat -> Option FC) : List (Nat × Opr × Bool) -> (St -> Prop) -> St -> Prop
 | [], k, s => k s
 | (_, ⟨d, g, o⟩, fl) :: t, k, s => dG (gdl s.fr g) (evq Γq s.fr s.hp o) fl d (drun Γq t k) s
def crv (fr : List SV) (n : Nat) : Op1 -> Option (SV × Blk)
 | .new t z => some (.ptr n 0, .box t z)
 | .box t x => match cs1 (x.get fr) with
  | some cs => some (.ptr n 0, .box t cs)
  | none => none
 | .bsl e len z parts => match lay z (getp fr parts) with
  | some cs => some (.bsl n len, .box e cs)
  | none => none
 | _ => none
def creK (r : Option (SV × Blk)) (k : SV -> List Blk -> Prop) (hp : List Blk) : Prop :=
 match r with
 | some (x, b) => k x (pb hp b)
 | none => False
def evc (s : St) (k : SV -> List Blk -> Prop) (o : Op1) : Prop := creK (crv s.fr (ln s.hp) o) k s.hp
def tlK (Γ : Gm) (cre : Option Opr) (tl : List Opr) (k : St -> Prop) (s : St) : Prop :=
 match cre with
 | none => evops Γ k tl s
 | some o => evc s (putK (evops Γ k tl) o.d s.fr) o.o
def Lw (N : Nat) (s s' : St) : Prop := ∀ E a, E.n0 <= N -> E.n0 <= E.n -> Rep E s a -> ∃ E', E.Xt E' /\ E'.w = E.w /\ Rep E' s' a
def loopK (K : Exit -> St -> Prop) (nx : St -> Prop) (e : Exit) (s : St) : Prop :=
 match e with
 | .normal => nx s
 | e => K e s
def LoopP (N : Nat) (body : (Exit -> St -> Prop) -> St -> Prop) (K : Exit -> St -> Prop) (s : St) : Prop :=
 ∃ I : Nat -> St -> Prop, (∃ n s', Lw N s s' /\ I n s') /\ ∀ n s, I n s -> body (loopK K fun s' => ∃ m s'', m < n /\ Lw N s' s'' /\ I m s'') s
def seqK (r : (Exit -> St -> Prop) -> St -> Prop) (K : Exit -> St -> Prop) (e : Exit) (s : St) : Prop :=
 match e with
 | .normal => r K s
 | e => K e s
def condK (x : SV) (A B : St -> Prop) (s : St) : Prop :=
 match x with
 | .lit (.bool true) => A s
 | .lit (.bool false) => B s
 | .bool g => (g = true -> A s) /\ (g = false -> B s)
 | _ => False
def exitK (b : Bool) (j : Nat) (K : Exit -> St -> Prop) (s : St) : Prop :=
 match b with
 | true => K .normal s
 | false => K (.exit j) s
def blockK (id : Nat) (K : Exit -> St -> Prop) (e : Exit) (s : St) : Prop :=
 match e with
 | .exit j => exitK (j == id) j K s
 | e => K e s
def scpK (K : Exit -> St -> Prop) (e : Exit) (s : St) : Prop :=
 match e with
 | .goto _ => False
 | e => K e s
def shutB (hp : List Blk) (l : Nat) : Blk -> List Blk
 | .oi k t xs => sb hp l (.fz (.ints k xs))
 | .orw t sz len f => sb hp l (.fz (.rd sz len f))
 | _ => hp
def shut1 (hp : List Blk) : SV -> List Blk
 | .own l => shutB hp l (gb hp l)
 | _ => hp
def shutH (fr : List SV) : List Nat -> List Blk -> List Blk
 | [], hp => hp
 | d :: t, hp => shutH fr t (shut1 hp (gt fr d))
def shut2 (hp : List Blk) : SV -> List Blk
 | .ptr l _ => match gb hp l with
  | .box _ [y] => shut1 hp y
  | _ => hp
 | _ => hp
def shutQ (fr : List SV) : List Nat -> List Blk -> List Blk
 | [], hp => hp
 | d :: t, hp => shutQ fr t (shut2 hp (gt fr d))
def shutG (fr : List SV) (ds : List Nat) (hp : List Blk) : List Blk := shutQ fr ds (shutH fr ds hp)
def exT (Γ : Gm) (k : St -> Prop) : DT -> St -> Prop
 | .leaf, s => k s
 | .stop, _ => True
 | .op o sub sib, s => evops Γ (exT Γ k sub) [o] s /\ exT Γ k sib s
def SemOk (P : Program) (N : Nat) (c : Code) (K : Exit -> St -> Prop) (s : St) : Prop :=
 ∀ (n : Nat) (E : Env) (a : Act) (Q : Exit -> Act -> World -> Prop), E.n0 <= N -> E.n0 <= E.n -> Rep E s a ->
  (∀ e E' s' a', E.Xg false E' -> Rep E' s' a' -> K e s' -> Q e a' E'.w) -> c.wpIn (fen none) n P Q a E.w
def SC.nosem : SC -> Bool
 | .sem _ => false
 | .seq a b => a.nosem && b.nosem
 | .cond _ a b => a.nosem && b.nosem
 | .block _ c => c.nosem
 | .loop c => c.nosem
 | .shut _ c => c.nosem
 | .scp c => c.nosem
 | _ => true
def exec (N : Nat) (Γ : Gm) (Γq : Nat -> Option FC) : SC -> (Exit -> St -> Prop) -> St -> Prop
 | .skip, K, s => K .normal s
 | .reg ops, K, s => evops Γ (K .normal) ops s
 | .tre t, K, s => exT Γ (K .normal) t s
 | .drw hs cre tl, K, s => drun Γq hs (tlK Γ cre tl (K .normal)) s
 | .seq a b, K, s => exec N Γ Γq a (seqK (exec N Γ Γq b) K) s
 | .cond c a b, K, s => condK (c.get s.fr) (exec N Γ Γq a K) (exec N Γ Γq b K) s
 | .block id c, K, s => exec N Γ Γq c (blockK id K) s
 | .loop c, K, s => LoopP N (exec N Γ Γq c) K s
 | .exit id, K, s => K (.exit id) s
 | .ret, K, s => K .ret s
 | .shut ds c, K, s => exec N Γ Γq c K ⟨s.fr, shutG s.fr ds s.hp⟩
 | .scp c, K, s => exec N Γ Γq c (scpK K) s
 | .sem c, K, s => SemOk Γ.P N c K s
def cparts (place : Nat -> Option (Nat × Nat)) : List (Nat × Operand) -> Option (List (Nat × Nat × X))
 | [] => some []
 | (i, o) :: t => match place i, cX o, cparts place t with
  | some (off, sz), some x, some xs => some ((off, sz, x) :: xs)
  | _, _, _ => none
def zcells (P : Program) (t : TypeId) : Option (List SV) :=
 match P.info? t with
 | some i => match i.zero with
  | some z => some (z.cells.toList.map ofC)
  | none => none
 | none => none
def zrow (P : Program) (e len : Nat) : Option (List Value) :=
 match P.info? e with
 | some i => match i.zero with
  | some z => some ((Array.range (len * i.size)).map (z.cells[· % z.cells.size]!)).toList
  | none => none
 | none => none
def fplaces (P : Program) (fs : List Field) : Option (List (Nat × Nat)) := fs.mapM (fun f => (P.info? f.type).map fun i => (f.offset, i.size))
theorem xHq {P : Program} {m : String} {t f : Nat} (h : lkm (mtab P m) t = some f) : mimp P m t = some f := by
 have go : ∀ l : List (Nat × Nat), (∀ p, p ∈ l -> mimp P m p.1 = some p.2) -> lkm l t = some f -> mimp P m t = some f := by
  intro l
  induction l with
  | nil => intro _ h; simp [lkm] at h
  | cons p l ih =>
   intro ha h
   obtain ⟨a, b⟩ := p
   simp only [lkm] at h
   split at h
   ·rename_i he
    cases h
    have := ha _ (List.mem_cons_self ..)
    rw [<- (beq_iff_eq.1 he)]; exact this
   ·exact ih (fun p hp => ha p (List.mem_cons_of_mem _ hp)) h
 refine go _ ?_ h
 intro p hp
 obtain ⟨t', _, h2⟩ := List.mem_filterMap.1 hp
 obtain ⟨f', h3, rfl⟩ := Option.map_eq_some_iff.1 h2
 exact h3
theorem xKb {P : Program} {m : String} {t f : Nat} (h : mimp P m t = some f) (v : Value) (w : World) (n : Nat) : (method (n + 1) t v m).run P w = .ok (f, v) w := by
 unfold mimp at h
 split at h
 ·rename_i i hi
  split at h
  ·rename_i r u hr hu
   split at h
   ·rename_i h1 h2 h3
    cases h
    unfold method
    simp only [typeInfo, Sem.run_bind, run_program, Result.andThen_ok, hi, Sem.run_pure, hr, h1, follow, h2, receiverAt, run_underlying hu]
    cases u <;> first | (simp [isPtr] at h3; done) | simp [Place.get]
   ·cases h
  ·cases h
 ·cases h
theorem nil_ok {P : Program} {m : String} {t f : Nat} (h : mimp P m t = some f) (v : Value) (w : World) (n : Nat) : (nilAhead (n + 1) t v m).run P w = .ok (some false) w := by
 unfold mimp at h
 split at h
 ·rename_i i hi
  split at h
  ·rename_i r u hr hu
   split at h
   ·rename_i h1 h2 h3
    cases h
    unfold nilAhead
    simp only [typeInfo, Sem.run_bind, run_program, Result.andThen_ok, hi, Sem.run_pure, hr, h1, followBlind, h2, run_underlying hu]
    cases u <;> first | (simp [isPtr] at h3; done) | simp
   ·cases h
  ·cases h
 ·cases h
def cXo : Option Operand -> Option (Option X)
 | none => some none
 | some o => (cX o).map some
def c1 (P : Program) (o : Oper) : Option Op1 :=
 match cV P o with
 | some v => some (.v v)
 | none =>
  match o.op with
  | .alloc t => (zcells P t).map (.new t)
  | .box t x => (cX x).map (.box t)
  | .store t x v => match P.info? t, cX x, cX v with
   | some i, some x, some v => some (.store i.size x v)
   | _, _, _ => none
  | .build t parts => match P.underlying t, P.info? t with
   | some (.struct fs), some i => match i.zero, fplaces P fs.toList with
    | some z, some pl => (cparts (pl.toArray[·]?) parts.toList).map (.bld (z.cells.toList.map ofC))
    | _, _ => none
   | some (.array _ e), some i => match i.zero, P.info? e with
    | some z, some d => (cparts (fun i => some (i * d.size, d.size)) parts.toList).map (.bld (z.cells.toList.map ofC))
    | _, _ => none
   | _, _ => none
  | .buildSlice t len parts => match P.underlying t with
   | some (.slice e) => match P.info? e, zrow P e len with
    | some d, some z => if 0 < len * d.size /\ len * d.size <= 16777216 then (cparts (fun i => some (i * d.size, d.size)) parts.toList).map (.bsl e len (z.map ofC)) else none
    | _, _ => none
   | _ => none
  | .call { callee := .builtin .append, args, argTypes } => match args.toList, argTypes.toList with
   | [x, y], [t, t'] => match P.underlying t, cX x, cX y with
    | some (.slice e), some x, some y => if t = t' then match P.info? e with
     | some i => match i.zero with
      | some z => if z.cells.size = i.size then some (.app e i.size i.bytes x y) else none
      | none => none
     | none => none else none
    | _, _, _ => none
   | _, _ => none
  | .call { callee := .value f, args, .. } => match cX f, cXs args.toList with
   | some f, some args => some (.call f args)
   | _, _ => none
  | .call { callee := .invoke x m, args, .. } => match cX x, cXs args.toList with
   | some x, some args => some (.inv (mtab P m) x args)
   | _, _ => none
  | .slice t x lo hi mx => match P.underlying t with
   | some (.slice e) => match P.info? e, cX x, cXo lo, cXo hi, cXo mx with
    | some d, some x, some lo, some hi, some mx => some (.slc x lo hi mx d.size)
    | _, _, _, _, _ => none
   | _ => none
  | _ => none
def c1w (P : Program) (o : Oper) : Option Op1 :=
 match c1 P o with
 | some o1 => some o1
 | none => match o.op with
  | .makeSlice t l c => match P.underlying t with
   | some (.slice e) => match P.underlying e, P.info? e, cX l, cX c with
    | some (.int kk), some i, some l, some c => match i.zero with
     | some z => match z with
      | .int k' n => if (Value.int k' n).cells.size = 1 /\ (k' = kk /\ n = 0) /\ i.size = 1 /\ i.bytes <= 1073741824 then some (.mki e kk l c) else none
      | _ => none
     | none => none
    | _, _, _, _ => none
   | _ => none
  | .buildSlice t len parts => match P.underlying t with
   | some (.slice e) => match P.info? e with
    | some i => if len = 0 /\ parts.size = 0 then some (.emp i.size) else none
    | none => none
   | _ => none
  | .nilCheck x => (cX x).map .nck
  | .makeFunc (.method m) first caps => match first.toList, caps.toList with
   | [x], [] => (cX x).map fun x => .v (.mkmm m x)
   | _, _ => none
  | _ => none
def cops (P : Program) (all : Array Oper) : List Oper -> Option (List Opr)
  | [] => some []
  | o :: t => match c1w P o, cops P all t, (match o.guard with
      | none => some none
      | some (j, want) => match (all[j]?).bind (·.dst) with
        | some d => some (some (d, want))
        | none => none : Option (Option (Nat × Bool))) with
    | some o1, some t, some g => some (⟨o.dst, g, o1⟩ :: t)
    | _, _, _ => none
def usesX : X -> List Nat
 | .t n => [n]
 | .c _ => []
def usesXs : List X -> List Nat
 | [] => []
 | x :: t => usesX x ++ usesXs t
def usesP : List (Nat × Nat × X) -> List Nat
 | [] => []
 | (_, _, x) :: t => usesX x ++ usesP t
def usesO : Option X -> List Nat
 | none => []
 | some x => usesX x
def usesV : VOp -> List Nat
 | .mov x | .neg x | .not x | .conv _ x | .ifc _ x | .off x _ | .fld x _ _ | .load x _ | .len x | .ext x _ | .isnil _ x | .mkmm _ x | .strl x | .nckv x => usesX x
 | .pick a b c => usesX a ++ (usesX b ++ usesX c)
 | .bin _ x y | .binb _ x y | .ixa x y _ | .ixarr x y _ _ | .ixv x y _ _ _ | .max2 x y | .min2 x y | .eqs _ _ x y | .stri x y | .strb _ x y => usesX x ++ usesX y
 | .mx3 _ x y z => usesX x ++ (usesX y ++ usesX z)
 | .mkfn _ xs => usesXs xs
 | .mkmv _ a b => usesXs a ++ usesXs b
 | .slc x a b c _ => usesX x ++ (usesO a ++ (usesO b ++ usesO c))
def uses1 : Op1 -> List Nat
 | .v o => usesV o
 | .new _ _ => []
 | .box _ x => usesX x
 | .bsl _ _ _ ps | .bld _ ps => usesP ps
 | .store _ x y | .app _ _ _ x y => usesX x ++ usesX y
 | .call f xs | .inv _ f xs => usesX f ++ usesXs xs
 | .slc x a b c _ => usesX x ++ (usesO a ++ (usesO b ++ usesO c))
 | .mki _ _ a b => usesX a ++ usesX b
 | .emp _ => []
 | .nck x => usesX x
def usesG : Option (Nat × Bool) -> List Nat
 | none => []
 | some (i, _) => [i]
def usesR (o : Opr) : List Nat := usesG o.g ++ uses1 o.o
def Opr.creates (o : Opr) : Bool :=
 match o.o with
 | .new .. | .box .. | .bsl .. => true
 | _ => false
def masks : List Oper -> List Nat -> List Nat
 | [], acc => acc
 | o :: t, acc => masks t (acc ++ [o.after.toList.foldl (fun m e => if Region.binds .any e then m ||| 2 ^ e.on ||| acc.getD e.on 0 else m) 0])
def edgesOk (ops : List Oper) : Bool := ops.zipIdx.all fun (o, i) => o.after.all fun e => !Region.binds .any e || e.on < i
def headLen (ms : List Nat) : Nat := (ms.zipIdx.filter fun (m, i) => !(m % 2 ^ i == 2 ^ i - 1)).foldl (fun _ (_, i) => i + 1) 0
def drawOk (ms : List Nat) (lo : List Opr) (h : Nat) (c : Option Nat) : Bool :=
 (lo.zipIdx.all fun (o, i) => decide (h <= i) || (some i == c) == o.creates) &&
 (lo.zipIdx.all fun (o, i) => !decide (h <= i) || (List.range i).all fun j => (ms.getD i 0).testBit j) &&
 (lo.zipIdx.all fun (o, i) => decide (h <= i) || lo.zipIdx.all fun (o', j) => decide (h <= j) || i == j || match o'.d with
  | none => true
  | some d => if (some d == o.d) || (usesR o).contains d then (if some j == c then some i == c else if some i == c then decide (j < i) && (ms.getD i 0).testBit j && !(some d == o.d) else if j < i then (ms.getD i 0).testBit j else (ms.getD j 0).testBit i) else true) &&
 (match c with
  | none => true
  | some c => match lo[c]? with
   | some o => o.g.isNone
   | none => false)
def cdraw (P : Program) (ops : Array Oper) : Option SC :=
 match cops P ops ops.toList with
 | none => none
 | some lo =>
  let ms := masks ops.toList []
  let h := headLen ms
  let c := ((lo.zipIdx.filter fun (o, i) => decide (i < h) && o.creates).head?).map (·.2)
  if P.follows .mixedOrders && edgesOk ops.toList && drawOk ms lo h c then
   let guards := lo.filterMap (fun o => o.g.map (·.1))
   some (.drw ((lo.zipIdx.filter fun (o, i) => decide (i < h) && !(some i == c)).map fun (o, i) => (i, o, match o.d with
    | some d => guards.contains d
    | none => false)) (c.bind (lo[·]?)) (lo.drop h))
  else none
def isSlc (o : Opr) : Bool :=
 match o.o with
 | .slc .. => true
 | _ => false
def slots (P : Program) (ops : Array Oper) : List Nat :=
 match cops P ops ops.toList with
 | some lo => if lo.any isSlc then (lo.flatMap usesR).eraseDups else []
 | none => []
def rdy (ms : List Nat) (n : Nat) (L : Nat -> Bool) (i : Nat) : Bool := !L i && (List.range n).all fun j => !(ms.getD i 0).testBit j || L j
def ordS (ms : List Nat) (n : Nat) (f : (Nat -> Bool) -> DT) (L : Nat -> Bool) : List (Opr × Nat) -> DT
 | [] => .stop
 | (o, i) :: t => if rdy ms n L i then .op o (f fun j => j == i || L j) (ordS ms n f L t) else ordS ms n f L t
def ordT (ms : List Nat) (lo : List Opr) : Nat -> (Nat -> Bool) -> DT
 | 0, _ => .leaf
 | k + 1, L => ordS ms lo.length (ordT ms lo k) L lo.zipIdx
def isSto (o : Opr) : Bool :=
 match o.o with
 | .store .. => true
 | _ => false
def ctre (P : Program) (ops : Array Oper) : Option SC :=
 match cops P ops ops.toList with
 | none => none
 | some lo => if P.follows .mixedOrders && edgesOk ops.toList && (decide (lo.length <= 7) && (lo.take (headLen (masks ops.toList []))).any isSto) then
   some (.tre (ordT (masks ops.toList []) lo lo.length fun _ => false))
  else none
def silK : Op1 -> Bool
 | .v _ | .bld _ _ => true
 | _ => false
def rdK : Op1 -> Bool
 | .v (.load _ _) | .v (.len _) | .v (.ixa _ _ _) | .v (.isnil _ _) => true
 | _ => false
def mildK : Op1 -> Bool
 | .v _ | .bld _ _ | .new _ _ | .box _ _ | .bsl _ _ _ _ => true
 | _ => false
def cmt (o o' : Opr) : Bool :=
 (match o.d with
  | some d => !(some d == o'.d) && !(uses1 o'.o).contains d
  | none => true) &&
 (match o'.d with
  | some d => !(uses1 o.o).contains d
  | none => true) && (!rdK o.o || mildK o'.o)
def uno (ms : List Nat) (i j : Nat) : Bool := !(ms.getD i 0).testBit j && !(ms.getD j 0).testBit i
def sil (ms : List Nat) (lo : List Opr) (i : Nat) : Bool :=
 match lo[i]? with
 | some o => silK o.o && (lo.zipIdx.all fun x => i == x.2 || !uno ms i x.2 || cmt o x.1)
 | none => false
def fstS (ms : List Nat) (lo : List Opr) (L : Nat -> Bool) : Option (Opr × Nat) := lo.zipIdx.find? fun x => rdy ms lo.length L x.2 && sil ms lo x.2
def cutT (ms : List Nat) (lo : List Opr) : Nat -> (Nat -> Bool) -> DT
 | 0, _ => .leaf
 | k + 1, L => match fstS ms lo L with
  | some (o, i) => .op o (cutT ms lo k fun j => j == i || L j) .stop
  | none => ordS ms lo.length (cutT ms lo k) L lo.zipIdx
def pairs (ms : List Nat) (lo : List Opr) : Nat :=
 let l := (List.range lo.length).filter fun i => !sil ms lo i
 (l.map fun i => (l.filter fun j => decide (j < i) && uno ms i j).length).foldl (· + ·) 0
def ctrc (P : Program) (ops : Array Oper) : Option SC :=
 match cops P ops ops.toList with
 | none => none
 | some lo => if P.follows .mixedOrders && edgesOk ops.toList && (lo.all (fun o => o.g.isNone) && decide (pairs (masks ops.toList []) lo <= 16)) then
   some (.tre (cutT (masks ops.toList []) lo lo.length fun _ => false))
  else none
def hdBad (o : Opr) : Bool :=
 match o.o with
 | .store .. | .inv .. | .app .. | .mki .. => true
 | _ => false
def dynC (o : Opr) : Bool :=
 match o.o with
 | .call (.t _) _ => true
 | _ => false
def hasMm (P : Program) (ops : Array Oper) : Bool :=
 match cops P ops ops.toList with
 | some lo => (lo.take (headLen (masks ops.toList []))).any hdBad || ((lo.take (headLen (masks ops.toList []))).any dynC && progMm P)
 | none => false
def cC (P : Program) : Code -> Option SC
 | .skip => some .skip
 | .region id ops false => match cops P ops ops.toList with
  | some lo => some (.reg lo)
  | none => some (.sem (.region id ops false))
 | .region id ops true => match ctre P ops with
  | some sc => some sc
  | none => match (match hasMm P ops with
   | true => none
   | false => match slots P ops with
    | [] => cdraw P ops
    | d :: t => (cdraw P ops).map (.shut (d :: t))) with
   | some sc => some sc
   | none => match ctrc P ops with
    | some sc => some sc
    | none => some (.sem (.region id ops true))
 | .seq a b => match cC P a, cC P b with
  | some a, some b => some (.seq a b)
  | _, _ => none
 | .cond c a b => match cX c, cC P a, cC P b with
  | some c, some a, some b => some (.cond c a b)
  | _, _, _ => none
 | .block id c => (cC P c).map (.block id)
 | .loop c => (cC P c).map .loop
 | .exit id => some (.exit id)
 | .scope c => (cC P c).map .scp
 | .label _ => some .skip
 | .rangeFunc g ps x y => some (.sem (.rangeFunc g ps x y))
 | .ret => some .ret
 | _ => none
section
variable {P : Program} {Γ : Gm} (hΓ : GmOk P Γ)
theorem xAx {a : Act} {d : Option Nat} {v : Value} {E : Env} {fr : List SV} {x : SV} (h : Rvs E fr a.tmps.toList) (hx : Rv E x v) :
  Rvs E (putf fr d x) (a.put d v).tmps.toList := by
 cases d with
 | none => exact h
 | some d => simpa [putf, Act.put] using h.st d hx
theorem xAm (a : Act) (d : Option Nat) (v : Value) : (a.put d v).defers = a.defers := by cases d <;> rfl
theorem Rep.put {E E' : Env} {s : St} {a : Act} (h : Rep E s a) (hle : E.Le E') {hp : List Blk} (hh : RHp E' hp) {x : SV} {v : Value} (hx : Rv E' x v) (d : Option Nat) :
  Rep E' ⟨putf s.fr d x, hp⟩ (a.put d v) :=
 ⟨xAx (h.fr.mono hle) hx, hh, by rw [xAm, h.df, hle.df]⟩
theorem xFi (w : World) (o : Obj) : w.grownBy (w.alloc o) none := World.grownBy_alloc w o none
theorem xEo {E : Env} {hp : List Blk} (h : RHp E hp) (t : Nat) {cs : List SV} {vs : List Value} (hc : Rvs E cs vs) :
  ∃ E', E'.w = E.w.alloc (.cells vs.toArray t) /\ E.Le E' /\ RHp E' (pb hp (.box t cs)) /\ E'.has E.n /\ E'.blk E.n = E.w.heap.size /\ E.n = ln hp := by
 have hle : E.Le (E.push (E.w.alloc (.cells vs.toArray t)) E.w.heap.size undef) := Env.push_le fun b hb => heap_alloc_old E.w _ (h.imlt hb)
 obtain ⟨h1, h2⟩ := h.push (w := E.w.alloc (.cells vs.toArray t)) (g0 := E.w.heap.size) (v := undef) (newb := .box t cs) (xFi _ _) (fun a => RowKit.frozen?_alloc_cells _ _ _ a)
  ⟨vs, hc.mono hle, by simp only [Env.push, if_true]; exact heap_alloc_new E.w _⟩
  (fun g hg => by simp [Blk.at, Env.push] at hg; omega)
 exact ⟨_, rfl, h2, h1, Env.push_has, by simp [Env.push], by rw [xBn]; exact h.b.n⟩
theorem xLh (off : Nat) : ∀ (l : List Value) (k : Nat) (cs : Array Value), off + k + l.length <= cs.size ->
  ((l.zipIdx k).foldl (fun (cs : Array Value) (x : Value × Nat) => cs.setIfInBounds (off + x.2) x.1) cs).toList = cs.toList.take (off + k) ++ l ++ cs.toList.drop (off + k + l.length)
 | [], k, cs, _ => by simp
 | v :: l, k, cs, h => by
  simp only [List.zipIdx_cons, List.foldl_cons]
  rw [xLh off l (k + 1) _ (by simp at h ⊢; omega)]
  have e := list_seg_step cs.toList (off + k) v l (by simp at h ⊢; omega)
  simpa [Array.toList_setIfInBounds, Nat.add_assoc] using e
inductive Parts (E : Env) (place : Nat -> Option (Nat × Nat)) : List (Nat × Nat × SV) -> List (Nat × Value) -> Prop
 | nil : Parts E place [] []
 | cons (off sz : Nat) (x : SV) (i : Nat) (v : Value) (ps : List (Nat × Nat × SV)) (vs : List (Nat × Value)) : place i = some (off, sz) -> Rv E x v -> Parts E place ps vs ->
   Parts E place ((off, sz, x) :: ps) ((i, v) :: vs)
theorem xGf {E : Env} {place : Nat -> Option (Nat × Nat)} : ∀ {ps : List (Nat × Nat × SV)} {vs : List (Nat × Value)} {z z' : List SV} {cells : Array Value}, Parts E place ps vs -> Rvs E z cells.toList -> lay z ps = some z' ->
  ∃ cells', Instr.fill place cells vs = some cells' /\ Rvs E z' cells'.toList
 | [], [], z, z', cells, .nil, hz, e => by
  simp [lay] at e; subst e; exact ⟨cells, rfl, hz⟩
 | _ :: ps, _ :: vs, z, z', cells, .cons off sz x i v _ _ hp hx hps, hz, e => by
  simp only [lay] at e
  split at e
  ·cases e
  ·rename_i cs hcs
   split at e
   ·cases e
   ·rename_i hlen
    split at e
    ·cases e
    ·rename_i z1 hz1
     have hc := xGm hx hcs
     obtain ⟨h1, h2⟩ := hz.sp off hc hz1
     rw [xDf] at hlen
     have hl : v.cells.size = sz := by have := hc.length; simp at hlen this; omega
     have hs : off + v.cells.size <= cells.size := by simpa using h1
     have hf := xLh off v.cells.toList 0 cells (by simpa using hs)
     have hrow : Rvs E z1 (v.cells.zipIdx.foldl (fun (cs : Array Value) (x : Value × Nat) => cs.setIfInBounds (off + x.2) x.1) cells).toList := by
      rw [<- Array.foldl_toList, Array.toList_zipIdx, hf]
      simpa using h2
     obtain ⟨cells', h3, h4⟩ := xGf hps hrow e
     refine ⟨cells', ?_, h4⟩
     unfold Instr.fill
     simp only [hp, hl, ne_eq, not_true_eq_false, false_or, decide_false, Bool.false_or]
     rw [if_neg (by simpa [hl] using hs)]
     exact h3
theorem xDu {E : Env} {fr : List SV} {a : Act} (h : Rvs E fr a.tmps.toList) {place : Nat -> Option (Nat × Nat)} : ∀ {parts : List (Nat × Operand)} {xs : List (Nat × Nat × X)}, cparts place parts = some xs ->
  Parts E place (getp fr xs) (parts.map fun (i, x) => (i, a.eval x))
 | [], xs, e => by simp [cparts] at e; subst e; exact .nil
 | (i, o) :: t, xs, e => by
  simp only [cparts] at e
  split at e
  ·rename_i off sz x xs' h1 h2 h3
   cases e
   exact .cons off sz _ i _ _ _ h1 (X.ok h h2) (xDu h h3)
  ·cases e
theorem xAb {E : Env} {ro : Option Nat} {n : Nat} {o : Oper} {a : Act} {next : Act -> World -> Prop} {Q : Exit -> Act -> World -> Prop} {v : Value} {w : World}
  (hr : (execOp a.eval o).run P E.w = .ok (.value v) w) (h : next (a.put o.dst v) w) : o.uponIn (fen ro) n P a next Q ((execOp a.eval o).run P E.w) := by
 rw [hr]; exact h
theorem xCp {E : Env} {ro : Option Nat} {n : Nat} {o : Oper} {a : Act} {next : Act -> World -> Prop} {Q : Exit -> Act -> World -> Prop} {w : World}
  (hr : (execOp a.eval o).run P E.w = .ok .skip w) (h : next (a.put o.dst undef) w) : o.uponIn (fen ro) n P a next Q ((execOp a.eval o).run P E.w) := by
 rw [hr]; exact h
structure Closed (E E' : Env) : Prop where
 le : E.Le E'
 w : E'.w = E.w
 n : E'.n = E.n
 blk : E'.blk = E.blk
 val : E'.val = E.val
theorem Closed.refl (E : Env) : Closed E E := ⟨.refl E, rfl, rfl, rfl, rfl⟩
theorem Closed.trans {A B C : Env} (h : Closed A B) (k : Closed B C) : Closed A C := ⟨h.le.trans k.le, k.w.trans h.w, k.n.trans h.n, k.blk.trans h.blk, k.val.trans h.val⟩
theorem Closed.stays {A B : Env} (h : Closed A B) : Stays A.w B.w A.im B.im := h.le.stays
theorem xAo {E : Env} {hp : List Blk} (h : RHp E hp) {l : Nat} {b newb : Blk} (hl : hp[l]? = some b) (hd : b ≠ .dead)
  (hnew : ∀ E', Closed E E' -> (∀ g, b.at E l = some g -> E'.im g) -> Rblk E' l newb) (hnat : ∀ E', newb.at E' l = none) :
  ∃ E', Closed E E' /\ (∀ g, b.at E l = some g -> E'.im g) /\ RHp E' (sb hp l newb) := by
 have hle : E.Le { E with im := fun g => E.im g \/ b.at E l = some g } :=
  ⟨Nat.le_refl _, fun _ h => h, fun _ _ => rfl, fun _ _ => rfl, fun _ _ h => h, fun _ h => .inl h, fun _ _ => rfl, rfl, rfl, rfl, rfl, rfl, rfl, fun _ _ h => h⟩
 have hc : Closed E { E with im := fun g => E.im g \/ b.at E l = some g } := ⟨hle, rfl, rfl, rfl, rfl⟩
 obtain ⟨h1, _⟩ := h.close (newb := newb) hl hd _ rfl (hnew _ hc fun g hg => .inr hg) (hnat _)
 exact ⟨_, hc, fun g hg => .inr hg, h1⟩
theorem own_ints {E : Env} {k : IntKind} {t : Nat} {v : Value} {xs : List Int} (h : E.w.ownsRow 0 t 1 v xs.length (xs.map (Value.int k))) (him : ∀ g, v.ownBlock = some g -> E.im g) : Cv E.w E.im (.ints k xs) v := by
 rcases h.2 with ⟨rfl, hn⟩ | ⟨g, cap, cur, rfl, hb, hg, hcap, _⟩
 ·obtain rfl : xs = [] := List.eq_nil_of_length_eq_zero hn
  exact .intsNil k
 ·refine .ints k xs g 0 cap (him g rfl) (fun j x hx => ?_) hcap
  have := h.cells (g := g) rfl j (.int k x) (by simp [hx])
  have hadd : (⟨g, 0, none⟩ : Addr).add j = ⟨g, 0 + j, none⟩ := by unfold Addr.add; split <;> simp_all
  rwa [hadd] at this
theorem own_rd {E : Env} {t sz len : Nat} {v : Value} {f : Nat -> List SV} {vs : Nat -> List Value} (h : E.w.ownsRow 0 t sz v len ((List.range len).flatMap vs)) (him : ∀ g, v.ownBlock = some g -> E.im g)
  (h1 : ∀ i, i < len -> Cvs E.w E.im (f i) (vs i)) (h2 : ∀ i, i < len -> (vs i).length = sz) : Cv E.w E.im (.rd sz len f) v := by
 rcases h.2 with ⟨rfl, hn⟩ | ⟨g, cap, cur, rfl, hb, hg, hcap, _⟩
 ·subst hn; exact .rdNil sz f
 ·refine .rd sz len f g 0 cap vs (him g rfl) h1 h2 (fun i j x hi hx => ?_) hcap
  have := h.cells (g := g) rfl (i * sz + j) x (xCf vs sz len i j x h2 hi hx)
  have hadd : (⟨g, 0, none⟩ : Addr).add (i * sz + j) = ⟨g, 0 + (i * sz + j), none⟩ := by unfold Addr.add; split <;> simp_all
  rwa [hadd] at this
theorem xGg (w : World) (t ty e : TypeId) (i : TypeInfo) (z : Value) (ht : P.underlying t = some (.slice e)) (hi : P.info? e = some i) (hz : i.zero = some z)
  (hzs : z.cells.size = i.size) (hsz : 0 < i.size) (v : Value) (n : Nat) (xs : List Value) (hown : w.ownsRow 0 e i.size v n xs)
  (a : Addr) (c : Nat) (news : List Value) (hl : news.length = i.size) (hnews : ∀ j u, news[j]? = some u -> w.cell? (a.add j) = some u) (h1 : ∀ u ∈ news, u.oneCell' = true)
  (h63 : n + 1 <= 9223372036854775807) (hbytes : (n + 1) * i.bytes <= 140737488355328) :
  ∃ v' w', (Builtin.append_ #[t, t] ty #[v, .slice (some a) 1 c]).run P w = .ok v' w' /\ w'.ownsRow 0 e i.size v' (n + 1) (xs ++ news) /\ w.grownBy w' v.ownBlock /\
   (∀ b, w'.frozen? b = w.frozen? b) /\ ∃ g cap, v' = .slice (some ⟨g, 0, none⟩) (n + 1) cap /\ (w.heap.size <= g \/ v.ownBlock = some g) := by
 have hlen : (xs ++ news).length = (n + 1) * i.size := by rw [List.length_append, hown.1, hl, Nat.add_mul]; omega
 have h63' : n + 1 <= maxLen := by simpa [maxLen] using h63
 have grown : ∀ (old : Nat), old < n + 1 -> ∀ (row : Option Nat),
   (w.drew.alloc (.cells (xs.toArray ++ news.toArray ++ Builtin.zeroCells z.cells (grownCap w (n + 1) old e - (n + 1))) e)).ownsRow 0 e i.size
    (.slice (some ⟨w.heap.size, 0, none⟩) (n + 1) (grownCap w (n + 1) old e)) (n + 1) (xs ++ news) /\
   w.grownBy (w.drew.alloc (.cells (xs.toArray ++ news.toArray ++ Builtin.zeroCells z.cells (grownCap w (n + 1) old e - (n + 1))) e)) row /\
   ∀ b, (w.drew.alloc (.cells (xs.toArray ++ news.toArray ++ Builtin.zeroCells z.cells (grownCap w (n + 1) old e - (n + 1))) e)).frozen? b = w.frozen? b := by
  intro old ho row
  have hge := grownCap_ge w (n + 1) old e
  have hcm : grownCap w (n + 1) old e <= maxLen := grownCap_le_maxLen w (n + 1) old e h63'
  refine ⟨⟨hlen, .inr ⟨w.heap.size, _, _, rfl, Nat.zero_le _, heap_alloc_new w.drew _, hge, hcm, ?_, ?_⟩⟩, ⟨rfl, rfl, rfl, by simp, fun k hk _ => heap_alloc_old w.drew _ hk⟩, fun b => ?_⟩
  ·simp only [Array.size_append, List.size_toArray, size_zeroCells, hzs, hown.1, hl]
   have : grownCap w (n + 1) old e = n + 1 + (grownCap w (n + 1) old e - (n + 1)) := by omega
   generalize grownCap w (n + 1) old e - (n + 1) = d at *
   rw [this, Nat.add_mul, Nat.add_mul]; omega
  ·simp only [Array.toList_append, List.append_assoc]
   rw [<- List.append_assoc, <- hlen]
   exact List.take_left
  ·rw [RowKit.frozen?_alloc_cells]; rfl
 rcases hown.2 with ⟨rfl, rfl⟩ | ⟨g, cap, cur, rfl, hbg, hg, hnc, hcm, hcs, htake⟩
 ·have hx : xs = [] := List.eq_nil_of_length_eq_zero (by simpa using hown.1)
  subst hx
  have hr := run_append_nil (P := P) w t ty e i z ht hi hz a 1 c news (by omega) hnews (by omega) (by omega) (by omega)
  have hgr := grown 0 (by omega) (Value.ownBlock (.slice none 0 0))
  simp only [Nat.zero_add, List.nil_append, Array.empty_append] at hgr ⊢
  exact ⟨_, _, hr, hgr.1, hgr.2.1, hgr.2.2, _, _, rfl, .inl (Nat.le_refl _)⟩
 ·by_cases hroom : n + 1 <= cap
  ·have hfit : n * i.size + news.length <= cur.size := by rw [hl, hcs]; have := Nat.mul_le_mul_right i.size hroom; rw [Nat.add_mul] at this; omega
   have hr := run_append_room (P := P) w t ty e i ht hi g n cap cur hg a 1 c news (by omega) hnews h1 hroom hfit
   refine ⟨_, _, hr, ⟨hlen, .inr ⟨g, cap, _, rfl, hbg, setRow_heap w g cur _ e _ hg, hroom, hcm, ?_, ?_⟩⟩, ⟨rfl, rfl, rfl, by simp [World.setRow], fun k _ hk => setRow_other w g k _ (fun e => hk (by simp [Value.ownBlock, e]))⟩, fun b => ?_, _, _, rfl, .inr rfl⟩
   ·simp only [List.size_toArray, List.length_append, List.length_take, List.length_drop, Array.length_toList]
    omega
   ·rw [htake, <- hlen]
    exact List.take_left
   ·by_cases hb : b.block = g
    ·simp only [World.frozen?, hb, setRow_heap w g cur _ e _ hg, hg]
    ·exact World.frozen?_of_block (setRow_other w _ _ _ hb)
  ·have holds : ∀ j u, xs[j]? = some u -> w.cell? ((⟨g, 0, none⟩ : Addr).add j) = some u := hown.cells (g := g) rfl
   have hr := run_append_grow (P := P) w t ty e i z ht hi hz ⟨g, 0, none⟩ n cap xs hown.1 holds a 1 c news (by omega) hnews (by omega) (by omega) (growslice_fits (by omega) hbytes)
   have hgr := grown cap (by omega) (Value.ownBlock (.slice (some ⟨g, 0, none⟩) n cap))
   exact ⟨_, _, hr, hgr.1, hgr.2.1, hgr.2.2, _, _, rfl, .inl (Nat.le_refl _)⟩
theorem xCq (w : World) (t ty e : TypeId) (i : TypeInfo) (z : Value) (ht : P.underlying t = some (.slice e)) (hi : P.info? e = some i) (hz : i.zero = some z)
  (hzs : z.cells.size = i.size) (hsz : 0 < i.size) (v : Value) (n : Nat) (xs : List Value) (hown : w.ownsRow 0 e i.size v n xs)
  (a : Addr) (c : Nat) (m : Nat) (hm : 0 < m) (news : List Value) (hl : news.length = m * i.size) (hnews : ∀ j u, news[j]? = some u -> w.cell? (a.add j) = some u) (h1 : ∀ u ∈ news, u.oneCell' = true)
  (h63 : n + m <= 9223372036854775807) (hbytes : (n + m) * i.bytes <= 140737488355328) :
  ∃ v' w', (Builtin.append_ #[t, t] ty #[v, .slice (some a) m c]).run P w = .ok v' w' /\ w'.ownsRow 0 e i.size v' (n + m) (xs ++ news) /\ w.grownBy w' v.ownBlock /\
   (∀ b, w'.frozen? b = w.frozen? b) /\ ∃ g cap, v' = .slice (some ⟨g, 0, none⟩) (n + m) cap /\ (w.heap.size <= g \/ v.ownBlock = some g) := by
 have hlen : (xs ++ news).length = (n + m) * i.size := by rw [List.length_append, hown.1, hl, Nat.add_mul]
 have h63' : n + m <= maxLen := by simpa [maxLen] using h63
 have grown : ∀ (old : Nat), old < n + m -> ∀ (row : Option Nat),
   (w.drew.alloc (.cells (xs.toArray ++ news.toArray ++ Builtin.zeroCells z.cells (grownCap w (n + m) old e - (n + m))) e)).ownsRow 0 e i.size
    (.slice (some ⟨w.heap.size, 0, none⟩) (n + m) (grownCap w (n + m) old e)) (n + m) (xs ++ news) /\
   w.grownBy (w.drew.alloc (.cells (xs.toArray ++ news.toArray ++ Builtin.zeroCells z.cells (grownCap w (n + m) old e - (n + m))) e)) row /\
   ∀ b, (w.drew.alloc (.cells (xs.toArray ++ news.toArray ++ Builtin.zeroCells z.cells (grownCap w (n + m) old e - (n + m))) e)).frozen? b = w.frozen? b := by
  intro old ho row
  have hge := grownCap_ge w (n + m) old e
  have hcm : grownCap w (n + m) old e <= maxLen := grownCap_le_maxLen w (n + m) old e h63'
  refine ⟨⟨hlen, .inr ⟨w.heap.size, _, _, rfl, Nat.zero_le _, heap_alloc_new w.drew _, hge, hcm, ?_, ?_⟩⟩, ⟨rfl, rfl, rfl, by simp, fun k hk _ => heap_alloc_old w.drew _ hk⟩, fun b => ?_⟩
  ·simp only [Array.size_append, List.size_toArray, size_zeroCells, hzs, hown.1, hl]
   have : grownCap w (n + m) old e = n + m + (grownCap w (n + m) old e - (n + m)) := by omega
   generalize grownCap w (n + m) old e - (n + m) = d at *
   rw [this, Nat.add_mul, Nat.add_mul]
  ·simp only [Array.toList_append, List.append_assoc]
   rw [<- List.append_assoc, <- hlen]
   exact List.take_left
  ·rw [RowKit.frozen?_alloc_cells]; rfl
 rcases hown.2 with ⟨rfl, rfl⟩ | ⟨g, cap, cur, rfl, hbg, hg, hnc, hcm, hcs, htake⟩
 ·have hx : xs = [] := List.eq_nil_of_length_eq_zero (by simpa using hown.1)
  subst hx
  have hr := run_append_nil (P := P) w t ty e i z ht hi hz a m c news hl hnews hm (by omega) (by rw [Nat.zero_add] at hbytes; omega)
  have hgr := grown 0 (by omega) (Value.ownBlock (.slice none 0 0))
  simp only [Nat.zero_add, List.nil_append, Array.empty_append] at hgr ⊢
  exact ⟨_, _, hr, hgr.1, hgr.2.1, hgr.2.2, _, _, rfl, .inl (Nat.le_refl _)⟩
 ·by_cases hroom : n + m <= cap
  ·have hfit : n * i.size + news.length <= cur.size := by rw [hl, hcs, <- Nat.add_mul]; exact Nat.mul_le_mul_right _ hroom
   have hr := run_append_room (P := P) w t ty e i ht hi g n cap cur hg a m c news hl hnews h1 hroom hfit
   refine ⟨_, _, hr, ⟨hlen, .inr ⟨g, cap, _, rfl, hbg, setRow_heap w g cur _ e _ hg, hroom, hcm, ?_, ?_⟩⟩, ⟨rfl, rfl, rfl, by simp [World.setRow], fun k _ hk => setRow_other w g k _ (fun e => hk (by simp [Value.ownBlock, e]))⟩, fun b => ?_, _, _, rfl, .inr rfl⟩
   ·simp only [List.size_toArray, List.length_append, List.length_take, List.length_drop, Array.length_toList]
    omega
   ·rw [htake, <- hlen]
    exact List.take_left
   ·by_cases hb : b.block = g
    ·simp only [World.frozen?, hb, setRow_heap w g cur _ e _ hg, hg]
    ·exact World.frozen?_of_block (setRow_other w _ _ _ hb)
  ·have holds : ∀ j u, xs[j]? = some u -> w.cell? ((⟨g, 0, none⟩ : Addr).add j) = some u := hown.cells (g := g) rfl
   have hr := run_append_grow (P := P) w t ty e i z ht hi hz ⟨g, 0, none⟩ n cap xs hown.1 holds a m c news hl hnews (by omega) (by omega) (growslice_fits (by omega) hbytes)
   have hgr := grown cap (by omega) (Value.ownBlock (.slice (some ⟨g, 0, none⟩) n cap))
   exact ⟨_, _, hr, hgr.1, hgr.2.1, hgr.2.2, _, _, rfl, .inl (Nat.le_refl _)⟩
theorem xCr (w : World) (e : TypeId) (i : TypeInfo) (z : Value) (hzs : z.cells.size = i.size) (n : Nat) (xs news : List Value) (hx : xs.length = n * i.size) (hl : news.length = i.size)
  (h63 : n + 1 <= 9223372036854775807) (old : Nat) (ho : old < n + 1) (row : Option Nat) :
   (w.drew.alloc (.cells (xs.toArray ++ news.toArray ++ Builtin.zeroCells z.cells (grownCap w (n + 1) old e - (n + 1))) e)).ownsRow 0 e i.size
    (.slice (some ⟨w.heap.size, 0, none⟩) (n + 1) (grownCap w (n + 1) old e)) (n + 1) (xs ++ news) /\
   w.grownBy (w.drew.alloc (.cells (xs.toArray ++ news.toArray ++ Builtin.zeroCells z.cells (grownCap w (n + 1) old e - (n + 1))) e)) row /\
   ∀ b, (w.drew.alloc (.cells (xs.toArray ++ news.toArray ++ Builtin.zeroCells z.cells (grownCap w (n + 1) old e - (n + 1))) e)).frozen? b = w.frozen? b := by
 have hlen : (xs ++ news).length = (n + 1) * i.size := by rw [List.length_append, hx, hl, Nat.add_mul]; omega
 have h63' : n + 1 <= maxLen := by simpa [maxLen] using h63
 have hge := grownCap_ge w (n + 1) old e
 have hcm : grownCap w (n + 1) old e <= maxLen := grownCap_le_maxLen w (n + 1) old e h63'
 refine ⟨⟨hlen, .inr ⟨w.heap.size, _, _, rfl, Nat.zero_le _, heap_alloc_new w.drew _, hge, hcm, ?_, ?_⟩⟩, ⟨rfl, rfl, rfl, by simp, fun k hk _ => heap_alloc_old w.drew _ hk⟩, fun b => ?_⟩
 ·simp only [Array.size_append, List.size_toArray, size_zeroCells, hzs, hx, hl]
  have : grownCap w (n + 1) old e = n + 1 + (grownCap w (n + 1) old e - (n + 1)) := by omega
  generalize grownCap w (n + 1) old e - (n + 1) = d at *
  rw [this, Nat.add_mul, Nat.add_mul]; omega
 ·simp only [Array.toList_append, List.append_assoc]
  rw [<- List.append_assoc, <- hlen]
  exact List.take_left
 ·rw [RowKit.frozen?_alloc_cells]; rfl
theorem xFj (w : World) (t ty e : TypeId) (i : TypeInfo) (z : Value) (ht : P.underlying t = some (.slice e)) (hi : P.info? e = some i) (hz : i.zero = some z)
  (hzs : z.cells.size = i.size) (hs1 : i.size = 1) (v : Value) (hv : v = .slice none 0 0 \/ ∃ b : Addr, v = .slice (some b) 0 0)
  (a : Addr) (n c : Nat) (news : List Value) (hl : news.length = n) (hnews : ∀ j u, news[j]? = some u -> w.cell? (a.add j) = some u) (h0 : 0 < n)
  (h63 : n <= 9223372036854775807) (hbytes : n * i.bytes <= 140737488355328) :
  ∃ cap w', (Builtin.append_ #[t, t] ty #[v, .slice (some a) n c]).run P w = .ok (.slice (some ⟨w.heap.size, 0, none⟩) n cap) w' /\
   w'.ownsRow 0 e i.size (.slice (some ⟨w.heap.size, 0, none⟩) n cap) n news /\ w.grownBy w' none /\ (∀ b, w'.frozen? b = w.frozen? b) := by
 have h63' : n <= maxLen := by simpa [maxLen] using h63
 have row : (w.drew.alloc (.cells (news.toArray ++ Builtin.zeroCells z.cells (grownCap w n 0 e - n)) e)).ownsRow 0 e i.size (.slice (some ⟨w.heap.size, 0, none⟩) n (grownCap w n 0 e)) n news /\
   w.grownBy (w.drew.alloc (.cells (news.toArray ++ Builtin.zeroCells z.cells (grownCap w n 0 e - n)) e)) none /\
   ∀ b, (w.drew.alloc (.cells (news.toArray ++ Builtin.zeroCells z.cells (grownCap w n 0 e - n)) e)).frozen? b = w.frozen? b := by
  have hge := grownCap_ge w n 0 e
  refine ⟨⟨by rw [hl, hs1]; omega, .inr ⟨w.heap.size, _, _, rfl, Nat.zero_le _, heap_alloc_new w.drew _, hge, grownCap_le_maxLen w n 0 e h63', ?_, ?_⟩⟩, ⟨rfl, rfl, rfl, by simp, fun k hk _ => heap_alloc_old w.drew _ hk⟩, fun b => ?_⟩
  ·simp only [Array.size_append, List.size_toArray, size_zeroCells, hzs, hs1, hl]
   omega
  ·simp only [Array.toList_append]
   rw [hs1, Nat.mul_one, <- hl]
   exact List.take_left
  ·rw [RowKit.frozen?_alloc_cells]; rfl
 rcases hv with rfl | ⟨b, rfl⟩
 ·have hr := run_append_nil (P := P) w t ty e i z ht hi hz a n c news (by rw [hl, hs1]; omega) hnews h0 (by omega) (by omega)
  exact ⟨_, _, hr, row.1, row.2.1, row.2.2⟩
 ·have hr := run_append_grow (P := P) w t ty e i z ht hi hz b 0 0 [] (by simp) (fun j u h => by simp at h) a n c news (by rw [hl, hs1]; omega) hnews (by omega) (by omega) (growslice_fits (by omega) (by simpa using hbytes))
  simp only [Nat.zero_add, Array.empty_append] at hr
  exact ⟨_, _, hr, row.1, row.2.1, row.2.2⟩
theorem xEd (w : World) (t ty e : TypeId) (i : TypeInfo) (z : Value) (ht : P.underlying t = some (.slice e)) (hi : P.info? e = some i) (hz : i.zero = some z)
  (hzs : z.cells.size = i.size) (v : Value) (hv : v = .slice none 0 0 \/ ∃ b : Addr, v = .slice (some b) 0 0)
  (a : Addr) (n c : Nat) (news : List Value) (hl : news.length = n * i.size) (hnews : ∀ j u, news[j]? = some u -> w.cell? (a.add j) = some u) (h0 : 0 < n)
  (h63 : n <= 9223372036854775807) (hbytes : n * i.bytes <= 140737488355328) :
  ∃ cap w', (Builtin.append_ #[t, t] ty #[v, .slice (some a) n c]).run P w = .ok (.slice (some ⟨w.heap.size, 0, none⟩) n cap) w' /\
   w'.ownsRow 0 e i.size (.slice (some ⟨w.heap.size, 0, none⟩) n cap) n news /\ w.grownBy w' none /\ (∀ b, w'.frozen? b = w.frozen? b) := by
 have h63' : n <= maxLen := by simpa [maxLen] using h63
 have row : (w.drew.alloc (.cells (news.toArray ++ Builtin.zeroCells z.cells (grownCap w n 0 e - n)) e)).ownsRow 0 e i.size (.slice (some ⟨w.heap.size, 0, none⟩) n (grownCap w n 0 e)) n news /\
   w.grownBy (w.drew.alloc (.cells (news.toArray ++ Builtin.zeroCells z.cells (grownCap w n 0 e - n)) e)) none /\
   ∀ b, (w.drew.alloc (.cells (news.toArray ++ Builtin.zeroCells z.cells (grownCap w n 0 e - n)) e)).frozen? b = w.frozen? b := by
  have hge := grownCap_ge w n 0 e
  refine ⟨⟨hl, .inr ⟨w.heap.size, _, _, rfl, Nat.zero_le _, heap_alloc_new w.drew _, hge, grownCap_le_maxLen w n 0 e h63', ?_, ?_⟩⟩, ⟨rfl, rfl, rfl, by simp, fun k hk _ => heap_alloc_old w.drew _ hk⟩, fun b => ?_⟩
  ·simp only [Array.size_append, List.size_toArray, size_zeroCells, hzs, hl]
   have : grownCap w n 0 e = n + (grownCap w n 0 e - n) := by omega
   generalize grownCap w n 0 e - n = d at *
   rw [this, Nat.add_mul]
  ·simp only [Array.toList_append]
   rw [<- hl]
   exact List.take_left
  ·rw [RowKit.frozen?_alloc_cells]; rfl
 rcases hv with rfl | ⟨b, rfl⟩
 ·have hr := run_append_nil (P := P) w t ty e i z ht hi hz a n c news hl hnews h0 (by omega) (by omega)
  exact ⟨_, _, hr, row.1, row.2.1, row.2.2⟩
 ·have hr := run_append_grow (P := P) w t ty e i z ht hi hz b 0 0 [] (by simp) (fun j u h => by simp at h) a n c news hl hnews (by omega) (by omega) (growslice_fits (by omega) (by simpa using hbytes))
  simp only [Nat.zero_add, Array.empty_append] at hr
  exact ⟨_, _, hr, row.1, row.2.1, row.2.2⟩
theorem xEe (w : World) (t ty e : TypeId) (i : TypeInfo) (z : Value) (ht : P.underlying t = some (.slice e)) (hi : P.info? e = some i) (hz : i.zero = some z)
  (hzs : z.cells.size = i.size) (hs1 : i.size = 1) (v : Value) (xs : List Value)
  (hv : (v = .slice none 0 0 /\ xs = []) \/ ∃ b : Addr, v = .slice (some b) xs.length xs.length /\ ∀ j u, xs[j]? = some u -> w.cell? (b.add j) = some u)
  (a : Addr) (c : Nat) (u : Value) (hu : w.cell? (a.add 0) = some u)
  (h63 : xs.length + 1 <= 9223372036854775807) (hbytes : (xs.length + 1) * i.bytes <= 140737488355328) :
  ∃ cap w', (Builtin.append_ #[t, t] ty #[v, .slice (some a) 1 c]).run P w = .ok (.slice (some ⟨w.heap.size, 0, none⟩) (xs.length + 1) cap) w' /\
   w'.ownsRow 0 e i.size (.slice (some ⟨w.heap.size, 0, none⟩) (xs.length + 1) cap) (xs.length + 1) (xs ++ [u]) /\ w.grownBy w' none /\ (∀ b, w'.frozen? b = w.frozen? b) := by
 have hnews : ∀ j x, [u][j]? = some x -> w.cell? (a.add j) = some x := fun j x hx => by
  cases j with
  | zero => simp at hx; subst hx; exact hu
  | succ j => simp at hx
 rcases hv with ⟨rfl, rfl⟩ | ⟨b, rfl, hb⟩
 ·have hr := run_append_nil (P := P) w t ty e i z ht hi hz a 1 c [u] (by simp [hs1]) hnews (by omega) (by omega) (by simp at hbytes; omega)
  have hgr := xCr w e i z hzs 0 [] [u] (by simp) (by simp [hs1]) (by omega) 0 (by omega) none
  simp only [Nat.zero_add, List.nil_append, Array.empty_append, List.length_nil] at hgr ⊢
  exact ⟨_, _, hr, hgr.1, hgr.2.1, hgr.2.2⟩
 ·have hr := run_append_grow (P := P) w t ty e i z ht hi hz b xs.length xs.length xs (by simp [hs1]) hb a 1 c [u] (by simp [hs1]) hnews (by omega) (by omega) (growslice_fits (by omega) hbytes)
  have hgr := xCr w e i z hzs xs.length xs [u] (by simp [hs1]) (by simp [hs1]) h63 xs.length (by omega) none
  exact ⟨_, _, hr, hgr.1, hgr.2.1, hgr.2.2⟩
theorem xHr {E : Env} {hp : List Blk} (h : RHp E hp) {w : World} {cap n t : Nat} {k : IntKind} {xs : List Int} (hn : n = xs.length)
    (hg : E.w.grownBy w none) (hz : ∀ a, w.frozen? a = E.w.frozen? a) (how : w.ownsRow 0 t 1 (.slice (some ⟨E.w.heap.size, 0, none⟩) n cap) n (xs.map (Value.int k))) :
    ∃ E', E'.w = w /\ E.Le E' /\ RHp E' (pb hp (.oi k t xs)) /\ E'.has E.n /\ E'.val E.n = .slice (some ⟨E.w.heap.size, 0, none⟩) n cap /\ E.n = ln hp := by
  obtain ⟨h1, h2⟩ := h.push (w := w) (g0 := E.w.heap.size) (v := .slice (some ⟨E.w.heap.size, 0, none⟩) n cap) (newb := .oi k t xs) hg hz
    (by subst hn; refine ⟨?_, ?_⟩
        . simpa [Env.push] using how
        . intro g hg'; simp [Env.push, Value.ownBlock] at hg' ⊢; omega)
    (fun g hg' => by simp [Blk.at, Env.push, Value.ownBlock] at hg'; omega)
  exact ⟨_, rfl, h2, h1, Env.push_has, by simp [Env.push], by rw [xBn]; exact h.b.n⟩
theorem xLi {E : Env} {hp : List Blk} (hr : RHp E hp) {kk : Option IntKind} {xs : List Int} {l2 m : Nat} {k : SV -> List Blk -> Prop} {t ty e : TypeId} {i : TypeInfo} {z : Value}
  (ht : P.underlying t = some (.slice e)) (hi : P.info? e = some i) (hz : i.zero = some z) (hzs : z.cells.size = i.size) (hc : appC kk xs (gb hp l2) m e i.size i.bytes k hp) {v u2 : Value}
  (hv : (v = .slice none 0 0 /\ xs = []) \/ ∃ k0 b, kk = some k0 /\ v = .slice (some b) xs.length xs.length /\ ∀ j x, xs[j]? = some x -> E.w.cell? (b.add j) = some (.int k0 x))
  (k2 : Rv E (.bsl l2 m) u2) :
  ∃ v' E' hp', (Builtin.append_ #[t, t] ty #[v, u2]).run P E.w = .ok v' E'.w /\ E.Le E' /\ RHp E' hp' /\ Rv E' (.own (ln hp)) v' /\ k (.own (ln hp)) hp' := by
 obtain ⟨hlt2, rfl⟩ := k2.bslE
 unfold appC at hc
 split at hc
 ·rename_i t2 k' y hg
  obtain ⟨⟨hk, hsz, hby, hml⟩, hc⟩ := hc
  obtain ⟨vs, h3, h4⟩ := hr.b.blk l2 _ (xAa hg (by simp))
  cases h3 with
  | cons _ v1 _ vs' h5 h6 =>
   cases h6
   have h5 := h5.intE
   subst h5
   have hu : E.w.cell? ((⟨E.blk l2, 0, none⟩ : Addr).add 0) = some (.int k' y) := xAf h4 0 (.int k' y) rfl
   have hv' : (v = .slice none 0 0 /\ xs.map (Value.int k') = []) \/ ∃ b : Addr, v = .slice (some b) (xs.map (Value.int k')).length (xs.map (Value.int k')).length /\ ∀ j u, (xs.map (Value.int k'))[j]? = some u -> E.w.cell? (b.add j) = some u := by
    rcases hv with ⟨h1, h2⟩ | ⟨k0, b, h1, h2, h7⟩
    ·exact .inl ⟨h1, by simp [h2]⟩
    ·refine .inr ⟨b, by simpa using h2, fun j u hju => ?_⟩
     rw [List.getElem?_map] at hju
     cases hxj : xs[j]? with
     | none => simp [hxj] at hju
     | some x =>
      simp [hxj] at hju
      subst hju
      rcases hk with hk | hk
      ·rw [h1] at hk; cases hk; exact h7 j x hxj
      ·simp [hk] at hxj
   obtain ⟨cap, w', hrun, hown, hgr, hfz⟩ := xEe (P := P) E.w t ty e i z ht hi hz hzs hsz v (xs.map (Value.int k')) hv' ⟨E.blk l2, 0, none⟩ 1 (.int k' y) hu (by simpa using hml) (by simpa using hby)
   have hxs : xs.map (Value.int k') ++ [Value.int k' y] = (xs ++ [y]).map (Value.int k') := by simp
   rw [hxs, hsz] at hown
   obtain ⟨E', h7, h8, h9, h10, h11, h12⟩ := xHr hr (k := k') (t := e) (xs := xs ++ [y]) (n := (xs.map (Value.int k')).length + 1) (by simp) hgr hfz hown
   refine ⟨_, E', _, by rw [h7]; exact hrun, h8, h9, ?_, hc⟩
   rw [<- h12]; exact .own _ _ (by assumption) rfl (fun _ => h11.symm)
 ·exact hc.elim
theorem xIw {E : Env} {hp : List Blk} (hr : RHp E hp) {kk : IntKind} {xs : List Int} {t ty e : TypeId} {i : TypeInfo} {z v1 v2 : Value}
  (ht : P.underlying t = some (.slice e)) (hi : P.info? e = some i) (hz : i.zero = some z) (hzs : z.cells.size = i.size) (g0 : 0 < xs.length) (gsz : i.size = 1) (gby : xs.length * i.bytes <= 140737488355328) (gml : xs.length <= 9223372036854775807)
  (h1 : v1 = .slice none 0 0 \/ ∃ b, v1 = .slice (some b) 0 0) (k2 : Rv E (.ints kk xs) v2) :
  ∃ v' E', (Builtin.append_ #[t, t] ty #[v1, v2]).run P E.w = .ok v' E'.w /\ E.Le E' /\ RHp E' (pb hp (.oi kk e xs)) /\ Rv E' (.own (ln hp)) v' := by
 rcases k2.intsE with ⟨h2, _⟩ | ⟨b, off, cap, _, hcell, _, h2⟩
 ·rw [h2] at g0; simp at g0
 ·obtain ⟨cap', w', hrun, hown, hgr, hfz⟩ := xFj (P := P) E.w t ty e i z ht hi hz hzs gsz v1 h1 ⟨b, off, none⟩ xs.length cap (xs.map (Value.int kk)) (by simp) (fun j u hj => by
   rw [List.getElem?_map] at hj
   cases hxj : xs[j]? with
   | none => simp [hxj] at hj
   | some y =>
    simp [hxj] at hj
    subst hj
    have hadd : (⟨b, off, none⟩ : Addr).add j = ⟨b, off + j, none⟩ := by unfold Addr.add; split <;> simp_all
    rw [hadd]; exact hcell j y hxj) g0 gml gby
  rw [gsz] at hown
  obtain ⟨E', h7, h8, h9, h10, h11, h12⟩ := xHr hr (k := kk) (t := e) (xs := xs) (n := xs.length) rfl hgr hfz hown
  refine ⟨.slice (some ⟨E.w.heap.size, 0, none⟩) xs.length cap', E', by rw [h7, h2]; exact hrun, h8, h9, ?_⟩
  rw [<- h12]; exact .own _ _ (by assumption) rfl (fun _ => h11.symm)
theorem xHs {E : Env} {hp : List Blk} (hr : RHp E hp) {sz' : Nat} {f' : Nat -> List SV} {kk : IntKind} {xs : List Int} {t ty e : TypeId} {i : TypeInfo} {z v1 v2 : Value}
  (ht : P.underlying t = some (.slice e)) (hi : P.info? e = some i) (hz : i.zero = some z) (hzs : z.cells.size = i.size) (g0 : 0 < xs.length) (gsz : i.size = 1) (gby : xs.length * i.bytes <= 140737488355328) (gml : xs.length <= 9223372036854775807)
  (k1 : Rv E (.clipr sz' 0 f') v1) (k2 : Rv E (.ints kk xs) v2) :
  ∃ v' E', (Builtin.append_ #[t, t] ty #[v1, v2]).run P E.w = .ok v' E'.w /\ E.Le E' /\ RHp E' (pb hp (.oi kk e xs)) /\ Rv E' (.own (ln hp)) v' := by
 refine xIw hr ht hi hz hzs g0 gsz gby gml ?_ k2
 have k1 := k1.cliprE
 cases k1 with
 | cliprNil => exact .inl rfl
 | cliprE => exact .inr ⟨_, rfl⟩
 | clipr => exact .inr ⟨_, rfl⟩
theorem Cvs.cut {w : World} {im : Nat -> Prop} (sz : Nat) {cs : List SV} {vs : List Value} (h : Cvs w im cs vs) : ∀ (n i : Nat), n * sz <= vs.length -> i < n -> Cvs w im (rowOf sz cs i) ((vs.drop (i * sz)).take sz) /\ ((vs.drop (i * sz)).take sz).length = sz := by
 intro n i hn hi
 have h1 : ∀ (k : Nat) {xs : List SV} {vs : List Value}, Cvs w im xs vs -> Cvs w im (dr k xs) (vs.drop k) := by
  intro k
  induction k with
  | zero => intro xs vs h; simpa [dr] using h
  | succ k ih => intro xs vs h; cases h with
   | nil => simpa [dr] using .nil
   | cons _ _ _ _ _ h => simpa [dr] using ih h
 have h2 : ∀ (k : Nat) {xs : List SV} {vs : List Value}, Cvs w im xs vs -> k <= vs.length -> ∃ ys, tk k xs = some ys /\ Cvs w im ys (vs.take k) := by
  intro k
  induction k with
  | zero => intro xs vs h _; exact ⟨[], rfl, by simpa using .nil⟩
  | succ k ih => intro xs vs h hk; cases h with
   | nil => simp at hk
   | cons x v xs vs h0 h =>
    obtain ⟨ys, g1, g2⟩ := ih h (by simpa using hk)
    exact ⟨x :: ys, by simp [tk, g1], by simpa using .cons _ _ _ _ h0 g2⟩
 have h3 : i * sz + sz <= vs.length := by have := Nat.mul_le_mul_right sz hi; rw [Nat.succ_mul] at this; omega
 obtain ⟨ys, g1, g2⟩ := h2 sz (h1 (i * sz) h) (by rw [List.length_drop]; omega)
 refine ⟨by simp only [rowOf, g1]; exact g2, by rw [List.length_take, List.length_drop]; omega⟩
theorem chunks (sz : Nat) (vs : List Value) : ∀ n, vs.length = n * sz -> (List.range n).flatMap (fun i => (vs.drop (i * sz)).take sz) = vs := by
 have go : ∀ n, n * sz <= vs.length -> (List.range n).flatMap (fun i => (vs.drop (i * sz)).take sz) = vs.take (n * sz) := by
  intro n
  induction n with
  | zero => intro _; simp
  | succ n ih =>
   intro h
   have h' : n * sz <= vs.length := by rw [Nat.succ_mul] at h; omega
   rw [List.range_succ, List.flatMap_append, ih h', Nat.succ_mul, List.take_add]
   simp
 intro n h
 rw [go n (by omega), <- h, List.take_length]
theorem xCb (w : World) (t ty e : TypeId) (i : TypeInfo) (z : Value) (ht : P.underlying t = some (.slice e)) (hi : P.info? e = some i) (hz : i.zero = some z)
  (hzs : z.cells.size = i.size) (hs : 0 < i.size) (v : Value) (n : Nat) (xs : List Value) (hx : xs.length = n * i.size)
  (hv : (v = .slice none 0 0 /\ n = 0) \/ ∃ b : Addr, v = .slice (some b) n n /\ ∀ j u, xs[j]? = some u -> w.cell? (b.add j) = some u)
  (a : Addr) (c : Nat) (us : List Value) (hl : us.length = i.size) (hu : ∀ j u, us[j]? = some u -> w.cell? (a.add j) = some u)
  (h63 : n + 1 <= 9223372036854775807) (hbytes : (n + 1) * i.bytes <= 140737488355328) :
  ∃ cap w', (Builtin.append_ #[t, t] ty #[v, .slice (some a) 1 c]).run P w = .ok (.slice (some ⟨w.heap.size, 0, none⟩) (n + 1) cap) w' /\
   w'.ownsRow 0 e i.size (.slice (some ⟨w.heap.size, 0, none⟩) (n + 1) cap) (n + 1) (xs ++ us) /\ w.grownBy w' none /\ (∀ b, w'.frozen? b = w.frozen? b) := by
 rcases hv with ⟨rfl, rfl⟩ | ⟨b, rfl, hb⟩
 ·have hx0 : xs = [] := List.eq_nil_of_length_eq_zero (by simpa using hx)
  subst hx0
  have hr := run_append_nil (P := P) w t ty e i z ht hi hz a 1 c us (by omega) hu (by omega) (by omega) (by omega)
  have hgr := xCr w e i z hzs 0 [] us (by simp) hl (by omega) 0 (by omega) none
  simp only [Nat.zero_add, List.nil_append, Array.empty_append] at hgr ⊢
  exact ⟨_, _, hr, hgr.1, hgr.2.1, hgr.2.2⟩
 ·have hr := run_append_grow (P := P) w t ty e i z ht hi hz b n n xs (by omega) hb a 1 c us (by omega) hu (by omega) (by omega) (growslice_fits (by omega) hbytes)
  have hgr := xCr w e i z hzs n xs us hx hl h63 n (by omega) none
  exact ⟨_, _, hr, hgr.1, hgr.2.1, hgr.2.2⟩
theorem xHt {E : Env} {hp : List Blk} (hr : RHp E hp) {len : Nat} {cs1 : List SV} {l2 m : Nat} {k : SV -> List Blk -> Prop} {t ty e : TypeId} {i : TypeInfo} {z : Value}
    (ht : P.underlying t = some (.slice e)) (hi : P.info? e = some i) (hz : i.zero = some z) (hzs : z.cells.size = i.size) (hc : appD len cs1 (gb hp l2) m e i.size i.bytes k hp) {v u2 : Value}
    (hv : (v = .slice none 0 0 /\ len = 0 /\ cs1 = []) \/ ∃ b vs1, v = .slice (some ⟨b, 0, none⟩) len len /\ Rvs E cs1 vs1 /\ ∀ j u, vs1[j]? = some u -> E.w.cell? ⟨b, j, none⟩ = some u)
    (k2 : Rv E (.bsl l2 m) u2) :
    ∃ v' E' hp', (Builtin.append_ #[t, t] ty #[v, u2]).run P E.w = .ok v' E'.w /\ E.Le E' /\ RHp E' hp' /\ Rv E' (.own (ln hp)) v' /\ k (.own (ln hp)) hp' := by
  obtain ⟨hlt2, rfl⟩ := k2.bslE
  unfold appD at hc
  split at hc
  . rename_i t2 cs2 hg
    obtain ⟨⟨c1, c2, c3, c4, c5, c6, c7⟩, hc⟩ := hc
    rw [xDf] at c1 c2
    obtain ⟨vs2, h3, h4⟩ := hr.b.blk l2 _ (xAa hg (by simp))
    have hadd : ∀ b j, (⟨b, 0, none⟩ : Addr).add j = ⟨b, j, none⟩ := fun b j => by unfold Addr.add; split <;> simp_all
    obtain ⟨vs1, hrv, hv'⟩ : ∃ vs1, Rvs E cs1 vs1 /\ ((v = .slice none 0 0 /\ len = 0) \/ ∃ b : Addr, v = .slice (some b) len len /\ ∀ j u, vs1[j]? = some u -> E.w.cell? (b.add j) = some u) := by
      rcases hv with ⟨h1, h2, h5⟩ | ⟨b, vs1, h1, h2, h5⟩
      . exact ⟨[], by rw [h5]; exact .nil, .inl ⟨h1, h2⟩⟩
      . exact ⟨vs1, h2, .inr ⟨⟨b, 0, none⟩, h1, fun j u hu => by rw [hadd]; exact h5 j u hu⟩⟩
    have hl1 : vs1.length = len * i.size := by rw [<- hrv.length]; exact c1
    have hl2 : vs2.length = i.size := by rw [<- h3.length]; exact c2
    obtain ⟨cap, w', hrun, hown, hgr, hfz⟩ := xCb (P := P) (ty := ty) E.w t e i z ht hi hz hzs c5 v len vs1 hl1 hv' ⟨E.blk l2, 0, none⟩ 1 vs2 hl2 (fun j u hu => by rw [hadd]; exact xAf h4 j u hu) c7 c6
    have q1 := xAj 8 c3 hrv
    have q2 := xAj 8 c4 h3
    have hfl : vs1 ++ vs2 = (List.range (len + 1)).flatMap (fun j => if j < len then (vs1.drop (j * i.size)).take i.size else vs2) := by
      rw [List.range_succ, List.flatMap_append]
      congr 1
      . conv => lhs; rw [<- chunks i.size vs1 len hl1]
        rw [List.flatMap_def, List.flatMap_def]
        congr 1
        apply List.map_congr_left
        intro j hj
        simp [List.mem_range.1 hj]
      . simp
    rw [hfl] at hown
    have hst : E.Le (E.push w' E.w.heap.size (.slice (some ⟨E.w.heap.size, 0, none⟩) (len + 1) cap)) := Env.push_le fun b hb => hgr.block b (hr.imlt hb) (by simp)
    obtain ⟨p1, p2⟩ := hr.push (g0 := E.w.heap.size) (v := .slice (some ⟨E.w.heap.size, 0, none⟩) (len + 1) cap) (newb := .orw e i.size (len + 1) (fun j => if j < len then rowOf i.size cs1 j else cs2)) hgr hfz
      (by refine ⟨⟨fun j => if j < len then (vs1.drop (j * i.size)).take i.size else vs2, fun j hj => ?_, fun j hj => ?_, ?_⟩, ?_⟩
          . by_cases hj' : j < len
            . simpa [hj'] using (q1.cut i.size len j (by omega) hj').1.mono hst.stays
            . simpa [hj'] using q2.mono hst.stays
          . by_cases hj' : j < len
            . have := (q1.cut i.size len j (by omega) hj').2; simpa [hj'] using this
            . simpa [hj'] using hl2
          . simpa [Env.push] using hown
          . intro g hg'; simp [Env.push, Value.ownBlock] at hg' ⊢; omega)
      (fun g hg' => by simp [Blk.at, Env.push, Value.ownBlock] at hg'; omega)
    have hn : ln hp = E.n := by rw [xBn]; exact hr.b.n.symm
    refine ⟨_, _, _, hrun, p2, p1, ?_, hc⟩
    rw [hn]; exact .own E.n _ Env.push_has rfl (fun _ => by simp [Env.push])
  . exact hc.elim
theorem xDn (vs : Nat -> List Value) (sz : Nat) (hs : 0 < sz) (len j : Nat) (u : Value) (h : ∀ i, i < len -> (vs i).length = sz) (hj : ((List.range len).flatMap vs)[j]? = some u) :
  j / sz < len /\ (vs (j / sz))[j % sz]? = some u := by
 have hl := xAr vs sz len h
 have h1 : j < len * sz := by rw [<- hl]; exact (List.getElem?_eq_some_iff.1 hj).1
 have h2 : j / sz < len := Nat.div_lt_of_lt_mul (by rw [Nat.mul_comm]; exact h1)
 have h3 : j % sz < (vs (j / sz)).length := by rw [h _ h2]; exact Nat.mod_lt _ hs
 have h4 := xCf vs sz len (j / sz) (j % sz) _ h h2 (List.getElem?_eq_getElem h3)
 have h5 : j / sz * sz + j % sz = j := by rw [Nat.mul_comm]; exact Nat.div_add_mod j sz
 rw [h5, hj] at h4
 exact ⟨h2, by rw [List.getElem?_eq_getElem h3, h4]⟩
theorem xQf {E : Env} {hp : List Blk} (hr : RHp E hp) {sz' len : Nat} {f : Nat -> List SV} {l2 m : Nat} {k : SV -> List Blk -> Prop} {t ty e : TypeId} {i : TypeInfo} {z : Value}
    (ht : P.underlying t = some (.slice e)) (hi : P.info? e = some i) (hz : i.zero = some z) (hzs : z.cells.size = i.size) (hc : appE sz' len f (gb hp l2) m e i.size i.bytes k hp) {v u2 : Value}
    (k1 : Rv E (.clipr sz' len f) v) (k2 : Rv E (.bsl l2 m) u2) :
    ∃ v' E' hp', (Builtin.append_ #[t, t] ty #[v, u2]).run P E.w = .ok v' E'.w /\ E.Le E' /\ RHp E' hp' /\ Rv E' (.own (ln hp)) v' /\ k (.own (ln hp)) hp' := by
  obtain ⟨hlt2, rfl⟩ := k2.bslE
  have k1 := k1.cliprE
  unfold appE at hc
  split at hc
  . rename_i t2 cs2 hg
    obtain ⟨⟨c1, c2, c4, c5, c6, c7⟩, hc⟩ := hc
    rw [xDf] at c2
    obtain ⟨vs2, h3, h4⟩ := hr.b.blk l2 _ (xAa hg (by simp))
    have hadd : ∀ b (o j : Nat), (⟨b, o, none⟩ : Addr).add j = ⟨b, o + j, none⟩ := fun b o j => by unfold Addr.add; split <;> simp_all
    obtain ⟨vs, hrow, hlen, hv'⟩ : ∃ vs : Nat -> List Value, (∀ j, j < len -> Cvs E.w E.im (f j) (vs j)) /\ (∀ j, j < len -> (vs j).length = i.size) /\
        ((v = .slice none 0 0 /\ len = 0) \/ ∃ b : Addr, v = .slice (some b) len len /\ ∀ j u, ((List.range len).flatMap vs)[j]? = some u -> E.w.cell? (b.add j) = some u) := by
      cases k1 with
      | cliprNil => exact ⟨fun _ => [], fun j hj => by omega, fun j hj => by omega, .inl ⟨rfl, rfl⟩⟩
      | cliprE => exact ⟨fun _ => [], fun j hj => by omega, fun j hj => by omega, .inr ⟨_, rfl, fun j u hu => by simp at hu⟩⟩
      | clipr _ _ _ b off vs hb h1 h2 h3 =>
        by_cases h0 : len = 0
        . subst h0; exact ⟨vs, fun j hj => by omega, fun j hj => by omega, .inr ⟨_, rfl, fun j u hu => by simp at hu⟩⟩
        . have hs : sz' = i.size := by rcases c1 with c1 | c1; exact c1; exact absurd c1 h0
          subst hs
          refine ⟨vs, h1, h2, .inr ⟨_, rfl, fun j u hu => ?_⟩⟩
          obtain ⟨g1, g2⟩ := xDn vs i.size c5 len j u h2 hu
          have := h3 _ _ u g1 g2
          have h5 : j / i.size * i.size + j % i.size = j := by rw [Nat.mul_comm]; exact Nat.div_add_mod j i.size
          rw [h5] at this
          rw [hadd]; exact this
    have hl1 := xAr vs i.size len hlen
    have hl2 : vs2.length = i.size := by rw [<- h3.length]; exact c2
    obtain ⟨cap, w', hrun, hown, hgr, hfz⟩ := xCb (P := P) (ty := ty) E.w t e i z ht hi hz hzs c5 v len _ hl1 hv' ⟨E.blk l2, 0, none⟩ 1 vs2 hl2 (fun j u hu => by rw [hadd, Nat.zero_add]; exact xAf h4 j u hu) c7 c6
    have q2 := xAj 8 c4 h3
    have hfl : (List.range len).flatMap vs ++ vs2 = (List.range (len + 1)).flatMap (fun j => if j < len then vs j else vs2) := by
      rw [List.range_succ, List.flatMap_append]
      congr 1
      . rw [List.flatMap_def, List.flatMap_def]
        congr 1
        apply List.map_congr_left
        intro j hj
        simp [List.mem_range.1 hj]
      . simp
    rw [hfl] at hown
    have hst : E.Le (E.push w' E.w.heap.size (.slice (some ⟨E.w.heap.size, 0, none⟩) (len + 1) cap)) := Env.push_le fun b hb => hgr.block b (hr.imlt hb) (by simp)
    obtain ⟨p1, p2⟩ := hr.push (g0 := E.w.heap.size) (v := .slice (some ⟨E.w.heap.size, 0, none⟩) (len + 1) cap) (newb := .orw e i.size (len + 1) (fun j => if j < len then f j else cs2)) hgr hfz
      (by refine ⟨⟨fun j => if j < len then vs j else vs2, fun j hj => ?_, fun j hj => ?_, ?_⟩, ?_⟩
          . by_cases hj' : j < len
            . simpa [hj'] using (hrow j hj').mono hst.stays
            . simpa [hj'] using q2.mono hst.stays
          . by_cases hj' : j < len
            . simpa [hj'] using hlen j hj'
            . simpa [hj'] using hl2
          . simpa [Env.push] using hown
          . intro g hg'; simp [Env.push, Value.ownBlock] at hg' ⊢; omega)
      (fun g hg' => by simp [Blk.at, Env.push, Value.ownBlock] at hg'; omega)
    have hn : ln hp = E.n := by rw [xBn]; exact hr.b.n.symm
    refine ⟨_, _, _, hrun, p2, p1, ?_, hc⟩
    rw [hn]; exact .own E.n _ Env.push_has rfl (fun _ => by simp [Env.push])
  . exact hc.elim
theorem xAg {d : Int} : od d none = d := rfl
theorem xAi {d n : Int} : od d (some n) = n := rfl
theorem xOo {E : Env} {hp hp' : List Blk} {x x' : SV} {v : Value} (h : RHp E hp) (hx : Rv E x v) (e : slO hp x = some (x', hp')) : ∃ E', Closed E E' /\ RHp E' hp' /\ Rv E' x' v := by
 unfold slO at e
 split at e
 ·rename_i l
  obtain ⟨hl, _, hv⟩ := hx.ownE
  have get : ∀ {b : Blk}, gb hp l = b -> b ≠ .dead -> hp[l]? = some b /\ Rblk E l b /\ v = E.val l := fun h1 h2 => ⟨xAa h1 h2, h.b.blk l _ (xAa h1 h2), hv (h.b.live l _ (xAa h1 h2) h2)⟩
  split at e
  ·rename_i k t xs hg
   cases e
   obtain ⟨h1, ⟨h2, h3⟩, rfl⟩ := get hg (by simp)
   have key : ∀ E', Closed E E' -> (∀ g, (E.val l).ownBlock = some g -> E'.im g) -> Cv E'.w E'.im (.ints k xs) (E.val l) := fun E' hc hi => own_ints (E := E') (by rw [hc.w]; exact h2) hi
   obtain ⟨E', hc, hi, hr⟩ := xAo h (newb := .fz (.ints k xs)) h1 (by simp) (fun E' hc hi => by show Rv E' _ (E'.val l); rw [hc.val]; exact (key E' hc hi).rv) (fun E' => rfl)
   exact ⟨E', hc, hr, (key E' hc hi).rv⟩
  ·rename_i t sz len f hg
   cases e
   obtain ⟨h1, ⟨⟨vs, h4, h5, h2⟩, h3⟩, rfl⟩ := get hg (by simp)
   have key : ∀ E', Closed E E' -> (∀ g, (E.val l).ownBlock = some g -> E'.im g) -> Cv E'.w E'.im (.rd sz len f) (E.val l) := fun E' hc hi =>
    own_rd (E := E') (by rw [hc.w]; exact h2) hi (fun i hi => (h4 i hi).mono hc.stays) h5
   obtain ⟨E', hc, hi, hr⟩ := xAo h (newb := .fz (.rd sz len f)) h1 (by simp) (fun E' hc hi => by show Rv E' _ (E'.val l); rw [hc.val]; exact (key E' hc hi).rv) (fun E' => rfl)
   exact ⟨E', hc, hr, (key E' hc hi).rv⟩
  ·rename_i k xs hg
   cases e
   obtain ⟨h1, h2, rfl⟩ := get hg (by simp)
   exact ⟨E, .refl E, h, h2⟩
  ·rename_i sz len f hg
   cases e
   obtain ⟨h1, h2, rfl⟩ := get hg (by simp)
   exact ⟨E, .refl E, h, h2⟩
  ·cases e
 ·cases e; exact ⟨E, .refl E, h, hx⟩
 ·cases e; exact ⟨E, .refl E, h, hx.clipE.unclip.rv⟩
 ·cases e; exact ⟨E, .refl E, h, hx⟩
 ·cases e; exact ⟨E, .refl E, h, hx.cliprE.unclipr.rv⟩
 ·cases e; exact ⟨E, .refl E, h, hx⟩
 ·cases e
theorem xEp {E : Env} {hp : List Blk} {x : SV} {v : Value} (h : RHp E hp) (hx : Rv E x v) : ∃ E', Closed E E' /\ RHp E' (shut1 hp x) := by
 unfold shut1
 split
 ·rename_i l
  unfold shutB
  split
  ·rename_i k t xs hg
   obtain ⟨E', h1, h2, _⟩ := xOo (x' := .ints k xs) (hp' := sb hp l (.fz (.ints k xs))) h hx (by simp [slO, hg])
   exact ⟨E', h1, h2⟩
  ·rename_i t sz len f hg
   obtain ⟨E', h1, h2, _⟩ := xOo (x' := .rd sz len f) (hp' := sb hp l (.fz (.rd sz len f))) h hx (by simp [slO, hg])
   exact ⟨E', h1, h2⟩
  ·exact ⟨E, .refl E, h⟩
 ·exact ⟨E, .refl E, h⟩
theorem xEq {fr : List SV} {vs : List Value} : ∀ (ds : List Nat) {E : Env} {hp : List Blk}, RHp E hp -> Rvs E fr vs -> ∃ E', Closed E E' /\ RHp E' (shutH fr ds hp)
 | [], E, hp, h, _ => ⟨E, .refl E, h⟩
 | d :: t, E, hp, h, hf => by
  obtain ⟨E1, c1, r1⟩ := xEp h (hf.gt d)
  obtain ⟨E2, c2, r2⟩ := xEq t r1 (hf.mono c1.le)
  exact ⟨E2, c1.trans c2, r2⟩
theorem xQg {E : Env} {hp : List Blk} {x : SV} {v : Value} (h : RHp E hp) (hx : Rv E x v) : ∃ E', Closed E E' /\ RHp E' (shut2 hp x) := by
 unfold shut2
 split
 ·rename_i l off
  split
  ·rename_i t y hg
   obtain ⟨vs, h1, _⟩ := h.b.blk l _ (xAa hg (by simp))
   cases h1 with
   | cons _ v _ _ hy _ => exact xEp h hy
  ·exact ⟨E, .refl E, h⟩
 ·exact ⟨E, .refl E, h⟩
theorem xLj {fr : List SV} {vs : List Value} : ∀ (ds : List Nat) {E : Env} {hp : List Blk}, RHp E hp -> Rvs E fr vs -> ∃ E', Closed E E' /\ RHp E' (shutQ fr ds hp)
 | [], E, hp, h, _ => ⟨E, .refl E, h⟩
 | d :: t, E, hp, h, hf => by
  obtain ⟨E1, c1, r1⟩ := xQg h (hf.gt d)
  obtain ⟨E2, c2, r2⟩ := xLj t r1 (hf.mono c1.le)
  exact ⟨E2, c1.trans c2, r2⟩
theorem xQh {fr : List SV} {vs : List Value} (ds : List Nat) {E : Env} {hp : List Blk} (h : RHp E hp) (hf : Rvs E fr vs) : ∃ E', Closed E E' /\ RHp E' (shutG fr ds hp) := by
 obtain ⟨E1, c1, r1⟩ := xEq ds h hf
 obtain ⟨E2, c2, r2⟩ := xLj ds r1 (hf.mono c1.le)
 exact ⟨E2, c1.trans c2, r2⟩
theorem xOp {α : Type} {xs : List α} {l n : Nat} {j : Nat} {x : α} (h : ((xs.drop l).take n)[j]? = some x) : xs[l + j]? = some x := by
 rw [List.getElem?_take] at h
 split at h
 ·simpa using h
 ·cases h
theorem xOq {α : Type} {xs : List α} {l n : Nat} (h : l + n <= xs.length) : ((xs.drop l).take n).length = n := by simp; omega
theorem xOr {E : Env} {t e : TypeId} {d : TypeInfo} (ht : P.underlying t = some (.slice e)) (hd : P.info? e = some d) {x y : SV} {v : Value} {lo hi mx : Option Int} {lo' hi' mx' : Option Value} {p : Prop}
  (hx : Rv E x v) (he : slv d.size x lo hi mx = some (p, y)) (hp : p) (b1 : bndV lo lo') (b2 : bndV hi hi') (b3 : bndV mx mx') :
  ∃ v', (Instr.sliceAt t v lo' hi' mx').run P E.w = .ok v' E.w /\ Rv E y v' := by
 have adr : ∀ (b off n : Nat), Addr.add ⟨b, off, none⟩ n = ⟨b, off + n, none⟩ := fun b off n => by unfold Addr.add; split <;> simp_all
 unfold slv at he
 split at he
 ·rename_i k xs
  cases he
  obtain ⟨h1, h2, h3, h4⟩ := hp
  rcases hx.intsE with ⟨rfl, a0, c0, rfl, hn0⟩ | ⟨b, off, cap, g1, g2, g3, rfl⟩
  ·simp only [List.length_nil] at h3 h4
   have hr := xDe (P := P) ht hd E.w a0 0 c0 lo hi none lo' hi' mx' b1 b2 b3 h2 h3 (by simp only [xAg, xAi]; omega) (by simp [xAg, xAi]) (.inl rfl)
   refine ⟨_, hr, ?_⟩
   have e1 : (od (↑(0 : Nat)) hi).toNat = 0 := by omega
   have e2 : (od 0 lo).toNat = 0 := by omega
   simp only [List.drop_nil, List.take_nil, e1, e2, xAg, xAi]
   have e4 : (if (c0 : Int).toNat = 0 then a0 else a0.map (·.add (0 * d.size))) = a0 := by
    split
    ·rfl
    ·cases a0 <;> simp [Addr.add]
   rw [e4]
   cases a0 with
   | none =>
    rw [hn0 rfl]
    simpa using Rv.ints k [] _ (.intsNil k)
   | some a0 => simpa using Rv.ints k [] _ (.intsE k a0 c0)
  ·obtain ⟨l, hl⟩ := Int.eq_ofNat_of_zero_le h2
   obtain ⟨h, hh⟩ := Int.eq_ofNat_of_zero_le (Int.le_trans h2 h3)
   have hr := xDe (P := P) ht hd E.w (some ⟨b, off, none⟩) xs.length cap lo hi none lo' hi' mx' b1 b2 b3 h2 h3 (by simp only [xAg, xAi]; omega) (by simp [xAg, xAi]) (.inl rfl)
   refine ⟨_, hr, ?_⟩
   rw [hl, hh] at h3
   rw [hh] at h4
   simp only [hl, hh, xAg, xAi, Int.toNat_natCast, h1, Nat.mul_one]
   have e1 : (Int.ofNat h - Int.ofNat l).toNat = h - l := by simp only [Int.ofNat_eq_natCast]; omega
   simp only [Int.ofNat_eq_natCast] at *
   have e1 : ((h : Int) - (l : Int)).toNat = h - l := by omega
   simp only [e1]
   have hlen := xOq (xs := xs) (l := l) (n := h - l) (by omega)
   by_cases hc : cap = l
   ·have : h - l = 0 := by omega
    simp only [hc, if_true, this, List.take_zero]
    exact .ints k [] _ (.ints k [] b off _ g1 (fun j x hj => by simp at hj) (by simp))
   ·simp only [hc, if_false, Option.map_some, adr]
    refine .ints k _ _ ?_
    have := Cv.ints (w := E.w) (im := E.im) k ((xs.drop l).take (h - l)) b (off + l) (cap - l) g1 (fun j x hj => by rw [Nat.add_assoc]; exact g2 _ _ (xOp hj)) (by rw [hlen]; omega)
    rwa [hlen] at this
 ·rename_i k xs m
  cases he
  obtain ⟨h1, h2, h3, rfl, h4⟩ := hp
  rcases hx.intsE with ⟨rfl, a0, c0, rfl, hn0⟩ | ⟨b, off, cap, g1, g2, g3, rfl⟩
  ·simp only [List.length_nil] at h4
   have hr := xDe (P := P) ht hd E.w a0 0 c0 lo (some m) (some m) lo' hi' mx' b1 b2 b3 h2 h3 (by simp [xAg, xAi]) (by simp only [xAg, xAi]; omega) (.inr (by simp))
   refine ⟨_, hr, ?_⟩
   have e1 : m.toNat = 0 := by omega
   have e2 : (od 0 lo).toNat = 0 := by omega
   simp only [List.drop_nil, List.take_nil, e1, e2, xAg, xAi]
   cases a0 with
   | none => simpa using Rv.clip k [] _ (.clipNil k)
   | some a0 => simpa using Rv.clip k [] _ (.clipE k a0)
  ·obtain ⟨l, hl⟩ := Int.eq_ofNat_of_zero_le h2
   obtain ⟨h, rfl⟩ := Int.eq_ofNat_of_zero_le (Int.le_trans h2 h3)
   have hr := xDe (P := P) ht hd E.w (some ⟨b, off, none⟩) xs.length cap lo (some ↑h) (some ↑h) lo' hi' mx' b1 b2 b3 h2 h3 (by simp [xAg, xAi]) (by simp only [xAg, xAi]; omega) (.inr (by simp))
   refine ⟨_, hr, ?_⟩
   simp only [hl, xAg, xAi, Int.toNat_natCast, h1, Nat.mul_one]
   rw [hl] at h3
   have e1 : ((h : Int) - (l : Int)).toNat = h - l := by omega
   simp only [e1]
   have hlen := xOq (xs := xs) (l := l) (n := h - l) (by omega)
   by_cases hc : h = l
   ·have : h - l = 0 := by omega
    simp only [hc, if_true, Nat.sub_self, List.take_zero]
    exact .clip k [] _ (.clip k [] b off g1 (fun j x hj => by simp at hj))
   ·simp only [hc, if_false, Option.map_some, adr]
    refine .clip k _ _ ?_
    have := Cv.clip (w := E.w) (im := E.im) k ((xs.drop l).take (h - l)) b (off + l) g1 (fun j x hj => by rw [Nat.add_assoc]; exact g2 _ _ (xOp hj))
    rwa [hlen] at this
 ·rename_i sz' len f
  cases he
  obtain ⟨h1, h2, h3, h4⟩ := hp
  rcases hx.rdE with ⟨rfl, a0, c0, rfl, hn0⟩ | ⟨b, off, cap, vs, g1, g2, g3, g4, g5, rfl⟩
  ·have hr := xDe (P := P) ht hd E.w a0 0 c0 lo hi none lo' hi' mx' b1 b2 b3 h2 h3 (by simp only [xAg, xAi]; omega) (by simp [xAg, xAi]) (.inl rfl)
   refine ⟨_, hr, ?_⟩
   have e1 : (od (↑(0 : Nat)) hi).toNat = 0 := by omega
   have e2 : (od 0 lo).toNat = 0 := by omega
   have e3 : (od (↑(0 : Nat)) hi - od 0 lo).toNat = 0 := by omega
   simp only [e1, e2, e3, xAg, xAi]
   have e4 : (if (c0 : Int).toNat = 0 then a0 else a0.map (·.add (0 * d.size))) = a0 := by
    split
    ·rfl
    ·cases a0 <;> simp [Addr.add]
   rw [e4]
   cases a0 with
   | none =>
    rw [hn0 rfl]
    simpa using Rv.rd sz' 0 _ _ (.rdNil sz' _)
   | some a0 => simpa using Rv.rd sz' 0 _ _ (.rdE sz' _ a0 c0)
  ·obtain ⟨l, hl⟩ := Int.eq_ofNat_of_zero_le h2
   obtain ⟨h, hh⟩ := Int.eq_ofNat_of_zero_le (Int.le_trans h2 h3)
   have hr := xDe (P := P) ht hd E.w (some ⟨b, off, none⟩) len cap lo hi none lo' hi' mx' b1 b2 b3 h2 h3 (by simp only [xAg, xAi]; omega) (by simp [xAg, xAi]) (.inl rfl)
   refine ⟨_, hr, ?_⟩
   rw [hl, hh] at h3
   rw [hh] at h4
   simp only [hl, hh, xAg, xAi, Int.toNat_natCast, h1]
   have e1 : ((h : Int) - (l : Int)).toNat = h - l := by omega
   simp only [e1]
   by_cases hc : cap = l
   ·have : h - l = 0 := by omega
    simp only [hc, if_true, this]
    exact .rd sz' 0 _ _ (.rd sz' 0 _ b off _ vs g1 (fun i hi => by omega) (fun i hi => by omega) (fun i j v hi => by omega) (by omega))
   ·simp only [hc, if_false, Option.map_some, adr]
    refine .rd _ _ _ _ ?_
    exact Cv.rd sz' (h - l) _ b (off + l * sz') (cap - l) (fun i => vs (l + i)) g1 (fun i hi => g2 _ (by omega)) (fun i hi => g3 _ (by omega)) (fun i j v hi hv => by
     have := g4 (l + i) j v (by omega) hv
     rw [Nat.add_mul] at this
     rw [show off + l * sz' + (i * sz' + j) = off + (l * sz' + i * sz' + j) by omega]; exact this) (by omega)
 ·rename_i sz' len f m
  cases he
  obtain ⟨h1, h2, h3, rfl, h4⟩ := hp
  rcases hx.rdE with ⟨rfl, a0, c0, rfl, hn0⟩ | ⟨b, off, cap, vs, g1, g2, g3, g4, g5, rfl⟩
  ·have hr := xDe (P := P) ht hd E.w a0 0 c0 lo (some m) (some m) lo' hi' mx' b1 b2 b3 h2 h3 (by simp [xAg, xAi]) (by simp only [xAg, xAi]; omega) (.inr (by simp))
   refine ⟨_, hr, ?_⟩
   have e1 : m.toNat = 0 := by omega
   have e2 : (od 0 lo).toNat = 0 := by omega
   have e3 : (m - od 0 lo).toNat = 0 := by omega
   simp only [e1, e2, e3, xAg, xAi]
   cases a0 with
   | none => simpa using Rv.clipr sz' 0 _ _ (.cliprNil sz' _)
   | some a0 => simpa using Rv.clipr sz' 0 _ _ (.cliprE sz' _ a0)
  ·obtain ⟨l, hl⟩ := Int.eq_ofNat_of_zero_le h2
   obtain ⟨h, rfl⟩ := Int.eq_ofNat_of_zero_le (Int.le_trans h2 h3)
   have hr := xDe (P := P) ht hd E.w (some ⟨b, off, none⟩) len cap lo (some ↑h) (some ↑h) lo' hi' mx' b1 b2 b3 h2 h3 (by simp [xAg, xAi]) (by simp only [xAg, xAi]; omega) (.inr (by simp))
   refine ⟨_, hr, ?_⟩
   simp only [hl, xAg, xAi, Int.toNat_natCast, h1]
   rw [hl] at h3
   have e1 : ((h : Int) - (l : Int)).toNat = h - l := by omega
   simp only [e1]
   by_cases hc : h = l
   ·simp only [hc, if_true, Nat.sub_self]
    exact .clipr sz' 0 _ _ (.clipr sz' 0 _ b off vs g1 (fun i hi => by omega) (fun i hi => by omega) (fun i j v hi => by omega))
   ·simp only [hc, if_false, Option.map_some, adr]
    refine .clipr _ _ _ _ ?_
    exact Cv.clipr sz' (h - l) _ b (off + l * sz') (fun i => vs (l + i)) g1 (fun i hi => g2 _ (by omega)) (fun i hi => g3 _ (by omega)) (fun i j v hi hv => by
     have := g4 (l + i) j v (by omega) hv
     rw [Nat.add_mul] at this
     rw [show off + l * sz' + (i * sz' + j) = off + (l * sz' + i * sz' + j) by omega]; exact this)
 ·cases he
  obtain ⟨h1, h2, h3, h4⟩ := hp
  have := hx.litE
  subst this
  have hr := xDe (P := P) ht hd E.w none 0 0 lo hi mx lo' hi' mx' b1 b2 b3 (by omega) (by have := h2; simp only [Int.ofNat_zero] at *; omega) (by simp only [Int.ofNat_zero] at *; omega) (by simp only [Int.ofNat_zero] at *; omega) h4
  refine ⟨_, hr, ?_⟩
  simp only [Int.ofNat_zero] at *
  simp only [h1, h2, h3]
  exact Rv.lit _
 ·cases he
theorem xCi {E : Env} {fr : List SV} {a : Act} (h : Rvs E fr a.tmps.toList) {o : Option Operand} {x : Option X} (hc : cXo o = some x) {l : Option Int} (e : bnd fr x = some l) : bndV l (o.map a.eval) := by
 cases o with
 | none => simp [cXo] at hc; subst hc; simp [bnd] at e; subst e; trivial
 | some o =>
  obtain ⟨x', hx, rfl⟩ := Option.map_eq_some_iff.1 hc
  simp only [bnd] at e
  split at e
  ·rename_i k n hk
   cases e
   have := X.ok h hx
   rw [hk] at this
   simp only [Option.map_some, this.intE]
   rfl
  ·cases e
theorem xEr {E : Env} {hp : List Blk} (h : RHp E hp) {w : World} {l g cap n : Nat} {b0 newb : Blk} (hl : hp[l]? = some b0) (hat : b0.at E l = (E.val l).ownBlock)
    (hg : E.w.grownBy w (E.val l).ownBlock) (hz : ∀ a, w.frozen? a = E.w.frozen? a) (hgo : E.w.heap.size <= g \/ (E.val l).ownBlock = some g)
    (hnew : ∀ E', E.Le E' -> E'.w = w -> E'.val E.n = .slice (some ⟨g, 0, none⟩) n cap -> E'.blk E.n = g -> Rblk E' E.n newb)
    (hnat : ∀ E' : Env, newb.at E' E.n = (E'.val E.n).ownBlock) :
    ∃ E', E'.w = w /\ E.Le E' /\ RHp E' (pb (sb hp l .dead) newb) /\ E'.has E.n /\ E'.val E.n = .slice (some ⟨g, 0, none⟩) n cap /\ E.n = ln hp := by
  have hv : ∀ E' : Env, E' = { E.push w g (.slice (some ⟨g, 0, none⟩) n cap) with live := fun k => k = E.n \/ (k ≠ l /\ E.live k) } -> E'.val E.n = .slice (some ⟨g, 0, none⟩) n cap /\ E'.blk E.n = g /\ E'.w = w /\ E'.has E.n := by
    intro E' e; subst e; exact ⟨by simp [Env.push], by simp [Env.push], rfl, Nat.lt_succ_self _, fun h => Nat.lt_irrefl _ h.1⟩
  obtain ⟨e1, e2, e3, e4⟩ := hv _ rfl
  have hle : E.Le { E.push w g (.slice (some ⟨g, 0, none⟩) n cap) with live := fun k => k = E.n \/ (k ≠ l /\ E.live k) } :=
    ⟨Nat.le_succ _, fun l hl => ⟨Nat.lt_succ_of_lt hl.1, fun h => hl.2 h.2⟩, fun l hl => by simp [Env.push, Nat.ne_of_lt hl.1], fun l hl => by simp [Env.push, Nat.ne_of_lt hl.1], fun l hl h => (h.resolve_left (Nat.ne_of_lt hl.1)).2, fun _ h => h,
     fun b hb => hg.block b (h.imlt hb) (fun e => h.b.imx l b0 b hl (hat.trans e.symm) hb), rfl, rfl, rfl, rfl, rfl, rfl, fun l hl h => ⟨hl, h⟩⟩
  obtain ⟨h1, h2⟩ := h.move (w := w) (g0 := g) (v := .slice (some ⟨g, 0, none⟩) n cap) (newb := newb) hl (by rw [hat]; exact hg) hz _ rfl
    (hnew _ hle e3 e1 e2) (fun g' hg' => by rw [hnat, e1] at hg'; simp [Value.ownBlock] at hg'; subst hg'; rw [hat]; exact hgo)
  exact ⟨_, e3, h2, h1, e4, e1, by rw [xBn]; exact h.b.n⟩
theorem xDo (w : World) (t ty e : TypeId) (i : TypeInfo) (ht : P.underlying t = some (.slice e)) (hi : P.info? e = some i) (b : Addr) (n c : Nat) (h : n <= c) (a : Option Addr) (c2 : Nat) :
  (Builtin.append_ #[t, t] ty #[.slice (some b) n c, .slice a 0 c2]).run P w = .ok (.slice (some b) n c) w := by
 have hf : ∀ x : Addr, (Builtin.firstCells i.size 0 (.slice (some x) 0 c2)).run P w = .ok #[] w := fun x => run_firstCells_some (P := P) w i.size 0 x 0 c2 [] (by simp) (by simp)
 cases a <;> first
  | simp [Builtin.append_, run_underlying ht, sizeOf, typeInfo, hi, Builtin.lenOf, Builtin.firstCells, storeCells, h]; done
  | simp [Builtin.append_, run_underlying ht, sizeOf, typeInfo, hi, Builtin.lenOf, hf, storeCells, h]
theorem xLk (w : World) (t ty e : TypeId) (i : TypeInfo) (ht : P.underlying t = some (.slice e)) (hi : P.info? e = some i) (a : Option Addr) (c : Nat) :
  (Builtin.append_ #[t, t] ty #[.slice none 0 0, .slice a 0 c]).run P w = .ok (.slice none 0 0) w := by
 have hf : ∀ x : Addr, (Builtin.firstCells i.size 0 (.slice (some x) 0 c)).run P w = .ok #[] w := fun x => run_firstCells_some (P := P) w i.size 0 x 0 c [] (by simp) (by simp)
 cases a <;> first
  | simp [Builtin.append_, run_underlying ht, sizeOf, typeInfo, hi, Builtin.lenOf, Builtin.firstCells, storeCells]; done
  | simp [Builtin.append_, run_underlying ht, sizeOf, typeInfo, hi, Builtin.lenOf, hf, storeCells]
theorem xHu {E : Env} {hp : List Blk} (hr : RHp E hp) {l sz2 len2 : Nat} {g : Nat -> List SV} {k : SV -> List Blk -> Prop} {t ty e : TypeId} {i : TypeInfo} {z : Value}
  (ht : P.underlying t = some (.slice e)) (hi : P.info? e = some i) (hz : i.zero = some z) (hzs : z.cells.size = i.size) (hc : appM (gb hp l) l sz2 len2 g e i.size i.bytes k hp) {v u2 : Value}
  (k1 : Rv E (.own l) v) (k2 : Rv E (.rd sz2 len2 g) u2) :
  ∃ x v' E' hp', (Builtin.append_ #[t, t] ty #[v, u2]).run P E.w = .ok v' E'.w /\ E.Le E' /\ RHp E' hp' /\ Rv E' x v' /\ k x hp' := by
 have k1' := k1
 obtain ⟨hlt, _, hval⟩ := k1.ownE
 unfold appM at hc
 split at hc
 ·rename_i tt sz' len f hg
  obtain ⟨hc0, hc1⟩ := hc
  have hget := xAa hg (by simp)
  obtain ⟨⟨us, hu1, hu2, h1⟩, h2⟩ := hr.b.blk l _ hget
  have hv := hval (hr.b.live l _ hget (by simp))
  subst hv
  by_cases h0 : len2 = 0
  ·subst h0
   obtain ⟨a, c, rfl⟩ : ∃ a c, u2 = .slice a 0 c := by
    rcases k2.rdE with ⟨_, _, _, h3, _⟩ | ⟨b, off, cap, vs, _, _, _, _, _, h3⟩ <;> first | exact ⟨_, _, h3⟩ | (rename_i h4; exact ⟨_, _, h4⟩)
   have hrun : (Builtin.append_ #[t, t] ty #[E.val l, .slice a 0 c]).run P E.w = .ok (E.val l) E.w := by
    rcases h1.2 with ⟨hn, rfl⟩ | ⟨g, cap, cur, hn, _, _, hnc, _⟩
    ·rw [hn]; exact xLk E.w t ty e i ht hi a c
    ·rw [hn]; exact xDo E.w t ty e i ht hi _ _ _ hnc a c
   exact ⟨.own l, _, E, hp, hrun, .refl E, hr, k1', hc0 rfl⟩
  ·obtain ⟨⟨rfl, rfl, rfl, hone, hsp, hby, hml⟩, hk⟩ := hc1 (by omega)
   rcases k2.rdE with ⟨h3, h4⟩ | ⟨b, off, cap2, vs, g1, g2, g3, g4, g5, rfl⟩
   ·omega
   have hl2 := xAr vs i.size len2 g3
   obtain ⟨v', w', hrun, hown, hgr, hfz, g', cap, rfl, hgo⟩ := xCq (P := P) E.w t ty tt i z ht hi hz hzs hsp (E.val l) len _ h1 ⟨b, off, none⟩ cap2 len2 (by omega) _ hl2 (fun j u hu => by
     obtain ⟨q1, q2⟩ := xDn vs i.size hsp len2 j u g3 hu
     have := g4 _ _ u q1 q2
     have h5 : j / i.size * i.size + j % i.size = j := by rw [Nat.mul_comm]; exact Nat.div_add_mod j i.size
     rw [h5] at this
     have hadd : (⟨b, off, none⟩ : Addr).add j = ⟨b, off + j, none⟩ := by unfold Addr.add; split <;> simp_all
     rw [hadd]; exact this) (fun u hu => by
     obtain ⟨j, hj, hu⟩ := List.mem_flatMap.1 hu
     have hj := List.mem_range.1 hj
     exact (g2 j hj).rv.allOne (hone j hj) u hu) hml hby
   have hxs : (List.range len).flatMap us ++ (List.range len2).flatMap vs = (List.range (len + len2)).flatMap (fun i => if i < len then us i else vs (i - len)) := by
    rw [List.range_add, List.flatMap_append]
    congr 1
    ·rw [List.flatMap_def, List.flatMap_def]
     congr 1
     apply List.map_congr_left
     intro j hj
     simp [List.mem_range.1 hj]
    ·rw [List.flatMap_map]
     simp only [List.flatMap_def]
     congr 1
     apply List.map_congr_left
     intro j hj
     have : ¬ len + j < len := by omega
     simp [this]
   rw [hxs] at hown
   obtain ⟨E', h7, h8, h9, h10, h11, h12⟩ := xEr hr (newb := .orw tt i.size (len + len2) (fun i => if i < len then f i else g (i - len))) (n := len + len2) (cap := cap) hget rfl hgr hfz hgo
    (fun E' hle e1 e2 e3 => ⟨⟨fun i => if i < len then us i else vs (i - len), fun j hj => by
      by_cases hj' : j < len
      ·simpa [hj'] using (hu1 j hj').mono hle.stays
      ·simpa [hj'] using (g2 (j - len) (by omega)).mono hle.stays, fun j hj => by
      by_cases hj' : j < len
      ·simpa [hj'] using hu2 j hj'
      ·simpa [hj'] using g3 (j - len) (by omega), by rw [e1, e2]; exact hown⟩, by rw [e2, e3]; intro g' hg'; simp [Value.ownBlock] at hg'; exact hg'.symm⟩) (fun E' => rfl)
   refine ⟨_, _, E', _, by rw [h7]; exact hrun, h8, h9, ?_, hk⟩
   rw [<- h12]; exact .own _ _ (by assumption) rfl (fun _ => h11.symm)
 ·exact hc.elim
theorem xFk {E : Env} {hp : List Blk} (hr : RHp E hp) {l : Nat} {kk' : IntKind} {ys : List Int} {k : SV -> List Blk -> Prop} {t ty e : TypeId} {i : TypeInfo} {z : Value}
  (ht : P.underlying t = some (.slice e)) (hi : P.info? e = some i) (hz : i.zero = some z) (hzs : z.cells.size = i.size) (hc : appMI (gb hp l) l kk' ys e i.size i.bytes k hp) {v u2 : Value}
  (k1 : Rv E (.own l) v) (k2 : Rv E (.ints kk' ys) u2) :
  ∃ x v' E' hp', (Builtin.append_ #[t, t] ty #[v, u2]).run P E.w = .ok v' E'.w /\ E.Le E' /\ RHp E' hp' /\ Rv E' x v' /\ k x hp' := by
 have k1' := k1
 obtain ⟨hlt, _, hval⟩ := k1.ownE
 unfold appMI at hc
 split at hc
 ·rename_i kk tt xs hg
  obtain ⟨hc0, hc1⟩ := hc
  have hget := xAa hg (by simp)
  obtain ⟨h1, h2⟩ := hr.b.blk l _ hget
  have hv := hval (hr.b.live l _ hget (by simp))
  subst hv
  by_cases h0 : ys = []
  ·subst h0
   obtain ⟨a, c, rfl⟩ : ∃ a c, u2 = .slice a 0 c := by
    rcases k2.intsE with ⟨_, _, _, h3, _⟩ | ⟨b, off, cap, _, _, _, h3⟩ <;> exact ⟨_, _, h3⟩
   have hrun : (Builtin.append_ #[t, t] ty #[E.val l, .slice a 0 c]).run P E.w = .ok (E.val l) E.w := by
    rcases h1.2 with ⟨hn, h3⟩ | ⟨g, cap, cur, hn, _, _, hnc, _⟩
    ·rw [hn]; exact xLk E.w t ty e i ht hi a c
    ·rw [hn]; exact xDo E.w t ty e i ht hi _ _ _ hnc a c
   exact ⟨.own l, _, E, hp, hrun, .refl E, hr, k1', hc0 rfl⟩
  ·obtain ⟨⟨rfl, rfl, hsz, hby, hml⟩, hk⟩ := hc1 h0
   have hpos : 0 < ys.length := List.length_pos_iff.2 h0
   rcases k2.intsE with ⟨h3, _⟩ | ⟨b, off, cap2, _, hcell, _, rfl⟩
   ·exact absurd h3 h0
   obtain ⟨v', w', hrun, hown, hgr, hfz, g', cap, rfl, hgo⟩ := xCq (P := P) E.w t ty tt i z ht hi hz hzs (by omega) (E.val l) xs.length _ (by rw [hsz]; exact h1) ⟨b, off, none⟩ cap2 ys.length hpos (ys.map (Value.int kk)) (by simp [hsz]) (fun j u hj => by
     rw [List.getElem?_map] at hj
     cases hxj : ys[j]? with
     | none => simp [hxj] at hj
     | some y =>
      simp [hxj] at hj
      subst hj
      have hadd : (⟨b, off, none⟩ : Addr).add j = ⟨b, off + j, none⟩ := by unfold Addr.add; split <;> simp_all
      rw [hadd]; exact hcell j y hxj) (fun u hu => by
     obtain ⟨y, _, rfl⟩ := List.mem_map.1 hu; rfl) hml hby
   have hxs : (xs.map (Value.int kk)) ++ ys.map (Value.int kk) = (xs ++ ys).map (Value.int kk) := by simp
   rw [hxs, hsz] at hown
   have hlen : xs.length + ys.length = (xs ++ ys).length := by simp
   obtain ⟨E', h7, h8, h9, h10, h11, h12⟩ := xEr hr (newb := .oi kk tt (xs ++ ys)) (n := xs.length + ys.length) (cap := cap) hget rfl hgr hfz hgo
    (fun E' hle e1 e2 e3 => ⟨by rw [e1, e2, <- hlen]; exact hown, by rw [e2, e3]; intro g' hg'; simp [Value.ownBlock] at hg'; exact hg'.symm⟩) (fun E' => rfl)
   refine ⟨_, _, E', _, by rw [h7]; exact hrun, h8, h9, ?_, hk⟩
   rw [<- h12]; exact .own _ _ (by assumption) rfl (fun _ => h11.symm)
 ·exact hc.elim
theorem xIx {E : Env} {hp : List Blk} (hr : RHp E hp) {len2 : Nat} {g : Nat -> List SV} {t ty e : TypeId} {i : TypeInfo} {z : Value}
    (ht : P.underlying t = some (.slice e)) (hi : P.info? e = some i) (hz : i.zero = some z) (hzs : z.cells.size = i.size) (hpos : 0 < len2) (hby : len2 * i.bytes <= 140737488355328) (hml : len2 <= 9223372036854775807) {v1 u2 : Value}
    (h1 : v1 = .slice none 0 0 \/ ∃ b, v1 = .slice (some b) 0 0) (k2 : Rv E (.rd i.size len2 g) u2) :
    ∃ v' E', (Builtin.append_ #[t, t] ty #[v1, u2]).run P E.w = .ok v' E'.w /\ E.Le E' /\ RHp E' (pb hp (.orw e i.size len2 g)) /\ Rv E' (.own (ln hp)) v' := by
  rcases k2.rdE with ⟨h3, h4⟩ | ⟨b, off, cap2, vs, g1, g2, g3, g4, g5, rfl⟩
  . omega
  have hsp : 0 < i.size \/ i.size = 0 := by omega
  have hl2 := xAr vs i.size len2 g3
  have hcell : ∀ j u, ((List.range len2).flatMap vs)[j]? = some u -> E.w.cell? ((⟨b, off, none⟩ : Addr).add j) = some u := fun j u hu => by
    rcases hsp with hsp | hsp
    . obtain ⟨q1, q2⟩ := xDn vs i.size hsp len2 j u g3 hu
      have := g4 _ _ u q1 q2
      have h5 : j / i.size * i.size + j % i.size = j := by rw [Nat.mul_comm]; exact Nat.div_add_mod j i.size
      rw [h5] at this
      have hadd : (⟨b, off, none⟩ : Addr).add j = ⟨b, off + j, none⟩ := by unfold Addr.add; split <;> simp_all
      rw [hadd]; exact this
    . have := (List.getElem?_eq_some_iff.1 hu).1
      rw [hl2, hsp] at this; omega
  obtain ⟨cap', w', hrun, hown, hgr, hfz⟩ := xEd (P := P) E.w t ty e i z ht hi hz hzs v1 h1 ⟨b, off, none⟩ len2 cap2 _ hl2 hcell hpos hml hby
  have hst : E.Le (E.push w' E.w.heap.size (.slice (some ⟨E.w.heap.size, 0, none⟩) len2 cap')) := Env.push_le fun b hb => hgr.block b (hr.imlt hb) (by simp)
  obtain ⟨p1, p2⟩ := hr.push (g0 := E.w.heap.size) (v := .slice (some ⟨E.w.heap.size, 0, none⟩) len2 cap') (newb := .orw e i.size len2 g) hgr hfz
    (by refine ⟨⟨vs, fun j hj => (g2 j hj).mono hst.stays, g3, ?_⟩, ?_⟩
        . simpa [Env.push] using hown
        . intro g hg'; simp [Env.push, Value.ownBlock] at hg' ⊢; omega)
    (fun g hg' => by simp [Blk.at, Env.push, Value.ownBlock] at hg'; omega)
  have hn : ln hp = E.n := by rw [xBn]; exact hr.b.n.symm
  refine ⟨_, _, hrun, p2, p1, ?_⟩
  rw [hn]; exact .own E.n _ Env.push_has rfl (fun _ => by simp [Env.push])
theorem xLl {E : Env} {hp : List Blk} (hr : RHp E hp) {sz' : Nat} {f' : Nat -> List SV} {sz2 len2 : Nat} {g : Nat -> List SV} {k : SV -> List Blk -> Prop} {t ty e : TypeId} {i : TypeInfo} {z : Value}
  (ht : P.underlying t = some (.slice e)) (hi : P.info? e = some i) (hz : i.zero = some z) (hzs : z.cells.size = i.size) (hc : appY sz2 len2 g e i.size i.bytes k hp) {v1 u2 : Value}
  (k1 : Rv E (.clipr sz' 0 f') v1) (k2 : Rv E (.rd sz2 len2 g) u2) :
  ∃ x v' E' hp', (Builtin.append_ #[t, t] ty #[v1, u2]).run P E.w = .ok v' E'.w /\ E.Le E' /\ RHp E' hp' /\ Rv E' x v' /\ k x hp' := by
 obtain ⟨hc0, hc1⟩ := hc
 have h1 : v1 = .slice none 0 0 \/ ∃ b, v1 = .slice (some b) 0 0 := by
  have k1 := k1.cliprE
  cases k1 with
  | cliprNil => exact .inl rfl
  | cliprE => exact .inr ⟨_, rfl⟩
  | clipr => exact .inr ⟨_, rfl⟩
 by_cases h0 : len2 = 0
 ·subst h0
  obtain ⟨a, c, rfl⟩ : ∃ a c, u2 = .slice a 0 c := by
   rcases k2.rdE with ⟨_, _, _, h3, _⟩ | ⟨b, off, cap, vs, _, _, _, _, _, h3⟩ <;> first | exact ⟨_, _, h3⟩ | (rename_i h4; exact ⟨_, _, h4⟩)
  refine ⟨_, v1, E, hp, ?_, .refl E, hr, ?_, hc0 rfl⟩
  ·rcases h1 with rfl | ⟨b, rfl⟩
   ·exact xLk E.w t ty e i ht hi a c
   ·exact xDo E.w t ty e i ht hi _ _ _ (Nat.le_refl _) a c
  ·refine .clipr _ _ _ _ ?_
   have k1 := k1.cliprE
   cases k1 with
   | cliprNil => exact .cliprNil _ _
   | cliprE => exact .cliprE _ _ _
   | clipr _ _ _ b off vs g1 g2 g3 g4 => exact .clipr _ 0 _ b off vs g1 (fun i hi => by omega) (fun i hi => by omega) (fun i j v hi => by omega)
 ·obtain ⟨⟨rfl, hby, hml⟩, hk⟩ := hc1 (by omega)
  obtain ⟨v', E', q1, q2, q3, q4⟩ := xIx (ty := ty) hr ht hi hz hzs (by omega) hby hml h1 k2
  exact ⟨_, v', E', _, q1, q2, q3, q4, hk⟩
theorem xGh (w : World) (e : TypeId) (i : TypeInfo) (z : Value) (hzs : z.cells.size = i.size) (n m : Nat) (xs news : List Value) (hx : xs.length = n * i.size) (hl : news.length = m * i.size)
  (h63 : n + m <= 9223372036854775807) (old : Nat) (ho : old < n + m) (row : Option Nat) :
   (w.drew.alloc (.cells (xs.toArray ++ news.toArray ++ Builtin.zeroCells z.cells (grownCap w (n + m) old e - (n + m))) e)).ownsRow 0 e i.size
    (.slice (some ⟨w.heap.size, 0, none⟩) (n + m) (grownCap w (n + m) old e)) (n + m) (xs ++ news) /\
   w.grownBy (w.drew.alloc (.cells (xs.toArray ++ news.toArray ++ Builtin.zeroCells z.cells (grownCap w (n + m) old e - (n + m))) e)) row /\
   ∀ b, (w.drew.alloc (.cells (xs.toArray ++ news.toArray ++ Builtin.zeroCells z.cells (grownCap w (n + m) old e - (n + m))) e)).frozen? b = w.frozen? b := by
 have hlen : (xs ++ news).length = (n + m) * i.size := by rw [List.length_append, hx, hl, Nat.add_mul]
 have h63' : n + m <= maxLen := by simpa [maxLen] using h63
 have hge := grownCap_ge w (n + m) old e
 have hcm : grownCap w (n + m) old e <= maxLen := grownCap_le_maxLen w (n + m) old e h63'
 refine ⟨⟨hlen, .inr ⟨w.heap.size, _, _, rfl, Nat.zero_le _, heap_alloc_new w.drew _, hge, hcm, ?_, ?_⟩⟩, ⟨rfl, rfl, rfl, by simp, fun k hk _ => heap_alloc_old w.drew _ hk⟩, fun b => ?_⟩
 ·simp only [Array.size_append, List.size_toArray, size_zeroCells, hzs, hx, hl]
  have : grownCap w (n + m) old e = n + m + (grownCap w (n + m) old e - (n + m)) := by omega
  generalize grownCap w (n + m) old e - (n + m) = d at *
  rw [this, Nat.add_mul, Nat.add_mul]
 ·simp only [Array.toList_append, List.append_assoc]
  rw [<- List.append_assoc, <- hlen]
  exact List.take_left
 ·rw [RowKit.frozen?_alloc_cells]; rfl
theorem xDv (w : World) (t ty e : TypeId) (i : TypeInfo) (z : Value) (ht : P.underlying t = some (.slice e)) (hi : P.info? e = some i) (hz : i.zero = some z)
  (hzs : z.cells.size = i.size) (v : Value) (n : Nat) (xs : List Value) (hx : xs.length = n * i.size)
  (hv : (v = .slice none 0 0 /\ n = 0) \/ ∃ b : Addr, v = .slice (some b) n n /\ ∀ j u, xs[j]? = some u -> w.cell? (b.add j) = some u)
  (a : Addr) (m c : Nat) (us : List Value) (hm : 0 < m) (hl : us.length = m * i.size) (hu : ∀ j u, us[j]? = some u -> w.cell? (a.add j) = some u)
  (h63 : n + m <= 9223372036854775807) (hbytes : (n + m) * i.bytes <= 140737488355328) :
  ∃ cap w', (Builtin.append_ #[t, t] ty #[v, .slice (some a) m c]).run P w = .ok (.slice (some ⟨w.heap.size, 0, none⟩) (n + m) cap) w' /\
   w'.ownsRow 0 e i.size (.slice (some ⟨w.heap.size, 0, none⟩) (n + m) cap) (n + m) (xs ++ us) /\ w.grownBy w' none /\ (∀ b, w'.frozen? b = w.frozen? b) := by
 rcases hv with ⟨rfl, rfl⟩ | ⟨b, rfl, hb⟩
 ·have hx0 : xs = [] := List.eq_nil_of_length_eq_zero (by simpa using hx)
  subst hx0
  have hr := run_append_nil (P := P) w t ty e i z ht hi hz a m c us hl hu hm (by omega) (by rw [Nat.zero_add] at hbytes; omega)
  have hgr := xGh w e i z hzs 0 m [] us (by simp) hl (by omega) 0 (by omega) none
  simp only [Nat.zero_add, List.nil_append, Array.empty_append] at hgr ⊢
  exact ⟨_, _, hr, hgr.1, hgr.2.1, hgr.2.2⟩
 ·have hr := run_append_grow (P := P) w t ty e i z ht hi hz b n n xs hx hb a m c us hl hu (by omega) (by omega) (growslice_fits (by omega) hbytes)
  have hgr := xGh w e i z hzs n m xs us hx hl h63 n (by omega) none
  exact ⟨_, _, hr, hgr.1, hgr.2.1, hgr.2.2⟩
theorem xOs {E : Env} {hp : List Blk} (hr : RHp E hp) {sz' len : Nat} {f : Nat -> List SV} {sz2 len2 : Nat} {g : Nat -> List SV} {k : SV -> List Blk -> Prop} {t ty e : TypeId} {i : TypeInfo} {z : Value}
    (ht : P.underlying t = some (.slice e)) (hi : P.info? e = some i) (hz : i.zero = some z) (hzs : z.cells.size = i.size) (hc : appCR sz' len f sz2 len2 g e i.size i.bytes k hp) {v u2 : Value}
    (k1 : Rv E (.clipr sz' len f) v) (k2 : Rv E (.rd sz2 len2 g) u2) :
    ∃ x v' E' hp', (Builtin.append_ #[t, t] ty #[v, u2]).run P E.w = .ok v' E'.w /\ E.Le E' /\ RHp E' hp' /\ Rv E' x v' /\ k x hp' := by
  obtain ⟨hc0, hc1⟩ := hc
  have k1' := k1
  have k1 := k1.cliprE
  by_cases h0 : len2 = 0
  . subst h0
    obtain ⟨a, c, rfl⟩ : ∃ a c, u2 = .slice a 0 c := by
      rcases k2.rdE with ⟨_, _, _, h3, _⟩ | ⟨b, off, cap, vs, _, _, _, _, _, h3⟩ <;> first | exact ⟨_, _, h3⟩ | (rename_i h4; exact ⟨_, _, h4⟩)
    refine ⟨_, v, E, hp, ?_, .refl E, hr, k1', hc0 rfl⟩
    cases k1 with
    | cliprNil => exact xLk E.w t ty e i ht hi a c
    | cliprE => exact xDo E.w t ty e i ht hi _ _ _ (Nat.le_refl _) a c
    | clipr => exact xDo E.w t ty e i ht hi _ _ _ (Nat.le_refl _) a c
  . obtain ⟨⟨rfl, rfl, hsp, hby, hml⟩, hk⟩ := hc1 (by omega)
    have hadd : ∀ b (o j : Nat), (⟨b, o, none⟩ : Addr).add j = ⟨b, o + j, none⟩ := fun b o j => by unfold Addr.add; split <;> simp_all
    have back : ∀ (vs : Nat -> List Value) (len : Nat) (b off : Nat), (∀ j, j < len -> (vs j).length = i.size) -> (∀ p q u, p < len -> (vs p)[q]? = some u -> E.w.cell? ⟨b, off + (p * i.size + q), none⟩ = some u) ->
        ∀ j u, ((List.range len).flatMap vs)[j]? = some u -> E.w.cell? ((⟨b, off, none⟩ : Addr).add j) = some u := fun vs len b off h2 h3 j u hu => by
      obtain ⟨q1, q2⟩ := xDn vs i.size hsp len j u h2 hu
      have := h3 _ _ u q1 q2
      have h5 : j / i.size * i.size + j % i.size = j := by rw [Nat.mul_comm]; exact Nat.div_add_mod j i.size
      rw [h5] at this
      rw [hadd]; exact this
    obtain ⟨vs, hrow, hlen, hv'⟩ : ∃ vs : Nat -> List Value, (∀ j, j < len -> Cvs E.w E.im (f j) (vs j)) /\ (∀ j, j < len -> (vs j).length = i.size) /\
        ((v = .slice none 0 0 /\ len = 0) \/ ∃ b : Addr, v = .slice (some b) len len /\ ∀ j u, ((List.range len).flatMap vs)[j]? = some u -> E.w.cell? (b.add j) = some u) := by
      cases k1 with
      | cliprNil => exact ⟨fun _ => [], fun j hj => by omega, fun j hj => by omega, .inl ⟨rfl, rfl⟩⟩
      | cliprE => exact ⟨fun _ => [], fun j hj => by omega, fun j hj => by omega, .inr ⟨_, rfl, fun j u hu => by simp at hu⟩⟩
      | clipr _ _ _ b off vs hb h1 h2 h3 => exact ⟨vs, h1, h2, .inr ⟨_, rfl, back vs len b off h2 h3⟩⟩
    have hl1 := xAr vs i.size len hlen
    rcases k2.rdE with ⟨h3, h4⟩ | ⟨b, off, cap2, us, g1, g2, g3, g4, g5, rfl⟩
    . omega
    have hl2 := xAr us i.size len2 g3
    obtain ⟨cap, w', hrun, hown, hgr, hfz⟩ := xDv (P := P) (ty := ty) E.w t e i z ht hi hz hzs v len _ hl1 hv' ⟨b, off, none⟩ len2 cap2 _ (by omega) hl2 (back us len2 b off g3 g4) hml hby
    have hfl : (List.range len).flatMap vs ++ (List.range len2).flatMap us = (List.range (len + len2)).flatMap (fun i => if i < len then vs i else us (i - len)) := by
      rw [List.range_add, List.flatMap_append]
      congr 1
      . rw [List.flatMap_def, List.flatMap_def]
        congr 1
        apply List.map_congr_left
        intro j hj
        simp [List.mem_range.1 hj]
      . rw [List.flatMap_map]
        simp only [List.flatMap_def]
        congr 1
        apply List.map_congr_left
        intro j hj
        have : ¬ len + j < len := by omega
        simp [this]
    rw [hfl] at hown
    have hst : E.Le (E.push w' E.w.heap.size (.slice (some ⟨E.w.heap.size, 0, none⟩) (len + len2) cap)) := Env.push_le fun b hb => hgr.block b (hr.imlt hb) (by simp)
    obtain ⟨p1, p2⟩ := hr.push (g0 := E.w.heap.size) (v := .slice (some ⟨E.w.heap.size, 0, none⟩) (len + len2) cap) (newb := .orw e i.size (len + len2) (fun j => if j < len then f j else g (j - len))) hgr hfz
      (by refine ⟨⟨fun j => if j < len then vs j else us (j - len), fun j hj => ?_, fun j hj => ?_, ?_⟩, ?_⟩
          . by_cases hj' : j < len
            . simpa [hj'] using (hrow j hj').mono hst.stays
            . simpa [hj'] using (g2 (j - len) (by omega)).mono hst.stays
          . by_cases hj' : j < len
            . simpa [hj'] using hlen j hj'
            . simpa [hj'] using g3 (j - len) (by omega)
          . simpa [Env.push] using hown
          . intro g hg'; simp [Env.push, Value.ownBlock] at hg' ⊢; omega)
      (fun g hg' => by simp [Blk.at, Env.push, Value.ownBlock] at hg'; omega)
    have hn : ln hp = E.n := by rw [xBn]; exact hr.b.n.symm
    refine ⟨_, _, _, _, hrun, p2, p1, ?_, hk⟩
    rw [hn]; exact .own E.n _ Env.push_has rfl (fun _ => by simp [Env.push])
theorem xLm (vs : Nat -> List Value) (sz i off : Nat) (us : List Value) (ho : off + us.length <= sz) : ∀ len, (∀ j, j < len -> (vs j).length = sz) -> i < len ->
  (List.range len).flatMap (fun j => if j = i then (vs i).take off ++ us ++ (vs i).drop (off + us.length) else vs j) =
   ((List.range len).flatMap vs).take (i * sz + off) ++ us ++ ((List.range len).flatMap vs).drop (i * sz + off + us.length)
 | 0, _, hi => by omega
 | len + 1, h, hi => by
  have hl := xAr vs sz len (fun j hj => h j (by omega))
  rw [List.range_succ, List.flatMap_append, List.flatMap_append]
  by_cases hc : i < len
  ·have h1 : i * sz + sz <= len * sz := by have := Nat.mul_le_mul_right sz hc; rw [Nat.succ_mul] at this; exact this
   rw [xLm vs sz i off us ho len (fun j hj => h j (by omega)) hc]
   have h2 : ¬ len = i := by omega
   rw [List.take_append_of_le_length (by omega), List.drop_append_of_le_length (by omega)]
   simp [h2]
  ·have : i = len := by omega
   subst this
   have h3 : (List.range i).flatMap (fun j => if j = i then (vs i).take off ++ us ++ (vs i).drop (off + us.length) else vs j) = (List.range i).flatMap vs := by
    rw [List.flatMap_def, List.flatMap_def]
    congr 1
    apply List.map_congr_left
    intro j hj
    have := List.mem_range.1 hj
    rw [if_neg (by omega)]
   rw [h3]
   have h4 : ((List.range i).flatMap vs ++ vs i).take (i * sz + off) = (List.range i).flatMap vs ++ (vs i).take off := by rw [<- hl, List.take_length_add_append]
   have h5 : ((List.range i).flatMap vs ++ vs i).drop (i * sz + off + us.length) = (vs i).drop (off + us.length) := by rw [<- hl, Nat.add_assoc, List.drop_length_add_append]
   simp only [List.flatMap_cons, List.flatMap_nil, List.append_nil, if_pos]
   rw [h4, h5]
   simp
theorem xGi {E : Env} {hp : List Blk} (hr : RHp E hp) {l es off sz i : Nat} {cs : List SV} {us : List Value} {k : SV -> List Blk -> Prop} (hk : storeR (gb hp l) l es off sz i cs k hp) (k3 : Rvs E cs us) :
  ∃ w, (∀ P : Program, (storeCells ⟨E.blk l, i * es + off, none⟩ us).run P E.w = .ok () w) /\ us.length = sz /\ ∃ hp', E.Le (E.to w) /\ RHp (E.to w) hp' /\ k .any hp' := by
 unfold storeR at hk
 split at hk <;> first | exact hk.elim | skip
 rename_i tt sz' len f hg
 split at hk <;> first | exact hk.elim | skip
 rename_i new hsp
 obtain ⟨⟨rfl, h1, h2, h3, h4⟩, hk⟩ := hk
 have hget := xAa hg (by simp)
 obtain ⟨⟨vs, g1, g2, g3⟩, g4⟩ := hr.b.blk l _ hget
 obtain ⟨hxl, hrow⟩ := g3
 rcases hrow with ⟨_, h0⟩ | ⟨g, cap, cur, hv, _, hgc, hcap, hmx, hcs2, htk⟩
 ·omega
 have hgb : g = E.blk l := g4 g (by rw [hv]; rfl)
 subst hgb
 obtain ⟨s1, s2⟩ := (g1 i h4).rv.sp off k3 hsp
 have hvi := g2 i h4
 rw [hvi] at s1
 have hlen : us.length = sz := by rw [<- k3.length, <- h1, xDf]
 have hie : i * es + es <= len * es := by have := Nat.mul_le_mul_right es h4; rw [Nat.succ_mul] at this; exact this
 have hce : len * es <= cap * es := Nat.mul_le_mul_right es hcap
 have hst := fun P => run_storeCells_at P (E.blk l) (i * es + off) tt us 0 cur E.w hgc (by omega) (k3.allOne h2)
 simp only [Nat.add_zero] at hst
 generalize hN : cur.toList.take (i * es + off) ++ us ++ cur.toList.drop (i * es + off + us.length) = N at hst
 have hheap := setRow_heap E.w (E.blk l) cur N.toArray tt (0, 0) hgc
 have hgr : E.w.grownBy (E.w.setRow (E.blk l) N.toArray) (some (E.blk l)) :=
  ⟨rfl, rfl, rfl, by simp [World.setRow], fun k' _ hk' => setRow_other E.w _ k' _ (fun e => hk' (by rw [e]))⟩
 have hfz : ∀ b, (E.w.setRow (E.blk l) N.toArray).frozen? b = E.w.frozen? b := by
  intro b
  by_cases hb : b.block = E.blk l
  ·simp only [World.frozen?, hb, hheap, hgc]
  ·exact World.frozen?_of_block (setRow_other E.w _ _ _ hb)
 have hat : ∀ f, (Blk.orw tt es len f).at E l = some (E.blk l) := fun f => by simp [Blk.at, hv, Value.ownBlock]
 have hcl : cur.toList.length = cap * es := by simpa using hcs2
 have hNl : N.length = cap * es := by rw [<- hN]; simp; omega
 have hF := xAr vs es len g2
 have hNt : N.take (len * es) = (List.range len).flatMap (fun j => if j = i then (vs i).take off ++ us ++ (vs i).drop (off + us.length) else vs j) := by
  rw [xLm vs es i off us (by omega) len g2 h4, <- hN, <- htk]
  have e1 : (cur.toList.take (len * es)).take (i * es + off) = cur.toList.take (i * es + off) := by rw [List.take_take, Nat.min_eq_left (by omega)]
  have e2 : (cur.toList.take (len * es)).drop (i * es + off + us.length) = (cur.toList.drop (i * es + off + us.length)).take (len * es - (i * es + off + us.length)) := by rw [List.drop_take]
  rw [e1, e2]
  have e3 : (cur.toList.take (i * es + off) ++ us).length = i * es + off + us.length := by simp; omega
  rw [List.take_append, e3, List.take_of_length_le (by rw [e3]; omega)]
 have hle : E.Le (E.to (E.w.setRow (E.blk l) N.toArray)) := Env.to_le fun b hb => hgr.block b (hr.imlt hb) (fun e => hr.b.imx l _ _ hget (hat f) (by cases e; exact hb))
 obtain ⟨h5, h6⟩ := hr.set (newb := .orw tt es len (fun j => if j = i then new else f j)) hget (hat f) hgr hfz
  ⟨⟨fun j => if j = i then (vs i).take off ++ us ++ (vs i).drop (off + us.length) else vs j, fun j hj => by
    by_cases hj' : j = i
    ·subst hj'
     simpa using (xAj 8 h3 s2).mono hle.stays
    ·simpa [hj'] using (g1 j hj).mono hle.stays, fun j hj => by
    by_cases hj' : j = i
    ·subst hj'
     simp [hvi]; omega
    ·simpa [hj'] using g2 j hj,
   ⟨by rw [<- hNt, List.length_take, hNl]; omega, .inr ⟨E.blk l, cap, _, hv, Nat.zero_le _, hheap, hcap, hmx, by simpa using hNl, by simpa using hNt⟩⟩⟩, g4⟩ (hat (fun j => if j = i then new else f j))
 exact ⟨_, hst, hlen, _, h6, h5, hk⟩
include hΓ in
theorem xLn (hG : ∀ f C, Γ f = some C -> ∃ fn, P.funcs[f]? = some fn /\ fn.name ≠ "runtime.NumGoroutine" /\ fn.body ≠ none)
  {ro : Option Nat} {n : Nat} {o : Oper} {o1 : Op1} (hc : c1 P o = some o1) {E : Env} {s : St} {a : Act} (hr : Rep E s a) {k : SV -> List Blk -> Prop} (hev : evh Γ s k o1)
  {next : Act -> World -> Prop} {Q : Exit -> Act -> World -> Prop}
  (hnext : ∀ E' hp' x v, E.Le E' -> RHp E' hp' -> Rv E' x v -> k x hp' -> next (a.put o.dst v) E'.w) :
  o.uponIn (fen ro) n P a next Q ((execOp a.eval o).run P E.w) := by
 unfold c1 at hc
 split at hc
 ·rename_i vo hv
  cases hc
  simp only [evh, vK] at hev
  split at hev
  ·rename_i p x he
   obtain ⟨v, h1, h2⟩ := evp_ok hr.fr hr.hp hv he hev.1
   exact xAb h1 (hnext E s.hp x v (.refl E) hr.hp h2 hev.2)
  ·exact hev.elim
 ·split at hc
  ·rename_i t ho
   obtain ⟨z, hz, rfl⟩ := Option.map_eq_some_iff.1 hc
   simp only [evh, vK, boxK, bslK, bldK, storeK, appK, callK] at hev
   unfold zcells at hz
   split at hz
   ·rename_i i hi
    split at hz
    ·rename_i zv hzv
     cases hz
     obtain ⟨E', h1, h2, h3, h4, h5, h6⟩ := xEo hr.hp t (xBo E zv.cells.toList)
     refine xAb (w := E'.w) (v := .pointer (some ⟨E.w.heap.size, 0, none⟩)) ?_ (hnext E' _ _ _ h2 h3 ?_ hev)
     ·simp [execOp, ho, Instr.alloc, zeroValue, typeInfo, hi, hzv, newVar, newRow, h1]
     ·rw [<- h5, <- h6]; exact .ptr _ _ (by assumption)
    ·cases hz
   ·cases hz
  ·rename_i t x ho
   obtain ⟨x', hx, rfl⟩ := Option.map_eq_some_iff.1 hc
   simp only [evh, vK, boxK, bslK, bldK, storeK, appK, callK] at hev
   split at hev
   ·rename_i cs hcs
    have k1 := xGm (X.ok hr.fr hx) hcs
    obtain ⟨E', h1, h2, h3, h4, h5, h6⟩ := xEo hr.hp t k1
    refine xAb (w := E'.w) (v := .pointer (some ⟨E.w.heap.size, 0, none⟩)) ?_ (hnext E' _ _ _ h2 h3 ?_ hev)
    ·simp [execOp, ho, Instr.box, newVar, newRow, h1]
    ·rw [<- h5, <- h6]; exact .ptr _ _ (by assumption)
   ·exact hev.elim
  ·rename_i t x y ho
   split at hc
   ·rename_i i x' y' hi hx hy
    cases hc
    have k1 := X.ok hr.fr hx
    have k2 := X.ok hr.fr hy
    simp only [evh, vK, boxK, bslK, bldK, storeK, appK, callK] at hev
    split at hev
    ·rename_i l off cs hl hcs
     rw [hl] at k1
     have k3 := xGm k2 hcs
     obtain ⟨hlt, k1⟩ := k1.ptrE
     obtain ⟨⟨ho1, hlen⟩, hev⟩ := hev
     rw [xDf] at hlen
     unfold storeK2 at hev
     split at hev
     ·rename_i tt old hg
      unfold storeK3 at hev
      split at hev
      ·rename_i new hnew
       have hk := hev
       have hget := xAa hg (by simp)
       obtain ⟨vs, h1, h2⟩ := hr.hp.b.blk l _ hget
       obtain ⟨h3, h4⟩ := h1.sp off k3 hnew
       have hsz : (a.eval y).cells.size = i.size := by have := k3.length; simp at this; omega
       have hst := run_storeCells_at P (E.blk l) off tt (a.eval y).cells.toList 0 vs.toArray E.w h2 (by simpa using h3) (k3.allOne ho1)
       simp only [Nat.add_zero] at hst
       have hgr : E.w.grownBy (E.w.setRow (E.blk l) (vs.take off ++ (a.eval y).cells.toList ++ vs.drop (off + (a.eval y).cells.toList.length)).toArray) (some (E.blk l)) :=
        ⟨rfl, rfl, rfl, by simp [World.setRow], fun k' _ hk' => setRow_other E.w _ k' _ (fun e => hk' (by rw [e]))⟩
       have hfz : ∀ b, (E.w.setRow (E.blk l) (vs.take off ++ (a.eval y).cells.toList ++ vs.drop (off + (a.eval y).cells.toList.length)).toArray).frozen? b = E.w.frozen? b := by
        intro b
        by_cases hb : b.block = E.blk l
        ·have := setRow_heap E.w (E.blk l) vs.toArray (vs.take off ++ (a.eval y).cells.toList ++ vs.drop (off + (a.eval y).cells.toList.length)).toArray tt (0, 0) h2
         simp only [World.frozen?, hb, this, h2]
        ·exact World.frozen?_of_block (setRow_other E.w _ _ _ hb)
       obtain ⟨h5, h6⟩ := hr.hp.set (newb := .box tt new) hget rfl hgr hfz ⟨_, h4.mono (Env.to_le fun b hb => hgr.block b (hr.hp.imlt hb) (fun e => hr.hp.b.imx l _ _ hget rfl (by cases e; exact hb))), setRow_heap E.w _ _ _ tt (0, 0) h2⟩ rfl
       refine xCp (w := (E.to _).w) ?_ (hnext _ _ .any undef h6 h5 (.any _) hk)
       simp only [execOp, ho, Instr.storeAt, k1, Instr.sureAddr, storeVar, sizeOf, typeInfo, hi, Sem.run_bind, Sem.run_pure, Result.andThen_ok, run_program]
       simp [hsz, hi, hst, Env.to]
      ·exact hev.elim
     ·exact hev.elim
    ·rename_i l j cs hl hcs
     rw [hl] at k1
     have k3 := xGm k2 hcs
     obtain ⟨hlt, k1⟩ := k1.epE
     unfold storeE at hev
     split at hev
     ·rename_i kk tt xs k' yy hg
      obtain ⟨⟨rfl, hsz1, hj⟩, hk⟩ := hev
      have hget := xAa hg (by simp)
      obtain ⟨h1, h2⟩ := hr.hp.b.blk l _ hget
      have hcy : (a.eval y).cells.toList = [.int kk yy] := by
       generalize (a.eval y).cells.toList = u at k3
       cases k3 with
       | cons _ _ _ _ hx hs => cases hx; cases hs; rfl
      obtain ⟨hxl, hrow⟩ := h1
      rcases hrow with ⟨_, h0⟩ | ⟨g, cap, cur, hv, _, hgc, hcap, hmx, hcs2, htk⟩
      ·omega
      have hgb : g = E.blk l := h2 g (by rw [hv]; rfl)
      subst hgb
      simp only [Nat.mul_one] at hcs2 htk
      have hst := run_storeCells_at P (E.blk l) j tt [.int kk yy] 0 cur E.w hgc (by simp; omega) (by simp [Value.oneCell'])
      simp only [Nat.add_zero, List.length_cons, List.length_nil, Nat.zero_add] at hst
      have hj2 : j < cur.toList.length := by simp; omega
      have hN : cur.toList.take j ++ [Value.int kk yy] ++ cur.toList.drop (j + 1) = cur.toList.set j (.int kk yy) := by
       rw [List.set_eq_take_append_cons_drop, if_pos hj2]; simp
      rw [hN] at hst
      have hheap := setRow_heap E.w (E.blk l) cur (cur.toList.set j (.int kk yy)).toArray tt (0, 0) hgc
      have hgr : E.w.grownBy (E.w.setRow (E.blk l) (cur.toList.set j (.int kk yy)).toArray) (some (E.blk l)) :=
       ⟨rfl, rfl, rfl, by simp [World.setRow], fun k' _ hk' => setRow_other E.w _ k' _ (fun e => hk' (by rw [e]))⟩
      have hfz : ∀ b, (E.w.setRow (E.blk l) (cur.toList.set j (.int kk yy)).toArray).frozen? b = E.w.frozen? b := by
       intro b
       by_cases hb : b.block = E.blk l
       ·simp only [World.frozen?, hb, hheap, hgc]
       ·exact World.frozen?_of_block (setRow_other E.w _ _ _ hb)
      have hat : (Blk.oi kk tt xs).at E l = some (E.blk l) := by simp [Blk.at, hv, Value.ownBlock]
      obtain ⟨h5, h6⟩ := hr.hp.set (newb := .oi kk tt (xs.set j yy)) hget hat hgr hfz
       ⟨⟨by simp, .inr ⟨E.blk l, cap, _, by rw [List.length_set]; exact hv, Nat.zero_le _, hheap, by rw [List.length_set]; exact hcap, hmx, by simpa using hcs2, by
        rw [List.length_set, Nat.mul_one]; simp only [List.take_set, htk, List.map_set]⟩⟩, h2⟩ hat
      refine xCp (w := (E.to _).w) ?_ (hnext _ _ .any undef h6 h5 (.any _) hk)
      have hsz : (a.eval y).cells.size = 1 := by have := congrArg List.length hcy; simpa using this
      simp only [execOp, ho, Instr.storeAt, k1, Instr.sureAddr, storeVar, sizeOf, typeInfo, hi, Sem.run_bind, Sem.run_pure, Result.andThen_ok, run_program]
      simp [hsz, hsz1, hi, hcy, hst, Env.to]
     ·obtain ⟨w', hrun, hlen, hp', g1, g2, g3⟩ := xGi hr.hp hev k3
      refine xCp (w := (E.to _).w) ?_ (hnext _ _ .any undef g1 g2 (.any _) g3)
      have hsz : (a.eval y).cells.size = i.size := by simpa using hlen
      have hrun := hrun P
      simp only [Nat.mul_one, Nat.add_zero] at hrun
      simp only [execOp, ho, Instr.storeAt, k1, Instr.sureAddr, storeVar, sizeOf, typeInfo, hi, Sem.run_bind, Sem.run_pure, Result.andThen_ok, run_program]
      simp [hsz, hi, hrun, Env.to]
    ·rename_i l es j off cs hne hl hcs
     rw [hl] at k1
     have k3 := xGm k2 hcs
     obtain ⟨hlt, k1⟩ := k1.epE
     obtain ⟨w', hrun, hlen, hp', g1, g2, g3⟩ := xGi hr.hp hev k3
     refine xCp (w := (E.to _).w) ?_ (hnext _ _ .any undef g1 g2 (.any _) g3)
     have hsz : (a.eval y).cells.size = i.size := by simpa using hlen
     have hrun := hrun P
     simp only [execOp, ho, Instr.storeAt, k1, Instr.sureAddr, storeVar, sizeOf, typeInfo, hi, Sem.run_bind, Sem.run_pure, Result.andThen_ok, run_program]
     simp [hsz, hi, hrun, Env.to]
    ·exact hev.elim
   ·cases hc
  ·rename_i t parts ho
   split at hc
   ·rename_i fs i hs hi
    split at hc
    ·rename_i z pl hz hpl
     obtain ⟨xs, hxs, rfl⟩ := Option.map_eq_some_iff.1 hc
     simp only [evh, vK, boxK, bslK, bldK, storeK, appK, callK] at hev
     split at hev
     ·rename_i cs hcs
      obtain ⟨cells', h1, h2⟩ := xGf (xDu hr.fr hxs) (xBo E z.cells.toList) hcs
      refine xAb (w := E.w) (v := .agg cells') ?_ (hnext E _ _ _ (.refl E) hr.hp (by simpa using Rv.agg _ _ h2) hev)
      have hb : P.built t (parts.map fun (i, x) => (i, a.eval x)).toList = some cells' := by
       unfold fplaces at hpl
       simp only [Program.built, hi, hs, hz, hpl]
       simpa using h1
      simp [execOp, ho, run_build E.w t _ cells' hb]
     ·exact hev.elim
    ·cases hc
   ·rename_i nn e i hs hi
    split at hc
    ·rename_i z d hz hd
     obtain ⟨xs, hxs, rfl⟩ := Option.map_eq_some_iff.1 hc
     simp only [evh, vK, boxK, bslK, bldK, storeK, appK, callK] at hev
     split at hev
     ·rename_i cs hcs
      obtain ⟨cells', h1, h2⟩ := xGf (xDu hr.fr hxs) (xBo E z.cells.toList) hcs
      refine xAb (w := E.w) (v := .agg cells') ?_ (hnext E _ _ _ (.refl E) hr.hp (by simpa using Rv.agg _ _ h2) hev)
      have hb : P.built t (parts.map fun (i, x) => (i, a.eval x)).toList = some cells' := by
       simp only [Program.built, hi, hs, hz, hd]
       simpa using h1
      simp [execOp, ho, run_build E.w t _ cells' hb]
     ·exact hev.elim
    ·cases hc
   ·cases hc
  ·rename_i t len parts ho
   split at hc
   ·rename_i e hs
    split at hc
    ·rename_i d z hd hz
     split at hc
     ·rename_i hle
      obtain ⟨xs, hxs, rfl⟩ := Option.map_eq_some_iff.1 hc
      simp only [evh, vK, boxK, bslK, bldK, storeK, appK, callK] at hev
      split at hev
      ·rename_i cs hcs
       unfold zrow at hz
       simp only [hd] at hz
       split at hz
       ·rename_i zv hzv
        cases hz
        obtain ⟨cells', h1, h2⟩ := xGf (E := E) (cells := (Array.range (len * d.size)).map (zv.cells[· % zv.cells.size]!)) (xDu hr.fr hxs) (xBo E _) hcs
        obtain ⟨E', h3, h4, h5, h6, h7, h8⟩ := xEo hr.hp e h2
        refine xAb (w := E'.w) (v := .slice (some ⟨E.w.heap.size, 0, none⟩) len len) ?_ (hnext E' _ _ _ h4 h5 ?_ hev)
        ·have hgt : ¬ 16777216 < len * d.size := by omega
         have h0 : ¬ (len * d.size = 0) := by omega
         simp only [execOp, ho, Instr.buildSlice, Sem.run_bind, run_underlying hs, Result.andThen_ok, sizeOf, typeInfo, run_program, hd, Sem.run_pure]
         rw [if_neg (by simpa using hgt), if_neg h0]
         have h1' : Instr.fill (fun i => some (i * d.size, d.size)) ((Array.range (len * d.size)).map (zv.cells[· % zv.cells.size]!)) (parts.map fun (i, x) => (i, a.eval x)).toList = some cells' := by
          simpa using h1
         simp only [zeroValue, typeInfo, Sem.run_bind, run_program, Result.andThen_ok, hd, Sem.run_pure, hzv, h1', newRow, run_newObj, h3]
         simp
        ·rw [<- h7, <- h8]; exact .bsl _ _ (by assumption)
       ·cases hz
      ·exact hev.elim
     ·cases hc
    ·cases hc
   ·cases hc
  ·rename_i args tys ho
   split at hc
   ·rename_i x y t t' hargs htys
    split at hc
    ·rename_i e x' y' hs hx hy
     split at hc
     ·rename_i htt
      subst htt
      split at hc
      ·rename_i i hi
       split at hc
       ·rename_i z hz
        split at hc
        ·rename_i hzs
         cases hc
         have ha : args = #[x, y] := by apply Array.ext'; simpa using hargs
         have hty : tys = #[t, t] := by apply Array.ext'; simpa using htys
         have k1 := X.ok hr.fr hx
         have k2 := X.ok hr.fr hy
         simp only [evh, vK, boxK, bslK, bldK, storeK, appK, callK] at hev
         split at hev
         ·rename_i l l2 m hl hl2
          rw [hl] at k1; rw [hl2] at k2
          obtain ⟨hlt, _, hval⟩ := k1.ownE
          obtain ⟨hlt2, k2⟩ := k2.bslE
          unfold appK2 at hev
          split at hev
          ·rename_i kk tt xs t2 k' yy hg hg2 _
           obtain ⟨⟨rfl, rfl, hsz, hby, hml⟩, hk⟩ := hev
           have hget := xAa hg (by simp)
           have hget2 := xAa hg2 (by simp)
           obtain ⟨h1, h2⟩ := hr.hp.b.blk l _ hget
           obtain ⟨vs, h3, h4⟩ := hr.hp.b.blk l2 _ hget2
           have hv := hval (hr.hp.b.live l _ hget (by simp))
           cases h3 with
           | cons _ v _ vs' h5 h6 =>
            cases h6
            have h5 := h5.intE
            subst h5
            obtain ⟨v', w', hrun, hown, hgr, hfz, g, cap, rfl, hgo⟩ := xGg (P := P) E.w t o.type tt i z hs hi hz hzs (by omega) (E.val l) xs.length _ (by rw [hsz]; exact h1)
             ⟨E.blk l2, 0, none⟩ 1 [.int kk yy] (by simp [hsz]) (fun j u hu => by
              cases j with
              | zero => simp at hu; subst hu; exact xAf h4 0 (.int kk yy) rfl
              | succ j => simp at hu) (by simp [Value.oneCell']) hml hby
            have hrun' : (execOp a.eval o).run P E.w = .ok (.value (.slice (some ⟨g, 0, none⟩) (xs.length + 1) cap)) w' := by
             simp [execOp, ho, ha, hty, resolve, invoke, builtin, hv, k2, hrun]
            have hxs : (xs.map (Value.int kk)) ++ [Value.int kk yy] = (xs ++ [yy]).map (Value.int kk) := by simp
            rw [hxs, hsz] at hown
            have hlen : xs.length + 1 = (xs ++ [yy]).length := by simp
            obtain ⟨E', h7, h8, h9, h10, h11, h12⟩ := xEr hr.hp (newb := .oi kk tt (xs ++ [yy])) (n := xs.length + 1) (cap := cap) hget rfl hgr hfz hgo
             (fun E' hle e1 e2 e3 => ⟨by rw [e1, e2, <- hlen]; exact hown, by rw [e2, e3]; intro g' hg'; simp [Value.ownBlock] at hg'; exact hg'.symm⟩) (fun E' => rfl)
            rw [<- h7] at hrun'
            refine xAb hrun' (hnext E' _ _ _ h8 h9 ?_ hk)
            rw [<- h12]; exact .own _ _ (by assumption) rfl (fun _ => h11.symm)
          ·rename_i tt sz' len f t2 cs hg hg2 _
           obtain ⟨⟨rfl, rfl, hcl, hco, hclo, hsp, hby, hml⟩, hk⟩ := hev
           rw [xDf] at hcl
           have hget := xAa hg (by simp)
           have hget2 := xAa hg2 (by simp)
           obtain ⟨⟨us, hu1, hu2, h1⟩, h2⟩ := hr.hp.b.blk l _ hget
           obtain ⟨vs, h3, h4⟩ := hr.hp.b.blk l2 _ hget2
           have hv := hval (hr.hp.b.live l _ hget (by simp))
           have hvl : vs.length = i.size := by rw [<- h3.length]; exact hcl
           obtain ⟨v', w', hrun, hown, hgr, hfz, g, cap, rfl, hgo⟩ := xGg (P := P) E.w t o.type tt i z hs hi hz hzs (by omega) (E.val l) len _ h1
            ⟨E.blk l2, 0, none⟩ 1 vs hvl (fun j u hu => by
             have hadd : (⟨E.blk l2, 0, none⟩ : Addr).add j = ⟨E.blk l2, j, none⟩ := by unfold Addr.add; split <;> simp_all
             rw [hadd]; exact xAf h4 j u hu) (h3.allOne hco) hml hby
           have hrun' : (execOp a.eval o).run P E.w = .ok (.value (.slice (some ⟨g, 0, none⟩) (len + 1) cap)) w' := by
            simp [execOp, ho, ha, hty, resolve, invoke, builtin, hv, k2, hrun]
           have hxs : (List.range len).flatMap us ++ vs = (List.range (len + 1)).flatMap (fun i => if i < len then us i else vs) := by
            rw [List.range_succ, List.flatMap_append]
            congr 1
            ·rw [List.flatMap_def, List.flatMap_def]
             congr 1
             apply List.map_congr_left
             intro j hj
             simp [List.mem_range.1 hj]
            ·simp
           rw [hxs] at hown
           obtain ⟨E', h7, h8, h9, h10, h11, h12⟩ := xEr hr.hp (newb := .orw tt i.size (len + 1) (fun i => if i < len then f i else cs)) (n := len + 1) (cap := cap) hget rfl hgr hfz hgo
            (fun E' hle e1 e2 e3 => ⟨⟨fun i => if i < len then us i else vs, fun j hj => by
              by_cases hj' : j < len
              ·simpa [hj'] using (hu1 j hj').mono hle.stays
              ·simpa [hj'] using (xAj 8 hclo h3).mono hle.stays, fun j hj => by
              by_cases hj' : j < len
              ·simpa [hj'] using hu2 j hj'
              ·simpa [hj'] using hvl, by rw [e1, e2]; exact hown⟩, by rw [e2, e3]; intro g' hg'; simp [Value.ownBlock] at hg'; exact hg'.symm⟩) (fun E' => rfl)
           rw [<- h7] at hrun'
           refine xAb hrun' (hnext E' _ _ _ h8 h9 ?_ hk)
           rw [<- h12]; exact .own _ _ (by assumption) rfl (fun _ => h11.symm)
          ·exact hev.elim
         ·rename_i kk xs l2 m hl hl2
          rw [hl] at k1; rw [hl2] at k2
          have k1 := k1.clipE
          have hv : (a.eval x = .slice none 0 0 /\ xs = []) \/ ∃ k0 b, some kk = some k0 /\ a.eval x = .slice (some b) xs.length xs.length /\ ∀ j x, xs[j]? = some x -> E.w.cell? (b.add j) = some (.int k0 x) := by
           generalize a.eval x = u at k1
           cases k1 with
           | clipNil => exact .inl ⟨rfl, rfl⟩
           | clipE _ b => exact .inr ⟨kk, b, rfl, rfl, fun j y hj => by simp at hj⟩
           | clip _ _ b off h1 h2 =>
            refine .inr ⟨kk, ⟨b, off, none⟩, rfl, rfl, fun j y hj => ?_⟩
            have hadd : (⟨b, off, none⟩ : Addr).add j = ⟨b, off + j, none⟩ := by unfold Addr.add; split <;> simp_all
            rw [hadd]; exact h2 j y hj
          obtain ⟨v', E', hp', g1, g2, g3, g4, g5⟩ := xLi (P := P) (ty := o.type) hr.hp hs hi hz hzs hev hv k2
          exact xAb (by simp [execOp, ho, ha, hty, resolve, invoke, builtin, g1]) (hnext E' hp' _ _ g2 g3 g4 g5)
         ·rename_i l2 m hl hl2
          rw [hl] at k1; rw [hl2] at k2
          have k1 := k1.litE
          have fin : ∀ {v' : Value} {E' : Env} {hp' : List Blk}, (Builtin.append_ #[t, t] o.type #[a.eval x, a.eval y]).run P E.w = .ok v' E'.w /\ E.Le E' /\ RHp E' hp' /\ Rv E' (.own (ln s.hp)) v' /\ k (.own (ln s.hp)) hp' -> o.uponIn (fen ro) n P a next Q ((execOp a.eval o).run P E.w) :=
           fun ⟨g1, g2, g3, g4, g5⟩ => xAb (by simp [execOp, ho, ha, hty, resolve, invoke, builtin, g1]) (hnext _ _ _ _ g2 g3 g4 g5)
          unfold appL at hev
          split at hev
          ·rename_i t0 q0 n0 hg0
           rw [<- hg0] at hev
           obtain ⟨v', E', hp', g⟩ := xLi (P := P) (ty := o.type) hr.hp hs hi hz hzs hev (.inl ⟨k1, rfl⟩) k2
           exact fin g
          ·obtain ⟨v', E', hp', g⟩ := xHt (P := P) (ty := o.type) hr.hp hs hi hz hzs hev (.inl ⟨k1, rfl, rfl⟩) k2
           exact fin g
         ·rename_i l len l2 m hl hl2
          rw [hl] at k1; rw [hl2] at k2
          have fin : ∀ {v' : Value} {E' : Env} {hp' : List Blk}, (Builtin.append_ #[t, t] o.type #[a.eval x, a.eval y]).run P E.w = .ok v' E'.w /\ E.Le E' /\ RHp E' hp' /\ Rv E' (.own (ln s.hp)) v' /\ k (.own (ln s.hp)) hp' -> o.uponIn (fen ro) n P a next Q ((execOp a.eval o).run P E.w) :=
           fun ⟨g1, g2, g3, g4, g5⟩ => xAb (by simp [execOp, ho, ha, hty, resolve, invoke, builtin, g1]) (hnext _ _ _ _ g2 g3 g4 g5)
          obtain ⟨hlt, k1⟩ := k1.bslE
          unfold appB1 at hev
          split at hev
          ·rename_i t1 cs1 hg1
           obtain ⟨vs1, h1, h2⟩ := hr.hp.b.blk l _ (xAa hg1 (by simp))
           obtain ⟨v', E', hp', g⟩ := xHt (P := P) (ty := o.type) hr.hp hs hi hz hzs hev (.inr ⟨E.blk l, vs1, k1, h1, fun j u hu => xAf h2 j u hu⟩) k2
           exact fin g
          ·rename_i t1 cs1 hg1
           obtain ⟨_, vs1, h1, h2⟩ := hr.hp.b.blk l _ (xAa hg1 (by simp))
           obtain ⟨v', E', hp', g⟩ := xHt (P := P) (ty := o.type) hr.hp hs hi hz hzs hev (.inr ⟨E.blk l, vs1, k1, h1, fun j u hu => xAf h2 j u hu⟩) k2
           exact fin g
          ·exact hev.elim
         ·rename_i sz' f' kk xs hl hl2
          rw [hl] at k1; rw [hl2] at k2
          obtain ⟨⟨g0, gsz, gby, gml⟩, hk⟩ := hev
          obtain ⟨v', E', g1, g2, g3, g4⟩ := xHs (P := P) (ty := o.type) hr.hp hs hi hz hzs g0 gsz gby gml k1 k2
          exact xAb (by simp [execOp, ho, ha, hty, resolve, invoke, builtin, g1]) (hnext E' _ _ _ g2 g3 g4 hk)
         ·rename_i sz' f' l hl hl2
          rw [hl] at k1; rw [hl2] at k2
          unfold appZ at hev
          split at hev
          ·rename_i kk xs hg
           obtain ⟨⟨g0, gsz, gby, gml⟩, hk⟩ := hev
           obtain ⟨_, _, hv⟩ := k2.ownE
           have h0 := xAa hg (by simp)
           have k2 : Rv E (.ints kk xs) (a.eval y) := by rw [hv (hr.hp.b.live l _ h0 (by simp))]; exact hr.hp.b.blk l _ h0
           obtain ⟨v', E', g1, g2, g3, g4⟩ := xHs (P := P) (ty := o.type) hr.hp hs hi hz hzs g0 gsz gby gml k1 k2
           exact xAb (by simp [execOp, ho, ha, hty, resolve, invoke, builtin, g1]) (hnext E' _ _ _ g2 g3 g4 hk)
          ·rename_i sz2 len2 g hg
           obtain ⟨_, _, hv⟩ := k2.ownE
           have h0 := xAa hg (by simp)
           have k2 : Rv E (.rd sz2 len2 g) (a.eval y) := by rw [hv (hr.hp.b.live l _ h0 (by simp))]; exact hr.hp.b.blk l _ h0
           obtain ⟨x', v', E', hp', g1, g2, g3, g4, g5⟩ := xLl (P := P) (ty := o.type) hr.hp hs hi hz hzs hev k1 k2
           exact xAb (by simp [execOp, ho, ha, hty, resolve, invoke, builtin, g1]) (hnext E' hp' _ _ g2 g3 g4 g5)
          ·exact hev.elim
         ·rename_i sz' f' sz2 len2 g hl hl2
          rw [hl] at k1; rw [hl2] at k2
          obtain ⟨x', v', E', hp', g1, g2, g3, g4, g5⟩ := xLl (P := P) (ty := o.type) hr.hp hs hi hz hzs hev k1 k2
          exact xAb (by simp [execOp, ho, ha, hty, resolve, invoke, builtin, g1]) (hnext E' hp' _ _ g2 g3 g4 g5)
         ·rename_i sz' len f sz2 len2 g hne hl hl2
          rw [hl] at k1; rw [hl2] at k2
          obtain ⟨x', v', E', hp', g1, g2, g3, g4, g5⟩ := xOs (P := P) (ty := o.type) hr.hp hs hi hz hzs hev k1 k2
          exact xAb (by simp [execOp, ho, ha, hty, resolve, invoke, builtin, g1]) (hnext E' hp' _ _ g2 g3 g4 g5)
         ·rename_i sz' len f l2 m hl hl2
          rw [hl] at k1; rw [hl2] at k2
          obtain ⟨v', E', hp', g1, g2, g3, g4, g5⟩ := xQf (P := P) (ty := o.type) hr.hp hs hi hz hzs hev k1 k2
          exact xAb (by simp [execOp, ho, ha, hty, resolve, invoke, builtin, g1]) (hnext E' hp' _ _ g2 g3 g4 g5)
         ·rename_i l sz2 len2 g hl hl2
          rw [hl] at k1; rw [hl2] at k2
          obtain ⟨x', v', E', hp', g1, g2, g3, g4, g5⟩ := xHu (P := P) (ty := o.type) hr.hp hs hi hz hzs hev k1 k2
          exact xAb (by simp [execOp, ho, ha, hty, resolve, invoke, builtin, g1]) (hnext E' hp' _ _ g2 g3 g4 g5)
         ·rename_i l sz2 len2 g hl hl2
          rw [hl] at k1; rw [hl2] at k2
          obtain ⟨x', v', E', hp', g1, g2, g3, g4, g5⟩ := xHu (P := P) (ty := o.type) hr.hp hs hi hz hzs hev k1 (show Rv E _ _ from k2.cliprE.unclipr.rv)
          exact xAb (by simp [execOp, ho, ha, hty, resolve, invoke, builtin, g1]) (hnext E' hp' _ _ g2 g3 g4 g5)
         ·rename_i l kk ys hl hl2
          rw [hl] at k1; rw [hl2] at k2
          obtain ⟨x', v', E', hp', g1, g2, g3, g4, g5⟩ := xFk (P := P) (ty := o.type) hr.hp hs hi hz hzs hev k1 k2
          exact xAb (by simp [execOp, ho, ha, hty, resolve, invoke, builtin, g1]) (hnext E' hp' _ _ g2 g3 g4 g5)
         ·rename_i l kk ys hl hl2
          rw [hl] at k1; rw [hl2] at k2
          obtain ⟨x', v', E', hp', g1, g2, g3, g4, g5⟩ := xFk (P := P) (ty := o.type) hr.hp hs hi hz hzs hev k1 (show Rv E _ _ from k2.clipE.unclip.rv)
          exact xAb (by simp [execOp, ho, ha, hty, resolve, invoke, builtin, g1]) (hnext E' hp' _ _ g2 g3 g4 g5)
         ·exact hev.elim
        ·cases hc
       ·cases hc
      ·cases hc
     ·cases hc
    ·cases hc
   ·cases hc
  ·rename_i f args tys ho
   split at hc
   ·rename_i f' args' hf hargs
    cases hc
    have k1 := X.ok hr.fr hf
    have k2 := Xs.ok hr.fr hargs
    simp only [evh, vK, boxK, bslK, bldK, storeK, appK, callK] at hev
    split at hev
    ·rename_i fid caps hfn
     rw [hfn] at k1
     obtain ⟨cvs, hcv, k1⟩ := k1.fnE
     unfold conK at hev
     split at hev
     ·rename_i C hC
      obtain ⟨fn, hfd, hnm, hbd⟩ := hG fid C hC
      have hcall := hΓ.2 fid C hC E s.hp _ _ k hr.hp (k2.append hcv) (by rw [<- xBu]; exact hev)
      have hrun : (execOp a.eval o).run P E.w = .ok (.enter fid (args.toList.map a.eval ++ cvs).toArray) E.w := by
       simp only [execOp, ho, resolve, k1, Deferred.ofValue, invoke, Sem.run_bind, Sem.run_pure, Result.andThen_ok]
       rw [xAl hfd hnm hbd]
       congr 2
       apply Array.ext'; simp
      rw [hrun]
      refine ⟨fun h => by simp [fen, Fence.wide] at h, xAu (hcall.mono ?_)⟩
      rintro e w' ⟨r, v, E', hp', rfl, rfl, h1, h2, h3, h4⟩
      exact hnext E' hp' r v h1 h2 h3 h4
     ·exact hev.elim
    ·rename_i fid first caps hfn
     rw [hfn] at k1
     obtain ⟨us, cvs, hus, hcv, k1⟩ : ∃ us vs, Rvs E first us /\ Rvs E caps vs /\ a.eval f = .func (.func fid) us.toArray vs.toArray := by generalize a.eval f = u at k1; cases k1; exact ⟨_, _, ‹_›, ‹_›, rfl⟩
     unfold conK at hev
     split at hev
     ·rename_i C hC
      obtain ⟨fn, hfd, hnm, hbd⟩ := hG fid C hC
      have hcall := hΓ.2 fid C hC E s.hp _ _ k hr.hp (hus.append (k2.append hcv)) (by rw [<- xBu, <- xBu]; exact hev)
      have hrun : (execOp a.eval o).run P E.w = .ok (.enter fid (us ++ (args.toList.map a.eval ++ cvs)).toArray) E.w := by
       simp only [execOp, ho, resolve, k1, Deferred.ofValue, invoke, Sem.run_bind, Sem.run_pure, Result.andThen_ok]
       rw [xAl hfd hnm hbd]
       congr 2
       apply Array.ext'; simp
      rw [hrun]
      refine ⟨fun h => by simp [fen, Fence.wide] at h, xAu (hcall.mono ?_)⟩
      rintro e w' ⟨r, v, E', hp', rfl, rfl, h1, h2, h3, h4⟩
      exact hnext E' hp' r v h1 h2 h3 h4
     ·exact hev.elim
    ·rename_i l hfn
     rw [hfn] at k1
     obtain ⟨hhas, k1⟩ : E.has l /\ a.eval f = .func (.yield (E.blk l)) #[] #[] := by generalize a.eval f = u at k1; cases k1; exact ⟨‹_›, rfl⟩
     rw [hΓ.1] at hev
     refine xFh ho (R := fun v w' => ∃ r E' hp', E'.w = w' /\ E.Le E' /\ RHp E' hp' /\ Rv E' r v /\ k r hp') (by rw [k1]; exact hev E _ hr.hp hhas k2) ?_
     rintro v w' ⟨r, E', hp', rfl, h1, h2, h3, h4⟩
     exact hnext E' hp' r v h1 h2 h3 h4
    ·rename_i m xr hfn
     rw [hfn] at k1
     obtain ⟨u, hu, k1⟩ := k1.mmE
     rw [hΓ.1] at hev
     simp only [invK] at hev
     split at hev
     ·rename_i t xv
      obtain ⟨v, hv, rfl⟩ := hu.ifcE
      unfold invK2 at hev
      split at hev
      ·rename_i f0 hf0
       have hm := xKb (xHq hf0) v E.w (P.types.size + Made.depth - 1)
       have hd : P.types.size + Made.depth - 1 + 1 = P.types.size + Made.depth := by simp [Made.depth]
       rw [hd] at hm
       unfold conK at hev
       split at hev
       ·rename_i C hC
        obtain ⟨fn, hfd, hnm, hbd⟩ := hG f0 C hC
        have hcall := hΓ.2 f0 C hC E s.hp _ _ k hr.hp (.cons _ _ _ _ hv k2) hev
        have hrun : (execOp a.eval o).run P E.w = .ok (.enter f0 (v :: args.toList.map a.eval).toArray) E.w := by
         simp only [execOp, ho, resolve, k1, Deferred.ofValue, invoke, Sem.run_bind, Sem.run_pure, Result.andThen_ok]
         have e0 : (#[Value.iface t v] ++ args.map a.eval)[0]? = some (.iface t v) := by
          rw [Array.getElem?_append_left (by simp)]; rfl
         have e1 : (#[Value.iface t v] ++ args.map a.eval).extract 1 (#[Value.iface t v] ++ args.map a.eval).size = args.map a.eval := by
          have hl : (args.toList.map a.eval).length = args.size := by simp
          apply Array.ext'
          simp only [Array.toList_extract, Array.toList_append, Array.toList_map, List.extract]
          simp
          rw [<- hl, List.take_length]
         rw [e0]
         simp only [callMethod, Sem.run_bind, run_program, Result.andThen_ok, hm]
         rw [xAl hfd hnm hbd, e1]
         have e2 : #[v] ++ args.map a.eval = (v :: args.toList.map a.eval).toArray := by apply Array.ext'; simp
         rw [e2]
        rw [hrun]
        refine ⟨fun h => by simp [fen, Fence.wide] at h, xAu (hcall.mono ?_)⟩
        rintro e w' ⟨r, v, E', hp', rfl, rfl, h1, h2, h3, h4⟩
        exact hnext E' hp' r v h1 h2 h3 h4
       ·exact hev.elim
      ·exact hev.elim
     ·exact hev.elim
    ·exact hev.elim
   ·cases hc
  ·rename_i x m args tys ho
   split at hc
   ·rename_i x' args' hx hargs
    cases hc
    have k1 := X.ok hr.fr hx
    have k2 := Xs.ok hr.fr hargs
    simp only [evh, invK] at hev
    split at hev
    ·rename_i t xv hxv
     rw [hxv] at k1
     obtain ⟨v, hv, k1⟩ := k1.ifcE
     unfold invK2 at hev
     split at hev
     ·rename_i f hf
      have hm := xKb (xHq hf) v E.w (P.types.size + Made.depth - 1)
      have hd : P.types.size + Made.depth - 1 + 1 = P.types.size + Made.depth := by simp [Made.depth]
      rw [hd] at hm
      unfold conK at hev
      split at hev
      ·rename_i C hC
       obtain ⟨fn, hfd, hnm, hbd⟩ := hG f C hC
       have hcall := hΓ.2 f C hC E s.hp _ _ k hr.hp (.cons _ _ _ _ hv k2) hev
       have hrun : (execOp a.eval o).run P E.w = .ok (.enter f (v :: args.toList.map a.eval).toArray) E.w := by
        simp only [execOp, ho, resolve, invoke, Sem.run_bind, Sem.run_pure, Result.andThen_ok]
        have e0 : (#[a.eval x] ++ args.map a.eval)[0]? = some (.iface t v) := by
         rw [k1, Array.getElem?_append_left (by simp)]; rfl
        have e1 : (#[a.eval x] ++ args.map a.eval).extract 1 (#[a.eval x] ++ args.map a.eval).size = args.map a.eval := by
         have hl : (args.toList.map a.eval).length = args.size := by simp
         apply Array.ext'
         simp only [Array.toList_extract, Array.toList_append, Array.toList_map, List.extract]
         simp
         rw [<- hl, List.take_length]
        rw [e0]
        simp only [callMethod, Sem.run_bind, run_program, Result.andThen_ok, hm]
        rw [xAl hfd hnm hbd, e1]
        have e2 : #[v] ++ args.map a.eval = (v :: args.toList.map a.eval).toArray := by apply Array.ext'; simp
        rw [e2]
       rw [hrun]
       refine ⟨fun h => by simp [fen, Fence.wide] at h, xAu (hcall.mono ?_)⟩
       rintro e w' ⟨r, v, E', hp', rfl, rfl, h1, h2, h3, h4⟩
       exact hnext E' hp' r v h1 h2 h3 h4
      ·exact hev.elim
     ·exact hev.elim
    ·exact hev.elim
   ·cases hc
  ·rename_i t x lo hi mx ho
   split at hc
   ·rename_i e hs
    split at hc
    ·rename_i d x' lo' hi' mx' hd hx hlo hhi hmx
     cases hc
     have k1 := X.ok hr.fr hx
     simp only [evh, slcK] at hev
     split at hev
     ·rename_i y hp1 l h m e1 e2 e3 e4
      obtain ⟨E1, c1, r1, v1⟩ := xOo hr.hp k1 e1
      unfold vK at hev
      split at hev
      ·rename_i p y2 he
       obtain ⟨v', g1, g2⟩ := xOr (P := P) hs hd v1 he hev.1 (xCi hr.fr hlo e2) (xCi hr.fr hhi e3) (xCi hr.fr hmx e4)
       rw [c1.w] at g1
       have hrun : (execOp a.eval o).run P E.w = .ok (.value v') E1.w := by simp [execOp, ho, g1, c1.w]
       exact xAb hrun (hnext E1 hp1 _ _ c1.le r1 g2 hev.2)
      ·exact hev.elim
     ·exact hev.elim
    ·cases hc
   ·cases hc
  ·cases hc
theorem xOt {E : Env} {hp : List Blk} (hr : RHp E hp) {w' : World} {im' : Nat -> Prop} (i1 : ∀ b, E.im b -> im' b) (i2 : ∀ b, im' b -> E.im b \/ E.w.heap.size <= b) (i3 : ∀ b, im' b -> b < w'.heap.size)
  (l1 : ∀ b, b < E.w.heap.size -> w'.heap[b]? = E.w.heap[b]?) (l2 : ∀ a, w'.frozen? a = E.w.frozen? a) (l3 : E.w.heap.size <= w'.heap.size) (l4 : w'.os = E.w.os) (l5 : w'.tape = E.w.tape) (l6 : w'.output = E.w.output) :
  E.Le { E with w := w', im := im' } /\ RHp { E with w := w', im := im' } hp := by
 have hle : E.Le { E with w := w', im := im' } :=
  ⟨Nat.le_refl _, fun _ h => h, fun _ _ => rfl, fun _ _ => rfl, fun _ _ h => h, i1, fun b hb => l1 b (hr.imlt hb), rfl, rfl, rfl, rfl, rfl, rfl, fun _ _ h => h⟩
 refine ⟨hle, ⟨⟨fun b hb hm => ?_, fun a => (l2 a).trans (hr.g.fz a), Nat.le_trans hr.g.sz l3, l4.trans hr.g.os, l5.trans hr.g.tape, l6.trans hr.g.output, i3, fun b hb => ?_⟩,
  ⟨hr.b.n, hr.b.rs, fun l b hb => ?_, hr.b.live, fun l b g hb hg hi => ?_, hr.b.base, hr.b.dj⟩⟩⟩
 ·exact (l1 b (Nat.lt_of_lt_of_le hb hr.g.sz)).trans (hr.g.fr b hb hm)
 ·rcases i2 b hb with h1 | h1
  ·exact hr.g.im0 b h1
  ·exact .inr (.inl (Nat.le_trans hr.g.sz h1))
 ·exact (hr.b.blk l b hb).keep hle (hr.has hb) fun g hg => l1 g ((hr.b.blk l b hb).lt hg)
 ·rcases i2 g hi with h1 | h1
  ·exact hr.b.imx l b g hb hg h1
  ·have := (hr.b.blk l b hb).lt hg; omega
include hΓ in
theorem xCs (hG : ∀ f C, Γ f = some C -> ∃ fn, P.funcs[f]? = some fn /\ fn.name ≠ "runtime.NumGoroutine" /\ fn.body ≠ none)
  {ro : Option Nat} {n : Nat} {o : Oper} {o1 : Op1} (hc : c1w P o = some o1) {E : Env} {s : St} {a : Act} (hr : Rep E s a) {k : SV -> List Blk -> Prop} (hev : evh Γ s k o1)
  {next : Act -> World -> Prop} {Q : Exit -> Act -> World -> Prop}
  (hnext : ∀ E' hp' x v, E.Le E' -> RHp E' hp' -> Rv E' x v -> k x hp' -> next (a.put o.dst v) E'.w) :
  o.uponIn (fen ro) n P a next Q ((execOp a.eval o).run P E.w) := by
 unfold c1w at hc
 split at hc
 ·rename_i h; cases hc; exact xLn hΓ hG h hr hev hnext
 ·split at hc
  ·rename_i t lo co ho
   split at hc <;> first | (cases hc; done) | skip
   rename_i e hs
   split at hc <;> first | (cases hc; done) | skip
   rename_i kk i l' c' hkk hi hl hcx
   split at hc <;> first | (cases hc; done) | skip
   rename_i z hz
   split at hc <;> first | (cases hc; done) | skip
   rename_i k' n'
   split at hc <;> first | (cases hc; done) | skip
   rename_i hcond
   cases hc
   obtain ⟨hzs, ⟨rfl, rfl⟩, hsz, hby⟩ := hcond
   simp only [evh] at hev
   unfold mkiK at hev
   split at hev <;> first | exact hev.elim | skip
   rename_i ka m kc m' hx hy
   obtain ⟨⟨rfl, h0, h1⟩, hk⟩ := hev
   have k1 := X.ok hr.fr hl
   have k2 := X.ok hr.fr hcx
   rw [hx] at k1
   rw [hy] at k2
   have k1 := k1.intE
   have k2 := k2.intE
   have hb : (i.bytes : Int) * m <= 281474976710656 := by
    have : (i.bytes : Int) * m <= 1073741824 * 65536 := Int.mul_le_mul (by omega) h1 h0 (by omega)
    omega
   have hrun := run_makeSlice (P := P) E.w t e i _ hs hi hz ka kc m m h0 (Int.le_refl _) (by rw [hsz]; omega) hb (by omega)
   have hcells : (madeCells (Value.int k' 0).cells (m.toNat * i.size)).toList = (List.replicate m.toNat (0 : Int)).map (Value.int k') := by
    rw [hsz, Nat.mul_one]
    apply List.ext_getElem?
    intro j
    simp [madeCells, Value.cells, List.getElem?_replicate, Nat.mod_one]
    split <;> rename_i hj <;> simp [hj]
   have hown : (E.w.alloc (.cells (madeCells (Value.int k' 0).cells (m.toNat * i.size)) e)).ownsRow 0 e 1 (.slice (some ⟨E.w.heap.size, 0, none⟩) m.toNat m.toNat) m.toNat ((List.replicate m.toNat (0 : Int)).map (Value.int k')) := by
    refine ⟨by simp, .inr ⟨E.w.heap.size, _, _, rfl, Nat.zero_le _, heap_alloc_new E.w _, Nat.le_refl _, by simp [maxLen]; omega, ?_, ?_⟩⟩
    ·have := congrArg List.length hcells
     simp at this; simpa using this
    ·rw [hcells]; simp
   obtain ⟨E', h7, h8, h9, h10, h11, h12⟩ := xHr hr.hp (k := k') (t := e) (xs := List.replicate m.toNat (0 : Int)) (n := m.toNat) (by simp) (World.grownBy_alloc E.w _ none) (fun a => RowKit.frozen?_alloc_cells _ _ _ a) hown
   refine xAb (w := E'.w) (v := .slice (some ⟨E.w.heap.size, 0, none⟩) m.toNat m.toNat) ?_ (hnext E' _ _ _ h8 h9 ?_ hk)
   ·simp only [execOp, ho, k1, k2, Sem.run_bind, hrun, Result.andThen_ok, Sem.run_pure, h7]
   ·rw [<- h12]; exact .own _ _ (by assumption) rfl (fun _ => h11.symm)
  ·rename_i t len parts ho
   split at hc <;> first | (cases hc; done) | skip
   rename_i e hs
   split at hc <;> first | (cases hc; done) | skip
   rename_i i hi
   split at hc <;> first | (cases hc; done) | skip
   rename_i hcond
   cases hc
   obtain ⟨rfl, hsz⟩ := hcond
   have hparts : parts = #[] := Array.size_eq_zero_iff.1 hsz
   subst hparts
   obtain ⟨n1, n2⟩ := xOt hr.hp (w' := E.w.alloc (.cells #[] e)) (im' := fun b => E.im b \/ b = E.w.heap.size) (fun b hb => .inl hb) (fun b hb => by rcases hb with h | h; exact .inl h; exact .inr (by omega))
    (fun b hb => by rw [World.size_alloc]; rcases hb with h | h; exact Nat.lt_succ_of_lt (hr.hp.imlt h); omega) (fun b hb => heap_alloc_old _ _ hb) (fun a => RowKit.frozen?_alloc_cells _ _ _ a) (by rw [World.size_alloc]; omega) rfl rfl rfl
   refine xAb (w := E.w.alloc (.cells #[] e)) (v := .slice (some ⟨E.w.heap.size, 0, none⟩) 0 0) ?_ (hnext _ _ _ _ n1 n2 ?_ hev)
   ·have h1' : Instr.fill (fun i_1 => some (i_1 * i.size, i.size)) ((Array.range (0 * i.size)).map ((#[] : Array Value)[· % (#[] : Array Value).size]!)) (#[].map fun (i, x) => (i, a.eval x) : Array (Nat × Value)).toList = some #[] := by
     simp [Instr.fill]
    simp only [execOp, ho, Instr.buildSlice, Sem.run_bind, run_underlying hs, Result.andThen_ok, sizeOf, typeInfo, run_program, hi, Sem.run_pure]
    rw [if_neg (by simp), if_pos (by simp)]
    simp only [Sem.run_pure, Result.andThen_ok, h1', newRow, Sem.run_bind, run_newObj]
    simp
   ·exact (Cv.clipr _ 0 _ E.w.heap.size 0 (fun _ => []) (.inr rfl) (fun i hi => by omega) (fun i hi => by omega) (fun i j v hi => by omega)).rv
  ·rename_i xo ho
   obtain ⟨x', hx, rfl⟩ := Option.map_eq_some_iff.1 hc
   have k1 := X.ok hr.fr hx
   simp only [evh] at hev
   generalize x'.get s.fr = y at k1 hev
   unfold nckK at hev
   split at hev
   ·rename_i m z
    unfold nckM at hev
    split at hev
    ·rename_i t z'
     obtain ⟨hl, hk⟩ := hev
     rw [hΓ.1] at hl
     obtain ⟨f0, hf0⟩ := Option.isSome_iff_exists.1 hl
     obtain ⟨u, hu, k2⟩ := k1.mmE
     obtain ⟨v, hv, rfl⟩ := hu.ifcE
     have hn := nil_ok (xHq hf0) v E.w (P.types.size + Made.depth - 1)
     have hd : P.types.size + Made.depth - 1 + 1 = P.types.size + Made.depth := by simp [Made.depth]
     rw [hd] at hn
     refine xAb (w := E.w) (v := .func (.method m) #[.iface t v] #[]) ?_ (hnext E s.hp _ _ (.refl E) hr.hp (by rw [<- k2]; exact k1) hk)
     simp [execOp, ho, k2, run_program, hn]
    ·exact hev.elim
   ·obtain ⟨hy, hk⟩ := hev
    refine xAb (w := E.w) (v := a.eval xo) ?_ (hnext E s.hp _ _ (.refl E) hr.hp k1 hk)
    unfold nckV at hy
    split at hy <;> first | (cases hy; done) | skip
    ·obtain ⟨_, k1⟩ := k1.ptrE; simp [execOp, ho, k1]
    ·obtain ⟨_, k1⟩ := k1.epE; simp [execOp, ho, k1]
    ·obtain ⟨_, _, _, _, _, _, k1⟩ := k1.rpE; simp [execOp, ho, k1]
    ·obtain ⟨_, _, k1⟩ := k1.fnE; simp [execOp, ho, k1]
    ·obtain ⟨_, _, k1⟩ := k1.ifcE; simp [execOp, ho, k1]
    ·obtain ⟨g0, us, vs, k1⟩ : ∃ (g0 : Nat) (us vs : List Value), a.eval xo = .func (.func g0) us.toArray vs.toArray := by generalize a.eval xo = u at k1; cases k1; exact ⟨_, _, _, rfl⟩
     simp [execOp, ho, k1]
  ·rename_i m first caps ho
   split at hc <;> first | (cases hc; done) | skip
   rename_i xo hf hcp
   obtain ⟨x', hx, rfl⟩ := Option.map_eq_some_iff.1 hc
   have k1 := X.ok hr.fr hx
   simp only [evh, evp, vK] at hev
   have hf' : first = #[xo] := by apply Array.ext'; simpa using hf
   have hc' : caps = #[] := by apply Array.ext'; simpa using hcp
   subst hf'; subst hc'
   refine xAb (w := E.w) (v := .func (.method m) #[a.eval xo] #[]) ?_ (hnext E s.hp _ _ (.refl E) hr.hp (.mm _ _ _ k1) hev.2)
   simp [execOp, ho, Instr.makeFunc]
  ·cases hc
end
end Go.Vg
