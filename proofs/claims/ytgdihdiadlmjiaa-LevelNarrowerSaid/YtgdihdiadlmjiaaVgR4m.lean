import Derived.Test.YtgdihdiadlmjiaaVgR4
import Derived.Test.YtgdihdiadlmjiaaVgV11
import Derived.Maps.Keyed
import Derived.DeepKeys5
import Derived.RangeFuncOwn
import Derived.Laws.MakeOwn
set_option linter.all false
namespace Go.Vg
open Go
def keyK (P : Program) (k : TypeId) : Option KK :=
 match P.underlying k with
 | some (.int q) => some (.i q)
 | some .bool => some .b
 | some .string => some .s
 | _ => match flat P (P.types.size + 1) k with
  | some ks => if (P.keyTypeAt (P.types.size + 1) k && P.tiled (P.types.size + 1) k && wideT P k && decide (P.types.size + 2 <= 10000) && decide (ks.length = P.cellsOf k)) = true then some (.w ks) else none
  | none => none
def KV : KK -> Value -> List Int -> Prop
 | .w ks, v, l => ∃ vs ls, v = .agg vs.toArray /\ Fits ks vs ls l
 | .i q, v, l => ∃ n, v = .int q n /\ l = [n] /\ (Lit.int q n).wf = true
 | .b, v, l => ∃ x : Bool, v = .bool x /\ l = [bif x then 1 else 0]
 | .s, v, l => ∃ x : ByteArray, v = .string x /\ l = (x.data.toList.map fun b => (b.toNat : Int)) /\ x.size <= 1000
theorem Fits.vals {ks : List (Option IntKind)} : ∀ {vs us : List Value} {la lb : List Lit} {ia ib : List Int}, Fits ks vs la ia -> Fits ks us lb ib -> (vs = us ↔ ia = ib) := by
 induction ks with
 | nil => intro vs us la lb ia ib h k; cases h; cases k; simp
 | cons q ks ih =>
  intro vs us la lb ia ib h k
  cases h with
  | b b _ vs ls is h =>
   cases k with
   | b b' _ vs' ls' is' k =>
    have := ih h k
    cases b <;> cases b' <;> simp [this]
  | i q n _ vs ls is hw h =>
   cases k with
   | i _ n' _ vs' ls' is' hw' k =>
    have := ih h k
    simp [this]
theorem KV.vals {kk : KK} {v u : Value} {a b : List Int} (h : KV kk v a) (k : KV kk u b) : v = u ↔ a = b := by
 cases kk with
 | w ks =>
  obtain ⟨vs, la, rfl, h1⟩ := h
  obtain ⟨us, lb, rfl, h2⟩ := k
  rw [<- h1.vals h2]
  simp
 | i q =>
  obtain ⟨n, rfl, rfl, _⟩ := h
  obtain ⟨m, rfl, rfl, _⟩ := k
  simp
 | b =>
  obtain ⟨n, rfl, rfl⟩ := h
  obtain ⟨m, rfl, rfl⟩ := k
  cases n <;> cases m <;> simp
 | s =>
  obtain ⟨n, rfl, rfl, _⟩ := h
  obtain ⟨m, rfl, rfl, _⟩ := k
  constructor
  ·intro e; cases e; rfl
  ·intro e
   have inj : ∀ {a b : List UInt8}, a.map (fun b => (b.toNat : Int)) = b.map (fun b => (b.toNat : Int)) -> a = b := by
    intro a
    induction a with
    | nil => intro b h; cases b with
     | nil => rfl
     | cons _ _ => simp at h
    | cons x t ih => intro b h; cases b with
     | nil => simp at h
     | cons y u =>
      simp only [List.map_cons, List.cons.injEq] at h
      rw [ih h.2, UInt8.toNat_inj.1 (show x.toNat = y.toNat by have := h.1; omega)]
   have : n.data.toList = m.data.toList := inj e
   cases n; cases m; simp only [Value.string.injEq, ByteArray.mk.injEq]; exact Array.ext' this
theorem xSr {P : Program} {k : TypeId} {kk : KK} (h : keyK P k = some kk) : Maps.Keyed P k /\ ∀ v l, KV kk v l -> ∃ lit, keyOf P k v = some lit := by
 unfold keyK at h
 split at h
 ·rename_i q hu
  cases h
  refine ⟨Maps.int_keyed hu, ?_⟩
  rintro v l ⟨n, rfl, rfl, hw⟩
  exact ⟨.int q n, by simp [keyOf, hu, mapKey, hw]⟩
 ·rename_i hu
  cases h
  refine ⟨Maps.bool_keyed hu, ?_⟩
  rintro v l ⟨x, rfl, rfl⟩
  exact ⟨.bool x, Maps.keyOf_bool_mk hu x⟩
 ·rename_i hu
  cases h
  refine ⟨Maps.string_keyed hu, ?_⟩
  rintro v l ⟨x, rfl, rfl, hx⟩
  exact ⟨_, WideMaps.keyOf_string_mk hu (Nat.le_trans hx (by simp [maxLen]))⟩
 ·split at h
  ·rename_i ks hf
   split at h
   ·rename_i hc
    cases h
    simp only [Bool.and_eq_true, decide_eq_true_eq] at hc
    obtain ⟨⟨⟨⟨h1, h2⟩, h3⟩, h4⟩, h5⟩ := hc
    refine ⟨.of_law (deep_law (m := P.types.size + 1) h4 h1 h2 (by unfold wideT at h3; split at h3 <;> simp_all)), ?_⟩
    rintro v l ⟨vs, ls, rfl, hv⟩
    have hl := xHv _ k ks hf _ _ _ hv
    have hlen := hv.length
    unfold wideT at h3
    refine ⟨.string (keyBytes ls), ?_⟩
    unfold keyOf
    have hfo : (Value.agg vs.toArray).formed P k = true := by
     unfold Value.formed
     split at h3 <;> simp_all
    split at h3 <;> first | (cases h3; done) | skip
    all_goals
     rename_i hu
     simp only [hu, Program.keyType, h1, hfo, Bool.and_self, if_true, Value.cells]
     rw [hl]
     rfl
   ·cases h
  ·cases h
def keyB : KK -> SV -> Option (List Int)
 | .w ks, .agg xs => fitB ks xs
 | .i q, .int q' n => match ikq q' q && inQB q n with
  | true => some [n]
  | false => none
 | .b, x => match asB x with
  | some b => some [bif b then 1 else 0]
  | none => none
 | .s, .lit v => match v with
  | .string x => match Nat.ble x.data.toList.length 1000 with
   | true => some (x.data.toList.map fun b => (b.toNat : Int))
   | false => none
  | _ => none
 | _, _ => none
theorem xFg {E : Env} {kk : KK} {x : SV} {v : Value} {l : List Int} (h : keyB kk x = some l) (hx : Rv E x v) : KV kk v l := by
 unfold keyB at h
 split at h
 ·rename_i ks xs
  obtain ⟨vs, h1, rfl⟩ := hx.aggE
  obtain ⟨p, h2, h3⟩ := xFs h
  obtain ⟨ls, h4⟩ := xIv h2 h3 h1
  exact ⟨vs, ls, rfl, h4⟩
 ·rename_i q q' n
  split at h
  ·rename_i hc
   cases h
   rw [Bool.and_eq_true] at hc
   have := hx.intE
   subst this
   have hq := xBt hc.1
   subst hq
   exact ⟨n, rfl, rfl, InQ.wf (xPh hc.2)⟩
  ·cases h
 ·split at h
  ·rename_i b hb; cases h; exact ⟨b, xGe hx hb, rfl⟩
  ·cases h
 ·split at h
  ·split at h
   ·rename_i hl; cases h; exact ⟨_, hx.litE, rfl, by have := Nat.le_of_ble_eq_true hl; simpa using this⟩
   ·cases h
  ·cases h
 ·cases h
def eqIs : List Int -> List Int -> Bool
 | [], [] => true
 | a :: x, b :: y => match decide (a = b) with
  | true => eqIs x y
  | false => false
 | _, _ => false
theorem xHn : ∀ {a b : List Int}, eqIs a b = true ↔ a = b
 | [], [] => by simp [eqIs]
 | [], _ :: _ => by simp [eqIs]
 | _ :: _, [] => by simp [eqIs]
 | a :: x, b :: y => by
  simp only [eqIs]
  by_cases h : a = b
  ·simp [h, xHn]
  ·simp [h]
def noneB (kk : KK) (x : List Int) : List (SV × SV) -> Bool
 | [] => true
 | (a, _) :: t => match keyB kk a with
  | some y => match eqIs y x with
   | true => false
   | false => noneB kk x t
  | none => false
def fndB (kk : KK) (x : List Int) : List (SV × SV) -> Nat -> Option (Option (Nat × SV))
 | [], _ => some none
 | (a, v) :: t, i => match keyB kk a with
  | some y => match eqIs y x with
   | true => match noneB kk x t with
    | true => some (some (i, v))
    | false => none
   | false => fndB kk x t (i + 1)
  | none => none
section
variable {E : Env} {kk : KK} {x : List Int} {key : Value}
theorem xLg (hk : KV kk key x) : ∀ {es : List (SV × SV)} {xs : List MapEntry}, Rvs E (es.map (·.1)) (xs.map (·.key)) -> noneB kk x es = true ->
  ∀ e ∈ xs, (∃ l, KV kk e.key l) /\ e.key ≠ key
 | [], [], _, _ => by simp
 | [], _ :: _, h, _ => by cases h
 | _ :: _, [], h, _ => by cases h
 | (a, v) :: t, y :: xs, h, hn => by
  simp only [List.map_cons] at h
  cases h with
  | cons _ _ _ _ h1 h2 =>
  simp only [noneB] at hn
  split at hn <;> first | (cases hn; done) | skip
  rename_i l hl
  split at hn <;> first | (cases hn; done) | skip
  rename_i hne
  have k1 := xFg hl h1
  intro e he
  rcases List.mem_cons.1 he with rfl | he
  ·exact ⟨⟨l, k1⟩, fun e0 => by rw [k1.vals hk, <- xHn] at e0; rw [e0] at hne; cases hne⟩
  ·exact xLg hk h2 hn e he
theorem xOj (hk : KV kk key x) : ∀ {es : List (SV × SV)} {xs : List MapEntry} {i : Nat} {r : Option (Nat × SV)}, Rvs E (es.map (·.1)) (xs.map (·.key)) -> Rvs E (es.map (·.2)) (xs.map (·.val)) -> fndB kk x es i = some r ->
  (∀ e ∈ xs, ∃ l, KV kk e.key l) /\ match r with
   | none => ∀ e ∈ xs, e.key ≠ key
   | some (j, v) => ∃ d e, j = i + d /\ xs[d]? = some e /\ e.key = key /\ Rv E v e.val /\ ∀ d' e', xs[d']? = some e' -> e'.key = key -> d' = d
 | [], [], i, r, _, _, hf => by simp only [fndB] at hf; cases hf; simp
 | [], _ :: _, _, _, h, _, _ => by cases h
 | _ :: _, [], _, _, h, _, _ => by cases h
 | (a, v) :: t, y :: xs, i, r, h, hv, hf => by
  simp only [List.map_cons] at h hv
  cases h with
  | cons _ _ _ _ h1 h2 =>
  cases hv with
  | cons _ _ _ _ v1 v2 =>
  simp only [fndB] at hf
  split at hf <;> first | (cases hf; done) | skip
  rename_i l hl
  have k1 := xFg hl h1
  split at hf
  ·rename_i he
   split at hf <;> first | (cases hf; done) | skip
   rename_i hn
   cases hf
   have := xLg hk h2 hn
   refine ⟨fun e he => ?_, 0, y, rfl, rfl, (k1.vals hk).2 (xHn.1 he), v1, ?_⟩
   ·rcases List.mem_cons.1 he with rfl | he
    ·exact ⟨l, k1⟩
    ·exact (this e he).1
   ·intro d' e' hd he'
    cases d' with
    | zero => rfl
    | succ d' => exact absurd he' (this e' (List.mem_of_getElem? (by simpa using hd))).2
  ·rename_i hne
   have hy : y.key ≠ key := fun e0 => by rw [k1.vals hk, <- xHn] at e0; rw [e0] at hne; cases hne
   obtain ⟨g1, g2⟩ := xOj hk h2 v2 hf
   refine ⟨fun e he => ?_, ?_⟩
   ·rcases List.mem_cons.1 he with rfl | he
    ·exact ⟨l, k1⟩
    ·exact g1 e he
   ·cases r with
    | none =>
     intro e he
     rcases List.mem_cons.1 he with rfl | he
     ·exact hy
     ·exact g2 e he
    | some jv =>
     obtain ⟨j, v'⟩ := jv
     obtain ⟨d, e, h3, h4, h5, h6, h7⟩ := g2
     refine ⟨d + 1, e, by omega, by simpa using h4, h5, h6, ?_⟩
     intro d' e' hd he'
     cases d' with
     | zero => simp at hd; subst hd; exact absurd he' hy
     | succ d' => rw [h7 d' e' (by simpa using hd) he']
variable {P : Program} {k : TypeId}
theorem xHo (hkk : keyK P k = some kk) (hk : KV kk key x) {es : List (SV × SV)} {xs : List MapEntry} {r : Option (Nat × SV)} (h1 : Rvs E (es.map (·.1)) (xs.map (·.key))) (h2 : Rvs E (es.map (·.2)) (xs.map (·.val)))
  (hf : fndB kk x es 0 = some r) (w : World) : (∀ em, (Instr.checkKey em 10000 k key).run P w = .ok () w) /\ match r with
   | none => (Instr.findKey k key xs).run P w = .ok none w
   | some (j, v) => ∃ e, (Instr.findKey k key xs).run P w = .ok (some (j, e.val)) w /\ xs[j]? = some e /\ e.key = key /\ Rv E v e.val /\ (Instr.keyThatStays e.key key).run P w = .ok key w := by
 obtain ⟨K, hkey⟩ := xSr hkk
 obtain ⟨lit, hlit⟩ := hkey _ _ hk
 obtain ⟨g1, g2⟩ := xOj hk h1 h2 hf
 refine ⟨fun em => K.check w em hlit, ?_⟩
 have hall : ∀ e ∈ xs, ∃ l, keyOf P k e.key = some l := fun e he => by obtain ⟨l, hl⟩ := g1 e he; exact hkey _ _ hl
 rcases K.find w hlit xs hall with ⟨f1, f2⟩ | ⟨j', e', f1, f2, f3⟩
 ·cases r with
  | none => exact f1
  | some jv =>
   obtain ⟨j, v⟩ := jv
   obtain ⟨d, e, _, h4, h5, _⟩ := g2
   exact absurd h5 (f2 e (List.mem_of_getElem? h4))
 ·cases r with
  | none => exact absurd f3 (g2 e' (List.mem_of_getElem? f2))
  | some jv =>
   obtain ⟨j, v⟩ := jv
   obtain ⟨d, e, h3, h4, h5, h6, h7⟩ := g2
   have hj := h7 j' e' f2 f3
   subst hj
   rw [h4] at f2
   cases f2
   simp only [Nat.zero_add] at h3
   subst h3
   exact ⟨_, f1, h4, h5, h6, by rw [h5]; exact K.stays w hlit⟩
end
def zp : List SV -> List SV -> List (SV × SV)
 | a :: s, b :: t => (a, b) :: zp s t
 | _, _ => []
theorem xOk : ∀ {a b : List SV}, a.length = b.length -> (zp a b).map (·.1) = a /\ (zp a b).map (·.2) = b
 | [], [], _ => ⟨rfl, rfl⟩
 | _ :: s, _ :: t, h => by
  obtain ⟨h1, h2⟩ := xOk (a := s) (b := t) (by simpa using h)
  simp [zp, h1, h2]
theorem Rv.cmE {E : Env} {ks vs : List SV} {u : Value} (h : Rv E (.cm ks vs) u) : ∃ (xs : List MapEntry) (b : Nat), Rvs E ((zp ks vs).map (·.1)) (xs.map (·.key)) /\ Rvs E ((zp ks vs).map (·.2)) (xs.map (·.val)) /\
  (∀ (i : Nat) e, xs[i]? = some e -> e.born = i) /\ (E.im b /\ ks.length = vs.length) /\ E.w.heap[b]? = some (.map xs.toArray xs.length) /\ u = .map (some b) := by
 cases h with
 | cm _ _ _ h =>
  cases h with
  | cm _ _ kv vv xs b h1 h2 h3 h4 h5 h6 h7 =>
   subst h3; subst h4
   obtain ⟨g1, g2⟩ := xOk (a := ks) (b := vs) (by rw [h1.length, h2.length]; simp)
   exact ⟨xs, b, by rw [g1]; exact h1.rv, by rw [g2]; exact h2.rv, h5, ⟨h6, by rw [h1.length, h2.length]; simp⟩, h7, rfl⟩
def lkuE (kk : KK) (z : SV) (ok : Bool) (es : List (SV × SV)) (k : SV) : Option SV :=
 match keyB kk k with
 | some x => match fndB kk x es 0 with
  | some none => some (bif ok then .tup [z, .lit (.bool false)] else z)
  | some (some (_, v)) => some (bif ok then .tup [v, .lit (.bool true)] else v)
  | none => none
 | none => none
def lkuB (fr : List SV) (g : Nat -> Blk) (kk : KK) (z : SV) (ok : Bool) (m k : X) : Option SV :=
 match m.get fr with
 | .lb .mp l => match g l with
  | .ob (.mp es) => lkuE kk z ok es (k.get fr)
  | _ => none
 | .cm ks vs => lkuE kk z ok (zp ks vs) (k.get fr)
 | _ => none
def setE : List (SV × SV) -> Nat -> SV × SV -> List (SV × SV)
 | [], _, _ => []
 | _ :: t, 0, p => p :: t
 | x :: t, i + 1, p => x :: setE t i p
def pbE : List (SV × SV) -> SV × SV -> List (SV × SV)
 | [], p => [p]
 | x :: t, p => x :: pbE t p
def updB {α : Type} (fr : List SV) (h : HT) (kk : KK) (m k v : X) (K : SV -> HT -> Option α) : Option α :=
 match m.get fr with
 | .lb .mp l => match h.get l with
  | .ob (.mp es) => match keyB kk (k.get fr) with
   | some x => match fndB kk x es 0 with
    | some none => h.set l (.ob (.mp (pbE es (k.get fr, v.get fr)))) fun h => K .any h
    | some (some (i, _)) => h.set l (.ob (.mp (setE es i (k.get fr, v.get fr)))) fun h => K .any h
    | none => none
   | none => none
  | _ => none
 | _ => none
theorem xHp : ∀ (es : List (SV × SV)) (i : Nat) (p : SV × SV), (setE es i p).map (·.1) = (es.map (·.1)).set i p.1 /\ (setE es i p).map (·.2) = (es.map (·.2)).set i p.2
 | [], _, _ => by simp [setE]
 | _ :: t, 0, p => by simp [setE]
 | x :: t, i + 1, p => by simp [setE, xHp t i p]
theorem xOl : ∀ (es : List (SV × SV)) (p : SV × SV), pbE es p = es ++ [p]
 | [], p => rfl
 | x :: t, p => by simp [pbE, xOl t p]
theorem Rvs.set' {E : Env} {x : SV} {v : Value} (hx : Rv E x v) : ∀ {xs : List SV} {vs : List Value} (i : Nat), Rvs E xs vs -> Rvs E (xs.set i x) (vs.set i v)
 | [], [], _, .nil => .nil
 | _ :: _, _ :: _, 0, .cons _ _ _ _ _ h2 => .cons _ _ _ _ hx h2
 | _ :: _, _ :: _, i + 1, .cons _ _ _ _ h1 h2 => .cons _ _ _ _ h1 (h2.set' hx i)
theorem Rvs.snoc' {E : Env} {x : SV} {v : Value} (hx : Rv E x v) : ∀ {xs : List SV} {vs : List Value}, Rvs E xs vs -> Rvs E (xs ++ [x]) (vs ++ [v])
 | [], [], .nil => .cons _ _ _ _ hx .nil
 | _ :: _, _ :: _, .cons _ _ _ _ h1 h2 => .cons _ _ _ _ h1 (h2.snoc' hx)
theorem lbE' {E : Env} {k : LK} {l : Nat} {u : Value} (h : Rv E (.lb k l) u) : E.has l /\ u = k.val (E.blk l) := by cases h; exact ⟨‹_›, rfl⟩
section
variable {E : Env} {P : Program} {hp : List Blk} {fr : List SV} {a : Act}
theorem lku_ok (hr : RHp E hp) (hf : Rvs E fr a.tmps.toList) {kk : KK} {z : SV} {ok : Bool} {m k : X} {y : SV} (h : lkuB fr (gb hp) kk z ok m k = some y) {t key e : TypeId} {mo ko : Operand} {zv : Value}
  (ht : P.underlying t = some (.map key e)) (hkk : keyK P key = some kk) (hm : cX mo = some m) (hk : cX ko = some k) (hzv : (zeroValue e).run P E.w = .ok zv E.w) (hz : Rv E z zv) :
  ∃ v, (Instr.lookup t (a.eval mo) (a.eval ko) ok).run P E.w = .ok v E.w /\ Rv E y v := by
 have k1 := X.ok hf hm
 have k2 := X.ok hf hk
 have main : ∀ (es : List (SV × SV)) (xs : List MapEntry) (b : Nat), Rvs E (es.map (·.1)) (xs.map (·.key)) -> Rvs E (es.map (·.2)) (xs.map (·.val)) -> E.w.heap[b]? = some (.map xs.toArray xs.length) -> a.eval mo = .map (some b) ->
   lkuE kk z ok es (k.get fr) = some y -> ∃ v, (Instr.lookup t (a.eval mo) (a.eval ko) ok).run P E.w = .ok v E.w /\ Rv E y v := by
  intro es xs b h1 h2 h4 k1 h
  unfold lkuE at h
  split at h <;> first | (cases h; done) | skip
  rename_i x hx
  have hKV := xFg hx k2
  split at h <;> first | (cases h; done) | skip
  ·rename_i hfn
   cases h
   obtain ⟨g1, g2⟩ := xHo hkk hKV h1 h2 hfn E.w
   refine ⟨if ok then .tuple #[zv, .bool false] else zv, ?_, ?_⟩
   ·simp [Instr.lookup, k1, run_underlying ht, MapKept.run_getObj_map h4, g1, g2, hzv, Result.andThen]
   ·cases ok
    ·exact hz
    ·exact .tup _ [zv, .bool false] (.cons _ _ _ _ hz (.cons _ _ _ _ (.lit _) .nil))
  ·rename_i i v hfn
   cases h
   obtain ⟨g1, e0, g2, g3, g4, g5, g6⟩ := xHo hkk hKV h1 h2 hfn E.w
   refine ⟨if ok then .tuple #[e0.val, .bool true] else e0.val, ?_, ?_⟩
   ·simp [Instr.lookup, k1, run_underlying ht, MapKept.run_getObj_map h4, g1, g2, Result.andThen]
   ·cases ok
    ·exact g5
    ·exact .tup _ [e0.val, .bool true] (.cons _ _ _ _ g5 (.cons _ _ _ _ (.lit _) .nil))
 unfold lkuB at h
 split at h <;> first | (cases h; done) | skip
 ·rename_i l hl
  rw [hl] at k1
  obtain ⟨_, k1⟩ := lbE' k1
  split at h <;> first | (cases h; done) | skip
  rename_i es hg
  obtain ⟨xs, h1, h2, h3, h4⟩ := hr.b.blk l _ (xAa hg (by simp))
  exact main es xs _ h1 h2 h4 k1 h
 ·rename_i ks vs hl
  rw [hl] at k1
  obtain ⟨xs, b, h1, h2, _, _, h4, k1⟩ := k1.cmE
  exact main _ xs b h1 h2 h4 k1 h
theorem xQe {xs : List MapEntry} (h : ∀ (i : Nat) e, xs[i]? = some e -> e.born = i) {j : Nat} {e0 : MapEntry} (hj : xs[j]? = some e0) (kv vv : Value) :
  ∀ (i : Nat) e, (xs.set j { e0 with key := kv, val := vv })[i]? = some e -> e.born = i := by
 intro i e he
 rw [List.getElem?_set] at he
 split at he
 ·rename_i hij
  subst hij
  split at he
  ·cases he; exact h _ e0 hj
  ·cases he
 ·exact h _ _ he
theorem xOm {xs : List MapEntry} (h : ∀ (i : Nat) e, xs[i]? = some e -> e.born = i) (kv vv : Value) :
  ∀ (i : Nat) e, (xs ++ [{ key := kv, val := vv, born := xs.length }])[i]? = some e -> e.born = i := by
 intro i e he
 rw [List.getElem?_append] at he
 split at he
 ·exact h _ _ he
 ·rw [List.getElem?_singleton] at he
  split at he
  ·cases he; simp; omega
  ·cases he
theorem xMi {xs : List MapEntry} {j : Nat} {e0 : MapEntry} (hj : xs[j]? = some e0) (kv vv : Value) :
  xs.modify j (fun e => { e with key := kv, val := vv }) = xs.set j { e0 with key := kv, val := vv } := by
 apply List.ext_getElem?
 intro i
 simp only [List.getElem?_modify, List.getElem?_set]
 by_cases hij : j = i
 ·subst hij
  have := (List.getElem?_eq_some_iff.1 hj).1
  have h2 : xs[j] = e0 := by rw [List.getElem?_eq_getElem this] at hj; exact Option.some.inj hj
  simp [this, h2]
 ·simp [hij]
def mslC (z : List SV) (sz n : Nat) : List SV := (List.range (n * sz)).map fun i => gt z (i % sz)
theorem Rvs.maps {E : Env} {f : Nat -> SV} {g : Nat -> Value} : ∀ l : List Nat, (∀ i, Rv E (f i) (g i)) -> Rvs E (l.map f) (l.map g)
 | [], _ => .nil
 | x :: t, h => .cons _ _ _ _ (h x) (Rvs.maps t h)
theorem xOn {E : Env} {z : List SV} {zc : Array Value} {sz : Nat} (hz : Rvs E z zc.toList) (hl : zc.size = sz) (hs : 0 < sz) (n : Nat) : Rvs E (mslC z sz n) (madeCells zc (n * sz)).toList := by
 have h1 : (madeCells zc (n * sz)).toList = (List.range (n * sz)).map fun i => zc[i % zc.size]! := by simp [madeCells]
 rw [h1]
 refine Rvs.maps _ fun i => ?_
 have hk : i % sz < zc.size := by rw [hl]; exact Nat.mod_lt _ hs
 have := hz.gt (i % sz)
 have h2 : zc.toList.getD (i % sz) undef = zc[i % zc.size]! := by
  rw [hl]
  simp [List.getD, hk]
 rw [<- h2]; exact this
def mslB {α : Type} (fr : List SV) (h : HT) (e sz : Nat) (z : List SV) (len cap : X) (k : SV -> HT -> Option α) : Option α :=
 match len.get fr, cap.get fr with
 | .int _ a, .int _ c => match decide (a = c) && (decide (0 <= a) && (decide (a <= 65536) && decide (a.toNat * sz <= 16777216))) with
  | true => h.push (.box e (mslC z sz a.toNat)) fun h' => k (.bsl h.n a.toNat) h'
  | false => none
 | _, _ => none
def UpdOk (P : Program) (E : Env) (hp hp' : List Blk) (t : TypeId) (mv kv vv : Value) : Prop :=
 ∃ w', (Instr.mapUpdate t mv kv vv).run P E.w = .ok () w' /\ RHp (E.to w') hp' /\ E.Le (E.to w')
theorem upd_ok {α : Type} {h : HT} (r : HRel h hp) {kk : KK} {m k v : X} {K : SV -> HT -> Option α} {res : α} (e : updB fr h kk m k v K = some res) :
  ∃ h' hp', HRel h' hp' /\ Frm h h' /\ K .any h' = some res /\ ∀ (E : Env) (a : Act) (t key el : TypeId) (mo ko vo : Operand), RHp E hp -> Rvs E fr a.tmps.toList -> P.underlying t = some (.map key el) -> keyK P key = some kk ->
   cX mo = some m -> cX ko = some k -> cX vo = some v -> UpdOk P E hp hp' t (a.eval mo) (a.eval ko) (a.eval vo) := by
 unfold updB at e
 split at e <;> first | (cases e; done) | skip
 rename_i l hl
 rw [r.g] at e
 split at e <;> first | (cases e; done) | skip
 rename_i es hg
 have hlt := r.lt (b := .ob (.mp es)) (by rw [r.g]; exact hg) (by simp)
 have hget := xAa hg (by simp)
 split at e <;> first | (cases e; done) | skip
 rename_i x hx
 have main : ∀ (es' : List (SV × SV)), (∀ (E : Env) (a : Act) (xs : List MapEntry) (t key el : TypeId) (mo ko vo : Operand), RHp E hp -> Rvs E fr a.tmps.toList -> P.underlying t = some (.map key el) -> keyK P key = some kk ->
   cX mo = some m -> cX ko = some k -> cX vo = some v -> Rvs E (es.map (·.1)) (xs.map (·.key)) -> Rvs E (es.map (·.2)) (xs.map (·.val)) -> (∀ (i : Nat) e, xs[i]? = some e -> e.born = i) -> E.w.heap[E.blk l]? = some (.map xs.toArray xs.length) ->
   ∃ xs' : List MapEntry, Rvs E (es'.map (·.1)) (xs'.map (·.key)) /\ Rvs E (es'.map (·.2)) (xs'.map (·.val)) /\ (∀ (i : Nat) e, xs'[i]? = some e -> e.born = i) /\
    (Instr.mapUpdate t (a.eval mo) (a.eval ko) (a.eval vo)).run P E.w = .ok () (E.w.putObj (E.blk l) (.map xs'.toArray xs'.length))) ->
   (h.set l (.ob (.mp es')) fun h => K .any h) = some res ->
   ∃ h' hp', HRel h' hp' /\ Frm h h' /\ K .any h' = some res /\ ∀ (E : Env) (a : Act) (t key el : TypeId) (mo ko vo : Operand), RHp E hp -> Rvs E fr a.tmps.toList -> P.underlying t = some (.map key el) -> keyK P key = some kk ->
   cX mo = some m -> cX ko = some k -> cX vo = some v -> UpdOk P E hp hp' t (a.eval mo) (a.eval ko) (a.eval vo) := by
  intro es' hm e
  rw [HT.set_eq] at e
  refine ⟨_, _, r.set _ hlt, .set r.f _ hlt, e, ?_⟩
  intro E a t key el mo ko vo hr hf ht hkk h1 h2 h3
  obtain ⟨xs, g1, g2, g3, g4⟩ := hr.b.blk l _ hget
  obtain ⟨xs', k1, k2, k3, k4⟩ := hm E a xs t key el mo ko vo hr hf ht hkk h1 h2 h3 g1 g2 g3 g4
  have hsame : (E.w.putObj (E.blk l) (.map xs'.toArray xs'.length)).heap[E.blk l]? = some (.map xs'.toArray xs'.length) := World.putObj_heap_same (Array.getElem?_eq_some_iff.1 g4).1
  have hle : E.Le (E.to (E.w.putObj (E.blk l) (.map xs'.toArray xs'.length))) :=
   Env.to_le fun b hb => World.putObj_heap_other (fun e0 => hr.b.imx l _ _ hget rfl (by rw [<- e0]; exact hb))
  obtain ⟨n1, n2⟩ := xDa hr hget g4 rfl rfl (o2 := .mp es') ⟨xs', k1.mono hle, k2.mono hle, k3, hsame⟩
  exact ⟨_, k4, n1, n2⟩
 split at e <;> first | (cases e; done) | skip
 ·rename_i hfn
  refine main _ ?_ e
  intro E a xs t key el mo ko vo hr hf ht hkk h1 h2 h3 g1 g2 g3 g4
  have k0 := X.ok hf h1
  rw [hl] at k0
  obtain ⟨_, k0⟩ := lbE' k0
  have k1 := X.ok hf h2
  have k2 := X.ok hf h3
  obtain ⟨f1, f2⟩ := xHo hkk (xFg hx k1) g1 g2 hfn E.w
  refine ⟨xs ++ [{ key := a.eval ko, val := a.eval vo, born := xs.length }], ?_, ?_, xOm g3 _ _, ?_⟩
  ·rw [xOl]; simpa using g1.snoc' k1
  ·rw [xOl]; simpa using g2.snoc' k2
  ·simp [Instr.mapUpdate, k0, LK.val, run_underlying ht, MapKept.run_getObj_map g4, f1, f2, MapKept.run_setObj_map _ g4, Result.andThen, World.putObj]
 ·rename_i i v' hfn
  refine main _ ?_ e
  intro E a xs t key el mo ko vo hr hf ht hkk h1 h2 h3 g1 g2 g3 g4
  have k0 := X.ok hf h1
  rw [hl] at k0
  obtain ⟨_, k0⟩ := lbE' k0
  have k1 := X.ok hf h2
  have k2 := X.ok hf h3
  obtain ⟨f1, e0, f2, f3, f4, f5, f6⟩ := xHo hkk (xFg hx k1) g1 g2 hfn E.w
  refine ⟨xs.set i { e0 with key := a.eval ko, val := a.eval vo }, ?_, ?_, xQe g3 f3 _ _, ?_⟩
  ·rw [(xHp _ _ _).1, List.map_set]; exact g1.set' k1 i
  ·rw [(xHp _ _ _).2, List.map_set]; exact g2.set' k2 i
  ·have hs : xs.toArray[i]? = some e0 := by simpa using f3
   simp [Instr.mapUpdate, k0, LK.val, run_underlying ht, MapKept.run_getObj_map g4, f1, f2, f3, f6, MapKept.run_setObj_map _ g4, Result.andThen, World.putObj, xMi f3]
end
end Go.Vg
