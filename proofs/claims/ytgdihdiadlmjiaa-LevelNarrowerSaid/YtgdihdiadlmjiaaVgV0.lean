import Derived.DeepKeys
import Derived.WalkSpells
set_option linter.all false
namespace Go.Vg
open Go
inductive Fits : List (Option IntKind) -> List Value -> List Lit -> List Int -> Prop
 | nil : Fits [] [] [] []
 | b (b : Bool) (ks vs ls is) : Fits ks vs ls is -> Fits (none :: ks) (.bool b :: vs) (.bool b :: ls) ((bif b then 1 else 0) :: is)
 | i (k : IntKind) (n : Int) (ks vs ls is) : (Lit.int k n).wf = true -> Fits ks vs ls is -> Fits (some k :: ks) (.int k n :: vs) (.int k n :: ls) (n :: is)
theorem Fits.eq {ks : List (Option IntKind)} : ∀ {vs us : List Value} {la lb : List Lit} {ia ib : List Int}, Fits ks vs la ia -> Fits ks us lb ib -> (la = lb ↔ ia = ib) := by
 induction ks with
 | nil => intro vs us la lb ia ib h k; cases h; cases k; simp
 | cons q ks ih =>
  intro vs us la lb ia ib h k
  cases h with
  | b b _ vs ls is h =>
   cases k with
   | b b' _ vs' ls' is' k =>
    have := ih h k
    cases b <;> cases b' <;> simp [this]
  | i q n _ vs ls is hw h =>
   cases k with
   | i _ n' _ vs' ls' is' hw' k =>
    have := ih h k
    simp [this]
theorem Fits.length {ks : List (Option IntKind)} : ∀ {vs : List Value} {la : List Lit} {ia : List Int}, Fits ks vs la ia -> vs.length = ks.length := by
 induction ks with
 | nil => intro vs la ia h; cases h; rfl
 | cons q ks ih => intro vs la ia h; cases h <;> (rename_i h; simp [ih h])
theorem Fits.split {k1 k2 : List (Option IntKind)} : ∀ {vs : List Value} {la : List Lit} {ia : List Int}, Fits (k1 ++ k2) vs la ia ->
  ∃ v1 v2 l1 l2 i1 i2, vs = v1 ++ v2 /\ la = l1 ++ l2 /\ Fits k1 v1 l1 i1 /\ Fits k2 v2 l2 i2 := by
 induction k1 with
 | nil => intro vs la ia h; exact ⟨[], vs, [], la, [], ia, rfl, rfl, .nil, h⟩
 | cons q ks ih =>
  intro vs la ia h
  cases h with
  | b b _ vs ls is h =>
   obtain ⟨v1, v2, l1, l2, i1, i2, rfl, rfl, h1, h2⟩ := ih h
   exact ⟨_ :: v1, v2, _ :: l1, l2, _, i2, rfl, rfl, .b b _ _ _ _ h1, h2⟩
  | i q n _ vs ls is hw h =>
   obtain ⟨v1, v2, l1, l2, i1, i2, rfl, rfl, h1, h2⟩ := ih h
   exact ⟨_ :: v1, v2, _ :: l1, l2, _, i2, rfl, rfl, .i q n _ _ _ _ hw h1, h2⟩
def flats (P : Program) (g : TypeId -> Option (List (Option IntKind))) : List Field -> Nat -> Option (List (Option IntKind))
 | [], _ => some []
 | f :: fs, off => match g f.type with
  | some ks => match flats P g fs (off + ks.length) with
   | some r => if f.offset = off /\ ks.length = P.cellsOf f.type then some (ks ++ r) else none
   | none => none
  | none => none
def flat (P : Program) : Nat -> TypeId -> Option (List (Option IntKind))
 | 0, _ => none
 | d + 1, t => match P.underlying t with
  | some .bool => some [none]
  | some (.int q) => some [some q]
  | some (.array n e) => match flat P d e with
   | some ks => if ks.length = P.cellsOf e /\ n * ks.length = P.cellsOf t then some (List.replicate n ks).flatten else none
   | none => none
  | some (.struct fs) => match flats P (flat P d) fs.toList 0 with
   | some ks => if fs.all (·.name != "_") = true /\ ks.length = P.cellsOf t then some ks else none
   | none => none
  | _ => none
def FlatOk (P : Program) (d : Nat) : Prop := ∀ t ks, flat P d t = some ks -> ∀ vs ls is, Fits ks vs ls is -> P.keyLits d t vs = some ls
theorem xLo {P : Program} {d : Nat} (hd : FlatOk P d) : ∀ (fs : List Field) (off : Nat) (ks : List (Option IntKind)), flats P (flat P d) fs off = some ks ->
  ∀ (pre vs : List Value) (ls : List Lit) (is : List Int), pre.length = off -> Fits ks vs ls is ->
  ∃ lss, fs.mapM (fun f => P.keyLits d f.type (((pre ++ vs).drop f.offset).take (P.cellsOf f.type))) = some lss /\ lss.flatten = ls
 | [], off, ks, h, pre, vs, ls, is, hp, hf => by
  simp only [flats, Option.some.injEq] at h
  subst h; cases hf
  exact ⟨[], rfl, rfl⟩
 | f :: fs, off, ks, h, pre, vs, ls, is, hp, hf => by
  simp only [flats] at h
  split at h
  ·rename_i k1 h1
   split at h
   ·rename_i k2 h2
    split at h
    ·rename_i hc
     obtain ⟨hc1, hc2⟩ := hc
     cases h
     obtain ⟨v1, v2, l1, l2, i1, i2, rfl, rfl, g1, g2⟩ := hf.split
     obtain ⟨lss, e1, e2⟩ := xLo hd fs _ _ h2 (pre ++ v1) v2 l2 i2 (by simp [hp, g1.length]) g2
     refine ⟨l1 :: lss, ?_, by simp [e2]⟩
     have hl := g1.length
     have hs : ((pre ++ (v1 ++ v2)).drop f.offset).take (P.cellsOf f.type) = v1 := by
      rw [hc1, <- hp, List.drop_left, <- hc2, <- hl, List.take_left]
     rw [List.mapM_cons, hs, hd _ _ h1 _ _ _ g1]
     rw [List.append_assoc] at e1
     simp [e1]
    ·cases h
   ·cases h
  ·cases h
theorem xLp {P : Program} {d : Nat} {e : TypeId} {ks : List (Option IntKind)} (hd : ∀ vs ls is, Fits ks vs ls is -> P.keyLits d e vs = some ls) (hl : ks.length = P.cellsOf e) :
  ∀ (n start : Nat) (pre vs : List Value) (ls : List Lit) (is : List Int), pre.length = start * P.cellsOf e -> Fits (List.replicate n ks).flatten vs ls is ->
  ∃ lss, (List.range' start n).mapM (fun i => P.keyLits d e (((pre ++ vs).drop (i * P.cellsOf e)).take (P.cellsOf e))) = some lss /\ lss.flatten = ls
 | 0, start, pre, vs, ls, is, hp, hf => by
  simp at hf; cases hf
  exact ⟨[], rfl, rfl⟩
 | n + 1, start, pre, vs, ls, is, hp, hf => by
  rw [List.replicate_succ, List.flatten_cons] at hf
  obtain ⟨v1, v2, l1, l2, i1, i2, rfl, rfl, g1, g2⟩ := hf.split
  have hv := g1.length
  obtain ⟨lss, e1, e2⟩ := xLp hd hl n (start + 1) (pre ++ v1) v2 l2 i2 (by simp [hp, hv, hl, Nat.add_mul]) g2
  refine ⟨l1 :: lss, ?_, by simp [e2]⟩
  have hs : ((pre ++ (v1 ++ v2)).drop (start * P.cellsOf e)).take (P.cellsOf e) = v1 := by
   rw [<- hp, List.drop_left, <- hl, <- hv, List.take_left]
  rw [List.range'_succ, List.mapM_cons, hs, hd _ _ _ g1]
  rw [List.append_assoc] at e1
  simp [e1]
theorem xHv {P : Program} : ∀ d, FlatOk P d
 | 0 => by intro t ks h; simp [flat] at h
 | d + 1 => by
  intro t ks h vs ls is hf
  have ih := xHv (P := P) d
  simp only [flat] at h
  split at h
  ·rename_i hu
   cases h
   cases hf with
   | b b _ vs ls is hf => cases hf; simp [Program.keyLits, hu]
  ·rename_i q hu
   cases h
   cases hf with
   | i q n _ vs ls is hw hf => cases hf; simp [Program.keyLits, hu, hw]
  ·rename_i n e hu
   split at h
   ·rename_i k1 h1
    split at h
    ·rename_i hc
     cases h
     obtain ⟨lss, e1, e2⟩ := xLp (ih _ _ h1) hc.1 n 0 [] vs ls is (by simp) hf
     have hlen := hf.length
     have hl : vs.length = P.cellsOf t := by rw [hlen, <- hc.2]; simp
     unfold Program.keyLits
     simp only [hu, hl, if_true]
     rw [List.range_eq_range']
     simp only [List.nil_append] at e1
     rw [e1]; simp [e2]
    ·cases h
   ·cases h
  ·rename_i fs hu
   split at h
   ·rename_i k1 h1
    split at h
    ·rename_i hc
     cases h
     obtain ⟨lss, e1, e2⟩ := xLo ih fs.toList 0 _ h1 [] vs ls is rfl hf
     have hl : vs.length = P.cellsOf t := by rw [hf.length, hc.2]
     unfold Program.keyLits
     simp only [hu, hl, hc.1, and_self, if_true]
     simp only [List.nil_append] at e1
     rw [e1]; simp [e2]
    ·cases h
   ·cases h
  ·cases h
def wideT (P : Program) (t : TypeId) : Bool :=
 match P.underlying t with
 | some (.struct _) | some (.array _ _) => true
 | _ => false
def eqks (P : Program) (t : TypeId) : Option (List (Option IntKind)) :=
 match flat P 9 t with
 | some ks => if P.keyTypeAt 9 t = true /\ P.eqGuardType P.depth t = false /\ ks.length = P.cellsOf t /\ wideT P t = true then some ks else none
 | none => none
theorem xSs {P : Program} {t : TypeId} {ks : List (Option IntKind)} (h : eqks P t = some ks) (w : World) {xs ys : Array Value} {la lb : List Lit} {ia ib : List Int} (ha : Fits ks xs.toList la ia) (hb : Fits ks ys.toList lb ib) :
  (Op.equal t (.agg xs) (.agg ys)).run P w = .ok (decide (ia = ib)) w /\ P.eqGuardType P.depth t = false := by
 unfold eqks at h
 split at h
 ·rename_i ks' hk
  split at h
  ·rename_i hc
   obtain ⟨h1, h2, h3, h4⟩ := hc
   cases h
   refine ⟨?_, h2⟩
   have fo : ∀ {zs : Array Value} {l i}, Fits ks zs.toList l i -> (Value.agg zs).formed P t = true := by
    intro zs l i hz
    have := hz.length
    rw [Array.length_toList] at this
    unfold Value.formed
    unfold wideT at h4
    split at h4 <;> simp_all
   obtain ⟨r, hr, hiff⟩ := run_equalIn_deep (P := P) 9991 9 t h1 w 9 9 (.agg xs) (.agg ys) la lb (fo ha) (fo hb) (xHv 9 t ks hk _ _ _ ha) (xHv 9 t ks hk _ _ _ hb)
   rw [ha.eq hb] at hiff
   have : r = decide (ia = ib) := by
    cases r
    ·by_cases hh : ia = ib
     ·exact absurd (hiff.2 hh) (by simp)
     ·simp [hh]
    ·simp [hiff.1 rfl]
   rw [<- this]
   exact hr
  ·cases h
 ·cases h
end Go.Vg
