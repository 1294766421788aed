import Derived.Test.YtgdihdiadlmjiaaVgR4m
import Derived.Test.YtgdihdiadlmjiaaVgV6
set_option linter.all false
namespace Go.Vg
open Go
theorem xGn {w : World} {b off sz len : Nat} {vs : Nat -> List Value} (hl : ∀ i, i < len -> (vs i).length = sz) (hs : 0 < sz)
  (hc : ∀ i j v, i < len -> (vs i)[j]? = some v -> w.cell? ⟨b, off + (i * sz + j), none⟩ = some v) :
  ∀ j u, ((List.range len).flatMap vs)[j]? = some u -> w.cell? ((⟨b, off, none⟩ : Addr).add j) = some u := by
 intro j u hj
 have hlen := xAr vs sz len hl
 have hlt := (List.getElem?_eq_some_iff.1 hj).1
 rw [hlen] at hlt
 have hi : j / sz < len := Nat.div_lt_of_lt_mul (by rw [Nat.mul_comm]; exact hlt)
 have hm : j % sz < (vs (j / sz)).length := by rw [hl _ hi]; exact Nat.mod_lt _ hs
 have hj2 : j / sz * sz + j % sz = j := by rw [Nat.mul_comm]; exact Nat.div_add_mod j sz
 have h1 : (vs (j / sz))[j % sz]? = some (vs (j / sz))[j % sz] := by simp [hm]
 have h2 := xCf vs sz len _ _ _ hl hi h1
 rw [hj2, hj] at h2
 have h3 := hc _ _ _ hi h1
 rw [hj2] at h3
 have hadd : (⟨b, off, none⟩ : Addr).add j = ⟨b, off + j, none⟩ := by unfold Addr.add; split <;> simp_all
 rw [hadd, h3, h2]
section
variable {P : Program}
theorem Later.refl (w : World) : Later w w := ⟨fun _ _ => rfl, fun _ => rfl, Nat.le_refl _, rfl, rfl, rfl⟩
theorem xQs (w : World) (t ty e : TypeId) (i : TypeInfo) (ht : P.underlying t = some (.slice e)) (hi : P.info? e = some i) (b : Option Addr) (n : Nat) (a : Option Addr) (c : Nat) :
  (Builtin.append_ #[t, t] ty #[.slice b n n, .slice a 0 c]).run P w = .ok (.slice b n n) w := by
 have hf : ∀ x : Addr, (Builtin.firstCells i.size 0 (.slice (some x) 0 c)).run P w = .ok #[] w := fun x => run_firstCells_some (P := P) w i.size 0 x 0 c [] (by simp) (by simp)
 cases b <;> cases a <;> first
  | simp [Builtin.append_, run_underlying ht, sizeOf, typeInfo, hi, Builtin.lenOf, Builtin.firstCells, storeCells]; done
  | simp [Builtin.append_, run_underlying ht, sizeOf, typeInfo, hi, Builtin.lenOf, hf, storeCells]
theorem xLz (w : World) (im : Nat -> Prop) (him : ∀ b, im b -> b < w.heap.size) {t ty e : TypeId} {i : TypeInfo} {z : Value} (ht : P.underlying t = some (.slice e)) (hi : P.info? e = some i) (hz : i.zero = some z)
  (hzs : z.cells.size = i.size) (hsz : 0 < i.size) {len len2 : Nat} {f g h : Nat -> List SV} {v1 v2 : Value} (h1 : Cv w im (.clipr i.size len f) v1) (h2 : Cv w im (.rd i.size len2 g) v2)
  (hpos : 0 < len2) (h63 : len + len2 <= 9223372036854775807) (hbytes : (len + len2) * i.bytes <= 140737488355328) (hh1 : ∀ j, j < len -> h j = f j) (hh2 : ∀ j, j < len2 -> h (len + j) = g j) :
  ∃ v w' im', (Builtin.append_ #[t, t] ty #[v1, v2]).run P w = .ok v w' /\ Cv w' im' (.rd i.size (len + len2) h) v /\ (∀ b, im b -> im' b) /\ (∀ b, im' b -> im b \/ w.heap.size <= b) /\ (∀ b, im' b -> b < w'.heap.size) /\ Later w w' := by
 cases h2 with
 | rdNil => omega
 | rdE => omega
 | rd _ _ _ b2 off2 cap2 vs2 hb2 hv2 hl2 hc2 hcap2 =>
 have hnews := xGn hl2 hsz hc2
 have hln := xAr vs2 i.size len2 hl2
 have fin : ∀ (vs1 : Nat -> List Value) (cap : Nat) (zs : Array Value), (∀ j, j < len -> Cvs w im (f j) (vs1 j)) -> (∀ j, j < len -> (vs1 j).length = i.size) -> len + len2 <= cap ->
   Cv (w.drew.alloc (.cells (((List.range len).flatMap vs1).toArray ++ ((List.range len2).flatMap vs2).toArray ++ zs) e)) (fun b => im b \/ b = w.heap.size) (.rd i.size (len + len2) h) (.slice (some ⟨w.heap.size, 0, none⟩) (len + len2) cap) /\
   Later w (w.drew.alloc (.cells (((List.range len).flatMap vs1).toArray ++ ((List.range len2).flatMap vs2).toArray ++ zs) e)) /\
   (∀ b, (im b \/ b = w.heap.size) -> b < (w.drew.alloc (.cells (((List.range len).flatMap vs1).toArray ++ ((List.range len2).flatMap vs2).toArray ++ zs) e)).heap.size) := by
  intro vs1 cap zs hv1 hl1 hcap
  have hlater : Later w (w.drew.alloc (.cells (((List.range len).flatMap vs1).toArray ++ ((List.range len2).flatMap vs2).toArray ++ zs) e)) :=
   ⟨fun b hb => heap_alloc_old w.drew _ hb, fun b => by rw [RowKit.frozen?_alloc_cells]; rfl, by simp, rfl, rfl, rfl⟩
  have hst : Stays w (w.drew.alloc (.cells (((List.range len).flatMap vs1).toArray ++ ((List.range len2).flatMap vs2).toArray ++ zs) e)) im (fun b => im b \/ b = w.heap.size) :=
   ⟨fun b hb => .inl hb, fun b hb => hlater.heap b (him b hb)⟩
  have hlo := xAr vs1 i.size len hl1
  refine ⟨?_, hlater, fun b hb => ?_⟩
  ·refine .rd i.size (len + len2) h w.heap.size 0 cap (fun j => if j < len then vs1 j else vs2 (j - len)) (.inr rfl) (fun j hj => ?_) (fun j hj => ?_) (fun j k v hj hk => ?_) hcap
   ·by_cases hjl : j < len
    ·simp only [hjl, if_true]; rw [hh1 j hjl]; exact (hv1 j hjl).mono hst
    ·simp only [hjl, if_false]
     have := hh2 (j - len) (by omega)
     rw [show len + (j - len) = j by omega] at this
     rw [this]; exact (hv2 _ (by omega)).mono hst
   ·by_cases hjl : j < len
    ·simp only [hjl, if_true]; exact hl1 j hjl
    ·simp only [hjl, if_false]; exact hl2 _ (by omega)
   ·have hw : (w.drew.alloc (.cells (((List.range len).flatMap vs1).toArray ++ ((List.range len2).flatMap vs2).toArray ++ zs) e)).heap[w.heap.size]? = some (.cells (((List.range len).flatMap vs1) ++ ((List.range len2).flatMap vs2) ++ zs.toList).toArray e (0, 0)) := by
     have := heap_alloc_new w.drew (.cells (((List.range len).flatMap vs1).toArray ++ ((List.range len2).flatMap vs2).toArray ++ zs) e)
     have e1 : (((List.range len).flatMap vs1) ++ ((List.range len2).flatMap vs2) ++ zs.toList).toArray = ((List.range len).flatMap vs1).toArray ++ ((List.range len2).flatMap vs2).toArray ++ zs := by
      apply Array.ext'; simp
     rw [e1]; exact this
    rw [Nat.zero_add]
    refine xAf hw _ _ ?_
    by_cases hjl : j < len
    ·simp only [hjl, if_true] at hk
     have h3 := xCf vs1 i.size len j k v hl1 hjl hk
     rw [List.append_assoc, List.getElem?_append_left (List.getElem?_eq_some_iff.1 h3).1]; exact h3
    ·simp only [hjl, if_false] at hk
     have h3 := xCf vs2 i.size len2 (j - len) k v hl2 (by omega) hk
     have h4 := (List.getElem?_eq_some_iff.1 h3).1
     have h5 : j * i.size = len * i.size + (j - len) * i.size := by rw [<- Nat.add_mul, show len + (j - len) = j by omega]
     rw [List.append_assoc, List.getElem?_append_right (by rw [hlo]; omega), List.getElem?_append_left (by rw [hlo]; omega), hlo, show j * i.size + k - len * i.size = (j - len) * i.size + k by omega]; exact h3
  ·rcases hb with hb | rfl
   ·exact Nat.lt_of_lt_of_le (him b hb) hlater.sz
   ·simp
 cases h1 with
 | cliprNil =>
  obtain ⟨f1, f2, f3⟩ := fin (fun _ => []) (grownCap w len2 0 e) (Builtin.zeroCells z.cells (grownCap w len2 0 e - len2)) (fun j hj => by omega) (fun j hj => by omega) (by have := grownCap_ge w len2 0 e; omega)
  have hr := run_append_nil (P := P) w t ty e i z ht hi hz ⟨b2, off2, none⟩ len2 cap2 _ hln hnews hpos (by omega) (by simp at hbytes; omega)
  simp only [List.range_zero, List.flatMap_nil, Array.empty_append, Nat.zero_add] at f1 f2 f3 ⊢
  exact ⟨_, _, _, hr, f1, fun b hb => .inl hb, fun b hb => hb.imp id (fun h => by omega), f3, f2⟩
 | cliprE _ _ a =>
  obtain ⟨f1, f2, f3⟩ := fin (fun _ => []) (grownCap w (0 + len2) 0 e) (Builtin.zeroCells z.cells (grownCap w (0 + len2) 0 e - (0 + len2))) (fun j hj => by omega) (fun j hj => by omega) (grownCap_ge w _ _ e)
  have hr := run_append_grow (P := P) w t ty e i z ht hi hz a 0 0 [] (by simp) (fun j v hj => by simp at hj) ⟨b2, off2, none⟩ len2 cap2 _ hln hnews (by omega) (by omega) (growslice_fits (by omega) hbytes)
  simp only [List.range_zero, List.flatMap_nil] at f1 f2 f3
  exact ⟨_, _, _, hr, f1, fun b hb => .inl hb, fun b hb => hb.imp id (fun h => by omega), f3, f2⟩
 | clipr _ _ _ b1 off1 vs1 hb1 hv1 hl1 hc1 =>
  have holds := xGn hl1 hsz hc1
  have hlo := xAr vs1 i.size len hl1
  obtain ⟨f1, f2, f3⟩ := fin vs1 (grownCap w (len + len2) len e) (Builtin.zeroCells z.cells (grownCap w (len + len2) len e - (len + len2))) hv1 hl1 (grownCap_ge w _ _ e)
  have hr := run_append_grow (P := P) w t ty e i z ht hi hz ⟨b1, off1, none⟩ len len _ hlo holds ⟨b2, off2, none⟩ len2 cap2 _ hln hnews (by omega) (by omega) (growslice_fits (by omega) hbytes)
  exact ⟨_, _, _, hr, f1, fun b hb => .inl hb, fun b hb => hb.imp id (fun h => by omega), f3, f2⟩
theorem xBe {E : Env} {hp : List Blk} (hr : RHp E hp) {w' : World} {im' : Nat -> Prop} (i1 : ∀ b, E.im b -> im' b) (i2 : ∀ b, im' b -> E.im b \/ E.w.heap.size <= b) (i3 : ∀ b, im' b -> b < w'.heap.size) (hl : Later E.w w') :
  E.Le { E with w := w', im := im' } /\ RHp { E with w := w', im := im' } hp := by
 have hle : E.Le { E with w := w', im := im' } :=
  ⟨Nat.le_refl _, fun _ h => h, fun _ _ => rfl, fun _ _ => rfl, fun _ _ h => h, i1, fun b hb => hl.heap b (hr.imlt hb), rfl, rfl, rfl, rfl, rfl, rfl, fun _ _ h => h⟩
 refine ⟨hle, ⟨⟨fun b hb hm => ?_, fun a => (hl.fz a).trans (hr.g.fz a), Nat.le_trans hr.g.sz hl.sz, hl.os.trans hr.g.os, hl.tape.trans hr.g.tape, hl.output.trans hr.g.output, i3, fun b hb => ?_⟩,
  ⟨hr.b.n, hr.b.rs, fun l b hb => ?_, hr.b.live, fun l b g hb hg hi => ?_, hr.b.base, hr.b.dj⟩⟩⟩
 ·exact (hl.heap b (Nat.lt_of_lt_of_le hb hr.g.sz)).trans (hr.g.fr b hb hm)
 ·rcases i2 b hb with h1 | h1
  ·exact hr.g.im0 b h1
  ·exact .inr (.inl (Nat.le_trans hr.g.sz h1))
 ·exact (hr.b.blk l b hb).keep hle (hr.has hb) fun g hg => hl.heap g ((hr.b.blk l b hb).lt hg)
 ·rcases i2 g hi with h1 | h1
  ·exact hr.b.imx l b g hb hg h1
  ·have := (hr.b.blk l b hb).lt hg; omega
def appF (len : Nat) (f g : Nat -> List SV) (j : Nat) : List SV := bif Nat.blt j len then f j else g (j - len)
def appR (sz bytes sz1 len : Nat) (f : Nat -> List SV) (sz2 len2 : Nat) (g : Nat -> List SV) : Option SV :=
 match Nat.beq sz1 sz && (Nat.beq sz2 sz && (Nat.blt 0 sz && small (len + len2) bytes)) with
 | true => match Nat.blt 0 len2 with
  | true => some (.rd sz (len + len2) (appF len f g))
  | false => some (.rd sz len f)
 | false => none
def appI (sz bytes : Nat) (k : IntKind) (xs : List Int) (k' : IntKind) (ys : List Int) : Option SV :=
 match ikq k k' && (Nat.beq sz 1 && small (xs.length + ys.length) bytes) with
 | true => match ys with
  | [] => none
  | _ => some (.ints k (xs ++ ys))
 | false => none
def appV (sz bytes : Nat) (x y : SV) : Option SV :=
 match x, y with
 | .clipr sz1 len f, .rd sz2 len2 g => appR sz bytes sz1 len f sz2 len2 g
 | .clipr sz1 len f, .clipr sz2 len2 g => appR sz bytes sz1 len f sz2 len2 g
 | .lit (.slice none 0 0), .rd sz2 len2 g => appR sz bytes sz2 0 (fun _ => []) sz2 len2 g
 | .lit (.slice none 0 0), .clipr sz2 len2 g => appR sz bytes sz2 0 (fun _ => []) sz2 len2 g
 | .clip k xs, .ints k' ys => appI sz bytes k xs k' ys
 | .lit (.slice none 0 0), .ints k' ys => appI sz bytes k' [] k' ys
 | .clipr _ 0 _, .ints k' ys => appI sz bytes k' [] k' ys
 | _, _ => none
theorem xIc {E : Env} {hp : List Blk} (hr : RHp E hp) {t ty e : TypeId} {i : TypeInfo} {z : Value} (ht : P.underlying t = some (.slice e)) (hi : P.info? e = some i) (hz : i.zero = some z) (hzs : z.cells.size = i.size)
    {sz1 len sz2 len2 : Nat} {f g : Nat -> List SV} {x : SV} {v1 v2 : Value} (ha : appR i.size i.bytes sz1 len f sz2 len2 g = some x) (h1 : Cv E.w E.im (.clipr sz1 len f) v1) (h2 : Cv E.w E.im (.rd sz2 len2 g) v2) :
    ∃ v E', (Builtin.append_ #[t, t] ty #[v1, v2]).run P E.w = .ok v E'.w /\ E.Le E' /\ RHp E' hp /\ Rv E' x v := by
  unfold appR at ha
  split at ha <;> first | (cases ha; done) | skip
  rename_i hc
  simp only [Bool.and_eq_true] at hc
  obtain ⟨c1, c2, c3, c4⟩ := hc
  obtain ⟨c5, c6⟩ := xAt c4
  have c1 := xAc c1
  have c2 := xAc c2
  subst c1
  subst c2
  have c3 : 0 < i.size := by simpa [Nat.blt_eq] using c3
  split at ha
  . rename_i hp2
    cases ha
    have hpos : 0 < len2 := by simpa [Nat.blt_eq] using hp2
    obtain ⟨v, w', im', r1, r2, r3, r4, r5, r6⟩ := xLz (P := P) E.w E.im (fun b hb => hr.imlt hb) ht hi hz hzs c3 (h := appF len f g) (ty := ty) h1 h2 hpos c6 c5
      (fun j hj => by have : Nat.blt j len = true := by simpa [Nat.blt_eq] using hj
                      simp [appF, this])
      (fun j hj => by have : Nat.blt (len + j) len = false := by rw [Bool.eq_false_iff]; simp [Nat.blt_eq]
                      simp [appF, this])
    obtain ⟨n1, n2⟩ := xBe hr r3 r4 r5 r6
    exact ⟨v, _, r1, n1, n2, r2.rv⟩
  . rename_i hp2
    cases ha
    have hz2 : len2 = 0 := by
      by_cases h0 : 0 < len2
      . rw [show Nat.blt 0 len2 = true by simpa [Nat.blt_eq] using h0] at hp2; cases hp2
      . omega
    subst hz2
    refine ⟨v1, E, ?_, .refl E, hr, h1.unclipr.rv⟩
    cases h1 <;> cases h2 <;> exact xQs E.w t ty e i ht hi _ _ _ _
def asR (k : IntKind) (xs : List Int) (i : Nat) : List SV := [.int k (xs.getD i 0)]
theorem xMo {w : World} {im : Nat -> Prop} {k : IntKind} {xs : List Int} {v : Value} (h : Cv w im (.clip k xs) v) : Cv w im (.clipr 1 xs.length (asR k xs)) v := by
 cases h with
 | clipNil => exact .cliprNil _ _
 | clipE => exact .cliprE _ _ _
 | clip _ _ b off hb hc =>
  refine .clipr 1 xs.length _ b off (fun i => [.int k (xs.getD i 0)]) hb (fun i _ => .cons _ _ _ _ (.int _ _) .nil) (fun i _ => rfl) (fun i j v hi hv => ?_)
  cases j with
  | zero => simp at hv; subst hv; have := hc i xs[i] (by simp [hi]); simpa [hi] using this
  | succ j => simp at hv
theorem xTj {w : World} {im : Nat -> Prop} {k : IntKind} {xs : List Int} {v : Value} (h : Cv w im (.ints k xs) v) : Cv w im (.rd 1 xs.length (asR k xs)) v := by
 cases h with
 | intsNil => exact .rdNil _ _
 | intsE => exact .rdE _ _ _ _
 | ints _ _ b off cap hb hc hcap =>
  refine .rd 1 xs.length _ b off cap (fun i => [.int k (xs.getD i 0)]) hb (fun i _ => .cons _ _ _ _ (.int _ _) .nil) (fun i _ => rfl) (fun i j v hi hv => ?_) hcap
  cases j with
  | zero => simp at hv; subst hv; have := hc i xs[i] (by simp [hi]); simpa [hi] using this
  | succ j => simp at hv
theorem xTk {w : World} {im : Nat -> Prop} {k : IntKind} {xs : List Int} {n : Nat} {v : Value} (hn : n = xs.length) (h : Cv w im (.rd 1 n (asR k xs)) v) : Cv w im (.ints k xs) v := by
 subst hn
 generalize hg : asR k xs = f at h
 generalize hm : xs.length = m at h
 cases h with
 | rdNil => have := List.eq_nil_of_length_eq_zero hm; subst this; exact .intsNil k
 | rdE => have := List.eq_nil_of_length_eq_zero hm; subst this; exact .intsE _ _ _
 | rd _ _ _ b off cap vs hb h1 h2 h3 h4 =>
  subst hm
  subst hg
  refine .ints k xs b off cap hb (fun j x hx => ?_) h4
  have hj : j < xs.length := (List.getElem?_eq_some_iff.1 hx).1
  have h5 := h1 j hj
  have h6 : vs j = [.int k (xs.getD j 0)] := by
   unfold asR at h5
   generalize vs j = u at h5
   cases h5 with
   | cons _ v0 _ vs0 ha hb => cases hb; cases ha; rfl
  have := h3 j 0 (.int k (xs.getD j 0)) hj (by rw [h6]; rfl)
  have e : xs.getD j 0 = x := by rw [List.getD_eq_getElem?_getD, hx]; rfl
  rw [e] at this
  simpa using this
theorem xKg {E : Env} {hp : List Blk} (hr : RHp E hp) {t ty e : TypeId} {i : TypeInfo} {z : Value} (ht : P.underlying t = some (.slice e)) (hi : P.info? e = some i) (hz : i.zero = some z) (hzs : z.cells.size = i.size)
  {k k' : IntKind} {xs ys : List Int} {x : SV} {v1 v2 : Value} (ha : appI i.size i.bytes k xs k' ys = some x) (h1 : Cv E.w E.im (.clipr 1 xs.length (asR k xs)) v1) (h2 : Cv E.w E.im (.ints k' ys) v2) :
  ∃ v E', (Builtin.append_ #[t, t] ty #[v1, v2]).run P E.w = .ok v E'.w /\ E.Le E' /\ RHp E' hp /\ Rv E' x v := by
 unfold appI at ha
 split at ha <;> first | (cases ha; done) | skip
 rename_i hc
 simp only [Bool.and_eq_true] at hc
 obtain ⟨c1, c2, c3⟩ := hc
 obtain ⟨c5, c6⟩ := xAt c3
 have c1 := xBt c1
 have c2 := xAc c2
 subst c1
 have hpos : 0 < ys.length := by
  cases ys with
  | nil => simp at ha
  | cons y ys => simp
 have hx : x = .ints k (xs ++ ys) := by
  cases ys with
  | nil => simp at ha
  | cons y ys => simpa using ha.symm
 subst hx
 have h2' := xTj h2
 rw [<- c2] at h1 h2'
 obtain ⟨v, w', im', r1, r2, r3, r4, r5, r6⟩ := xLz (P := P) E.w E.im (fun b hb => hr.imlt hb) ht hi hz hzs (by omega) (h := asR k (xs ++ ys)) (ty := ty) h1 h2' hpos c6 c5
  (fun j hj => by unfold asR; rw [List.getD_eq_getElem?_getD, List.getD_eq_getElem?_getD, List.getElem?_append_left hj])
  (fun j hj => by unfold asR; rw [List.getD_eq_getElem?_getD, List.getD_eq_getElem?_getD, List.getElem?_append_right (by omega)]; simp)
 obtain ⟨n1, n2⟩ := xBe hr r3 r4 r5 r6
 rw [c2] at r2
 exact ⟨v, _, r1, n1, n2, (xTk (by simp) r2).rv⟩
theorem xTl {E : Env} {hp : List Blk} (hr : RHp E hp) {t ty e : TypeId} {i : TypeInfo} {z : Value} (ht : P.underlying t = some (.slice e)) (hi : P.info? e = some i) (hz : i.zero = some z) (hzs : z.cells.size = i.size)
  {x y r : SV} {v1 v2 : Value} (ha : appV i.size i.bytes x y = some r) (h1 : Rv E x v1) (h2 : Rv E y v2) :
  ∃ v E', (Builtin.append_ #[t, t] ty #[v1, v2]).run P E.w = .ok v E'.w /\ E.Le E' /\ RHp E' hp /\ Rv E' r v := by
 unfold appV at ha
 split at ha <;> first | (cases ha; done) | skip
 ·exact xIc hr ht hi hz hzs ha h1.cliprE (xBy 0 rfl h2)
 ·exact xIc hr ht hi hz hzs ha h1.cliprE h2.cliprE.unclipr
 ·have := h1.litE; subst this
  exact xIc hr ht hi hz hzs ha (.cliprNil _ _) (xBy 0 rfl h2)
 ·have := h1.litE; subst this
  exact xIc hr ht hi hz hzs ha (.cliprNil _ _) h2.cliprE.unclipr
 ·exact xKg hr ht hi hz hzs ha (xMo h1.clipE) (xBy 0 rfl h2)
 ·have := h1.litE; subst this
  exact xKg hr ht hi hz hzs ha (.cliprNil _ _) (xBy 0 rfl h2)
 ·refine xKg hr ht hi hz hzs ha ?_ (xBy 0 rfl h2)
  have h3 := h1.cliprE
  cases h3 with
  | cliprNil => exact .cliprNil _ _
  | cliprE => exact .cliprE _ _ _
  | clipr _ _ _ b off vs hb _ _ _ => exact .clipr 1 0 _ b off (fun _ => []) hb (fun i hi => by omega) (fun i hi => by omega) (fun i j v hi => by omega)
end
def rowR (cs : List SV) (len : Nat) : Option SV :=
 match Nat.beq (len * (ll cs / len)) (ll cs) with
 | true => some (.rd (ll cs / len) len (rowOf (ll cs / len) cs))
 | false => none
def rowB (cs : List SV) (len : Nat) : Option SV :=
 match Nat.beq (ll cs) len with
 | true => match toInts cs with
  | some (k, xs) => some (.ints k xs)
  | none => rowR cs len
 | false => rowR cs len
theorem xDx {w : World} {im : Nat -> Prop} {cs : List SV} {vs : List Value} {b len : Nat} {t : TypeId} {y : SV} (hv : Cvs w im cs vs) (hb : im b) (hw : w.heap[b]? = some (.cells vs.toArray t (0, 0))) (e : rowB cs len = some y) :
  Cv w im y (.slice (some ⟨b, 0, none⟩) len len) := by
 have rowr : rowR cs len = some y -> Cv w im y (.slice (some ⟨b, 0, none⟩) len len) := by
  intro e
  unfold rowR at e
  split at e <;> first | (cases e; done) | skip
  rename_i hlen
  cases e
  have hlen := xAc hlen
  exact xHi hv hb hw (by rw [hlen, xFd])
 unfold rowB at e
 split at e
 ·rename_i hlen
  split at e
  ·rename_i k xs hxs
   cases e
   have e1 := xCn hv hxs
   subst e1
   have : xs.length = len := by
    have := hv.length
    have hlen := xAc hlen
    rw [xFd] at hlen
    simp at this; omega
   subst this
   exact .ints k xs b 0 _ hb (fun j x hx => by rw [Nat.zero_add]; exact xAf hw j _ (by simp [hx])) (Nat.le_refl _)
  ·exact rowr e
 ·exact rowr e
def bslC {α : Type} (h : HT) (l len : Nat) (k : SV -> HT -> Option α) : Option α :=
 match h.get l with
 | .box t cs => match clo.clos 8 cs with
  | true => match rowB cs len with
   | some y => h.set l (.fbox t cs) fun h => k y h
   | none => none
  | false => none
 | .fbox t cs => match clo.clos 8 cs with
  | true => match rowB cs len with
   | some y => k y h
   | none => none
  | false => none
 | _ => none
theorem xKh {α : Type} {h : HT} {hp : List Blk} (r : HRel h hp) {l len : Nat} {k : SV -> HT -> Option α} {res : α} (e : bslC h l len k = some res) :
  ∃ y h' hp', HRel h' hp' /\ Frm h h' /\ k y h' = some res /\ ∀ E v, RHp E hp -> Rv E (.bsl l len) v -> ∃ E', Closed E E' /\ RHp E' hp' /\ Cv E'.w E'.im y v := by
 unfold bslC at e
 rw [r.g] at e
 split at e <;> first | (cases e; done) | skip
 ·rename_i t cs hg
  split at e <;> first | (cases e; done) | skip
  rename_i hcl
  split at e <;> first | (cases e; done) | skip
  rename_i y hy
  rw [HT.set_eq] at e
  have hl := r.lt (b := .box t cs) (by rw [r.g]; exact hg) (by simp)
  refine ⟨y, _, _, r.set (.fbox t cs) hl, .set r.f _ hl, e, fun E v hr hv => ?_⟩
  obtain ⟨_, rfl⟩ := hv.bslE
  have h1 := xAa hg (by simp)
  obtain ⟨vs, h2, h3⟩ := hr.b.blk l _ h1
  have v1 := xAj 8 hcl h2
  obtain ⟨E2, c2, hi, hr2⟩ := xAo hr (newb := .fbox t cs) h1 (by simp)
   (fun E' hc hi => ⟨by rw [hc.blk]; exact hi _ rfl, vs, (v1.mono hc.stays).rv, by rw [hc.w, hc.blk]; exact h3⟩) (fun E' => rfl)
  exact ⟨E2, c2, hr2, xDx (v1.mono c2.stays) (hi _ rfl) (by rw [c2.w]; exact h3) hy⟩
 ·rename_i t cs hg
  split at e <;> first | (cases e; done) | skip
  rename_i hcl
  split at e <;> first | (cases e; done) | skip
  rename_i y hy
  refine ⟨y, _, _, r, .refl _, e, fun E v hr hv => ?_⟩
  obtain ⟨_, rfl⟩ := hv.bslE
  obtain ⟨h0, vs, h2, h3⟩ := hr.b.blk l _ (xAa hg (by simp))
  exact ⟨E, .refl E, hr, xDx (xAj 8 hcl h2) h0 h3 hy⟩
def slcC {α : Type} (fr : List SV) (h : HT) (x : SV) (lo hi mx : Option X) (sz : Nat) (k : SV -> HT -> Option α) : Option α :=
 match x with
 | .bsl l len => match bnd fr lo, bnd fr hi, bnd fr mx with
  | some lo, some hi, some mx => bslC h l len fun y h => match slvB sz y lo hi mx with
   | some z => k z h
   | none => none
  | _, _, _ => none
 | _ => none
def isBsl : SV -> Bool
 | .bsl .. => true
 | _ => false
def appQ (g : Nat -> Blk) (x y : SV) : Bool :=
 match x, y with
 | .lit (.slice none 0 0), .bsl l2 m => match Nat.beq m 1 with
  | true => match g l2 with
   | .box _ [.int _ _] => false
   | .box _ _ => true
   | _ => false
  | false => false
 | .clipr _ 0 _, .own l => match g l with
  | .fz (.ints _ _) => true
  | _ => false
 | .clipr _ 0 _, .rd _ len2 _ => Nat.blt 0 len2
 | .clipr _ 0 _, .ints _ ys => Nat.blt 0 ys.length
 | .lit (.slice none 0 0), .rd _ len2 _ => Nat.blt 0 len2
 | .lit (.slice none 0 0), .ints _ ys => Nat.blt 0 ys.length
 | _, _ => false
def appN {α : Type} (h : HT) (x y : SV) (e sz bytes : Nat) (k : SV -> HT -> Option α) : Option α :=
 match x, y with
 | .lit (.slice none 0 0), .bsl l2 m => match h.get l2 with
  | .box _ cs => match Nat.beq m 1 && (Nat.beq (ll cs) sz && (allOne cs && (clo.clos 8 cs && (Nat.blt 0 sz && small 1 bytes)))) with
   | true => h.push (.orw e sz 1 (fun _ => cs)) fun h' => k (.own h.n) h'
   | false => none
  | _ => none
 | .clipr _ 0 _, .own l => match h.get l with
  | .fz (.ints kk xs) => match Nat.blt 0 xs.length && (Nat.beq sz 1 && small xs.length bytes) with
   | true => h.push (.oi kk e xs) fun h' => k (.own h.n) h'
   | false => none
  | _ => none
 | .clipr _ 0 _, .rd sz2 len2 g => match Nat.blt 0 len2 && (Nat.beq sz2 sz && small len2 bytes) with
  | true => h.push (.orw e sz len2 g) fun h' => k (.own h.n) h'
  | false => none
 | .clipr _ 0 _, .ints kk xs => match Nat.blt 0 xs.length && (Nat.beq sz 1 && small xs.length bytes) with
  | true => h.push (.oi kk e xs) fun h' => k (.own h.n) h'
  | false => none
 | .lit (.slice none 0 0), .rd sz2 len2 g => match Nat.blt 0 len2 && (Nat.beq sz2 sz && small len2 bytes) with
  | true => h.push (.orw e sz len2 g) fun h' => k (.own h.n) h'
  | false => none
 | .lit (.slice none 0 0), .ints kk xs => match Nat.blt 0 xs.length && (Nat.beq sz 1 && small xs.length bytes) with
  | true => h.push (.oi kk e xs) fun h' => k (.own h.n) h'
  | false => none
 | _, _ => none
theorem xPk {P : Program} {α : Type} {h : HT} {hp : List Blk} (r : HRel h hp) {x : SV} {sz2 len2 : Nat} {g : Nat -> List SV} {e sz bytes : Nat} {k : SV -> HT -> Option α} {res : α}
  (ev : (match Nat.blt 0 len2 && (Nat.beq sz2 sz && small len2 bytes) with
  | true => h.push (.orw e sz len2 g) fun h' => k (.own h.n) h'
  | false => none) = some res) (hx : ∀ (E : Env) v1, Rv E x v1 -> v1 = .slice none 0 0 \/ ∃ b, v1 = .slice (some b) 0 0) :
  ∃ v h' hp', HRel h' hp' /\ Frm h h' /\ k v h' = some res /\ ∀ (E : Env) (t ty : TypeId) (i : TypeInfo) (z v1 v2 : Value), RHp E hp -> P.underlying t = some (.slice e) -> P.info? e = some i -> i.zero = some z -> z.cells.size = i.size -> sz = i.size -> bytes = i.bytes ->
   Rv E x v1 -> Rv E (.rd sz2 len2 g) v2 -> ∃ u E', (Builtin.append_ #[t, t] ty #[v1, v2]).run P E.w = .ok u E'.w /\ E.Le E' /\ RHp E' hp' /\ Rv E' v u := by
 split at ev <;> first | (cases ev; done) | skip
 rename_i hc
 simp only [Bool.and_eq_true] at hc
 obtain ⟨c1, c2, c3⟩ := hc
 obtain ⟨c4, c5⟩ := xAt c3
 have c2 := xAc c2
 subst c2
 rw [HT.push_eq] at ev
 refine ⟨_, _, _, r.push _, .push r.f _, ev, ?_⟩
 intro E t ty i z v1 v2 hr ht hi hz hzs h1 h2 k1 k2
 subst h1
 subst h2
 obtain ⟨v', E', g1, g2, g3, g4⟩ := xIx (P := P) (ty := ty) hr ht hi hz hzs (by simpa [Nat.blt_eq] using c1) c4 c5 (hx E v1 k1) k2
 exact ⟨v', E', g1, g2, g3, by rw [r.n]; exact g4⟩
theorem xJi {P : Program} {α : Type} {h : HT} {hp : List Blk} (r : HRel h hp) {x : SV} {kk : IntKind} {xs : List Int} {e sz bytes : Nat} {k : SV -> HT -> Option α} {res : α}
  (ev : (match Nat.blt 0 xs.length && (Nat.beq sz 1 && small xs.length bytes) with
  | true => h.push (.oi kk e xs) fun h' => k (.own h.n) h'
  | false => none) = some res) (hx : ∀ (E : Env) v1, Rv E x v1 -> v1 = .slice none 0 0 \/ ∃ b, v1 = .slice (some b) 0 0) :
  ∃ v h' hp', HRel h' hp' /\ Frm h h' /\ k v h' = some res /\ ∀ (E : Env) (t ty : TypeId) (i : TypeInfo) (z v1 v2 : Value), RHp E hp -> P.underlying t = some (.slice e) -> P.info? e = some i -> i.zero = some z -> z.cells.size = i.size -> sz = i.size -> bytes = i.bytes ->
   Rv E x v1 -> Rv E (.ints kk xs) v2 -> ∃ u E', (Builtin.append_ #[t, t] ty #[v1, v2]).run P E.w = .ok u E'.w /\ E.Le E' /\ RHp E' hp' /\ Rv E' v u := by
 split at ev <;> first | (cases ev; done) | skip
 rename_i hc
 simp only [Bool.and_eq_true] at hc
 obtain ⟨c1, c2, c3⟩ := hc
 obtain ⟨c4, c5⟩ := xAt c3
 rw [HT.push_eq] at ev
 refine ⟨_, _, _, r.push _, .push r.f _, ev, ?_⟩
 intro E t ty i z v1 v2 hr ht hi hz hzs h1 h2 k1 k2
 subst h1
 subst h2
 obtain ⟨v', E', g1, g2, g3, g4⟩ := xIw (P := P) (ty := ty) hr ht hi hz hzs (by simpa [Nat.blt_eq] using c1) (xAc c2) c4 c5 (hx E v1 k1) k2
 exact ⟨v', E', g1, g2, g3, by rw [r.n]; exact g4⟩
theorem xPl {P : Program} {α : Type} {h : HT} {hp : List Blk} (r : HRel h hp) {x y : SV} {e sz bytes : Nat} {k : SV -> HT -> Option α} {res : α} (ev : appN h x y e sz bytes k = some res) :
    ∃ v h' hp', HRel h' hp' /\ Frm h h' /\ k v h' = some res /\ ∀ (E : Env) (t ty : TypeId) (i : TypeInfo) (z v1 v2 : Value), RHp E hp -> P.underlying t = some (.slice e) -> P.info? e = some i -> i.zero = some z -> z.cells.size = i.size -> sz = i.size -> bytes = i.bytes ->
      Rv E x v1 -> Rv E y v2 -> ∃ u E', (Builtin.append_ #[t, t] ty #[v1, v2]).run P E.w = .ok u E'.w /\ E.Le E' /\ RHp E' hp' /\ Rv E' v u := by
  unfold appN at ev
  split at ev <;> first | (cases ev; done) | skip
  rotate_left
  rotate_left
  . rename_i sz' f' sz2 len2 g
    exact xPk r ev fun E v1 k1 => by
      have k1 := k1.cliprE
      cases k1 with
      | cliprNil => exact .inl rfl
      | cliprE => exact .inr ⟨_, rfl⟩
      | clipr => exact .inr ⟨_, rfl⟩
  . rename_i sz' f' kk xs
    exact xJi r ev fun E v1 k1 => by
      have k1 := k1.cliprE
      cases k1 with
      | cliprNil => exact .inl rfl
      | cliprE => exact .inr ⟨_, rfl⟩
      | clipr => exact .inr ⟨_, rfl⟩
  . exact xPk r ev fun E v1 k1 => .inl k1.litE
  . exact xJi r ev fun E v1 k1 => .inl k1.litE
  rotate_left
  . rename_i sz' f' l
    rw [r.g] at ev
    split at ev <;> first | (cases ev; done) | skip
    rename_i kk xs hg
    split at ev <;> first | (cases ev; done) | skip
    rename_i hc
    simp only [Bool.and_eq_true] at hc
    obtain ⟨c1, c2, c3⟩ := hc
    obtain ⟨c4, c5⟩ := xAt c3
    rw [HT.push_eq] at ev
    refine ⟨_, _, _, r.push _, .push r.f _, ev, ?_⟩
    intro E t ty i z v1 v2 hr ht hi hz hzs h1 h2 k1 k2
    subst h1
    subst h2
    obtain ⟨_, _, hv⟩ := k2.ownE
    have h0 := xAa hg (by simp)
    have k2 : Rv E (.ints kk xs) v2 := by rw [hv (hr.b.live l _ h0 (by simp))]; exact hr.b.blk l _ h0
    obtain ⟨v', E', g1, g2, g3, g4⟩ := xHs (P := P) (ty := ty) hr ht hi hz hzs (by simpa [Nat.blt_eq] using c1) (xAc c2) c4 c5 k1 k2
    exact ⟨v', E', g1, g2, g3, by rw [r.n]; exact g4⟩
  rename_i l2 m
  rw [r.g] at ev
  split at ev <;> first | (cases ev; done) | skip
  rename_i t2 cs hg
  split at ev <;> first | (cases ev; done) | skip
  rename_i hc
  simp only [Bool.and_eq_true] at hc
  obtain ⟨c1, c2, c3, c4, c5, c6⟩ := hc
  rw [HT.push_eq] at ev
  refine ⟨_, _, _, r.push _, .push r.f _, ev, ?_⟩
  intro E t ty i z v1 v2 hr ht hi hz hzs h1 h2 k1 k2
  subst h1
  subst h2
  have hm := xAc c1
  subst hm
  have := k1.litE
  subst this
  obtain ⟨_, rfl⟩ := k2.bslE
  obtain ⟨vs, g1, g2⟩ := hr.b.blk l2 _ (xAa hg (by simp))
  have hl : vs.length = i.size := by have := g1.length; have c2 := xAc c2; rw [xDf] at c2; omega
  have v1 := xAj 8 c4 g1
  obtain ⟨c7, c8⟩ := xAt c6
  have hadd : ∀ j, (⟨E.blk l2, 0, none⟩ : Addr).add j = ⟨E.blk l2, 0 + j, none⟩ := fun j => by unfold Addr.add; split <;> simp_all
  have hrun := run_append_nil (P := P) E.w t ty e i z ht hi hz ⟨E.blk l2, 0, none⟩ 1 1 vs (by omega) (fun j u hu => by rw [hadd, Nat.zero_add]; exact xAf g2 j u hu) (by omega) (by omega) (by omega)
  have hgr := xCr E.w e i z hzs 0 [] vs (by simp) hl (by omega) 0 (by omega) none
  simp only [Nat.zero_add, List.nil_append, Array.empty_append] at hgr
  obtain ⟨w1, w2, w3⟩ := hgr
  have hst : ∀ w' : World, E.w.grownBy w' none -> E.Le (E.push w' E.w.heap.size (.slice (some ⟨E.w.heap.size, 0, none⟩) 1 (grownCap E.w 1 0 e))) := fun w' hw => Env.push_le fun b hb => hw.block b (hr.imlt hb) (by simp)
  obtain ⟨p1, p2⟩ := hr.push (g0 := E.w.heap.size) (v := .slice (some ⟨E.w.heap.size, 0, none⟩) 1 (grownCap E.w 1 0 e)) (newb := .orw e i.size 1 (fun _ => cs)) w2 w3
    (by refine ⟨⟨fun _ => vs, fun j _ => v1.mono (hst _ w2).stays, fun j _ => hl, ?_⟩, ?_⟩
        . simpa [Env.push] using w1
        . intro g hg'; simp [Env.push, Value.ownBlock] at hg' ⊢; omega)
    (fun g hg' => by simp [Blk.at, Env.push, Value.ownBlock] at hg'; omega)
  refine ⟨_, _, hrun, p2, p1, ?_⟩
  have hn : h.n = E.n := by rw [r.n, xBn]; exact hr.b.n.symm
  rw [hn]
  exact .own E.n _ Env.push_has rfl (fun _ => by simp [Env.push])
end Go.Vg
