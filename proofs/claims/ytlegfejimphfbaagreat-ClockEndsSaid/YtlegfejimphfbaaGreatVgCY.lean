import Derived.Test.YtlegfejimphfbaaGreatVgR19
import Derived.ChangeSlices
import Derived.OpenShut
import Derived.Carry
import Derived.Deep.Slices
import Derived.ChangeSame
import Derived.Lib.SmallJoins
section
namespace Go.Vg
open Go Go.RowKit Go.ChangeShapes Go.WideShapes
set_option linter.unusedVariables false
set_option linter.unusedSimpArgs false
theorem below_of_later {w w' : World} (h : Later w w') : Below w.heap.size w w' := ⟨h.os, h.tape, h.output, h.sz, fun k hk => h.heap k hk⟩
section
variable {H : Type} {enc : TypeId × Value → H} {P : Program} {w : World}
theorem ints_cv {t e : TypeId} {k : IntKind} {base : Nat} (ht : P.underlying t = some (.slice e)) (he : P.underlying e = some (.int k)) (hc : P.cellsOf e = 1) {v : Value} (hval : Value.okWide P w .any base t v)
  {d : DataW H} {ps : List MemPlace} (h : DataW.Trod enc P w 0 (fun _ => true) true t v d ps) : ∃ l : List Int, Cv w (fun b => b < w.heap.size) (.ints k l) v := by
 obtain ⟨fuel, hf⟩ := h
 obtain ⟨a, len, cap, rfl⟩ := okWide_slice ht hval
 have hcs : (Value.slice a len cap).cells.toList = [.slice a len cap] := rfl
 rw [hcs] at hf
 rcases open_ints ht he hc hf with ⟨h0, _⟩ | ⟨a', len', cap', zs, h0, _, hl, _, hz, _, hcell, _⟩
 ·cases h0; exact ⟨[], .intsNil k⟩
 ·cases h0
  simp only [Value.okWide, ht, Cell.okWide, Cell.ok, World.has] at hval
  obtain ⟨_, _, _, hspot, row, cells, hsh, _⟩ := hval
  obtain ⟨b, off, spot⟩ := a'
  simp only at hspot hsh
  subst hspot
  simp only [if_true] at hz
  have hb : b < w.heap.size := by
   rcases Nat.lt_or_ge b w.heap.size with h1 | h1
   ·exact h1
   ·rw [World.shape?, Array.getElem?_eq_none h1] at hsh; cases hsh
  have hlen : (zs.take len).length = len := by rw [List.length_take]; omega
  refine ⟨zs.take len, ?_⟩
  have hcv : Cv w (fun b => b < w.heap.size) (.ints k (zs.take len)) (.slice (some ⟨b, off, none⟩) (zs.take len).length cap) := by
   refine .ints k _ b off cap hb (fun j x hx => ?_) (by omega)
   have hj : j < (zs.take len).length := (List.getElem?_eq_some_iff.1 hx).1
   have hj2 : j < zs.length := by rw [hlen] at hj; omega
   have := hcell j hj2
   rw [add_plain] at this
   rw [this]
   rw [List.getElem?_take_of_lt (by omega)] at hx
   simp [List.getD, hx]
  rw [hlen] at hcv
  exact hcv
end
end Go.Vg
end
section
namespace Go.Vg
open Go Go.RowKit Go.ChangeShapes Go.WideShapes
set_option linter.unusedVariables false
set_option linter.unusedSimpArgs false
section
variable {H : Type} {enc : TypeId × Value → H} {P : Program} {w : World}
theorem pairs_cv {t e : TypeId} {f0 f1 : Field} {base : Nat} (ht : P.underlying t = some (.slice e)) (he : P.underlying e = some (.struct #[f0, f1])) (hc : P.cellsOf e = 2)
  (t0 : P.underlying f0.type = some (.int .i64)) (t1 : P.underlying f1.type = some (.int .i64)) (c0 : P.cellsOf f0.type = 1) (c1 : P.cellsOf f1.type = 1) (o0 : f0.offset = 0) (o1 : f1.offset = 1)
  {v : Value} (hval : Value.okWide P w .any base t v) {d : DataW H} {ps : List MemPlace} (h : DataW.Trod enc P w 0 (fun _ => true) true t v d ps) :
  ∃ L : List (Int × Int), Cv w (fun b => b < w.heap.size) (.rd 2 L.length (fun i => [.int .i64 (L.getD i (0, 0)).1, .int .i64 (L.getD i (0, 0)).2])) v := by
 obtain ⟨fuel, hf⟩ := h
 obtain ⟨a, len, cap, rfl⟩ := okWide_slice ht hval
 have hcs : (Value.slice a len cap).cells.toList = [.slice a len cap] := rfl
 rw [hcs] at hf
 rcases Deep.open_slice ht hf with ⟨h0, _⟩ | ⟨a', len', cap', m, n, D, Pl, h0, _, hl, _, hmm, _, hel⟩
 ·cases h0; exact ⟨[], .rdNil 2 _⟩
 ·cases h0
  simp only [Value.okWide, ht, Cell.okWide, Cell.ok, World.has] at hval
  obtain ⟨_, _, _, hspot, row, cells, hsh, _⟩ := hval
  obtain ⟨b, off, spot⟩ := a'
  simp only at hspot hsh
  subst hspot
  simp only [if_true] at hmm
  have hb : b < w.heap.size := by
   rcases Nat.lt_or_ge b w.heap.size with h1 | h1
   ·exact h1
   ·rw [World.shape?, Array.getElem?_eq_none h1] at hsh; cases hsh
  have key : ∀ i, i < m → ∃ x : Int × Int, w.cell? ⟨b, off + (i * 2 + 0), none⟩ = some (.int .i64 x.1) ∧ w.cell? ⟨b, off + (i * 2 + 1), none⟩ = some (.int .i64 x.2) := by
   intro i hi
   obtain ⟨cs', h1, h2⟩ := hel i hi
   obtain ⟨y0, y1, n', _, hlen, h3, h4⟩ := trod_struct2 he h2
   obtain ⟨z0, e0, _, _⟩ := DataW.trod_int t0 h3
   obtain ⟨z1, e1, _, _⟩ := DataW.trod_int t1 h4
   rw [hc] at hlen h1
   rw [o0, c0] at e0
   rw [o1, c1] at e1
   match cs', hlen with
   | [u0, u1], _ =>
    simp at e0 e1
    subst e0
    subst e1
    obtain ⟨_, _, h5⟩ := World.cells?_some h1
    have g0 := h5 0 (by omega)
    have g1 := h5 1 (by omega)
    rw [add_plain, add_plain] at g0 g1
    exact ⟨(z0, z1), by simpa [Nat.add_assoc] using g0, by simpa [Nat.add_assoc] using g1⟩
  obtain ⟨F, hF⟩ := Deep.choose_lt (α := Int × Int) key
  have hL : ((List.range len).map F).length = len := by simp
  have hg : ∀ i, i < len → ((List.range len).map F).getD i (0, 0) = F i := fun i hi => by simp [List.getD, hi]
  refine ⟨(List.range len).map F, ?_⟩
  have hcv : Cv w (fun b => b < w.heap.size) (.rd 2 ((List.range len).map F).length (fun i => [.int .i64 (((List.range len).map F).getD i (0, 0)).1, .int .i64 (((List.range len).map F).getD i (0, 0)).2])) (.slice (some ⟨b, off, none⟩) ((List.range len).map F).length cap) := by
   refine .rd 2 _ _ b off cap (fun i => [.int .i64 (F i).1, .int .i64 (F i).2]) hb (fun i hi => ?_) (fun i hi => rfl) (fun i j v hi hj => ?_) (by omega)
   ·rw [hL] at hi
    rw [hg i hi]
    exact .cons _ _ _ _ (.int _ _) (.cons _ _ _ _ (.int _ _) .nil)
   ·rw [hL] at hi
    obtain ⟨k0, k1⟩ := hF i (by omega)
    match j, hj with
    | 0, hj => simp at hj; subst hj; exact k0
    | 1, hj => simp at hj; subst hj; exact k1
  rw [hL] at hcv
  rw [hL]
  exact hcv
end
end Go.Vg
end
section
namespace Go.Vg
open Go Go.RowKit Go.ChangeShapes Go.WideShapes
set_option linter.unusedVariables false
set_option linter.unusedSimpArgs false
section
variable {P : Program} {w : World}
theorem cell_int {r : Reach} {base : Nat} {u : TypeId} {k : IntKind} {v : Value} (hu : P.underlying u = some (.int k)) (h : Cell.okWide P w r base u v) : ∃ n, v = .int k n := by
 simp only [Cell.okWide, hu] at h
 cases v <;> simp_all [Cell.ok]
theorem agg_cells {base : Nat} {t : TypeId} {ts : List TypeId} {v : Value} (ht : (∃ fs, P.underlying t = some (.struct fs)) ∨ ∃ n e, P.underlying t = some (.array n e)) (hval : Value.okWide P w .any base t v) (hts : P.cellTypes P.depth t = some ts) :
  ∃ cs : Array Value, v = .agg cs ∧ cs.size = P.cellsOf t ∧ ∀ i v, cs[i]? = some v → ∃ u, ts[i % ts.length]? = some u ∧ Cell.okWide P w .any base u v := by
 rcases ht with ⟨fs, ht⟩ | ⟨n, e, ht⟩ <;>
 ·simp only [Value.okWide, ht] at hval
  obtain ⟨cs, h1, h2, ts', h3, _, h4⟩ := hval
  rw [hts] at h3
  cases h3
  exact ⟨cs, h1, h2, h4⟩
end
end Go.Vg
end
section
namespace Go.Vg
open Go Go.RowKit Go.ChangeShapes Go.WideShapes
set_option linter.unusedVariables false
set_option linter.unusedSimpArgs false
section
variable {H : Type} {enc : TypeId × Value → H} {P : Program} {w : World}
end
end Go.Vg
end
section
namespace Go.Vg
open Go Go.RowKit Go.ChangeShapes Go.WideShapes
set_option linter.unusedVariables false
set_option linter.unusedSimpArgs false
section
variable {H : Type} {enc : TypeId × Value → H} {P : Program} {w : World}
theorem ck_cv {t si sl e u : TypeId} {f0 f1 f2 f3 g0 g1 : Field} {base : Nat} (ht : P.underlying t = some (.struct #[f0, f1, f2, f3])) (hts : P.cellTypes P.depth t = some [si, sl, u, u, u, u]) (hu : P.underlying u = some (.int .i64)) (hc : P.cellsOf t = 6)
  (hsi : P.underlying si = some (.slice u)) (cu : P.cellsOf u = 1) (t0 : f0.type = si) (o0 : f0.offset = 0) (c0 : P.cellsOf si = 1)
  (hsl : P.underlying sl = some (.slice e)) (t1 : f1.type = sl) (o1 : f1.offset = 1) (c1 : P.cellsOf sl = 1)
  (he : P.underlying e = some (.struct #[g0, g1])) (hce : P.cellsOf e = 2) (k0 : P.underlying g0.type = some (.int .i64)) (k1 : P.underlying g1.type = some (.int .i64)) (d0 : P.cellsOf g0.type = 1) (d1 : P.cellsOf g1.type = 1) (q0 : g0.offset = 0) (q1 : g1.offset = 1)
  {v : Value} (hval : Value.okWide P w .any base t v) {d : DataW H} {ps : List MemPlace} (h : DataW.Trod enc P w 0 (fun _ => true) true t v d ps) :
  ∃ (T : List Int) (R : List (Int × Int)) (a b x y : Int), Cv w (fun b => b < w.heap.size) (.agg [.ints .i64 T, .rd 2 R.length (fun i => [.int .i64 (R.getD i (0, 0)).1, .int .i64 (R.getD i (0, 0)).2]), .int .i64 a, .int .i64 b, .int .i64 x, .int .i64 y]) v := by
 obtain ⟨cs, rfl, h2, h3⟩ := agg_cells (.inl ⟨_, ht⟩) hval hts
 rw [hc] at h2
 obtain ⟨x0, x1, x2, x3, x4, x5, rfl⟩ : ∃ x0 x1 x2 x3 x4 x5, cs = #[x0, x1, x2, x3, x4, x5] := by
  obtain ⟨l⟩ := cs
  match l, h2 with
  | [x0, x1, x2, x3, x4, x5], _ => exact ⟨x0, x1, x2, x3, x4, x5, rfl⟩
 obtain ⟨u0, e0, r0⟩ := h3 0 x0 rfl
 obtain ⟨u1, e1, r1⟩ := h3 1 x1 rfl
 obtain ⟨u2, e2, r2⟩ := h3 2 x2 rfl
 obtain ⟨u3, e3, r3⟩ := h3 3 x3 rfl
 obtain ⟨u4, e4, r4⟩ := h3 4 x4 rfl
 obtain ⟨u5, e5, r5⟩ := h3 5 x5 rfl
 simp at e0 e1 e2 e3 e4 e5
 subst e0 e1 e2 e3 e4 e5
 obtain ⟨a2, rfl⟩ := cell_int hu r2
 obtain ⟨a3, rfl⟩ := cell_int hu r3
 obtain ⟨a4, rfl⟩ := cell_int hu r4
 obtain ⟨a5, rfl⟩ := cell_int hu r5
 have v0 : Value.okWide P w .any base si x0 := by simpa only [Value.okWide, hsi] using r0
 have v1 : Value.okWide P w .any base sl x1 := by simpa only [Value.okWide, hsl] using r1
 obtain ⟨fuel, hf⟩ := h
 obtain ⟨xs, n, _, _, hl, hlen, hfi⟩ := DataW.trod_struct ht hf
 match xs, hlen with
 | [y0, y1, y2, y3], _ =>
  have s0 := hfi 0 f0 rfl
  have s1 := hfi 1 f1 rfl
  rw [t0, o0, c0] at s0
  rw [t1, o1, c1] at s1
  obtain ⟨p0, m0, n0, rfl⟩ := okWide_slice hsi v0
  obtain ⟨p1, m1, n1, rfl⟩ := okWide_slice hsl v1
  obtain ⟨T, hT⟩ := ints_cv (enc := enc) hsi hu cu v0 (d := y0.1) (ps := y0.2) ⟨n, s0⟩
  obtain ⟨R, hR⟩ := pairs_cv (enc := enc) hsl he hce k0 k1 d0 d1 q0 q1 v1 (d := y1.1) (ps := y1.2) ⟨n, s1⟩
  exact ⟨T, R, a2, a3, a4, a5, .agg _ [_, _, _, _, _, _] (.cons _ _ _ _ hT (.cons _ _ _ _ hR (.cons _ _ _ _ (.int _ _) (.cons _ _ _ _ (.int _ _) (.cons _ _ _ _ (.int _ _) (.cons _ _ _ _ (.int _ _) .nil))))))⟩
end
end Go.Vg
end
section
namespace Go.Vg
open Go Go.RowKit Go.ChangeShapes Go.WideShapes
set_option linter.unusedVariables false
set_option linter.unusedSimpArgs false
section
variable {H : Type} {enc : TypeId × Value → H} {P : Program} {w : World}
theorem tr_cv {t si u : TypeId} {f0 f1 f2 f3 : Field} {base : Nat} (ht : P.underlying t = some (.struct #[f0, f1, f2, f3])) (hts : P.cellTypes P.depth t = some [si, u, u, si]) (hu : P.underlying u = some (.int .i64)) (hc : P.cellsOf t = 4)
  (hsi : P.underlying si = some (.slice u)) (cu : P.cellsOf u = 1) (t0 : f0.type = si) (o0 : f0.offset = 0) (t3 : f3.type = si) (o3 : f3.offset = 3) (c0 : P.cellsOf si = 1)
  {v : Value} (hval : Value.okWide P w .any base t v) {d : DataW H} {ps : List MemPlace} (h : DataW.Trod enc P w 0 (fun _ => true) true t v d ps) :
  ∃ (R : List Int) (a e : Int) (T : List Int), Cv w (fun b => b < w.heap.size) (.agg [.ints .i64 R, .int .i64 a, .int .i64 e, .ints .i64 T]) v := by
 obtain ⟨cs, rfl, h2, h3⟩ := agg_cells (.inl ⟨_, ht⟩) hval hts
 rw [hc] at h2
 obtain ⟨x0, x1, x2, x3, rfl⟩ : ∃ x0 x1 x2 x3, cs = #[x0, x1, x2, x3] := by
  obtain ⟨l⟩ := cs
  match l, h2 with
  | [x0, x1, x2, x3], _ => exact ⟨x0, x1, x2, x3, rfl⟩
 obtain ⟨u0, e0, r0⟩ := h3 0 x0 rfl
 obtain ⟨u1, e1, r1⟩ := h3 1 x1 rfl
 obtain ⟨u2, e2, r2⟩ := h3 2 x2 rfl
 obtain ⟨u3, e3, r3⟩ := h3 3 x3 rfl
 simp at e0 e1 e2 e3
 subst e0 e1 e2 e3
 obtain ⟨a1, rfl⟩ := cell_int hu r1
 obtain ⟨a2, rfl⟩ := cell_int hu r2
 have v0 : Value.okWide P w .any base si x0 := by simpa only [Value.okWide, hsi] using r0
 have v3 : Value.okWide P w .any base si x3 := by simpa only [Value.okWide, hsi] using r3
 obtain ⟨fuel, hf⟩ := h
 obtain ⟨xs, n, _, _, hl, hlen, hfi⟩ := DataW.trod_struct ht hf
 match xs, hlen with
 | [y0, y1, y2, y3], _ =>
  have s0 := hfi 0 f0 rfl
  have s3 := hfi 3 f3 rfl
  rw [t0, o0, c0] at s0
  rw [t3, o3, c0] at s3
  obtain ⟨p0, m0, n0, rfl⟩ := okWide_slice hsi v0
  obtain ⟨p3, m3, n3, rfl⟩ := okWide_slice hsi v3
  obtain ⟨R, hR⟩ := ints_cv (enc := enc) hsi hu cu v0 (d := y0.1) (ps := y0.2) ⟨n, s0⟩
  obtain ⟨T, hT⟩ := ints_cv (enc := enc) hsi hu cu v3 (d := y3.1) (ps := y3.2) ⟨n, s3⟩
  exact ⟨R, a1, a2, T, .agg _ [_, _, _, _] (.cons _ _ _ _ hR (.cons _ _ _ _ (.int _ _) (.cons _ _ _ _ (.int _ _) (.cons _ _ _ _ hT .nil))))⟩
end
end Go.Vg
end
