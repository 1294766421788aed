import Derived.Test.YtgdihdiadlmjiaaVgR21
import Derived.ChangeSlices
import Derived.OpenShut
import Derived.Carry
import Derived.Deep.Slices
import Derived.ChangeSame
set_option linter.all false
section
namespace Go.Vg
open Go Go.RowKit Go.ChangeShapes Go.WideShapes
theorem xBz {w w' : World} (h : Later w w') : Below w.heap.size w w' := ⟨h.os, h.tape, h.output, h.sz, fun k hk => h.heap k hk⟩
section
variable {H : Type} {enc : TypeId × Value → H} {P : Program} {w : World}
theorem xTm {t e : TypeId} {k : IntKind} {base : Nat} (ht : P.underlying t = some (.slice e)) (he : P.underlying e = some (.int k)) (hc : P.cellsOf e = 1) {v : Value} (hval : Value.okWide P w .any base t v)
  {d : DataW H} {ps : List MemPlace} (h : DataW.Trod enc P w 0 (fun _ => true) true t v d ps) : ∃ l : List Int, Cv w (fun b => b < w.heap.size) (.ints k l) v := by
 obtain ⟨fuel, hf⟩ := h
 obtain ⟨a, len, cap, rfl⟩ := okWide_slice ht hval
 have hcs : (Value.slice a len cap).cells.toList = [.slice a len cap] := rfl
 rw [hcs] at hf
 rcases open_ints ht he hc hf with ⟨h0, _⟩ | ⟨a', len', cap', zs, h0, _, hl, _, hz, _, hcell, _⟩
 ·cases h0; exact ⟨[], .intsNil k⟩
 ·cases h0
  simp only [Value.okWide, ht, Cell.okWide, Cell.ok, World.has] at hval
  obtain ⟨_, _, _, hspot, row, cells, hsh, _⟩ := hval
  obtain ⟨b, off, spot⟩ := a'
  simp only at hspot hsh
  subst hspot
  simp only [if_true] at hz
  have hb : b < w.heap.size := by
   rcases Nat.lt_or_ge b w.heap.size with h1 | h1
   ·exact h1
   ·rw [World.shape?, Array.getElem?_eq_none h1] at hsh; cases hsh
  have hlen : (zs.take len).length = len := by rw [List.length_take]; omega
  refine ⟨zs.take len, ?_⟩
  have hcv : Cv w (fun b => b < w.heap.size) (.ints k (zs.take len)) (.slice (some ⟨b, off, none⟩) (zs.take len).length cap) := by
   refine .ints k _ b off cap hb (fun j x hx => ?_) (by omega)
   have hj : j < (zs.take len).length := (List.getElem?_eq_some_iff.1 hx).1
   have hj2 : j < zs.length := by rw [hlen] at hj; omega
   have := hcell j hj2
   rw [add_plain] at this
   rw [this]
   rw [List.getElem?_take_of_lt (by omega)] at hx
   simp [List.getD, hx]
  rw [hlen] at hcv
  exact hcv
end
end Go.Vg
end
section
namespace Go.Vg
open Go Go.RowKit Go.ChangeShapes Go.WideShapes
section
variable {H : Type} {enc : TypeId × Value → H} {P : Program} {w : World}
end
end Go.Vg
end
section
namespace Go.Vg
open Go Go.RowKit Go.ChangeShapes Go.WideShapes
section
variable {P : Program} {w : World}
theorem xQt {r : Reach} {base : Nat} {u : TypeId} {k : IntKind} {v : Value} (hu : P.underlying u = some (.int k)) (h : Cell.okWide P w r base u v) : ∃ n, v = .int k n := by
 simp only [Cell.okWide, hu] at h
 cases v <;> simp_all [Cell.ok]
theorem xPm {base : Nat} {t : TypeId} {ts : List TypeId} {v : Value} (ht : (∃ fs, P.underlying t = some (.struct fs)) ∨ ∃ n e, P.underlying t = some (.array n e)) (hval : Value.okWide P w .any base t v) (hts : P.cellTypes P.depth t = some ts) :
  ∃ cs : Array Value, v = .agg cs ∧ cs.size = P.cellsOf t ∧ ∀ i v, cs[i]? = some v → ∃ u, ts[i % ts.length]? = some u ∧ Cell.okWide P w .any base u v := by
 rcases ht with ⟨fs, ht⟩ | ⟨n, e, ht⟩ <;>
 ·simp only [Value.okWide, ht] at hval
  obtain ⟨cs, h1, h2, ts', h3, _, h4⟩ := hval
  rw [hts] at h3
  cases h3
  exact ⟨cs, h1, h2, h4⟩
end
end Go.Vg
end
section
namespace Go.Vg
open Go Go.RowKit Go.ChangeShapes Go.WideShapes
section
variable {P : Program} {w : World}
theorem xKi : ∀ {l : List Value}, (∀ v ∈ l, ∃ n, v = .int .i64 n) → ∃ xs : List Int, l = xs.map (Value.int .i64)
 | [], _ => ⟨[], rfl⟩
 | v :: l, h => by
  obtain ⟨n, rfl⟩ := h v (List.mem_cons_self ..)
  obtain ⟨xs, rfl⟩ := xKi fun v hv => h v (List.mem_cons_of_mem _ hv)
  exact ⟨n :: xs, rfl⟩
theorem xId {im : Nat → Prop} : ∀ xs : List Int, Cvs w im (xs.map (SV.int .i64)) (xs.map (Value.int .i64))
 | [] => .nil
 | x :: xs => .cons _ _ _ _ (.int _ _) (xId xs)
theorem xIe {base n : Nat} {t u : TypeId} {ts : List TypeId} {v : Value} (ht : (∃ fs, P.underlying t = some (.struct fs)) ∨ ∃ n e, P.underlying t = some (.array n e)) (hval : Value.okWide P w .any base t v)
  (hts : P.cellTypes P.depth t = some ts) (hall : ts.all (· == u) = true) (hu : P.underlying u = some (.int .i64)) (hc : P.cellsOf t = n) :
  ∃ xs : List Int, xs.length = n ∧ Cv w (fun b => b < w.heap.size) (.agg (xs.map (SV.int .i64))) v := by
 obtain ⟨cs, rfl, h2, h3⟩ := xPm ht hval hts
 obtain ⟨xs, hxs⟩ := xKi (l := cs.toList) fun v hv => by
  obtain ⟨i, hi⟩ := List.mem_iff_getElem?.1 hv
  obtain ⟨u', e, h4⟩ := h3 i v (by simpa using hi)
  have : u' = u := by simpa using List.all_eq_true.1 hall u' (List.mem_of_getElem? e)
  subst this
  exact xQt hu h4
 refine ⟨xs, ?_, ?_⟩
 ·have := congrArg List.length hxs
  rw [List.length_map, Array.length_toList] at this
  omega
 ·have : cs = (xs.map (Value.int .i64)).toArray := by rw [← hxs]
  rw [this]
  exact .agg _ _ (xId xs)
end
end Go.Vg
end
section
namespace Go.Vg
open Go Go.RowKit Go.ChangeShapes Go.WideShapes
section
variable {H : Type} {enc : TypeId × Value → H} {P : Program} {w : World}
theorem xCy {cs : List Value} {j : Nat} {v : Value} (h : (cs.drop j).take 1 = [v]) : cs[j]? = some v := by
 have : ((cs.drop j).take 1)[0]? = some v := by rw [h]; rfl
 rw [List.getElem?_take_of_lt (by omega), List.getElem?_drop] at this
 simpa using this
end
end Go.Vg
end
section
namespace Go.Vg
open Go Go.RowKit Go.ChangeShapes Go.WideShapes
section
variable {H : Type} {enc : TypeId × Value → H} {P : Program} {w : World}
end
end Go.Vg
end
section
namespace Go.Vg
open Go Go.RowKit Go.ChangeShapes Go.WideShapes
section
variable {H : Type} {enc : TypeId × Value → H} {P : Program} {w : World}
def CellF (P : Program) (fs : Array Field) (c : Nat) : Prop := ∃ (j : Nat) (f : Field), fs[j]? = some f ∧ ((P.underlying f.type = some (.int .i64) ∧ P.cellsOf f.type = 1 ∧ f.offset = c) ∨
 ∃ g0 g1 : Field, P.underlying f.type = some (.struct #[g0, g1]) ∧ P.cellsOf f.type = 2 ∧ (P.underlying g0.type = some (.int .i64) ∧ P.cellsOf g0.type = 1 ∧ g0.offset = 0) ∧ (P.underlying g1.type = some (.int .i64) ∧ P.cellsOf g1.type = 1 ∧ g1.offset = 1) ∧ (c = f.offset ∨ c = f.offset + 1))
theorem xQu {n : Nat} {t e : TypeId} {fs : Array Field} {base : Nat} (ht : P.underlying t = some (.slice e)) (he : P.underlying e = some (.struct fs)) (hc : P.cellsOf e = n)
  (hf : ∀ c, c < n → CellF P fs c)
  {v : Value} (hval : Value.okWide P w .any base t v) {d : DataW H} {ps : List MemPlace} (h : DataW.Trod enc P w 0 (fun _ => true) true t v d ps) :
  ∃ (m : Nat) (F : Nat → List Int), (m : Int) ≤ 9223372036854775807 ∧ (∀ i, i < m → (F i).length = n) ∧ ∀ g : Nat → List SV, (∀ i, i < m → g i = (F i).map (SV.int .i64)) → Cv w (fun b => b < w.heap.size) (.rd n m g) v := by
 obtain ⟨fuel, hfu⟩ := h
 obtain ⟨a, len, cap, rfl⟩ := okWide_slice ht hval
 have hcs : (Value.slice a len cap).cells.toList = [.slice a len cap] := rfl
 rw [hcs] at hfu
 rcases Deep.open_slice ht hfu with ⟨h0, _⟩ | ⟨a', len', cap', m, n', D, Pl, h0, _, hl, _, hmm, _, hel⟩
 ·cases h0; exact ⟨0, fun _ => [], by simp, fun i hi => by omega, fun g _ => .rdNil n _⟩
 ·cases h0
  simp only [Value.okWide, ht, Cell.okWide, Cell.ok, World.has] at hval
  obtain ⟨hv1, hv2, _, hspot, row, cells, hsh, _⟩ := hval
  obtain ⟨b, off, spot⟩ := a'
  simp only at hspot hsh
  subst hspot
  simp only [if_true] at hmm
  have hb : b < w.heap.size := by
   rcases Nat.lt_or_ge b w.heap.size with h1 | h1
   ·exact h1
   ·rw [World.shape?, Array.getElem?_eq_none h1] at hsh; cases hsh
  have key : ∀ i, i < m → ∃ r : List Int, r.length = n ∧ ∀ j z, r[j]? = some z → w.cell? ⟨b, off + (i * n + j), none⟩ = some (.int .i64 z) := by
   intro i hi
   obtain ⟨cs', h1, h2⟩ := hel i hi
   obtain ⟨xs, n'', _, _, hlen, hxl, hfi⟩ := DataW.trod_struct he h2
   rw [hc] at hlen h1
   obtain ⟨_, _, h5⟩ := World.cells?_some h1
   have hint : ∀ v ∈ cs', ∃ z, v = .int .i64 z := by
    intro v hv
    obtain ⟨j0, hj⟩ := List.mem_iff_getElem?.1 hv
    have hjn : j0 < n := by rw [← hlen]; exact (List.getElem?_eq_some_iff.1 hj).1
    obtain ⟨j, f, hfj, hk⟩ := hf j0 hjn
    have h6 := hfi j f hfj
    have hjs : j < fs.size := (Array.getElem?_eq_some_iff.1 hfj).1
    have hxj : xs[j]? = some xs[j] := List.getElem?_eq_getElem (by omega)
    rw [hxj] at h6
    rcases hk with ⟨k1, k2, k3⟩ | ⟨g0, g1, k1, k2, ⟨a1, a2, a3⟩, ⟨b1, b2, b3⟩, k3⟩
    ·rw [k2, k3] at h6
     obtain ⟨z, e0, _, _⟩ := DataW.trod_int k1 h6
     have := xCy e0
     rw [hj] at this
     cases this
     exact ⟨z, rfl⟩
    ·rw [k2] at h6
     obtain ⟨ys, n3, _, _, hlen2, hyl, hgi⟩ := DataW.trod_struct k1 h6
     match ys, hyl with
     | [y0, y1], _ =>
      have s0 := hgi 0 g0 rfl
      have s1 := hgi 1 g1 rfl
      rw [a2, a3] at s0
      rw [b2, b3] at s1
      rcases k3 with rfl | rfl
      ·obtain ⟨z, e0, _, _⟩ := DataW.trod_int a1 s0
       have g := xCy e0
       rw [List.getElem?_take_of_lt (by omega), List.getElem?_drop, Nat.add_zero, hj] at g
       cases g
       exact ⟨z, rfl⟩
      ·obtain ⟨z, e0, _, _⟩ := DataW.trod_int b1 s1
       have g := xCy e0
       rw [List.getElem?_take_of_lt (by omega), List.getElem?_drop, hj] at g
       cases g
       exact ⟨z, rfl⟩
   obtain ⟨r, hr⟩ := xKi hint
   subst hr
   rw [List.length_map] at hlen
   refine ⟨r, hlen, fun j z hz => ?_⟩
   have hjn : j < n := by rw [← hlen]; exact (List.getElem?_eq_some_iff.1 hz).1
   have h7 := h5 j hjn
   rw [List.getElem?_map, hz, add_plain, add_plain] at h7
   rw [← Nat.add_assoc]
   exact h7
  obtain ⟨F, hF⟩ := Deep.choose_lt (α := List Int) key
  refine ⟨len, F, ?_, fun i hi => (hF i (by omega)).1, fun g hg => ?_⟩
  ·have : (IntKind.i64.max : Int) = 9223372036854775807 := rfl
   omega
  ·refine .rd n len g b off cap (fun i => (F i).map (Value.int .i64)) hb (fun i hi => ?_) (fun i hi => ?_) (fun i j v hi hj => ?_) (by omega)
   ·rw [hg i hi]; exact xId _
   ·rw [List.length_map]; exact (hF i (by omega)).1
   ·rw [List.getElem?_map] at hj
    cases hz : (F i)[j]? with
    | none => rw [hz] at hj; cases hj
    | some z =>
     rw [hz] at hj
     cases hj
     exact (hF i (by omega)).2 j z hz
theorem flds {i s : TypeId} {f0 f1 f2 f3 f4 g0 g1 : Field} (ui : P.underlying i = some (.int .i64)) (ci : P.cellsOf i = 1) (us : P.underlying s = some (.struct #[g0, g1])) (cs : P.cellsOf s = 2)
  (ht : (f0.type, f0.offset, f1.type, f1.offset, f2.type, f2.offset) = (i, 0, s, 1, s, 3)) (ht2 : (f3.type, f3.offset, f4.type, f4.offset) = (s, 5, i, 7)) (hg : (g0.type, g0.offset, g1.type, g1.offset) = (i, 0, i, 1)) : ∀ c, c < 8 → CellF P #[f0, f1, f2, f3, f4] c := by
 simp only [Prod.mk.injEq] at ht ht2 hg
 obtain ⟨t0, o0, t1, o1, t2, o2⟩ := ht
 obtain ⟨t3, o3, t4, o4⟩ := ht2
 obtain ⟨gt0, go0, gt1, go1⟩ := hg
 have S : ∀ f : Field, f.type = s → ∀ c, (c = f.offset ∨ c = f.offset + 1) → ∃ g0 g1 : Field, P.underlying f.type = some (.struct #[g0, g1]) ∧ P.cellsOf f.type = 2 ∧ (P.underlying g0.type = some (.int .i64) ∧ P.cellsOf g0.type = 1 ∧ g0.offset = 0) ∧ (P.underlying g1.type = some (.int .i64) ∧ P.cellsOf g1.type = 1 ∧ g1.offset = 1) ∧ (c = f.offset ∨ c = f.offset + 1) := fun f hf c h =>
  ⟨g0, g1, by rw [hf]; exact us, by rw [hf]; exact cs, ⟨by rw [gt0]; exact ui, by rw [gt0]; exact ci, go0⟩, ⟨by rw [gt1]; exact ui, by rw [gt1]; exact ci, go1⟩, h⟩
 intro c hc
 rcases (show c = 0 ∨ c = 1 ∨ c = 2 ∨ c = 3 ∨ c = 4 ∨ c = 5 ∨ c = 6 ∨ c = 7 by omega) with rfl | rfl | rfl | rfl | rfl | rfl | rfl | rfl
 ·exact ⟨0, f0, rfl, .inl ⟨by rw [t0]; exact ui, by rw [t0]; exact ci, o0⟩⟩
 ·exact ⟨1, f1, rfl, .inr (S f1 t1 1 (by omega))⟩
 ·exact ⟨1, f1, rfl, .inr (S f1 t1 2 (by omega))⟩
 ·exact ⟨2, f2, rfl, .inr (S f2 t2 3 (by omega))⟩
 ·exact ⟨2, f2, rfl, .inr (S f2 t2 4 (by omega))⟩
 ·exact ⟨3, f3, rfl, .inr (S f3 t3 5 (by omega))⟩
 ·exact ⟨3, f3, rfl, .inr (S f3 t3 6 (by omega))⟩
 ·exact ⟨4, f4, rfl, .inl ⟨by rw [t4]; exact ui, by rw [t4]; exact ci, o4⟩⟩
end
end Go.Vg
end
