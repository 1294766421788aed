import Derived.Test.YtplldhepmmjmmaaVgR19
import Derived.ChangeSlices
import Derived.OpenShut
import Derived.Carry
import Derived.Deep.Slices
import Derived.ChangeSame
section
namespace Go.Vg
open Go Go.RowKit Go.ChangeShapes Go.WideShapes
set_option linter.unusedVariables false
set_option linter.unusedSimpArgs false
theorem below_of_later {w w' : World} (h : Later w w') : Below w.heap.size w w' := ⟨h.os, h.tape, h.output, h.sz, fun k hk => h.heap k hk⟩
section
variable {H : Type} {enc : TypeId × Value → H} {P : Program} {w : World}
theorem ints_cv {t e : TypeId} {k : IntKind} {base : Nat} (ht : P.underlying t = some (.slice e)) (he : P.underlying e = some (.int k)) (hc : P.cellsOf e = 1) {v : Value} (hval : Value.okWide P w .any base t v)
  {d : DataW H} {ps : List MemPlace} (h : DataW.Trod enc P w 0 (fun _ => true) true t v d ps) : ∃ l : List Int, Cv w (fun b => b < w.heap.size) (.ints k l) v := by
 obtain ⟨fuel, hf⟩ := h
 obtain ⟨a, len, cap, rfl⟩ := okWide_slice ht hval
 have hcs : (Value.slice a len cap).cells.toList = [.slice a len cap] := rfl
 rw [hcs] at hf
 rcases open_ints ht he hc hf with ⟨h0, _⟩ | ⟨a', len', cap', zs, h0, _, hl, _, hz, _, hcell, _⟩
 ·cases h0; exact ⟨[], .intsNil k⟩
 ·cases h0
  simp only [Value.okWide, ht, Cell.okWide, Cell.ok, World.has] at hval
  obtain ⟨_, _, _, hspot, row, cells, hsh, _⟩ := hval
  obtain ⟨b, off, spot⟩ := a'
  simp only at hspot hsh
  subst hspot
  simp only [if_true] at hz
  have hb : b < w.heap.size := by
   rcases Nat.lt_or_ge b w.heap.size with h1 | h1
   ·exact h1
   ·rw [World.shape?, Array.getElem?_eq_none h1] at hsh; cases hsh
  have hlen : (zs.take len).length = len := by rw [List.length_take]; omega
  refine ⟨zs.take len, ?_⟩
  have hcv : Cv w (fun b => b < w.heap.size) (.ints k (zs.take len)) (.slice (some ⟨b, off, none⟩) (zs.take len).length cap) := by
   refine .ints k _ b off cap hb (fun j x hx => ?_) (by omega)
   have hj : j < (zs.take len).length := (List.getElem?_eq_some_iff.1 hx).1
   have hj2 : j < zs.length := by rw [hlen] at hj; omega
   have := hcell j hj2
   rw [add_plain] at this
   rw [this]
   rw [List.getElem?_take_of_lt (by omega)] at hx
   simp [List.getD, hx]
  rw [hlen] at hcv
  exact hcv
end
end Go.Vg
end
section
namespace Go.Vg
open Go Go.RowKit Go.ChangeShapes Go.WideShapes
set_option linter.unusedVariables false
set_option linter.unusedSimpArgs false
section
variable {H : Type} {enc : TypeId × Value → H} {P : Program} {w : World}
end
end Go.Vg
end
section
namespace Go.Vg
open Go Go.RowKit Go.ChangeShapes Go.WideShapes
set_option linter.unusedVariables false
set_option linter.unusedSimpArgs false
section
variable {P : Program} {w : World}
theorem cell_int {r : Reach} {base : Nat} {u : TypeId} {k : IntKind} {v : Value} (hu : P.underlying u = some (.int k)) (h : Cell.okWide P w r base u v) : ∃ n, v = .int k n := by
 simp only [Cell.okWide, hu] at h
 cases v <;> simp_all [Cell.ok]
theorem agg_cells {base : Nat} {t : TypeId} {ts : List TypeId} {v : Value} (ht : (∃ fs, P.underlying t = some (.struct fs)) ∨ ∃ n e, P.underlying t = some (.array n e)) (hval : Value.okWide P w .any base t v) (hts : P.cellTypes P.depth t = some ts) :
  ∃ cs : Array Value, v = .agg cs ∧ cs.size = P.cellsOf t ∧ ∀ i v, cs[i]? = some v → ∃ u, ts[i % ts.length]? = some u ∧ Cell.okWide P w .any base u v := by
 rcases ht with ⟨fs, ht⟩ | ⟨n, e, ht⟩ <;>
 ·simp only [Value.okWide, ht] at hval
  obtain ⟨cs, h1, h2, ts', h3, _, h4⟩ := hval
  rw [hts] at h3
  cases h3
  exact ⟨cs, h1, h2, h4⟩
end
end Go.Vg
end
section
namespace Go.Vg
open Go Go.RowKit Go.ChangeShapes Go.WideShapes
set_option linter.unusedVariables false
set_option linter.unusedSimpArgs false
section
variable {P : Program} {w : World}
theorem ints_of : ∀ {l : List Value}, (∀ v ∈ l, ∃ n, v = .int .i64 n) → ∃ xs : List Int, l = xs.map (Value.int .i64)
 | [], _ => ⟨[], rfl⟩
 | v :: l, h => by
  obtain ⟨n, rfl⟩ := h v (List.mem_cons_self ..)
  obtain ⟨xs, rfl⟩ := ints_of fun v hv => h v (List.mem_cons_of_mem _ hv)
  exact ⟨n :: xs, rfl⟩
theorem ints_cvs {im : Nat → Prop} : ∀ xs : List Int, Cvs w im (xs.map (SV.int .i64)) (xs.map (Value.int .i64))
 | [] => .nil
 | x :: xs => .cons _ _ _ _ (.int _ _) (ints_cvs xs)
theorem aggI_cv {base n : Nat} {t u : TypeId} {ts : List TypeId} {v : Value} (ht : (∃ fs, P.underlying t = some (.struct fs)) ∨ ∃ n e, P.underlying t = some (.array n e)) (hval : Value.okWide P w .any base t v)
  (hts : P.cellTypes P.depth t = some ts) (hall : ts.all (· == u) = true) (hu : P.underlying u = some (.int .i64)) (hc : P.cellsOf t = n) :
  ∃ xs : List Int, xs.length = n ∧ Cv w (fun b => b < w.heap.size) (.agg (xs.map (SV.int .i64))) v := by
 obtain ⟨cs, rfl, h2, h3⟩ := agg_cells ht hval hts
 obtain ⟨xs, hxs⟩ := ints_of (l := cs.toList) fun v hv => by
  obtain ⟨i, hi⟩ := List.mem_iff_getElem?.1 hv
  obtain ⟨u', e, h4⟩ := h3 i v (by simpa using hi)
  have : u' = u := by simpa using List.all_eq_true.1 hall u' (List.mem_of_getElem? e)
  subst this
  exact cell_int hu h4
 refine ⟨xs, ?_, ?_⟩
 ·have := congrArg List.length hxs
  rw [List.length_map, Array.length_toList] at this
  omega
 ·have : cs = (xs.map (Value.int .i64)).toArray := by rw [← hxs]
  rw [this]
  exact .agg _ _ (ints_cvs xs)
end
end Go.Vg
end
section
namespace Go.Vg
open Go Go.RowKit Go.ChangeShapes Go.WideShapes
set_option linter.unusedVariables false
set_option linter.unusedSimpArgs false
section
variable {H : Type} {enc : TypeId × Value → H} {P : Program} {w : World}
theorem take_one {cs : List Value} {j : Nat} {v : Value} (h : (cs.drop j).take 1 = [v]) : cs[j]? = some v := by
 have : ((cs.drop j).take 1)[0]? = some v := by rw [h]; rfl
 rw [List.getElem?_take_of_lt (by omega), List.getElem?_drop] at this
 simpa using this
theorem rowsI_cv {n : Nat} {t e : TypeId} {fs : Array Field} {base : Nat} (ht : P.underlying t = some (.slice e)) (he : P.underlying e = some (.struct fs)) (hc : P.cellsOf e = n) (hsz : fs.size = n)
  (hf : ∀ (j : Nat) (f : Field), fs[j]? = some f → P.underlying f.type = some (.int .i64) ∧ P.cellsOf f.type = 1 ∧ f.offset = j)
  {v : Value} (hval : Value.okWide P w .any base t v) {d : DataW H} {ps : List MemPlace} (h : DataW.Trod enc P w 0 (fun _ => true) true t v d ps) :
  ∃ (m : Nat) (F : Nat → List Int), (m : Int) ≤ 9223372036854775807 ∧ (∀ i, i < m → (F i).length = n) ∧ ∀ g : Nat → List SV, (∀ i, i < m → g i = (F i).map (SV.int .i64)) → Cv w (fun b => b < w.heap.size) (.rd n m g) v := by
 obtain ⟨fuel, hfu⟩ := h
 obtain ⟨a, len, cap, rfl⟩ := okWide_slice ht hval
 have hcs : (Value.slice a len cap).cells.toList = [.slice a len cap] := rfl
 rw [hcs] at hfu
 rcases Deep.open_slice ht hfu with ⟨h0, _⟩ | ⟨a', len', cap', m, n', D, Pl, h0, _, hl, _, hmm, _, hel⟩
 ·cases h0; exact ⟨0, fun _ => [], by simp, fun i hi => by omega, fun g _ => .rdNil n _⟩
 ·cases h0
  simp only [Value.okWide, ht, Cell.okWide, Cell.ok, World.has] at hval
  obtain ⟨hv1, hv2, _, hspot, row, cells, hsh, _⟩ := hval
  obtain ⟨b, off, spot⟩ := a'
  simp only at hspot hsh
  subst hspot
  simp only [if_true] at hmm
  have hb : b < w.heap.size := by
   rcases Nat.lt_or_ge b w.heap.size with h1 | h1
   ·exact h1
   ·rw [World.shape?, Array.getElem?_eq_none h1] at hsh; cases hsh
  have key : ∀ i, i < m → ∃ r : List Int, r.length = n ∧ ∀ j z, r[j]? = some z → w.cell? ⟨b, off + (i * n + j), none⟩ = some (.int .i64 z) := by
   intro i hi
   obtain ⟨cs', h1, h2⟩ := hel i hi
   obtain ⟨xs, n'', _, _, hlen, hxl, hfi⟩ := DataW.trod_struct he h2
   rw [hc] at hlen h1
   obtain ⟨_, _, h5⟩ := World.cells?_some h1
   have hint : ∀ v ∈ cs', ∃ z, v = .int .i64 z := by
    intro v hv
    obtain ⟨j, hj⟩ := List.mem_iff_getElem?.1 hv
    have hjn : j < n := by rw [← hlen]; exact (List.getElem?_eq_some_iff.1 hj).1
    obtain ⟨f, hfj⟩ : ∃ f, fs[j]? = some f := ⟨_, Array.getElem?_eq_getElem (by omega)⟩
    obtain ⟨k1, k2, k3⟩ := hf j f hfj
    have h6 := hfi j f hfj
    rw [k2, k3] at h6
    have hxj : xs[j]? = some xs[j] := List.getElem?_eq_getElem (by omega)
    rw [hxj] at h6
    obtain ⟨z, e0, _, _⟩ := DataW.trod_int k1 h6
    have := take_one e0
    rw [hj] at this
    cases this
    exact ⟨z, rfl⟩
   obtain ⟨r, hr⟩ := ints_of hint
   subst hr
   rw [List.length_map] at hlen
   refine ⟨r, hlen, fun j z hz => ?_⟩
   have hjn : j < n := by rw [← hlen]; exact (List.getElem?_eq_some_iff.1 hz).1
   have h7 := h5 j hjn
   rw [List.getElem?_map, hz, add_plain, add_plain] at h7
   rw [← Nat.add_assoc]
   exact h7
  obtain ⟨F, hF⟩ := Deep.choose_lt (α := List Int) key
  refine ⟨len, F, ?_, fun i hi => (hF i (by omega)).1, fun g hg => ?_⟩
  ·have : (IntKind.i64.max : Int) = 9223372036854775807 := rfl
   omega
  ·refine .rd n len g b off cap (fun i => (F i).map (Value.int .i64)) hb (fun i hi => ?_) (fun i hi => ?_) (fun i j v hi hj => ?_) (by omega)
   ·rw [hg i hi]; exact ints_cvs _
   ·rw [List.length_map]; exact (hF i (by omega)).1
   ·rw [List.getElem?_map] at hj
    cases hz : (F i)[j]? with
    | none => rw [hz] at hj; cases hj
    | some z =>
     rw [hz] at hj
     cases hj
     exact (hF i (by omega)).2 j z hz
end
end Go.Vg
end
section
namespace Go.Vg
open Go Go.RowKit Go.ChangeShapes Go.WideShapes
set_option linter.unusedVariables false
set_option linter.unusedSimpArgs false
section
variable {H : Type} {enc : TypeId × Value → H} {P : Program} {w : World}
theorem cell_lt0 {a : Addr} {v : Value} (h : w.cell? a = some v) : a.block < w.heap.size := by
 rcases Nat.lt_or_ge a.block w.heap.size with h1 | h1
 ·exact h1
 ·unfold World.cell? at h
  rw [Array.getElem?_eq_none h1] at h; cases h
theorem ints0 {t e : TypeId} (ht : P.underlying t = some (.slice e)) (he : P.underlying e = some (.int .i64)) (hc : P.cellsOf e = 1)
  {fuel : Nat} {cs : List Value} {x : DataW H × List MemPlace} (h : DataW.trod enc P w 0 (fun _ => true) true fuel t cs = some x) :
  ∃ (v : Value) (l : List Int), cs = [v] ∧ Cv w (fun b => b < w.heap.size) (.ints .i64 l) v := by
 rcases open_ints ht he hc h with ⟨rfl, _⟩ | ⟨a', len, cap, zs, rfl, _, hl, _, hz, _, hcell, _⟩
 ·exact ⟨_, [], rfl, .intsNil .i64⟩
 ·simp only [if_true] at hz
  by_cases h0 : len = 0
  ·subst h0
   exact ⟨_, [], rfl, .intsE .i64 a' cap⟩
  ·have g0 := hcell 0 (by omega)
   have hsp := World.cell?_spot g0
   have hb := cell_lt0 g0
   have ha : a'.add 0 = a' := by simp [Addr.add]
   rw [ha] at hsp hb
   obtain ⟨b, off, spot⟩ := a'
   simp only at hsp hb
   subst hsp
   have hlen : (zs.take len).length = len := by rw [List.length_take]; omega
   refine ⟨_, zs.take len, rfl, ?_⟩
   have hcv : Cv w (fun b => b < w.heap.size) (.ints .i64 (zs.take len)) (.slice (some ⟨b, off, none⟩) (zs.take len).length cap) := by
    refine .ints .i64 _ b off cap hb (fun j x hx => ?_) (by omega)
    have hj : j < (zs.take len).length := (List.getElem?_eq_some_iff.1 hx).1
    have hj2 : j < zs.length := by rw [hlen] at hj; omega
    have := hcell j hj2
    rw [add_plain] at this
    rw [this]
    rw [List.getElem?_take_of_lt (by omega)] at hx
    simp [List.getD, hx]
   rw [hlen] at hcv
   exact hcv
theorem intss_cv {t e u : TypeId} {base : Nat} (ht : P.underlying t = some (.slice e)) (he : P.underlying e = some (.slice u)) (hc : P.cellsOf e = 1) (hu : P.underlying u = some (.int .i64)) (hcu : P.cellsOf u = 1)
  {v : Value} (hval : Value.okWide P w .any base t v) {d : DataW H} {ps : List MemPlace} (h : DataW.Trod enc P w 0 (fun _ => true) true t v d ps) :
  ∃ (m : Nat) (F : Nat → List Int), Cv w (fun b => b < w.heap.size) (.rd 1 m fun i => [.ints .i64 (F i)]) v := by
 obtain ⟨fuel, hfu⟩ := h
 obtain ⟨a, len, cap, rfl⟩ := okWide_slice ht hval
 have hcs : (Value.slice a len cap).cells.toList = [.slice a len cap] := rfl
 rw [hcs] at hfu
 rcases Deep.open_slice ht hfu with ⟨h0, _⟩ | ⟨a', len', cap', m, n', D, Pl, h0, _, hl, _, hmm, _, hel⟩
 ·cases h0; exact ⟨0, fun _ => [], .rdNil 1 _⟩
 ·cases h0
  simp only [Value.okWide, ht, Cell.okWide, Cell.ok, World.has] at hval
  obtain ⟨hv1, hv2, _, hspot, row, cells, hsh, _⟩ := hval
  obtain ⟨b, off, spot⟩ := a'
  simp only at hspot hsh
  subst hspot
  simp only [if_true] at hmm
  have hb : b < w.heap.size := by
   rcases Nat.lt_or_ge b w.heap.size with h1 | h1
   ·exact h1
   ·rw [World.shape?, Array.getElem?_eq_none h1] at hsh; cases hsh
  have key : ∀ i, i < m → ∃ r : List Int × Value, w.cell? ⟨b, off + i, none⟩ = some r.2 ∧ Cv w (fun b => b < w.heap.size) (.ints .i64 r.1) r.2 := by
   intro i hi
   obtain ⟨cs', h1, h2⟩ := hel i hi
   obtain ⟨v, l, rfl, hcv⟩ := ints0 he hu hcu h2
   rw [hc] at h1
   obtain ⟨_, _, h5⟩ := World.cells?_some h1
   have h7 := h5 0 (by omega)
   rw [add_plain, add_plain] at h7
   exact ⟨(l, v), by simpa using h7, hcv⟩
  obtain ⟨F, hF⟩ := Deep.choose_lt (α := List Int × Value) key
  refine ⟨len, fun i => (F i).1, ?_⟩
  refine .rd 1 len _ b off cap (fun i => [(F i).2]) hb (fun i hi => .cons _ _ _ _ (hF i (by omega)).2 .nil) (fun i hi => rfl) (fun i j v hi hj => ?_) (by omega)
  match j, hj with
  | 0, hj =>
   simp at hj; subst hj
   simpa using (hF i (by omega)).1
end
end Go.Vg
end
section
namespace Go.Vg
open Go Go.RowKit Go.ChangeShapes Go.WideShapes
set_option linter.unusedVariables false
set_option linter.unusedSimpArgs false
section
variable {H : Type} {enc : TypeId × Value → H} {P : Program} {w : World}
theorem scr_cv {t s sl rl el re u : TypeId} {f0 f1 f2 g0 g1 : Field} {fs : Array Field} {base : Nat} (ht : P.underlying t = some (.struct #[f0, f1, f2])) (hts : P.cellTypes P.depth t = some [sl, u, rl, el]) (hu : P.underlying u = some (.int .i64)) (hcu : P.cellsOf u = 1) (hc : P.cellsOf t = 4)
  (hs : P.underlying s = some (.struct #[g0, g1])) (t0 : f0.type = s) (o0 : f0.offset = 0) (c0 : P.cellsOf s = 2) (gt0 : g0.type = sl) (go0 : g0.offset = 0) (gc0 : P.cellsOf sl = 1) (hsl : P.underlying sl = some (.slice u))
  (t1 : f1.type = rl) (o1 : f1.offset = 2) (c1 : P.cellsOf rl = 1) (hrl : P.underlying rl = some (.slice re)) (hre : P.underlying re = some (.struct fs)) (hcr : P.cellsOf re = 6) (hfs : fs.size = 6)
  (hf6 : ∀ (j : Nat) (f : Field), fs[j]? = some f → P.underlying f.type = some (.int .i64) ∧ P.cellsOf f.type = 1 ∧ f.offset = j)
  (t2 : f2.type = el) (o2 : f2.offset = 3) (c2 : P.cellsOf el = 1) (hel : P.underlying el = some (.slice sl))
  {v : Value} (hval : Value.okWide P w .any base t v) {d : DataW H} {ps : List MemPlace} (h : DataW.Trod enc P w 0 (fun _ => true) true t v d ps) :
  ∃ (T : List Int) (m : Int) (n : Nat) (F : Nat → List Int) (N : Nat) (Y : Nat → List Int), (∀ i, i < n → (F i).length = 6) ∧
   ∀ g : Nat → List SV, (∀ i, i < n → g i = (F i).map (SV.int .i64)) → Cv w (fun b => b < w.heap.size) (.agg [.ints .i64 T, .int .i64 m, .rd 6 n g, .rd 1 N fun i => [.ints .i64 (Y i)]]) v := by
 obtain ⟨cs, rfl, h2, h3⟩ := agg_cells (.inl ⟨_, ht⟩) hval hts
 rw [hc] at h2
 obtain ⟨x0, x1, x2, x3, rfl⟩ : ∃ x0 x1 x2 x3, cs = #[x0, x1, x2, x3] := by
  obtain ⟨l⟩ := cs
  match l, h2 with
  | [x0, x1, x2, x3], _ => exact ⟨x0, x1, x2, x3, rfl⟩
 obtain ⟨u0, e0, r0⟩ := h3 0 x0 rfl
 obtain ⟨u1, e1, r1⟩ := h3 1 x1 rfl
 obtain ⟨u2, e2, r2⟩ := h3 2 x2 rfl
 obtain ⟨u3, e3, r3⟩ := h3 3 x3 rfl
 simp at e0 e1 e2 e3
 subst e0 e1 e2 e3
 obtain ⟨m, rfl⟩ := cell_int hu r1
 have v0 : Value.okWide P w .any base sl x0 := by simpa only [Value.okWide, hsl] using r0
 have v2 : Value.okWide P w .any base rl x2 := by simpa only [Value.okWide, hrl] using r2
 have v3 : Value.okWide P w .any base el x3 := by simpa only [Value.okWide, hel] using r3
 obtain ⟨fuel, hf⟩ := h
 obtain ⟨xs, n, _, _, hl, hlen, hfi⟩ := DataW.trod_struct ht hf
 match xs, hlen with
 | [y0, y1, y2], _ =>
  have s0 := hfi 0 f0 rfl
  have s1 := hfi 1 f1 rfl
  have s2 := hfi 2 f2 rfl
  rw [t0, o0, c0] at s0
  rw [t1, o1, c1] at s1
  rw [t2, o2, c2] at s2
  obtain ⟨z0, z1, n0, _, _, s00, _⟩ := trod_struct2 hs s0
  rw [gt0, go0, gc0] at s00
  obtain ⟨p0, m0, k0, rfl⟩ := okWide_slice hsl v0
  obtain ⟨p2, m2, k2, rfl⟩ := okWide_slice hrl v2
  obtain ⟨p3, m3, k3, rfl⟩ := okWide_slice hel v3
  obtain ⟨T, hT⟩ := ints_cv (enc := enc) hsl hu hcu v0 (d := z0.1) (ps := z0.2) ⟨n0, s00⟩
  obtain ⟨q, F, hn, hF, hcv⟩ := rowsI_cv (enc := enc) (n := 6) hrl hre hcr hfs hf6 v2 (d := y1.1) (ps := y1.2) ⟨n, s1⟩
  obtain ⟨N, Y, hY⟩ := intss_cv (enc := enc) hel hsl gc0 hu hcu v3 (d := y2.1) (ps := y2.2) ⟨n, s2⟩
  exact ⟨T, m, q, F, N, Y, hF, fun g hg => .agg _ [_, _, _, _] (.cons _ _ _ _ hT (.cons _ _ _ _ (.int _ _) (.cons _ _ _ _ (hcv g hg) (.cons _ _ _ _ hY .nil))))⟩
end
end Go.Vg
end
section
namespace Go.Vg
theorem len1 {xs : List Int} (h : xs.length = 1) : ∃ a, xs = [a] := by
 rcases xs with _ | ⟨a, xs⟩
 ·cases h
 ·rcases xs with _ | ⟨b, xs⟩
  ·exact ⟨a, rfl⟩
  ·simp at h
theorem lenS {xs : List Int} {n : Nat} (h : xs.length = n + 1) : ∃ a ys, xs = a :: ys ∧ ys.length = n := by
 rcases xs with _ | ⟨a, xs⟩
 ·cases h
 ·exact ⟨a, xs, rfl, by simpa using h⟩
theorem len2 {xs : List Int} (h : xs.length = 2) : ∃ a b, xs = [a, b] := by
 obtain ⟨a, ys, rfl, h'⟩ := lenS h
 obtain ⟨b, rfl⟩ := len1 h'
 exact ⟨a, b, rfl⟩
theorem len3 {xs : List Int} (h : xs.length = 3) : ∃ a b c, xs = [a, b, c] := by
 obtain ⟨a, ys, rfl, h'⟩ := lenS h
 obtain ⟨b, c, rfl⟩ := len2 h'
 exact ⟨a, b, c, rfl⟩
end Go.Vg
end
