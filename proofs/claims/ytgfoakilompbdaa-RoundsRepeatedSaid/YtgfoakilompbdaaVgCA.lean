/-
  From a row's arguments to closed values: slices of integers.
-/
import Derived.Test.YtgfoakilompbdaaVgR19
import Derived.ChangeSlices
import Derived.OpenShut
import Derived.Carry
section
namespace Go.Vg
open Go Go.RowKit Go.ChangeShapes Go.WideShapes
set_option linter.unusedVariables false
set_option linter.unusedSimpArgs false

theorem below_of_later {w w' : World} (h : Later w w') : Below w.heap.size w w' := ⟨h.os, h.tape, h.output, h.sz, fun k hk => h.heap k hk⟩

section
variable {H : Type} {enc : TypeId × Value → H} {P : Program} {w : World}
theorem ints_cv {t e : TypeId} {k : IntKind} {base : Nat} (ht : P.underlying t = some (.slice e)) (he : P.underlying e = some (.int k)) (hc : P.cellsOf e = 1) {v : Value} (hval : Value.okWide P w .any base t v)
    {d : DataW H} {ps : List MemPlace} (h : DataW.Trod enc P w 0 (fun _ => true) true t v d ps) : ∃ l : List Int, Cv w (fun b => b < w.heap.size) (.ints k l) v := by
  obtain ⟨fuel, hf⟩ := h
  obtain ⟨a, len, cap, rfl⟩ := okWide_slice ht hval
  have hcs : (Value.slice a len cap).cells.toList = [.slice a len cap] := rfl
  rw [hcs] at hf
  rcases open_ints ht he hc hf with ⟨h0, _⟩ | ⟨a', len', cap', zs, h0, _, hl, _, hz, _, hcell, _⟩
  · cases h0; exact ⟨[], .intsNil k⟩
  · cases h0
    simp only [Value.okWide, ht, Cell.okWide, Cell.ok, World.has] at hval
    obtain ⟨_, _, _, hspot, row, cells, hsh, _⟩ := hval
    obtain ⟨b, off, spot⟩ := a'
    simp only at hspot hsh
    subst hspot
    simp only [if_true] at hz
    have hb : b < w.heap.size := by
      rcases Nat.lt_or_ge b w.heap.size with h1 | h1
      · exact h1
      · rw [World.shape?, Array.getElem?_eq_none h1] at hsh; cases hsh
    have hlen : (zs.take len).length = len := by rw [List.length_take]; omega
    refine ⟨zs.take len, ?_⟩
    have hcv : Cv w (fun b => b < w.heap.size) (.ints k (zs.take len)) (.slice (some ⟨b, off, none⟩) (zs.take len).length cap) := by
      refine .ints k _ b off cap hb (fun j x hx => ?_) (by omega)
      have hj : j < (zs.take len).length := (List.getElem?_eq_some_iff.1 hx).1
      have hj2 : j < zs.length := by rw [hlen] at hj; omega
      have := hcell j hj2
      rw [add_plain] at this
      rw [this]
      rw [List.getElem?_take_of_lt (by omega)] at hx
      simp [List.getD, hx]
    rw [hlen] at hcv
    exact hcv
end
end Go.Vg
end

section
namespace Go.Vg
open Go Go.RowKit Go.ChangeShapes Go.WideShapes
set_option linter.unusedVariables false
set_option linter.unusedSimpArgs false

section
variable {P : Program} {w : World}
theorem cell_int {r : Reach} {base : Nat} {u : TypeId} {k : IntKind} {v : Value} (hu : P.underlying u = some (.int k)) (h : Cell.okWide P w r base u v) : ∃ n, v = .int k n := by
  simp only [Cell.okWide, hu] at h
  cases v <;> simp_all [Cell.ok]
theorem agg_cells {base : Nat} {t : TypeId} {ts : List TypeId} {v : Value} (ht : (∃ fs, P.underlying t = some (.struct fs)) ∨ ∃ n e, P.underlying t = some (.array n e)) (hval : Value.okWide P w .any base t v) (hts : P.cellTypes P.depth t = some ts) :
    ∃ cs : Array Value, v = .agg cs ∧ cs.size = P.cellsOf t ∧ ∀ i v, cs[i]? = some v → ∃ u, ts[i % ts.length]? = some u ∧ Cell.okWide P w .any base u v := by
  rcases ht with ⟨fs, ht⟩ | ⟨n, e, ht⟩ <;>
  · simp only [Value.okWide, ht] at hval
    obtain ⟨cs, h1, h2, ts', h3, _, h4⟩ := hval
    rw [hts] at h3
    cases h3
    exact ⟨cs, h1, h2, h4⟩
theorem agg2_cv {base : Nat} {t u : TypeId} {v : Value} (ht : (∃ fs, P.underlying t = some (.struct fs)) ∨ ∃ n e, P.underlying t = some (.array n e)) (hval : Value.okWide P w .any base t v) (hts : P.cellTypes P.depth t = some [u, u]) (hu : P.underlying u = some (.int .i64)) (hc : P.cellsOf t = 2) :
    ∃ a b : Int, Cv w (fun b => b < w.heap.size) (.agg [.int .i64 a, .int .i64 b]) v := by
  obtain ⟨cs, rfl, h2, h3⟩ := agg_cells ht hval hts
  rw [hc] at h2
  obtain ⟨x, y, rfl⟩ : ∃ x y, cs = #[x, y] := by
    obtain ⟨l⟩ := cs
    match l, h2 with
    | [x, y], _ => exact ⟨x, y, rfl⟩
  obtain ⟨u0, e0, h0⟩ := h3 0 x rfl
  obtain ⟨u1, e1, h1⟩ := h3 1 y rfl
  simp at e0 e1
  subst e0; subst e1
  obtain ⟨a, rfl⟩ := cell_int hu h0
  obtain ⟨b, rfl⟩ := cell_int hu h1
  exact ⟨a, b, .agg _ [.int .i64 a, .int .i64 b] (.cons _ _ _ _ (.int _ _) (.cons _ _ _ _ (.int _ _) .nil))⟩
end
end Go.Vg
end

section
namespace Go.Vg
open Go Go.RowKit Go.ChangeShapes Go.WideShapes
set_option linter.unusedVariables false
set_option linter.unusedSimpArgs false

section
variable {P : Program} {w : World}
theorem ints_of : ∀ {l : List Value}, (∀ v ∈ l, ∃ n, v = .int .i64 n) → ∃ xs : List Int, l = xs.map (Value.int .i64)
  | [], _ => ⟨[], rfl⟩
  | v :: l, h => by
    obtain ⟨n, rfl⟩ := h v (List.mem_cons_self ..)
    obtain ⟨xs, rfl⟩ := ints_of fun v hv => h v (List.mem_cons_of_mem _ hv)
    exact ⟨n :: xs, rfl⟩
theorem ints_cvs {im : Nat → Prop} : ∀ xs : List Int, Cvs w im (xs.map (SV.int .i64)) (xs.map (Value.int .i64))
  | [] => .nil
  | x :: xs => .cons _ _ _ _ (.int _ _) (ints_cvs xs)
theorem aggI_cv {base n : Nat} {t u : TypeId} {ts : List TypeId} {v : Value} (ht : (∃ fs, P.underlying t = some (.struct fs)) ∨ ∃ n e, P.underlying t = some (.array n e)) (hval : Value.okWide P w .any base t v)
    (hts : P.cellTypes P.depth t = some ts) (hall : ts.all (· == u) = true) (hu : P.underlying u = some (.int .i64)) (hc : P.cellsOf t = n) :
    ∃ xs : List Int, xs.length = n ∧ Cv w (fun b => b < w.heap.size) (.agg (xs.map (SV.int .i64))) v := by
  obtain ⟨cs, rfl, h2, h3⟩ := agg_cells ht hval hts
  obtain ⟨xs, hxs⟩ := ints_of (l := cs.toList) fun v hv => by
    obtain ⟨i, hi⟩ := List.mem_iff_getElem?.1 hv
    obtain ⟨u', e, h4⟩ := h3 i v (by simpa using hi)
    have : u' = u := by simpa using List.all_eq_true.1 hall u' (List.mem_of_getElem? e)
    subst this
    exact cell_int hu h4
  refine ⟨xs, ?_, ?_⟩
  · have := congrArg List.length hxs
    rw [List.length_map, Array.length_toList] at this
    omega
  · have : cs = (xs.map (Value.int .i64)).toArray := by rw [← hxs]
    rw [this]
    exact .agg _ _ (ints_cvs xs)
end
end Go.Vg
end

section
namespace Go.Vg
theorem len1 {xs : List Int} (h : xs.length = 1) : ∃ a, xs = [a] := by
  rcases xs with _ | ⟨a, xs⟩
  · cases h
  · rcases xs with _ | ⟨b, xs⟩
    · exact ⟨a, rfl⟩
    · simp at h
theorem lenS {xs : List Int} {n : Nat} (h : xs.length = n + 1) : ∃ a ys, xs = a :: ys ∧ ys.length = n := by
  rcases xs with _ | ⟨a, xs⟩
  · cases h
  · exact ⟨a, xs, rfl, by simpa using h⟩
theorem len2 {xs : List Int} (h : xs.length = 2) : ∃ a b, xs = [a, b] := by
  obtain ⟨a, ys, rfl, h'⟩ := lenS h
  obtain ⟨b, rfl⟩ := len1 h'
  exact ⟨a, b, rfl⟩
theorem len3 {xs : List Int} (h : xs.length = 3) : ∃ a b c, xs = [a, b, c] := by
  obtain ⟨a, ys, rfl, h'⟩ := lenS h
  obtain ⟨b, c, rfl⟩ := len2 h'
  exact ⟨a, b, c, rfl⟩
theorem len4 {xs : List Int} (h : xs.length = 4) : ∃ a b c d, xs = [a, b, c, d] := by
  obtain ⟨a, ys, rfl, h'⟩ := lenS h
  obtain ⟨b, c, d, rfl⟩ := len3 h'
  exact ⟨a, b, c, d, rfl⟩
theorem len5 {xs : List Int} (h : xs.length = 5) : ∃ a b c d e, xs = [a, b, c, d, e] := by
  obtain ⟨a, ys, rfl, h'⟩ := lenS h
  obtain ⟨b, c, d, e, rfl⟩ := len4 h'
  exact ⟨a, b, c, d, e, rfl⟩
theorem len6 {xs : List Int} (h : xs.length = 6) : ∃ a b c d e f, xs = [a, b, c, d, e, f] := by
  obtain ⟨a, ys, rfl, h'⟩ := lenS h
  obtain ⟨b, c, d, e, f, rfl⟩ := len5 h'
  exact ⟨a, b, c, d, e, f, rfl⟩
end Go.Vg
end
