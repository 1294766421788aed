/-
  From a row's arguments to closed values: structs and arrays of integers.
-/
import Derived.Test.YtjagiieconpgbaaVgC1
namespace Go.Vg
open Go Go.RowKit Go.ChangeShapes Go.WideShapes
set_option linter.unusedVariables false
set_option linter.unusedSimpArgs false

section
variable {P : Program} {w : World}
theorem cell_int {r : Reach} {base : Nat} {u : TypeId} {k : IntKind} {v : Value} (hu : P.underlying u = some (.int k)) (h : Cell.okWide P w r base u v) : ∃ n, v = .int k n := by
  simp only [Cell.okWide, hu] at h
  cases v <;> simp_all [Cell.ok]
theorem agg_cells {base : Nat} {t : TypeId} {ts : List TypeId} {v : Value} (ht : (∃ fs, P.underlying t = some (.struct fs)) ∨ ∃ n e, P.underlying t = some (.array n e)) (hval : Value.okWide P w .any base t v) (hts : P.cellTypes P.depth t = some ts) :
    ∃ cs : Array Value, v = .agg cs ∧ cs.size = P.cellsOf t ∧ ∀ i v, cs[i]? = some v → ∃ u, ts[i % ts.length]? = some u ∧ Cell.okWide P w .any base u v := by
  rcases ht with ⟨fs, ht⟩ | ⟨n, e, ht⟩ <;>
  · simp only [Value.okWide, ht] at hval
    obtain ⟨cs, h1, h2, ts', h3, _, h4⟩ := hval
    rw [hts] at h3
    cases h3
    exact ⟨cs, h1, h2, h4⟩
theorem agg2_cv {base : Nat} {t u : TypeId} {v : Value} (ht : (∃ fs, P.underlying t = some (.struct fs)) ∨ ∃ n e, P.underlying t = some (.array n e)) (hval : Value.okWide P w .any base t v) (hts : P.cellTypes P.depth t = some [u, u]) (hu : P.underlying u = some (.int .i64)) (hc : P.cellsOf t = 2) :
    ∃ a b : Int, Cv w (fun b => b < w.heap.size) (.agg [.int .i64 a, .int .i64 b]) v := by
  obtain ⟨cs, rfl, h2, h3⟩ := agg_cells ht hval hts
  rw [hc] at h2
  obtain ⟨x, y, rfl⟩ : ∃ x y, cs = #[x, y] := by
    obtain ⟨l⟩ := cs
    match l, h2 with
    | [x, y], _ => exact ⟨x, y, rfl⟩
  obtain ⟨u0, e0, h0⟩ := h3 0 x rfl
  obtain ⟨u1, e1, h1⟩ := h3 1 y rfl
  simp at e0 e1
  subst e0; subst e1
  obtain ⟨a, rfl⟩ := cell_int hu h0
  obtain ⟨b, rfl⟩ := cell_int hu h1
  exact ⟨a, b, .agg _ [.int .i64 a, .int .i64 b] (.cons _ _ _ _ (.int _ _) (.cons _ _ _ _ (.int _ _) .nil))⟩
end
end Go.Vg
