/-
  From a row's arguments to closed values: slices of integers.
-/
import Derived.Test.YtjagiieconpgbaaVgR19
import Derived.ChangeSlices
import Derived.OpenShut
import Derived.Carry
namespace Go.Vg
open Go Go.RowKit Go.ChangeShapes Go.WideShapes
set_option linter.unusedVariables false
set_option linter.unusedSimpArgs false

theorem below_of_later {w w' : World} (h : Later w w') : Below w.heap.size w w' := ⟨h.os, h.tape, h.output, h.sz, fun k hk => h.heap k hk⟩

section
variable {H : Type} {enc : TypeId × Value → H} {P : Program} {w : World}
theorem ints_cv {t e : TypeId} {k : IntKind} {base : Nat} (ht : P.underlying t = some (.slice e)) (he : P.underlying e = some (.int k)) (hc : P.cellsOf e = 1) {v : Value} (hval : Value.okWide P w .any base t v)
    {d : DataW H} {ps : List MemPlace} (h : DataW.Trod enc P w 0 (fun _ => true) true t v d ps) : ∃ l : List Int, Cv w (fun b => b < w.heap.size) (.ints k l) v := by
  obtain ⟨fuel, hf⟩ := h
  obtain ⟨a, len, cap, rfl⟩ := okWide_slice ht hval
  have hcs : (Value.slice a len cap).cells.toList = [.slice a len cap] := rfl
  rw [hcs] at hf
  rcases open_ints ht he hc hf with ⟨h0, _⟩ | ⟨a', len', cap', zs, h0, _, hl, _, hz, _, hcell, _⟩
  · cases h0; exact ⟨[], .intsNil k⟩
  · cases h0
    simp only [Value.okWide, ht, Cell.okWide, Cell.ok, World.has] at hval
    obtain ⟨_, _, _, hspot, row, cells, hsh, _⟩ := hval
    obtain ⟨b, off, spot⟩ := a'
    simp only at hspot hsh
    subst hspot
    simp only [if_true] at hz
    have hb : b < w.heap.size := by
      rcases Nat.lt_or_ge b w.heap.size with h1 | h1
      · exact h1
      · rw [World.shape?, Array.getElem?_eq_none h1] at hsh; cases hsh
    have hlen : (zs.take len).length = len := by rw [List.length_take]; omega
    refine ⟨zs.take len, ?_⟩
    have hcv : Cv w (fun b => b < w.heap.size) (.ints k (zs.take len)) (.slice (some ⟨b, off, none⟩) (zs.take len).length cap) := by
      refine .ints k _ b off cap hb (fun j x hx => ?_) (by omega)
      have hj : j < (zs.take len).length := (List.getElem?_eq_some_iff.1 hx).1
      have hj2 : j < zs.length := by rw [hlen] at hj; omega
      have := hcell j hj2
      rw [add_plain] at this
      rw [this]
      rw [List.getElem?_take_of_lt (by omega)] at hx
      simp [List.getD, hx]
    rw [hlen] at hcv
    exact hcv
end
end Go.Vg
