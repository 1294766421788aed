/-
  From a row's arguments to closed values: slices of structs of two integers.
-/
import Derived.Test.YtjagiieconpgbaaVgC1
import Derived.Deep.Slices
import Derived.ChangeSame
namespace Go.Vg
open Go Go.RowKit Go.ChangeShapes Go.WideShapes
set_option linter.unusedVariables false
set_option linter.unusedSimpArgs false

section
variable {H : Type} {enc : TypeId × Value → H} {P : Program} {w : World}
theorem pairs_cv {t e : TypeId} {f0 f1 : Field} {base : Nat} (ht : P.underlying t = some (.slice e)) (he : P.underlying e = some (.struct #[f0, f1])) (hc : P.cellsOf e = 2)
    (t0 : P.underlying f0.type = some (.int .i64)) (t1 : P.underlying f1.type = some (.int .i64)) (c0 : P.cellsOf f0.type = 1) (c1 : P.cellsOf f1.type = 1) (o0 : f0.offset = 0) (o1 : f1.offset = 1)
    {v : Value} (hval : Value.okWide P w .any base t v) {d : DataW H} {ps : List MemPlace} (h : DataW.Trod enc P w 0 (fun _ => true) true t v d ps) :
    ∃ L : List (Int × Int), Cv w (fun b => b < w.heap.size) (.rd 2 L.length (fun i => [.int .i64 (L.getD i (0, 0)).1, .int .i64 (L.getD i (0, 0)).2])) v := by
  obtain ⟨fuel, hf⟩ := h
  obtain ⟨a, len, cap, rfl⟩ := okWide_slice ht hval
  have hcs : (Value.slice a len cap).cells.toList = [.slice a len cap] := rfl
  rw [hcs] at hf
  rcases Deep.open_slice ht hf with ⟨h0, _⟩ | ⟨a', len', cap', m, n, D, Pl, h0, _, hl, _, hmm, _, hel⟩
  · cases h0; exact ⟨[], .rdNil 2 _⟩
  · cases h0
    simp only [Value.okWide, ht, Cell.okWide, Cell.ok, World.has] at hval
    obtain ⟨_, _, _, hspot, row, cells, hsh, _⟩ := hval
    obtain ⟨b, off, spot⟩ := a'
    simp only at hspot hsh
    subst hspot
    simp only [if_true] at hmm
    have hb : b < w.heap.size := by
      rcases Nat.lt_or_ge b w.heap.size with h1 | h1
      · exact h1
      · rw [World.shape?, Array.getElem?_eq_none h1] at hsh; cases hsh
    have key : ∀ i, i < m → ∃ x : Int × Int, w.cell? ⟨b, off + (i * 2 + 0), none⟩ = some (.int .i64 x.1) ∧ w.cell? ⟨b, off + (i * 2 + 1), none⟩ = some (.int .i64 x.2) := by
      intro i hi
      obtain ⟨cs', h1, h2⟩ := hel i hi
      obtain ⟨y0, y1, n', _, hlen, h3, h4⟩ := trod_struct2 he h2
      obtain ⟨z0, e0, _, _⟩ := DataW.trod_int t0 h3
      obtain ⟨z1, e1, _, _⟩ := DataW.trod_int t1 h4
      rw [hc] at hlen h1
      rw [o0, c0] at e0
      rw [o1, c1] at e1
      match cs', hlen with
      | [u0, u1], _ =>
        simp at e0 e1
        subst e0
        subst e1
        obtain ⟨_, _, h5⟩ := World.cells?_some h1
        have g0 := h5 0 (by omega)
        have g1 := h5 1 (by omega)
        rw [add_plain, add_plain] at g0 g1
        exact ⟨(z0, z1), by simpa [Nat.add_assoc] using g0, by simpa [Nat.add_assoc] using g1⟩
    obtain ⟨F, hF⟩ := Deep.choose_lt (α := Int × Int) key
    have hL : ((List.range len).map F).length = len := by simp
    have hg : ∀ i, i < len → ((List.range len).map F).getD i (0, 0) = F i := fun i hi => by simp [List.getD, hi]
    refine ⟨(List.range len).map F, ?_⟩
    have hcv : Cv w (fun b => b < w.heap.size) (.rd 2 ((List.range len).map F).length (fun i => [.int .i64 (((List.range len).map F).getD i (0, 0)).1, .int .i64 (((List.range len).map F).getD i (0, 0)).2])) (.slice (some ⟨b, off, none⟩) ((List.range len).map F).length cap) := by
      refine .rd 2 _ _ b off cap (fun i => [.int .i64 (F i).1, .int .i64 (F i).2]) hb (fun i hi => ?_) (fun i hi => rfl) (fun i j v hi hj => ?_) (by omega)
      · rw [hL] at hi
        rw [hg i hi]
        exact .cons _ _ _ _ (.int _ _) (.cons _ _ _ _ (.int _ _) .nil)
      · rw [hL] at hi
        obtain ⟨k0, k1⟩ := hF i (by omega)
        match j, hj with
        | 0, hj => simp at hj; subst hj; exact k0
        | 1, hj => simp at hj; subst hj; exact k1
    rw [hL] at hcv
    rw [hL]
    exact hcv
end
end Go.Vg
