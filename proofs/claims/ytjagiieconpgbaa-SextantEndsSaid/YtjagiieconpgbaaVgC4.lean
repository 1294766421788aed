/-
  From a row's arguments to closed values: a struct with slices of structs of two integers among its fields.
-/
import Derived.Test.YtjagiieconpgbaaVgC2
import Derived.Test.YtjagiieconpgbaaVgC3
import Derived.Lib.SmallJoins
namespace Go.Vg
open Go Go.RowKit Go.ChangeShapes Go.WideShapes
set_option linter.unusedVariables false
set_option linter.unusedSimpArgs false

section
variable {H : Type} {enc : TypeId × Value → H} {P : Program} {w : World}
theorem sx_cv {t sl e u : TypeId} {f0 f1 f2 f3 f4 g0 g1 : Field} {base : Nat} (ht : P.underlying t = some (.struct #[f0, f1, f2, f3, f4])) (hts : P.cellTypes P.depth t = some [u, sl, u, u, u, sl]) (hu : P.underlying u = some (.int .i64)) (hc : P.cellsOf t = 6)
    (hsl : P.underlying sl = some (.slice e)) (t1 : f1.type = sl) (t4 : f4.type = sl) (o1 : f1.offset = 1) (o4 : f4.offset = 5) (c1 : P.cellsOf sl = 1)
    (he : P.underlying e = some (.struct #[g0, g1])) (hce : P.cellsOf e = 2) (k0 : P.underlying g0.type = some (.int .i64)) (k1 : P.underlying g1.type = some (.int .i64)) (d0 : P.cellsOf g0.type = 1) (d1 : P.cellsOf g1.type = 1) (q0 : g0.offset = 0) (q1 : g1.offset = 1)
    {v : Value} (hval : Value.okWide P w .any base t v) {d : DataW H} {ps : List MemPlace} (h : DataW.Trod enc P w 0 (fun _ => true) true t v d ps) :
    ∃ (a0 a2 a3 a4 : Int) (T S : List (Int × Int)), Cv w (fun b => b < w.heap.size) (.agg [.int .i64 a0, .rd 2 T.length (fun i => [.int .i64 (T.getD i (0, 0)).1, .int .i64 (T.getD i (0, 0)).2]), .int .i64 a2, .int .i64 a3, .int .i64 a4, .rd 2 S.length (fun i => [.int .i64 (S.getD i (0, 0)).1, .int .i64 (S.getD i (0, 0)).2])]) v := by
  obtain ⟨cs, rfl, h2, h3⟩ := agg_cells (.inl ⟨_, ht⟩) hval hts
  rw [hc] at h2
  obtain ⟨x0, x1, x2, x3, x4, x5, rfl⟩ : ∃ x0 x1 x2 x3 x4 x5, cs = #[x0, x1, x2, x3, x4, x5] := by
    obtain ⟨l⟩ := cs
    match l, h2 with
    | [x0, x1, x2, x3, x4, x5], _ => exact ⟨x0, x1, x2, x3, x4, x5, rfl⟩
  obtain ⟨u0, e0, r0⟩ := h3 0 x0 rfl
  obtain ⟨u1, e1, r1⟩ := h3 1 x1 rfl
  obtain ⟨u2, e2, r2⟩ := h3 2 x2 rfl
  obtain ⟨u3, e3, r3⟩ := h3 3 x3 rfl
  obtain ⟨u4, e4, r4⟩ := h3 4 x4 rfl
  obtain ⟨u5, e5, r5⟩ := h3 5 x5 rfl
  simp at e0 e1 e2 e3 e4 e5
  subst e0 e1 e2 e3 e4 e5
  obtain ⟨a0, rfl⟩ := cell_int hu r0
  obtain ⟨a2, rfl⟩ := cell_int hu r2
  obtain ⟨a3, rfl⟩ := cell_int hu r3
  obtain ⟨a4, rfl⟩ := cell_int hu r4
  have v1 : Value.okWide P w .any base sl x1 := by simpa only [Value.okWide, hsl] using r1
  have v5 : Value.okWide P w .any base sl x5 := by simpa only [Value.okWide, hsl] using r5
  obtain ⟨fuel, hf⟩ := h
  obtain ⟨xs, n, _, _, hl, hlen, hfi⟩ := DataW.trod_struct ht hf
  match xs, hlen with
  | [y0, y1, y2, y3, y4], _ =>
    have s1 := hfi 1 f1 rfl
    have s4 := hfi 4 f4 rfl
    rw [t1, o1, c1] at s1
    rw [t4, o4, c1] at s4
    obtain ⟨p1, m1, n1, rfl⟩ := okWide_slice hsl v1
    obtain ⟨p5, m5, n5, rfl⟩ := okWide_slice hsl v5
    obtain ⟨T, hT⟩ := pairs_cv (enc := enc) hsl he hce k0 k1 d0 d1 q0 q1 v1 (d := y1.1) (ps := y1.2) ⟨n, s1⟩
    obtain ⟨S, hS⟩ := pairs_cv (enc := enc) hsl he hce k0 k1 d0 d1 q0 q1 v5 (d := y4.1) (ps := y4.2) ⟨n, s4⟩
    exact ⟨a0, a2, a3, a4, T, S, .agg _ [_, _, _, _, _, _] (.cons _ _ _ _ (.int _ _) (.cons _ _ _ _ hT (.cons _ _ _ _ (.int _ _) (.cons _ _ _ _ (.int _ _) (.cons _ _ _ _ (.int _ _) (.cons _ _ _ _ hS .nil))))))⟩
end
end Go.Vg
