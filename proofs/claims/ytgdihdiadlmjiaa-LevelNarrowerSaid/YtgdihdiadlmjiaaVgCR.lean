import Derived.Test.YtgdihdiadlmjiaaVgR21
import Derived.ChangeSlices
import Derived.OpenShut
import Derived.Carry
import Derived.Deep.Slices
import Derived.ChangeSame
set_option linter.all false
section
namespace Go.Vg
open Go Go.RowKit Go.ChangeShapes Go.WideShapes
theorem xBz {w w' : World} (h : Later w w') : Below w.heap.size w w' := ⟨h.os, h.tape, h.output, h.sz, fun k hk => h.heap k hk⟩
section
variable {H : Type} {enc : TypeId × Value -> H} {P : Program} {w : World}
end
end Go.Vg
end
section
namespace Go.Vg
open Go Go.RowKit Go.ChangeShapes Go.WideShapes
section
variable {H : Type} {enc : TypeId × Value -> H} {P : Program} {w : World}
end
end Go.Vg
end
section
namespace Go.Vg
open Go Go.RowKit Go.ChangeShapes Go.WideShapes
section
variable {P : Program} {w : World}
theorem xQt {r : Reach} {base : Nat} {u : TypeId} {k : IntKind} {v : Value} (hu : P.underlying u = some (.int k)) (h : Cell.okWide P w r base u v) : ∃ n, v = .int k n := by
 simp only [Cell.okWide, hu] at h
 cases v <;> simp_all [Cell.ok]
theorem xPm {base : Nat} {t : TypeId} {ts : List TypeId} {v : Value} (ht : (∃ fs, P.underlying t = some (.struct fs)) \/ ∃ n e, P.underlying t = some (.array n e)) (hval : Value.okWide P w .any base t v) (hts : P.cellTypes P.depth t = some ts) :
  ∃ cs : Array Value, v = .agg cs /\ cs.size = P.cellsOf t /\ ∀ i v, cs[i]? = some v -> ∃ u, ts[i % ts.length]? = some u /\ Cell.okWide P w .any base u v := by
 rcases ht with ⟨fs, ht⟩ | ⟨n, e, ht⟩ <;>
 ·simp only [Value.okWide, ht] at hval
  obtain ⟨cs, h1, h2, ts', h3, _, h4⟩ := hval
  rw [hts] at h3
  cases h3
  exact ⟨cs, h1, h2, h4⟩
end
end Go.Vg
end
section
namespace Go.Vg
open Go Go.RowKit Go.ChangeShapes Go.WideShapes
section
variable {P : Program} {w : World}
theorem xKi : ∀ {l : List Value}, (∀ v ∈ l, ∃ n, v = .int .i64 n) -> ∃ xs : List Int, l = xs.map (Value.int .i64)
 | [], _ => ⟨[], rfl⟩
 | v :: l, h => by
  obtain ⟨n, rfl⟩ := h v (List.mem_cons_self ..)
  obtain ⟨xs, rfl⟩ := xKi fun v hv => h v (List.mem_cons_of_mem _ hv)
  exact ⟨n :: xs, rfl⟩
theorem xId {im : Nat -> Prop} : ∀ xs : List Int, Cvs w im (xs.map (SV.int .i64)) (xs.map (Value.int .i64))
 | [] => .nil
 | x :: xs => .cons _ _ _ _ (.int _ _) (xId xs)
theorem xIe {base n : Nat} {t u : TypeId} {ts : List TypeId} {v : Value} (ht : (∃ fs, P.underlying t = some (.struct fs)) \/ ∃ n e, P.underlying t = some (.array n e)) (hval : Value.okWide P w .any base t v)
  (hts : P.cellTypes P.depth t = some ts) (hall : ts.all (· == u) = true) (hu : P.underlying u = some (.int .i64)) (hc : P.cellsOf t = n) :
  ∃ xs : List Int, xs.length = n /\ Cv w (fun b => b < w.heap.size) (.agg (xs.map (SV.int .i64))) v := by
 obtain ⟨cs, rfl, h2, h3⟩ := xPm ht hval hts
 obtain ⟨xs, hxs⟩ := xKi (l := cs.toList) fun v hv => by
  obtain ⟨i, hi⟩ := List.mem_iff_getElem?.1 hv
  obtain ⟨u', e, h4⟩ := h3 i v (by simpa using hi)
  have : u' = u := by simpa using List.all_eq_true.1 hall u' (List.mem_of_getElem? e)
  subst this
  exact xQt hu h4
 refine ⟨xs, ?_, ?_⟩
 ·have := congrArg List.length hxs
  rw [List.length_map, Array.length_toList] at this
  omega
 ·have : cs = (xs.map (Value.int .i64)).toArray := by rw [<- hxs]
  rw [this]
  exact .agg _ _ (xId xs)
end
end Go.Vg
end
section
namespace Go.Vg
open Go Go.RowKit Go.ChangeShapes Go.WideShapes
section
variable {H : Type} {enc : TypeId × Value -> H} {P : Program} {w : World}
theorem xCy {cs : List Value} {j : Nat} {v : Value} (h : (cs.drop j).take 1 = [v]) : cs[j]? = some v := by
 have : ((cs.drop j).take 1)[0]? = some v := by rw [h]; rfl
 rw [List.getElem?_take_of_lt (by omega), List.getElem?_drop] at this
 simpa using this
end
end Go.Vg
end
section
namespace Go.Vg
open Go Go.RowKit Go.ChangeShapes Go.WideShapes
section
variable {H : Type} {enc : TypeId × Value -> H} {P : Program} {w : World}
theorem xMa {t e : TypeId} {f0 f1 f2 : Field} {base : Nat} (ht : P.underlying t = some (.slice e)) (he : P.underlying e = some (.struct #[f0, f1, f2])) (hc : P.cellsOf e = 3)
  (u0 : P.underlying f0.type = some (.int .i64)) (c0 : P.cellsOf f0.type = 1) (o0 : f0.offset = 0)
  (u1 : P.underlying f1.type = some (.int .i64)) (c1 : P.cellsOf f1.type = 1) (o1 : f1.offset = 1)
  (u2 : P.underlying f2.type = some .bool) (c2 : P.cellsOf f2.type = 1) (o2 : f2.offset = 2)
  {v : Value} (hval : Value.okWide P w .any base t v) {d : DataW H} {ps : List MemPlace} (h : DataW.Trod enc P w 0 (fun _ => true) true t v d ps) :
  ∃ (m : Nat) (F : Nat -> Int × Int × Bool), (m : Int) <= 9223372036854775807 /\ ∀ g : Nat -> List SV, (∀ i, i < m -> g i = [.int .i64 (F i).1, .int .i64 (F i).2.1, .bool (F i).2.2]) -> Cv w (fun b => b < w.heap.size) (.rd 3 m g) v := by
 obtain ⟨fuel, hfu⟩ := h
 obtain ⟨a, len, cap, rfl⟩ := okWide_slice ht hval
 have hcs : (Value.slice a len cap).cells.toList = [.slice a len cap] := rfl
 rw [hcs] at hfu
 rcases Deep.open_slice ht hfu with ⟨h0, _⟩ | ⟨a', len', cap', m, n', D, Pl, h0, _, hl, _, hmm, _, hel⟩
 ·cases h0; exact ⟨0, fun _ => (0, 0, false), by simp, fun g _ => .rdNil 3 _⟩
 ·cases h0
  simp only [Value.okWide, ht, Cell.okWide, Cell.ok, World.has] at hval
  obtain ⟨hv1, hv2, _, hspot, row, cells, hsh, _⟩ := hval
  obtain ⟨b, off, spot⟩ := a'
  simp only at hspot hsh
  subst hspot
  simp only [if_true] at hmm
  have hb : b < w.heap.size := by
   rcases Nat.lt_or_ge b w.heap.size with h1 | h1
   ·exact h1
   ·rw [World.shape?, Array.getElem?_eq_none h1] at hsh; cases hsh
  have key : ∀ i, i < m -> ∃ r : Int × Int × Bool, w.cell? ⟨b, off + (i * 3 + 0), none⟩ = some (.int .i64 r.1) /\ w.cell? ⟨b, off + (i * 3 + 1), none⟩ = some (.int .i64 r.2.1) /\ w.cell? ⟨b, off + (i * 3 + 2), none⟩ = some (.bool r.2.2) := by
   intro i hi
   obtain ⟨cs', h1, h2⟩ := hel i hi
   obtain ⟨xs, n'', _, _, hlen, hxl, hfi⟩ := DataW.trod_struct he h2
   rw [hc] at hlen h1
   obtain ⟨_, _, h5⟩ := World.cells?_some h1
   match xs, hxl with
   | [y0, y1, y2], _ =>
    have s0 := hfi 0 f0 rfl
    have s1 := hfi 1 f1 rfl
    have s2 := hfi 2 f2 rfl
    rw [c0, o0] at s0
    rw [c1, o1] at s1
    rw [c2, o2] at s2
    obtain ⟨z0, e0, _, _⟩ := DataW.trod_int u0 s0
    obtain ⟨z1, e1, _, _⟩ := DataW.trod_int u1 s1
    obtain ⟨z2, e2, _⟩ := DataW.trod_bool u2 s2
    have g0 := xCy e0
    have g1 := xCy e1
    have g2 := xCy e2
    refine ⟨(z0, z1, z2), ?_, ?_, ?_⟩
    ·have h7 := h5 0 (by omega)
     rw [g0, add_plain, add_plain] at h7
     rw [<- Nat.add_assoc]
     exact h7
    ·have h7 := h5 1 (by omega)
     rw [g1, add_plain, add_plain] at h7
     rw [<- Nat.add_assoc]
     exact h7
    ·have h7 := h5 2 (by omega)
     rw [g2, add_plain, add_plain] at h7
     rw [<- Nat.add_assoc]
     exact h7
  obtain ⟨F, hF⟩ := Deep.choose_lt (α := Int × Int × Bool) key
  refine ⟨len, F, ?_, fun g hg => ?_⟩
  ·have : (IntKind.i64.max : Int) = 9223372036854775807 := rfl
   omega
  ·refine .rd 3 len g b off cap (fun i => [.int .i64 (F i).1, .int .i64 (F i).2.1, .bool (F i).2.2]) hb (fun i hi => ?_) (fun i hi => rfl) (fun i j v hi hj => ?_) (by omega)
   ·rw [hg i hi]; exact .cons _ _ _ _ (.int _ _) (.cons _ _ _ _ (.int _ _) (.cons _ _ _ _ (.bool _) .nil))
   ·obtain ⟨k0, k1, k2⟩ := hF i (by omega)
    match j, hj with
    | 0, hj => cases hj; exact k0
    | 1, hj => cases hj; exact k1
    | 2, hj => cases hj; exact k2
    | j + 3, hj => cases hj
end
end Go.Vg
end
section
namespace Go.Vg
open Go Go.RowKit Go.ChangeShapes Go.WideShapes
section
variable {H : Type} {enc : TypeId × Value -> H} {P : Program} {w : World}
theorem cell_bool {r : Reach} {base : Nat} {u : TypeId} {v : Value} (hu : P.underlying u = some .bool) (h : Cell.okWide P w r base u v) : ∃ b, v = .bool b := by
 simp only [Cell.okWide, hu] at h
 cases v <;> simp_all [Cell.ok]
theorem rdg_cv {t u ub : TypeId} {fs : Array Field} {base : Nat} {v : Value} (ht : P.underlying t = some (.struct fs)) (hts : P.cellTypes P.depth t = some [u, u, ub]) (hu : P.underlying u = some (.int .i64)) (hub : P.underlying ub = some .bool) (hc : P.cellsOf t = 3)
  (hval : Value.okWide P w .any base t v) : ∃ x : Int × Int × Bool, Cv w (fun b => b < w.heap.size) (.agg [.int .i64 x.1, .int .i64 x.2.1, .bool x.2.2]) v := by
 obtain ⟨cs, rfl, h2, h3⟩ := xPm (.inl ⟨_, ht⟩) hval hts
 rw [hc] at h2
 obtain ⟨l, rfl⟩ : ∃ l, cs = ⟨l⟩ := ⟨cs.toList, rfl⟩
 match l, h2 with
 | [c0, c1, c2], _ =>
  obtain ⟨u0, e0, k0⟩ := h3 0 c0 rfl
  obtain ⟨u1, e1, k1⟩ := h3 1 c1 rfl
  obtain ⟨u2, e2, k2⟩ := h3 2 c2 rfl
  cases e0; cases e1; cases e2
  obtain ⟨z0, rfl⟩ := xQt hu k0
  obtain ⟨z1, rfl⟩ := xQt hu k1
  obtain ⟨z2, rfl⟩ := cell_bool hub k2
  exact ⟨(z0, z1, z2), .agg _ _ (.cons _ _ _ _ (.int _ _) (.cons _ _ _ _ (.int _ _) (.cons _ _ _ _ (.bool _) .nil)))⟩
end
end Go.Vg
end
