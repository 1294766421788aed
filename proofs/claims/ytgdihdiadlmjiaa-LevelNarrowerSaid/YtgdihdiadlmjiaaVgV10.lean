import Derived.Test.YtgdihdiadlmjiaaVgV9
namespace Go.Vg
open Go
theorem xNp {E : Env} {x : SV} : ∀ {fr : List SV} {vs : List Value} (i : Nat), Rvs E fr vs -> (∀ v, vs[i]? = some v -> Rv E x v) -> Rvs E (st fr i x) vs
 | [], [], i, .nil, _ => by cases i <;> exact .nil
 | y :: t, v :: vs, 0, .cons _ _ _ _ _ hs, h => .cons _ _ _ _ (h v rfl) hs
 | y :: t, v :: vs, i + 1, .cons _ _ _ _ hy hs, h => .cons _ _ _ _ hy (xNp i hs h)
theorem Lw_cl {N : Nat} {fr : List SV} {hp hp' : List Blk} (n i : Nat) {x : SV} (e : clV n hp (gt fr i) = some (x, hp')) : Lw N ⟨fr, hp⟩ ⟨st fr i x, hp'⟩ := by
 intro E a hN hn h
 obtain ⟨E', hc, hr, hx⟩ := xDd n h.hp (h.fr.gt i) e
 refine ⟨E', hc.le.xt hn, hc.w, ⟨xNp i (h.fr.mono hc.le) ?_, hr, h.df.trans hc.le.df.symm⟩⟩
 intro v hv
 rw [show a.tmps.toList.getD i undef = v by rw [List.getD, hv]; rfl] at hx
 exact hx.rv
theorem loop_cl {N : Nat} {body : (Exit -> St -> Prop) -> St -> Prop} {K : Exit -> St -> Prop} {fr : List SV} {hp hp' : List Blk} (n i : Nat) {x : SV} (e : clV n hp (gt fr i) = some (x, hp'))
  (h : LoopP N body K ⟨st fr i x, hp'⟩) : LoopP N body K ⟨fr, hp⟩ := by
 obtain ⟨I, ⟨m, s', h1, h2⟩, h3⟩ := h
 exact ⟨I, ⟨m, s', fun E a hN hn hr => by
  obtain ⟨E1, x1, w1, r1⟩ := Lw_cl (N := N) n i e E a hN hn hr
  obtain ⟨E2, x2, w2, r2⟩ := h1 E1 a (by have := x1.n0; omega) (by have := x1.n0; have := x1.n; omega) r1
  exact ⟨E2, x1.trans x2, w2.trans w1, r2⟩, h2⟩, h3⟩
end Go.Vg
