import Derived.Test.YtbbbpdajikblbaaVgSGM
namespace Go.Proofs.Ytbbbpdajikblbaa
open Go Go.Vg
set_option linter.unusedSimpArgs false
set_option linter.unusedVariables false
set_option maxRecDepth 10000
def C27g : PC := fun args K => ∃ (T : List Int) (m : Int) (L : List Rdg) (f : Nat → List SV), args = [.agg [.ints .i64 T, .int .i64 m], .rd 6 L.length f] ∧ (∀ i, i < L.length → f i = rgR L i) ∧ K (spnS T m L)
theorem p27g : PureOk Try.prog 27 C27g := by
 rintro w im args vs K him ha ⟨T, m, L, f, rfl, hf, hK⟩
 cases ha with
 | cons _ v0 _ vs0 h0 hs =>
  cases hs with
  | cons _ v1 _ vs1 h1 hs1 =>
   cases hs1
   exact p27 w im _ _ K him (.cons _ _ _ _ h0 (.cons _ _ _ _ (leR_ok (y := .rd 6 L.length (rgR L)) (x := .rd 6 L.length f) 4 ⟨rfl, rfl, hf⟩ h1) .nil)) ⟨T, m, L, rfl, hK⟩
def F24 : FC := fun args => match args with
 | [] => some (True, .lit (.bool true))
 | _ => none
theorem loop_atc {N : Nat} {Γ : Gm} {Γq : Nat → Option FC} {K : Exit → St → Prop} {G : Type} {c : SC} {fr : List SV} {hp : List Blk} (ch : G → List (Nat × SV)) (p : G → Prop) (m : G → Nat) (g0 : G) (h0 : p g0)
  (hb : ∀ fr', forget fr (dstC c []) = fr' → Lw N ⟨fr, hp⟩ ⟨sts fr' (ch g0), hp⟩ ∧
   ∀ g, p g → exec N Γ Γq c (loopK K (Nx N (fun g => ⟨sts fr' (ch g), hp⟩) p m (m g))) ⟨sts fr' (ch g), hp⟩) : LoopP N (exec N Γ Γq c) K ⟨fr, hp⟩ := loop_at2 ch (fun _ => hp) p m g0 h0 hb
def frW : List SV → List SV → Prop
 | [], [] => True
 | x :: a, y :: b => (y = .any ∨ x = y) ∧ frW a b
 | _, _ => False
theorem frW_ok {E : Env} : ∀ {fr fr' : List SV} {vs : List Value}, frW fr fr' → Rvs E fr vs → Rvs E fr' vs
  | [], [], _, _, .nil => .nil
  | x :: a, y :: b, _, h, .cons _ v _ vs hx hs => .cons _ _ _ _ (by
      rcases h.1 with rfl | rfl
      · exact .any v
      · exact hx) (frW_ok h.2 hs)
  | [], _ :: _, _, h, _ => h.elim
  | _ :: _, [], _, h, _ => h.elim
theorem Lw_fr {N : Nat} {fr fr' : List SV} {hp : List Blk} (h : frW fr fr') : Lw N ⟨fr, hp⟩ ⟨fr', hp⟩ := fun E a hN hn hr => ⟨E, Env.Le.xt (.refl E) hn, rfl, ⟨frW_ok h hr.fr, hr.hp, hr.df⟩⟩
end Go.Proofs.Ytbbbpdajikblbaa
