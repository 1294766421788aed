import Derived.Test.YtgdihdiadlmjiaaVgR18
import Derived.RowKit3
namespace Go.Vg
open Go Go.RowKit
abbrev Kn := List (Nat × List SV × SV)
def knOf : Kn → Nat → List (List SV × SV)
 | [], _ => []
 | (g, as, x) :: t, f => match Nat.beq g f with
  | true => (as, x) :: knOf t f
  | false => knOf t f
def withK (L : Kn) (T : Nat → Option Fdn) (f : Nat) : Option Fdn :=
 match T f with
 | some ⟨sc, rs, nt, _, o⟩ => some ⟨sc, rs, nt, knOf L f, o⟩
 | none => none
def KnOk (P : Program) : Kn → Prop
 | [] => True
 | (f, as, x) :: t => PureOk P f (fun bs K => bs = as ∧ K x) ∧ KnOk P t
theorem knOf_ok {P : Program} : ∀ {L : Kn}, KnOk P L → ∀ f p, p ∈ knOf L f → PureOk P f (fun as K => as = p.1 ∧ K p.2)
 | [], _, f, p, h => by cases h
 | (g, as, x) :: t, hL, f, p, h => by
  simp only [knOf] at h
  split at h
  ·rename_i hg
   have hg := beq_ok hg
   subst hg
   cases h with
   | head => exact hL.1
   | tail _ h => exact knOf_ok hL.2 _ p h
  ·exact knOf_ok hL.2 f p h
theorem withK_ok {P : Program} {T : Nat → Option Fdn} (hT : TabR P T) {L : Kn} (hL : KnOk P L) : TabR P (withK L T) := by
 intro f d e
 unfold withK at e
 split at e
 ·rename_i sc rs nt kn op h1
  cases e
  obtain ⟨fn, c, hf, hnm, hb, hc, hrs, hnt, _⟩ := hT f _ h1
  exact ⟨fn, c, hf, hnm, hb, hc, hrs, hnt, knOf_ok hL f⟩
 ·cases e
noncomputable def okQ (T : Nat → Option Fdn) (n : Nat) (f : Nat) (as : List SV) (x : SV) : Bool :=
 match callQ T (runF T n) (.fn f []) as with
 | some y => eqS 12 y x
 | none => false
theorem pure_of_okQ {P : Program} {T : Nat → Option Fdn} (hT : TabR P T) {n f : Nat} {as : List SV} {x : SV} (e : okQ T n f as x = true) : PureOk P f (fun bs K => bs = as ∧ K x) := by
 unfold okQ at e
 split at e <;> first | (cases e; done) | skip
 rename_i y hy
 have h := pure_of_runF hT n hy
 intro w im bs vs K him hb hC
 refine (h w im bs vs (fun r => r = y) him hb ⟨hC.1, rfl⟩).mono ?_
 rintro e' w' ⟨r, v, im', h1, rfl, h3, h4⟩
 exact ⟨x, v, im', h1, hC.2, eqS_ok 12 e h3, h4⟩
end Go.Vg
