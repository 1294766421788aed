/-
  A slice that came in has no more elements than an integer counts.
-/
import Derived.Test.YtjagiieconpgbaaVgC1
namespace Go.Vg
open Go Go.RowKit Go.ChangeShapes Go.WideShapes
theorem ints_len {P : Program} {w : World} {im : Nat → Prop} {t e : TypeId} {k : IntKind} {base : Nat} (ht : P.underlying t = some (.slice e)) {v : Value} {l : List Int}
    (hval : Value.okWide P w .any base t v) (hc : Cv w im (.ints k l) v) : (l.length : Int) ≤ 9223372036854775807 := by
  cases hc with
  | intsNil => simp
  | ints k xs b off cap hb hcell hcap =>
    simp only [Value.okWide, ht, Cell.okWide, Cell.ok] at hval
    obtain ⟨h1, h2, _⟩ := hval
    have : (IntKind.i64.max : Int) = 9223372036854775807 := rfl
    omega
end Go.Vg
