import Derived.Test.YtjagiieconpgbaaVgV11
namespace Go.Vg
open Go
theorem e_sem {N : Nat} {P : Program} {T : List (Nat × Sg)} {Γq} {c : Code} {K : Exit → St → Prop} {s : St} : exec N (gam P T) Γq (.sem c) K s = SemOk P N c K s := rfl
end Go.Vg
