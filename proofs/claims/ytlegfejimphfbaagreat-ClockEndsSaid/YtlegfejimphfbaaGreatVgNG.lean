import Derived.Test.YtlegfejimphfbaaGreatVgML
namespace Go.Proofs.YtlegfejimphfbaaGreat
open Go Go.Vg
set_option maxRecDepth 100000
set_option maxHeartbeats 4000000
def e24 : Nat × List SV × SV := (97, [(.agg [(.ints .i64 [0, 2, 4, 30]), (.ints .i64 [0, 1, 0, -26]), (ki 1), (ki (-5)), (ki 5), (ki (-5)), (ki 5), (ki (-5)), (ki 5)]), (ki 4)], kb0)
theorem kn24 : KnOk Tryz.prog [e23] := ⟨pp23, trivial⟩
theorem mm24 : okT (withK [e23] tab.get) 1000 e24.1 e24.2.1 e24.2.2 = true := by kernel_rfl
theorem pp24 : PureOk Tryz.prog e24.1 (fun bs K => bs = e24.2.1 ∧ K e24.2.2) := pure_of_okT (withK_ok (AllTT.tab tabOk) kn24) mm24
end Go.Proofs.YtlegfejimphfbaaGreat
