import Derived.Test.YtlegfejimphfbaaGreatVgML
namespace Go.Proofs.YtlegfejimphfbaaGreat
open Go Go.Vg
set_option maxRecDepth 100000
set_option maxHeartbeats 4000000
def e20 : Nat × List SV × SV := (97, [(.agg [(.ints .i64 [0, 2, 4, 30]), (.ints .i64 [0, 1, 0, -26]), (ki 1), (ki (-5)), (ki 5), (ki (-5)), (ki 5), (ki (-5)), (ki 5)]), (ki 1)], kb0)
theorem kn20 : KnOk Tryz.prog [e19] := ⟨pp19, trivial⟩
theorem mm20 : okT (withK [e19] tab.get) 1000 e20.1 e20.2.1 e20.2.2 = true := by kernel_rfl
theorem pp20 : PureOk Tryz.prog e20.1 (fun bs K => bs = e20.2.1 ∧ K e20.2.2) := pure_of_okT (withK_ok (AllTT.tab tabOk) kn20) mm20
end Go.Proofs.YtlegfejimphfbaaGreat
