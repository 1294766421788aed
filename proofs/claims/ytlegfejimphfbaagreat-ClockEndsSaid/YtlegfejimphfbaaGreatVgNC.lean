import Derived.Test.YtlegfejimphfbaaGreatVgML
namespace Go.Proofs.YtlegfejimphfbaaGreat
open Go Go.Vg
set_option maxRecDepth 100000
set_option maxHeartbeats 4000000
def e13 : Nat × List SV × SV := (97, [(.agg [(.ints .i64 [0, 2, 4, 30]), (.ints .i64 [0, 1, 0, 1]), (ki 1), (ki (-5)), (ki 5), (ki (-5)), (ki 5), (ki (-5)), (ki 5)]), (ki 2)], kb0)
theorem kn13 : KnOk Tryz.prog [e12] := ⟨pp12, trivial⟩
theorem mm13 : okT (withK [e12] tab.get) 1000 e13.1 e13.2.1 e13.2.2 = true := by kernel_rfl
theorem pp13 : PureOk Tryz.prog e13.1 (fun bs K => bs = e13.2.1 ∧ K e13.2.2) := pure_of_okT (withK_ok (AllTT.tab tabOk) kn13) mm13
end Go.Proofs.YtlegfejimphfbaaGreat
