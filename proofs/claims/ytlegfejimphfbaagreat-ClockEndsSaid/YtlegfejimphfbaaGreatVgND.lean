import Derived.Test.YtlegfejimphfbaaGreatVgML
namespace Go.Proofs.YtlegfejimphfbaaGreat
open Go Go.Vg
set_option maxRecDepth 100000
set_option maxHeartbeats 4000000
def e15 : Nat × List SV × SV := (97, [(.agg [(.ints .i64 [0, 2, 4, 30]), (.ints .i64 [0, 1, 0, 1]), (ki 1), (ki (-5)), (ki 5), (ki (-5)), (ki 5), (ki (-5)), (ki 5)]), (ki 4)], kb0)
theorem kn15 : KnOk Tryz.prog [e14] := ⟨pp14, trivial⟩
theorem mm15 : okT (withK [e14] tab.get) 1000 e15.1 e15.2.1 e15.2.2 = true := by kernel_rfl
theorem pp15 : PureOk Tryz.prog e15.1 (fun bs K => bs = e15.2.1 ∧ K e15.2.2) := pure_of_okT (withK_ok (AllTT.tab tabOk) kn15) mm15
end Go.Proofs.YtlegfejimphfbaaGreat
