import Derived.Test.YtlegfejimphfbaaGreatVgML
namespace Go.Proofs.YtlegfejimphfbaaGreat
open Go Go.Vg
set_option maxRecDepth 100000
set_option maxHeartbeats 4000000
def e9 : Nat × List SV × SV := (97, [(.agg [(.ints .i64 [0, 2, 4, 30]), (.ints .i64 [0, 1, 0, 1]), (ki 1), (ki (-5)), (ki 5), (ki (-5)), (ki 5), (ki (-5)), (ki 5)]), kz], kb0)
theorem kn9 : KnOk Tryz.prog [e8] := ⟨pp8, trivial⟩
theorem mm9 : okT (withK [e8] tab.get) 1000 e9.1 e9.2.1 e9.2.2 = true := by kernel_rfl
theorem pp9 : PureOk Tryz.prog e9.1 (fun bs K => bs = e9.2.1 ∧ K e9.2.2) := pure_of_okT (withK_ok (AllTT.tab tabOk) kn9) mm9
end Go.Proofs.YtlegfejimphfbaaGreat
