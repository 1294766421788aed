import Derived.Test.YtlegfejimphfbaaGreatVgNB
import Derived.Test.YtlegfejimphfbaaGreatVgNC
import Derived.Test.YtlegfejimphfbaaGreatVgND
section
namespace Go.Proofs.YtlegfejimphfbaaGreat
open Go Go.Vg
set_option maxRecDepth 100000
set_option maxHeartbeats 4000000
def e16 : Nat × List SV × SV := (69, [(.agg [(.ints .i64 [0, 2, 4, 30]), (.ints .i64 [0, 1, 0, 1]), (ki 1), (ki (-5)), (ki 5), (ki (-5)), (ki 5), (ki (-5)), (ki 5)])], (.ints .i64 [1]))
theorem kn16 : KnOk Tryz.prog [e9, e11, e13, e15] := ⟨pp9, pp11, pp13, pp15, trivial⟩
theorem mm16 : okT (withK [e9, e11, e13, e15] tab.get) 1000 e16.1 e16.2.1 e16.2.2 = true := by kernel_rfl
theorem pp16 : PureOk Tryz.prog e16.1 (fun bs K => bs = e16.2.1 ∧ K e16.2.2) := pure_of_okT (withK_ok (AllTT.tab tabOk) kn16) mm16
def e17 : Nat × List SV × SV := (116, [(.agg [(.ints .i64 [0, 2, 4, 30]), (.ints .i64 [0, 1, 0, -26]), (ki 1), (ki (-5)), (ki 5), (ki (-5)), (ki 5), (ki (-5)), (ki 5)]), kz], (.rd 4 17 (rowOf 4 [kz, (ki 1), (ki (-1)), (ki 1), (ki 1), (ki 2), (ki (-1)), (ki 1), (ki 3), (ki 4), (ki 1), (ki 3), (ki 4), (ki 5), kz, (ki 2), (ki 6), (ki 7), (ki 3), (ki 5), (ki 7), (ki 8), (ki (-1)), (ki 1), (ki 9), (ki 10), (ki 29), (ki 31), (ki 10), (ki 11), (ki (-27)), (ki (-25)), (ki 3), kz, (ki (-5)), (ki 5), (ki 6), (ki 3), (ki (-5)), (ki 5), (ki 9), (ki 6), (ki (-5)), (ki 5), (ki 4), (ki 1), (ki (-5)), (ki 5), (ki 7), (ki 4), (ki (-5)), (ki 5), (ki 10), (ki 7), (ki (-5)), (ki 5), (ki 5), (ki 2), (ki (-5)), (ki 5), (ki 8), (ki 5), (ki (-5)), (ki 5), (ki 11), (ki 8), (ki (-5)), (ki 5)])))
theorem kn17 : KnOk Tryz.prog [] := trivial
theorem mm17 : okT (withK [] tab.get) 1000 e17.1 e17.2.1 e17.2.2 = true := by kernel_rfl
theorem pp17 : PureOk Tryz.prog e17.1 (fun bs K => bs = e17.2.1 ∧ K e17.2.2) := pure_of_okT (withK_ok (AllTT.tab tabOk) kn17) mm17
end Go.Proofs.YtlegfejimphfbaaGreat
end
section
namespace Go.Proofs.YtlegfejimphfbaaGreat
open Go Go.Vg
set_option maxRecDepth 100000
set_option maxHeartbeats 4000000
def e18 : Nat × List SV × SV := (97, [(.agg [(.ints .i64 [0, 2, 4, 30]), (.ints .i64 [0, 1, 0, -26]), (ki 1), (ki (-5)), (ki 5), (ki (-5)), (ki 5), (ki (-5)), (ki 5)]), kz], kb0)
theorem kn18 : KnOk Tryz.prog [e17] := ⟨pp17, trivial⟩
theorem mm18 : okT (withK [e17] tab.get) 1000 e18.1 e18.2.1 e18.2.2 = true := by kernel_rfl
theorem pp18 : PureOk Tryz.prog e18.1 (fun bs K => bs = e18.2.1 ∧ K e18.2.2) := pure_of_okT (withK_ok (AllTT.tab tabOk) kn18) mm18
end Go.Proofs.YtlegfejimphfbaaGreat
end
