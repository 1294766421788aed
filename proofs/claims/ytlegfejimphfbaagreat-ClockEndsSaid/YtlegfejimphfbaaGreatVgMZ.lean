import Derived.Test.YtlegfejimphfbaaGreatVgNB
import Derived.Test.YtlegfejimphfbaaGreatVgNE
import Derived.Test.YtlegfejimphfbaaGreatVgNF
import Derived.Test.YtlegfejimphfbaaGreatVgNG
namespace Go.Proofs.YtlegfejimphfbaaGreat
open Go Go.Vg
set_option maxRecDepth 100000
set_option maxHeartbeats 4000000
def e25 : Nat × List SV × SV := (69, [(.agg [(.ints .i64 [0, 2, 4, 30]), (.ints .i64 [0, 1, 0, -26]), (ki 1), (ki (-5)), (ki 5), (ki (-5)), (ki 5), (ki (-5)), (ki 5)])], (.ints .i64 [2]))
theorem kn25 : KnOk Tryz.prog [e18, e20, e22, e24] := ⟨pp18, pp20, pp22, pp24, trivial⟩
theorem mm25 : okT (withK [e18, e20, e22, e24] tab.get) 1000 e25.1 e25.2.1 e25.2.2 = true := by kernel_rfl
theorem pp25 : PureOk Tryz.prog e25.1 (fun bs K => bs = e25.2.1 ∧ K e25.2.2) := pure_of_okT (withK_ok (AllTT.tab tabOk) kn25) mm25
def e26 : Nat × List SV × SV := (97, [(.agg [(.ints .i64 [0]), (.ints .i64 [0]), (ki 1), (ki (-5)), (ki 5), (ki (-5)), (ki 5), (ki (-5)), (ki 5)]), kz], kb1)
theorem kn26 : KnOk Tryz.prog [] := trivial
theorem mm26 : okT (withK [] tab.get) 1000 e26.1 e26.2.1 e26.2.2 = true := by kernel_rfl
theorem pp26 : PureOk Tryz.prog e26.1 (fun bs K => bs = e26.2.1 ∧ K e26.2.2) := pure_of_okT (withK_ok (AllTT.tab tabOk) kn26) mm26
def e27 : Nat × List SV × SV := (116, [(.agg [(.ints .i64 [0, 2]), (.ints .i64 [0, 1]), (ki 1), (ki (-5)), (ki 5), (ki (-5)), (ki 5), (ki (-5)), (ki 5)]), kz], (.rd 4 7 (rowOf 4 [kz, (ki 1), (ki (-1)), (ki 1), (ki 1), (ki 2), (ki (-1)), (ki 1), (ki 3), (ki 4), (ki 1), (ki 3), (ki 4), (ki 5), kz, (ki 2), (ki 3), kz, (ki (-5)), (ki 5), (ki 4), (ki 1), (ki (-5)), (ki 5), (ki 5), (ki 2), (ki (-5)), (ki 5)])))
theorem kn27 : KnOk Tryz.prog [] := trivial
theorem mm27 : okT (withK [] tab.get) 1000 e27.1 e27.2.1 e27.2.2 = true := by kernel_rfl
theorem pp27 : PureOk Tryz.prog e27.1 (fun bs K => bs = e27.2.1 ∧ K e27.2.2) := pure_of_okT (withK_ok (AllTT.tab tabOk) kn27) mm27
def e28 : Nat × List SV × SV := (97, [(.agg [(.ints .i64 [0, 2]), (.ints .i64 [0, 1]), (ki 1), (ki (-5)), (ki 5), (ki (-5)), (ki 5), (ki (-5)), (ki 5)]), kz], kb1)
theorem kn28 : KnOk Tryz.prog [e27] := ⟨pp27, trivial⟩
theorem mm28 : okT (withK [e27] tab.get) 1000 e28.1 e28.2.1 e28.2.2 = true := by kernel_rfl
theorem pp28 : PureOk Tryz.prog e28.1 (fun bs K => bs = e28.2.1 ∧ K e28.2.2) := pure_of_okT (withK_ok (AllTT.tab tabOk) kn28) mm28
def e29 : Nat × List SV × SV := (116, [(.agg [(.ints .i64 [0, 2, 4]), (.ints .i64 [0, 1, 0]), (ki 1), (ki (-5)), (ki 5), (ki (-5)), (ki 5), (ki (-5)), (ki 5)]), kz], (.rd 4 12 (rowOf 4 [kz, (ki 1), (ki (-1)), (ki 1), (ki 1), (ki 2), (ki (-1)), (ki 1), (ki 3), (ki 4), (ki 1), (ki 3), (ki 4), (ki 5), kz, (ki 2), (ki 6), (ki 7), (ki 3), (ki 5), (ki 7), (ki 8), (ki (-1)), (ki 1), (ki 3), kz, (ki (-5)), (ki 5), (ki 6), (ki 3), (ki (-5)), (ki 5), (ki 4), (ki 1), (ki (-5)), (ki 5), (ki 7), (ki 4), (ki (-5)), (ki 5), (ki 5), (ki 2), (ki (-5)), (ki 5), (ki 8), (ki 5), (ki (-5)), (ki 5)])))
theorem kn29 : KnOk Tryz.prog [] := trivial
theorem mm29 : okT (withK [] tab.get) 1000 e29.1 e29.2.1 e29.2.2 = true := by kernel_rfl
theorem pp29 : PureOk Tryz.prog e29.1 (fun bs K => bs = e29.2.1 ∧ K e29.2.2) := pure_of_okT (withK_ok (AllTT.tab tabOk) kn29) mm29
def e30 : Nat × List SV × SV := (97, [(.agg [(.ints .i64 [0, 2, 4]), (.ints .i64 [0, 1, 0]), (ki 1), (ki (-5)), (ki 5), (ki (-5)), (ki 5), (ki (-5)), (ki 5)]), kz], kb1)
theorem kn30 : KnOk Tryz.prog [e29] := ⟨pp29, trivial⟩
theorem mm30 : okT (withK [e29] tab.get) 1000 e30.1 e30.2.1 e30.2.2 = true := by kernel_rfl
theorem pp30 : PureOk Tryz.prog e30.1 (fun bs K => bs = e30.2.1 ∧ K e30.2.2) := pure_of_okT (withK_ok (AllTT.tab tabOk) kn30) mm30
def e31 : Nat × List SV × SV := (21, [], kb1)
theorem kn31 : KnOk Tryz.prog [e0, e1, e2, e3, e7, e9, e16, e25, e26, e28, e30] := ⟨pp0, pp1, pp2, pp3, pp7, pp9, pp16, pp25, pp26, pp28, pp30, trivial⟩
theorem mm31 : okT (withK [e0, e1, e2, e3, e7, e9, e16, e25, e26, e28, e30] tab.get) 1000 21 [] kb1 = true := by kernel_rfl
theorem pp31 : PureOk Tryz.prog 21 (fun bs K => bs = [] ∧ K kb1) := pure_of_okT (withK_ok (AllTT.tab tabOk) kn31) mm31
end Go.Proofs.YtlegfejimphfbaaGreat
