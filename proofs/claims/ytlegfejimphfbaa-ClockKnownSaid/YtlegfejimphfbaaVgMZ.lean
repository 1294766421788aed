import Derived.Test.YtlegfejimphfbaaVgR21
import Derived.Test.YtlegfejimphfbaaVgKC
import Derived.Test.YtlegfejimphfbaaVgMHA
import Derived.Test.YtlegfejimphfbaaVgMHB
import Derived.Test.YtlegfejimphfbaaVgMHC
import Derived.Test.YtlegfejimphfbaaVgMHD
import Derived.Test.YtlegfejimphfbaaVgMHE
namespace Go.Proofs.Ytlegfejimphfbaa
open Go Go.Vg
set_option maxRecDepth 100000
set_option maxHeartbeats 4000000
def e35 : Nat × List SV × SV := (14, [(.agg [(.ints .i64 [0, 2, 4, 30]), (.ints .i64 [0, 1, 0, 60]), (.int .i64 (1)), (.int .i64 (-5)), (.int .i64 (5)), (.int .i64 (-5)), (.int .i64 (5)), (.int .i64 (-5)), (.int .i64 (5))])], (.tup [(.ints .i64 [3, 5, 6]), (.int .i64 (0))]))
theorem kn35 : KnOk Try.prog [e13, e14, e15, e16, e17, e18, e19, e20, e22, e24, e26, e28, e30, e32, e34] := ⟨pp13, pp14, pp15, pp16, pp17, pp18, pp19, pp20, pp22, pp24, pp26, pp28, pp30, pp32, pp34, trivial⟩
theorem mm35 : okT (withK [e13, e14, e15, e16, e17, e18, e19, e20, e22, e24, e26, e28, e30, e32, e34] tab.get) 1000 e35.1 e35.2.1 e35.2.2 = true := by kernel_rfl
theorem pp35 : PureOk Try.prog e35.1 (fun bs K => bs = e35.2.1 ∧ K e35.2.2) := pure_of_okT (withK_ok (AllTT.tab tabOk) kn35) mm35
def e50 : Nat × List SV × SV := (14, [(.agg [(.ints .i64 [0, 2, 4, 30]), (.ints .i64 [0, 1, 0, 1]), (.int .i64 (1)), (.int .i64 (-5)), (.int .i64 (5)), (.int .i64 (-5)), (.int .i64 (5)), (.int .i64 (-5)), (.int .i64 (5))])], (.tup [(.ints .i64 [1]), (.int .i64 (0))]))
theorem kn50 : KnOk Try.prog [e13, e14, e15, e16, e17, e18, e19, e20, e43, e45, e47, e49] := ⟨pp13, pp14, pp15, pp16, pp17, pp18, pp19, pp20, pp43, pp45, pp47, pp49, trivial⟩
theorem mm50 : okT (withK [e13, e14, e15, e16, e17, e18, e19, e20, e43, e45, e47, e49] tab.get) 1000 e50.1 e50.2.1 e50.2.2 = true := by kernel_rfl
theorem pp50 : PureOk Try.prog e50.1 (fun bs K => bs = e50.2.1 ∧ K e50.2.2) := pure_of_okT (withK_ok (AllTT.tab tabOk) kn50) mm50
def e59 : Nat × List SV × SV := (14, [(.agg [(.ints .i64 [0, 2, 4, 30]), (.ints .i64 [0, 1, 0, -26]), (.int .i64 (1)), (.int .i64 (-5)), (.int .i64 (5)), (.int .i64 (-5)), (.int .i64 (5)), (.int .i64 (-5)), (.int .i64 (5))])], (.tup [(.ints .i64 [2]), (.int .i64 (0))]))
theorem kn59 : KnOk Try.prog [e13, e14, e15, e16, e17, e18, e19, e20, e52, e54, e56, e58] := ⟨pp13, pp14, pp15, pp16, pp17, pp18, pp19, pp20, pp52, pp54, pp56, pp58, trivial⟩
theorem mm59 : okT (withK [e13, e14, e15, e16, e17, e18, e19, e20, e52, e54, e56, e58] tab.get) 1000 e59.1 e59.2.1 e59.2.2 = true := by kernel_rfl
theorem pp59 : PureOk Try.prog e59.1 (fun bs K => bs = e59.2.1 ∧ K e59.2.2) := pure_of_okT (withK_ok (AllTT.tab tabOk) kn59) mm59
def e60 : Nat × List SV × SV := (17, [], (.lit (.bool true)))
theorem kn60 : KnOk Try.prog [e3, e5, e7, e36, e37, e38, e39, e40, e41, e43, e50, e59] := ⟨pp3, pp5, pp7, pp36, pp37, pp38, pp39, pp40, pp41, pp43, pp50, pp59, trivial⟩
theorem mm60 : okT (withK [e3, e5, e7, e36, e37, e38, e39, e40, e41, e43, e50, e59] tab.get) 1000 17 [] (.lit (.bool true)) = true := by kernel_rfl
theorem pp60 : PureOk Try.prog 17 (fun bs K => bs = [] ∧ K (.lit (.bool true))) := pure_of_okT (withK_ok (AllTT.tab tabOk) kn60) mm60
def e61 : Nat × List SV × SV := (3, [], (.lit (.bool true)))
theorem kn61 : KnOk Try.prog [e0, e2, e3, e5, e7, e9, e10, e11, e12, e13, e14, e15, e16, e17, e18, e19, e20, e35, e60] := ⟨pp0, pp2, pp3, pp5, pp7, pp9, pp10, pp11, pp12, pp13, pp14, pp15, pp16, pp17, pp18, pp19, pp20, pp35, pp60, trivial⟩
theorem mm61 : okT (withK [e0, e2, e3, e5, e7, e9, e10, e11, e12, e13, e14, e15, e16, e17, e18, e19, e20, e35, e60] tab.get) 1000 3 [] (.lit (.bool true)) = true := by kernel_rfl
theorem pp61 : PureOk Try.prog 3 (fun bs K => bs = [] ∧ K (.lit (.bool true))) := pure_of_okT (withK_ok (AllTT.tab tabOk) kn61) mm61
end Go.Proofs.Ytlegfejimphfbaa
