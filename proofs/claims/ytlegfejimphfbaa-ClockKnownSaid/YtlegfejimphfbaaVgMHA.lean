import Derived.Test.YtlegfejimphfbaaVgR21
import Derived.Test.YtlegfejimphfbaaVgKC
import Derived.Test.YtlegfejimphfbaaVgMA
namespace Go.Proofs.Ytlegfejimphfbaa
open Go Go.Vg
set_option maxRecDepth 100000
set_option maxHeartbeats 4000000
def e22 : Nat × List SV × SV := (54, [(.agg [(.ints .i64 [0, 2, 4, 30]), (.ints .i64 [0, 1, 0, 60]), (.int .i64 (1)), (.int .i64 (-5)), (.int .i64 (5)), (.int .i64 (-5)), (.int .i64 (5)), (.int .i64 (-5)), (.int .i64 (5))]), (.int .i64 (0))], (.lit (.bool false)))
theorem kn22 : KnOk Try.prog [e21] := ⟨pp21, trivial⟩
theorem mm22 : okT (withK [e21] tab.get) 1000 e22.1 e22.2.1 e22.2.2 = true := by kernel_rfl
theorem pp22 : PureOk Try.prog e22.1 (fun bs K => bs = e22.2.1 ∧ K e22.2.2) := pure_of_okT (withK_ok (AllTT.tab tabOk) kn22) mm22
def e24 : Nat × List SV × SV := (54, [(.agg [(.ints .i64 [0, 2, 4, 30]), (.ints .i64 [0, 1, 0, 60]), (.int .i64 (1)), (.int .i64 (-5)), (.int .i64 (5)), (.int .i64 (-5)), (.int .i64 (5)), (.int .i64 (-5)), (.int .i64 (5))]), (.int .i64 (1))], (.lit (.bool false)))
theorem kn24 : KnOk Try.prog [e23] := ⟨pp23, trivial⟩
theorem mm24 : okT (withK [e23] tab.get) 1000 e24.1 e24.2.1 e24.2.2 = true := by kernel_rfl
theorem pp24 : PureOk Try.prog e24.1 (fun bs K => bs = e24.2.1 ∧ K e24.2.2) := pure_of_okT (withK_ok (AllTT.tab tabOk) kn24) mm24
end Go.Proofs.Ytlegfejimphfbaa
