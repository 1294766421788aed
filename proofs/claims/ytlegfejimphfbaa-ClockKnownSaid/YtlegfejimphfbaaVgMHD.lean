import Derived.Test.YtlegfejimphfbaaVgR21
import Derived.Test.YtlegfejimphfbaaVgKC
import Derived.Test.YtlegfejimphfbaaVgMA
namespace Go.Proofs.Ytlegfejimphfbaa
open Go Go.Vg
set_option maxRecDepth 100000
set_option maxHeartbeats 4000000
def e49 : Nat × List SV × SV := (54, [(.agg [(.ints .i64 [0, 2, 4, 30]), (.ints .i64 [0, 1, 0, 1]), (.int .i64 (1)), (.int .i64 (-5)), (.int .i64 (5)), (.int .i64 (-5)), (.int .i64 (5)), (.int .i64 (-5)), (.int .i64 (5))]), (.int .i64 (4))], (.lit (.bool false)))
theorem kn49 : KnOk Try.prog [e48] := ⟨pp48, trivial⟩
theorem mm49 : okT (withK [e48] tab.get) 1000 e49.1 e49.2.1 e49.2.2 = true := by kernel_rfl
theorem pp49 : PureOk Try.prog e49.1 (fun bs K => bs = e49.2.1 ∧ K e49.2.2) := pure_of_okT (withK_ok (AllTT.tab tabOk) kn49) mm49
def e52 : Nat × List SV × SV := (54, [(.agg [(.ints .i64 [0, 2, 4, 30]), (.ints .i64 [0, 1, 0, -26]), (.int .i64 (1)), (.int .i64 (-5)), (.int .i64 (5)), (.int .i64 (-5)), (.int .i64 (5)), (.int .i64 (-5)), (.int .i64 (5))]), (.int .i64 (0))], (.lit (.bool false)))
theorem kn52 : KnOk Try.prog [e51] := ⟨pp51, trivial⟩
theorem mm52 : okT (withK [e51] tab.get) 1000 e52.1 e52.2.1 e52.2.2 = true := by kernel_rfl
theorem pp52 : PureOk Try.prog e52.1 (fun bs K => bs = e52.2.1 ∧ K e52.2.2) := pure_of_okT (withK_ok (AllTT.tab tabOk) kn52) mm52
end Go.Proofs.Ytlegfejimphfbaa
