import Derived.Test.YtlegfejimphfbaaVgR21
import Derived.Test.YtlegfejimphfbaaVgKC
import Derived.Test.YtlegfejimphfbaaVgMA
namespace Go.Proofs.Ytlegfejimphfbaa
open Go Go.Vg
set_option maxRecDepth 100000
set_option maxHeartbeats 4000000
def e26 : Nat × List SV × SV := (54, [(.agg [(.ints .i64 [0, 2, 4, 30]), (.ints .i64 [0, 1, 0, 60]), (.int .i64 (1)), (.int .i64 (-5)), (.int .i64 (5)), (.int .i64 (-5)), (.int .i64 (5)), (.int .i64 (-5)), (.int .i64 (5))]), (.int .i64 (2))], (.lit (.bool false)))
theorem kn26 : KnOk Try.prog [e25] := ⟨pp25, trivial⟩
theorem mm26 : okT (withK [e25] tab.get) 1000 e26.1 e26.2.1 e26.2.2 = true := by kernel_rfl
theorem pp26 : PureOk Try.prog e26.1 (fun bs K => bs = e26.2.1 ∧ K e26.2.2) := pure_of_okT (withK_ok (AllTT.tab tabOk) kn26) mm26
def e28 : Nat × List SV × SV := (54, [(.agg [(.ints .i64 [0, 2, 4, 30]), (.ints .i64 [0, 1, 0, 60]), (.int .i64 (1)), (.int .i64 (-5)), (.int .i64 (5)), (.int .i64 (-5)), (.int .i64 (5)), (.int .i64 (-5)), (.int .i64 (5))]), (.int .i64 (4))], (.lit (.bool false)))
theorem kn28 : KnOk Try.prog [e27] := ⟨pp27, trivial⟩
theorem mm28 : okT (withK [e27] tab.get) 1000 e28.1 e28.2.1 e28.2.2 = true := by kernel_rfl
theorem pp28 : PureOk Try.prog e28.1 (fun bs K => bs = e28.2.1 ∧ K e28.2.2) := pure_of_okT (withK_ok (AllTT.tab tabOk) kn28) mm28
end Go.Proofs.Ytlegfejimphfbaa
