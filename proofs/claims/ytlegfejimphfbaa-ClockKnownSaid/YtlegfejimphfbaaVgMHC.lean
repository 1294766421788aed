import Derived.Test.YtlegfejimphfbaaVgR21
import Derived.Test.YtlegfejimphfbaaVgKC
import Derived.Test.YtlegfejimphfbaaVgMA
namespace Go.Proofs.Ytlegfejimphfbaa
open Go Go.Vg
set_option maxRecDepth 100000
set_option maxHeartbeats 4000000
def e43 : Nat × List SV × SV := (54, [(.agg [(.ints .i64 [0, 2, 4, 30]), (.ints .i64 [0, 1, 0, 1]), (.int .i64 (1)), (.int .i64 (-5)), (.int .i64 (5)), (.int .i64 (-5)), (.int .i64 (5)), (.int .i64 (-5)), (.int .i64 (5))]), (.int .i64 (0))], (.lit (.bool false)))
theorem kn43 : KnOk Try.prog [e42] := ⟨pp42, trivial⟩
theorem mm43 : okT (withK [e42] tab.get) 1000 e43.1 e43.2.1 e43.2.2 = true := by kernel_rfl
theorem pp43 : PureOk Try.prog e43.1 (fun bs K => bs = e43.2.1 ∧ K e43.2.2) := pure_of_okT (withK_ok (AllTT.tab tabOk) kn43) mm43
def e47 : Nat × List SV × SV := (54, [(.agg [(.ints .i64 [0, 2, 4, 30]), (.ints .i64 [0, 1, 0, 1]), (.int .i64 (1)), (.int .i64 (-5)), (.int .i64 (5)), (.int .i64 (-5)), (.int .i64 (5)), (.int .i64 (-5)), (.int .i64 (5))]), (.int .i64 (2))], (.lit (.bool false)))
theorem kn47 : KnOk Try.prog [e46] := ⟨pp46, trivial⟩
theorem mm47 : okT (withK [e46] tab.get) 1000 e47.1 e47.2.1 e47.2.2 = true := by kernel_rfl
theorem pp47 : PureOk Try.prog e47.1 (fun bs K => bs = e47.2.1 ∧ K e47.2.2) := pure_of_okT (withK_ok (AllTT.tab tabOk) kn47) mm47
end Go.Proofs.Ytlegfejimphfbaa
