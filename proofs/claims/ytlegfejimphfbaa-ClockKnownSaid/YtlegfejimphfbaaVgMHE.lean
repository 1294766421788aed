import Derived.Test.YtlegfejimphfbaaVgR21
import Derived.Test.YtlegfejimphfbaaVgKC
import Derived.Test.YtlegfejimphfbaaVgMA
namespace Go.Proofs.Ytlegfejimphfbaa
open Go Go.Vg
set_option maxRecDepth 100000
set_option maxHeartbeats 4000000
def e54 : Nat × List SV × SV := (54, [(.agg [(.ints .i64 [0, 2, 4, 30]), (.ints .i64 [0, 1, 0, -26]), (.int .i64 (1)), (.int .i64 (-5)), (.int .i64 (5)), (.int .i64 (-5)), (.int .i64 (5)), (.int .i64 (-5)), (.int .i64 (5))]), (.int .i64 (1))], (.lit (.bool false)))
theorem kn54 : KnOk Try.prog [e53] := ⟨pp53, trivial⟩
theorem mm54 : okT (withK [e53] tab.get) 1000 e54.1 e54.2.1 e54.2.2 = true := by kernel_rfl
theorem pp54 : PureOk Try.prog e54.1 (fun bs K => bs = e54.2.1 ∧ K e54.2.2) := pure_of_okT (withK_ok (AllTT.tab tabOk) kn54) mm54
def e58 : Nat × List SV × SV := (54, [(.agg [(.ints .i64 [0, 2, 4, 30]), (.ints .i64 [0, 1, 0, -26]), (.int .i64 (1)), (.int .i64 (-5)), (.int .i64 (5)), (.int .i64 (-5)), (.int .i64 (5)), (.int .i64 (-5)), (.int .i64 (5))]), (.int .i64 (4))], (.lit (.bool false)))
theorem kn58 : KnOk Try.prog [e57] := ⟨pp57, trivial⟩
theorem mm58 : okT (withK [e57] tab.get) 1000 e58.1 e58.2.1 e58.2.2 = true := by kernel_rfl
theorem pp58 : PureOk Try.prog e58.1 (fun bs K => bs = e58.2.1 ∧ K e58.2.2) := pure_of_okT (withK_ok (AllTT.tab tabOk) kn58) mm58
end Go.Proofs.Ytlegfejimphfbaa
