/- Calls of the program's functions, carried out: each beside the results that it uses. -/
import Derived.Test.YtgdihdiadlmjiaaVgR21
import Derived.Test.YtgdihdiadlmjiaaVgK3
import Derived.Test.YtgdihdiadlmjiaaVgM33
namespace Go.Proofs.Ytgdihdiadlmjiaa
open Go Go.Vg
set_option maxRecDepth 100000
set_option maxHeartbeats 4000000
def e259 : Nat × List SV × SV := (15, [], (.lit (.bool true)))
theorem kn259 : KnOk Try.prog [e0, e2, e9, e15, e16, e91, e92, e258] := ⟨pp0, pp2, pp9, pp15, pp16, pp91, pp92, pp258, trivial⟩
theorem mm259 : okT (withK [e0, e2, e9, e15, e16, e91, e92, e258] tab.get) 1000 15 [] (.lit (.bool true)) = true := by kernel_rfl
theorem pp259 : PureOk Try.prog 15 (fun bs K => bs = [] ∧ K (.lit (.bool true))) := pure_of_okT (withK_ok (AllTT.tab tabOk) kn259) mm259
end Go.Proofs.Ytgdihdiadlmjiaa
