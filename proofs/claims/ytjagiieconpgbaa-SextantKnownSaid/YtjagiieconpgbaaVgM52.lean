/- Calls of the program's functions, carried out: each beside the results that it uses. -/
import Derived.Test.YtjagiieconpgbaaVgR21
import Derived.Test.YtjagiieconpgbaaVgK5
import Derived.Test.YtjagiieconpgbaaVgM51
namespace Go.Proofs.Ytjagiieconpgbaa
open Go Go.Vg
set_option maxRecDepth 100000
set_option maxHeartbeats 4000000
def e9 : Nat × List SV × SV := (14, [], (.lit (.bool true)))
theorem kn9 : KnOk Try.prog [e0, e1, e2, e8] := ⟨pp0, pp1, pp2, pp8, trivial⟩
theorem mm9 : okT (withK [e0, e1, e2, e8] tab.get) 1000 14 [] (.lit (.bool true)) = true := by kernel_rfl
theorem pp9 : PureOk Try.prog 14 (fun bs K => bs = [] ∧ K (.lit (.bool true))) := pure_of_okT (withK_ok (AllTT.tab tabOk) kn9) mm9
end Go.Proofs.Ytjagiieconpgbaa
