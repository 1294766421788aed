import Derived.Test.YtplldhepmmjmmaaVgR21
import Derived.Test.YtplldhepmmjmmaaVgKP
import Derived.Test.YtplldhepmmjmmaaVgTPS
section
namespace Go.Proofs.Ytplldhepmmjmmaa
open Go Go.Vg
set_option maxRecDepth 100000
set_option maxHeartbeats 4000000
def e0 : Nat × List SV × SV := (15, [(.ints .i64 [20, 30, 40, 60]), (.int .i64 (3)), (.int .i64 (2))], (.tup [(.agg [(.int .i64 (1)), (.int .i64 (0)), (.int .i64 (-1)), (.int .i64 (-1))]), (.int .i64 (0))]))
theorem kn0 : KnOk Try.prog [] := trivial
theorem mm0 : Go.Vg.okT (withK [] tab.get) 1000 e0.1 e0.2.1 e0.2.2 = true := by kernel_rfl
theorem pp0 : PureOk Try.prog e0.1 (fun bs K => bs = e0.2.1 ∧ K e0.2.2) := pure_of_okT (withK_ok (AllTT.tab tabOk) kn0) mm0
end Go.Proofs.Ytplldhepmmjmmaa
end
section
namespace Go.Proofs.Ytplldhepmmjmmaa
open Go Go.Vg
set_option maxRecDepth 100000
set_option maxHeartbeats 4000000
def e1 : Nat × List SV × SV := (21, [(.rd 5 1 (rowOf 5 [(.int .i64 (7)), (.int .i64 (8)), (.int .i64 (0)), (.int .i64 (0)), (.int .i64 (0))]))], (.rd 2 1 (rowOf 2 [(.int .i64 (7)), (.int .i64 (8))])))
theorem pp1 : PureOk Try.prog e1.1 (fun bs K => bs = e1.2.1 ∧ K e1.2.2) := sp21
end Go.Proofs.Ytplldhepmmjmmaa
end
section
namespace Go.Proofs.Ytplldhepmmjmmaa
open Go Go.Vg
set_option maxRecDepth 100000
set_option maxHeartbeats 4000000
def e2 : Nat × List SV × SV := (9, [], (.lit (.bool true)))
theorem kn2 : KnOk Try.prog [e0, e1] := ⟨pp0, pp1, trivial⟩
theorem mm2 : Go.Vg.okT (withK [e0, e1] tab.get) 1000 9 [] (.lit (.bool true)) = true := by kernel_rfl
theorem pp2 : PureOk Try.prog 9 (fun bs K => bs = [] ∧ K (.lit (.bool true))) := pure_of_okT (withK_ok (AllTT.tab tabOk) kn2) mm2
end Go.Proofs.Ytplldhepmmjmmaa
end
