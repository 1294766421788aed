import Derived.Test.YtdcjlllnfklncaaVgR21
import Derived.Test.YtdcjlllnfklncaaVgKT
namespace Go.Proofs.Ytdcjlllnfklncaa
open Go Go.Vg
set_option maxRecDepth 100000
set_option maxHeartbeats 4000000
def e0 : Nat × List SV × SV := (13, [(.agg [(.int .i64 (100)), (.rd 2 2 (rowOf 2 [(.int .i64 (0)), (.int .i64 (0)), (.int .i64 (0)), (.int .i64 (0))])), (.int .i64 (0)), (.int .i64 (0)), (.int .i64 (2)), (.lit (.slice none 0 0))]), (.agg [(.int .i64 (50)), (.int .i64 (0))])], (.tup [(.agg [(.int .i64 (48)), (.int .i64 (52))]), (.int .i64 (0))]))
theorem kn0 : KnOk Try.prog [] := trivial
theorem mm0 : okT (withK [] tab.get) 1000 e0.1 e0.2.1 e0.2.2 = true := by kernel_rfl
theorem pp0 : PureOk Try.prog e0.1 (fun bs K => bs = e0.2.1 ∧ K e0.2.2) := pure_of_okT (withK_ok (AllTT.tab tabOk) kn0) mm0
def e1 : Nat × List SV × SV := (17, [(.agg [(.int .i64 (100)), (.int .i64 (500)), (.int .i64 (4)), (.int .i64 (80)), (.int .i64 (120)), (.int .i64 (2))])], (.rd 2 1 (rowOf 2 [(.int .i64 (99)), (.int .i64 (101))])))
theorem kn1 : KnOk Try.prog [] := trivial
theorem mm1 : okT (withK [] tab.get) 1000 e1.1 e1.2.1 e1.2.2 = true := by kernel_rfl
theorem pp1 : PureOk Try.prog e1.1 (fun bs K => bs = e1.2.1 ∧ K e1.2.2) := pure_of_okT (withK_ok (AllTT.tab tabOk) kn1) mm1
def e2 : Nat × List SV × SV := (6, [], (.lit (.bool true)))
theorem kn2 : KnOk Try.prog [e0, e1] := ⟨pp0, pp1, trivial⟩
theorem mm2 : okT (withK [e0, e1] tab.get) 1000 6 [] (.lit (.bool true)) = true := by kernel_rfl
theorem pp2 : PureOk Try.prog 6 (fun bs K => bs = [] ∧ K (.lit (.bool true))) := pure_of_okT (withK_ok (AllTT.tab tabOk) kn2) mm2
end Go.Proofs.Ytdcjlllnfklncaa
