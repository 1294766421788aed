/- The closed calls of layer 3: the chapter's examples, and what is said of single vials. -/
import Derived.Test.YtgdihdiadlmjiaaVgM34
namespace Go.Proofs.Ytgdihdiadlmjiaa
open Go Go.Vg
theorem last_pure : PureOk Try.prog 15 (fun bs K => bs = [] ∧ K (.lit (.bool true))) := pp259
theorem works_pure : PureOk Try.prog 22 (fun bs K => bs = [] ∧ K (.lit (.bool true))) := pp258
end Go.Proofs.Ytgdihdiadlmjiaa
