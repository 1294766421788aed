/- RoundsKnown: the run of the whole function. -/
import Derived.Test.YtgfoakilompbdaaVgM68
namespace Go.Proofs.Ytgfoakilompbdaa
open Go Go.Vg
theorem last_pure : PureOk Try.prog 13 (fun bs K => bs = [] ∧ K (.lit (.bool true))) := pp81
end Go.Proofs.Ytgfoakilompbdaa
