/- SextantKnown: the run of the whole function. -/
import Derived.Test.YtjagiieconpgbaaVgM52
namespace Go.Proofs.Ytjagiieconpgbaa
open Go Go.Vg
theorem last_pure : PureOk Try.prog 14 (fun bs K => bs = [] ∧ K (.lit (.bool true))) := pp9
end Go.Proofs.Ytjagiieconpgbaa
