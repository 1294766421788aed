import Derived.Test.YtbbbpdajikblbaaVgSG7
namespace Go.Proofs.Ytbbbpdajikblbaa
open Go Go.Vg
set_option linter.unusedSimpArgs false
set_option linter.unusedVariables false
set_option maxRecDepth 10000
abbrev T8 : List (Nat × Sg) := [(24, .fc F24), (27, .pc C27), (25, .fc F25), (43, .fc F43), (44, .fc F44)]
end Go.Proofs.Ytbbbpdajikblbaa
