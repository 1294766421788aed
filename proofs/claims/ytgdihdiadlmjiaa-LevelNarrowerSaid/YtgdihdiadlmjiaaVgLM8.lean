import Derived.Test.YtgdihdiadlmjiaaVgLM7
set_option linter.all false
namespace Go.Proofs.Ytgdihdiadlmjiaa
open Go Go.Vg
set_option maxRecDepth 10000
end Go.Proofs.Ytgdihdiadlmjiaa
