import Derived.Test.YtbbbpdajikblbaaVgV9
namespace Go.Vg
open Go
end Go.Vg
