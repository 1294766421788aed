import Derived.Test.YtbbbpdajikblbaaVgV11
namespace Go.Vg
open Go
end Go.Vg
