import Derived.Test.YtdcjlllnfklncaaVgV9
namespace Go.Vg
open Go
end Go.Vg
