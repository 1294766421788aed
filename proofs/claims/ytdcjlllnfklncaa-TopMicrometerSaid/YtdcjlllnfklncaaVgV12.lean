import Derived.Test.YtdcjlllnfklncaaVgV11
namespace Go.Vg
open Go
end Go.Vg
