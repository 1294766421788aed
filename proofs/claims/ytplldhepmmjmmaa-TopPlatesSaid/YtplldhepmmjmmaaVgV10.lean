import Derived.Test.YtplldhepmmjmmaaVgV9
namespace Go.Vg
open Go
end Go.Vg
