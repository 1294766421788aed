import Derived.Test.YtplldhepmmjmmaaVgV11
namespace Go.Vg
open Go
end Go.Vg
