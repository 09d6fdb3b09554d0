/- near, reach, holds, and the reference's limit. -/
import Derived.Test.YtinhmklpnkikgaaDoorPartF
import Derived.Test.YtinhmklpnkikgaaDoorGridMend
namespace Go.Proofs.YtinhmklpnkikgaaDoor
open Go.ChangeShapes Go.WideShapes Go.ChangeAt Go.RowKit
namespace Grd
def nearI (n : Int) : Int := min (max n (-1000)) 1000
def limitI (n : Int) : Int := max (-1000) (min n 1000)
end Grd
end Go.Proofs.YtinhmklpnkikgaaDoor
