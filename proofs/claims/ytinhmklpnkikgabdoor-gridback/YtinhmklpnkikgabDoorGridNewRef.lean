/- The reference's NewGrid; noGrid, size. -/
import Derived.Test.YtinhmklpnkikgabDoorGridNew
namespace Go.Proofs.YtinhmklpnkikgabDoor
open Go.ChangeShapes Go.WideShapes Go.ChangeAt Go.RowKit
namespace Grd
end Grd
end Go.Proofs.YtinhmklpnkikgabDoor
