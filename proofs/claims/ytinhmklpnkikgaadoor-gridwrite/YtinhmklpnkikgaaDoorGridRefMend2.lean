/- The walk of the reference's MendRow. -/
import Derived.Test.YtinhmklpnkikgaaDoorPartF
import Derived.Test.YtinhmklpnkikgaaDoorGridRefMend
namespace Go.Proofs.YtinhmklpnkikgaaDoor
open Go.ChangeShapes Go.WideShapes Go.ChangeAt Go.RowKit
namespace Grd
open Txt (wd)
/-- A slice that reads as a row, alone in the block g. -/
def RowB (w : World) (g : Nat) (v : Value) (row : List C) : Prop := ∃ (cap : Nat) (rest : List Value), v = .slice (some ⟨g, 0, none⟩) row.length cap ∧ row.length ≤ cap ∧ cap ≤ 9223372036854775807 ∧ w.heap[g]? = some (.cells (flat row ++ rest).toArray 40 (0, 0))
end Grd
end Go.Proofs.YtinhmklpnkikgaaDoor
