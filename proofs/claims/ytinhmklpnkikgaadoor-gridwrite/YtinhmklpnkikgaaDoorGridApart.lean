/- What a call that writes into some blocks of its caller's own leaves as it was. -/
import Derived.Test.YtinhmklpnkikgaaDoorPartE
import Derived.Test.YtinhmklpnkikgaaDoorGridEqual
import Derived.Deep.MidRow
import Derived.Lib.OthersKept
namespace Go.Proofs.YtinhmklpnkikgaaDoor
open Go.ChangeShapes Go.WideShapes Go.ChangeAt Go.RowKit
namespace Grd
/-- Below N all is as it was; of the blocks that were there only those of S may have turned. -/
def Apart (N : Nat) (S : List Nat) (w w' : World) : Prop := Below N w w' ∧ ∀ k, k ∉ S → k < w.heap.size → w'.heap[k]? = w.heap[k]?
/-- A block that was there, and is none of S, is as it was. -/
end Grd
end Go.Proofs.YtinhmklpnkikgaaDoor
