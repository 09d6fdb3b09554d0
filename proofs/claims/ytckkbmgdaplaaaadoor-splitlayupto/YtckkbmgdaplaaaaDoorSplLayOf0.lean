/- The reference's LayOut: what it keeps to. (Written by gen_spllayof.py.) -/
import Derived.Test.YtckkbmgdaplaaaaDoorSplLayP
import Derived.Test.YtckkbmgdaplaaaaDoorSplLsOf
import Derived.BigQuiet
namespace Go.Proofs.YtckkbmgdaplaaaaDoor
open Go.ChangeShapes Go.WideShapes Go.ChangeAt Go.RowKit Go.Maps Go.Sort
namespace Spl
open Fo
/-- LayOut of trees with less than n parts lays them out as said. -/
def LayOutOk (n : Nat) : Prop := ∀ (wy pn sz : Int) (ks : Fo) (kv : Value) (x y W H : Int) (w : World), ks.cnt < n → ks.cnt ≤ 2000000 → (wy = 0 ∨ ((wy = 1 ∨ wy = 2) ∧ ks ≠ .nil)) → Ok ks → KAt w kv ks → ((ls wy ks).1 : Int) ≤ W → ((ls wy ks).2 : Int) ≤ H → 0 ≤ x → x + W ≤ 1000 → 0 ≤ y → y + H ≤ 1000 →
    Calls Tryd.prog 21 #[.agg #[.int .i64 wy, .int .i64 pn, .int .i64 sz, kv], .agg #[.int .i64 x, .int .i64 y, .int .i64 W, .int .i64 H]] w fun e w' => ∃ v, e = .returned v ∧ OwnP w' w.heap.size v (layT wy pn ks x y W H) ∧ Below w.heap.size w w'
end Spl
end Go.Proofs.YtckkbmgdaplaaaaDoor
