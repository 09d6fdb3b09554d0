/- What the rows list: tables of numbers. -/
import Derived.Test.YtbhoklhcdefabaaDoorTextTab
import Derived.LaidLaws
namespace Go.Proofs.YtbhoklhcdefabaaDoor
open Go.ChangeShapes Go.WideShapes Go.ChangeAt Go.RowKit
namespace Fmt
/-- The cells of a row of numbers. -/
def cells1 (d : DataW Unit) : Array Value := match d with
  | .agg l => (l.map fun x => match x with
    | .lit (.int k z) => Value.int k z
    | _ => undef).toArray
  | _ => #[]
end Fmt
end Go.Proofs.YtbhoklhcdefabaaDoor
