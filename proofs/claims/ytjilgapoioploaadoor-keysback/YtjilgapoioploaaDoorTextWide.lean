/- The walk of text.Wide. -/
import Derived.Test.YtjilgapoioploaaDoorTextWidth
import Derived.Test.YtjilgapoioploaaDoorTextRunes
namespace Go.Proofs.YtjilgapoioploaaDoor
open Go.ChangeShapes Go.WideShapes Go.ChangeAt Go.RowKit
namespace Txt

end Txt
end Go.Proofs.YtjilgapoioploaaDoor
