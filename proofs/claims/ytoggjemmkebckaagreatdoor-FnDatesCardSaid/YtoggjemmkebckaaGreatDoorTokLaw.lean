/- The walk of the law on DateTokens. No condition of its own. -/
import Derived.Test.YtoggjemmkebckaaGreatDoorTokens
namespace Go.Proofs.YtoggjemmkebckaaGreatDoor
open Go.ChangeShapes Go.WideShapes Go.ChangeAt Go.WideMaps Go.WideElems Go.RowKit

end Go.Proofs.YtoggjemmkebckaaGreatDoor
