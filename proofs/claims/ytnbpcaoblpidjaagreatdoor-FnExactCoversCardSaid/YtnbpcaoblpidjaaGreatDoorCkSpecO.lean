/- SameKey, ComesFirst, GoesFirst of the model: what they answer. No condition of its own. -/
import Derived.Test.YtnbpcaoblpidjaaGreatDoorCkOrders
namespace Go.Proofs.YtnbpcaoblpidjaaGreatDoor
open Go.ChangeShapes Go.WideShapes Go.ChangeAt Go.WideMaps Go.WideElems Go.RowKit

end Go.Proofs.YtnbpcaoblpidjaaGreatDoor
