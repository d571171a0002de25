/- Two cookies' keys compared: the structs' equality. No condition. -/
import Derived.Test.YtnbpcaoblpidjaaGreatDoorCkBlk
import Derived.Laws.Small
import Derived.ChangeKeysEq
namespace Go.Proofs.YtnbpcaoblpidjaaGreatDoor
open Go.ChangeShapes Go.WideShapes Go.ChangeAt Go.WideMaps Go.WideElems Go.RowKit

end Go.Proofs.YtnbpcaoblpidjaaGreatDoor
