/- Two cookies' keys compared: the structs' equality. No condition. -/
import Derived.Test.YtnbpcaoblpidjabDoorCkBlk
import Derived.Laws.Small
import Derived.ChangeKeysEq
namespace Go.Proofs.YtnbpcaoblpidjabDoor
open Go.ChangeShapes Go.WideShapes Go.ChangeAt Go.WideMaps Go.WideElems Go.RowKit

end Go.Proofs.YtnbpcaoblpidjabDoor
