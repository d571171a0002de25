/- strings.Clone: the same bytes. The text has at most 65536 bytes. -/
import Derived.Test.YtoggjemmkebckaaDoorBase
import Derived.Test.YtoggjemmkebckaaDoorShelf
namespace Go.Proofs.YtoggjemmkebckaaDoor
open Go.ChangeShapes Go.WideShapes Go.ChangeAt Go.WideMaps Go.WideElems Go.RowKit

theorem clone_any (s : ByteArray) (w : World) (hs : s.size ≤ 65536) : Calls Tryd.prog 81 #[.string s] w fun e w' => e = .returned (.string s) ∧ Below w.heap.size w w' := by
  go_enter Tryd.func81, Tryd.ntmps81
  go_wp2_with (go_at_call 99; refine (Tryd.stringslite_Clone _ _ (by omega)).mono ?_; rintro e w' ⟨rfl, hb⟩)
  go_ret
  exact ⟨rfl, hb⟩
end Go.Proofs.YtoggjemmkebckaaDoor
