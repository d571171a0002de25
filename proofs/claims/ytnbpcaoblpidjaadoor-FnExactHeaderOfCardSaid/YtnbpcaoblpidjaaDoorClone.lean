/- strings.Clone: the same bytes. The text has at most 65536 bytes. -/
import Derived.Test.YtnbpcaoblpidjaaDoorBase
import Derived.Test.YtnbpcaoblpidjaaDoorShelf
namespace Go.Proofs.YtnbpcaoblpidjaaDoor
open Go.ChangeShapes Go.WideShapes Go.ChangeAt Go.WideMaps Go.WideElems Go.RowKit

theorem clone_any (s : ByteArray) (w : World) (hs : s.size ≤ 65536) : Calls Tryd.prog 66 #[.string s] w fun e w' => e = .returned (.string s) ∧ Below w.heap.size w w' := by
  go_enter Tryd.func66, Tryd.ntmps66
  go_wp2_with (go_at_call 79; refine (Tryd.stringslite_Clone _ _ (by omega)).mono ?_; rintro e w' ⟨rfl, hb⟩)
  go_ret
  exact ⟨rfl, hb⟩
end Go.Proofs.YtnbpcaoblpidjaaDoor
