/- strings.Clone: the same bytes. The text has at most 65536 bytes. -/
import Derived.Test.YtnbpcaoblpidjaaGreatDoorBase
import Derived.Test.YtnbpcaoblpidjaaGreatDoorShelf
namespace Go.Proofs.YtnbpcaoblpidjaaGreatDoor
open Go.ChangeShapes Go.WideShapes Go.ChangeAt Go.WideMaps Go.WideElems Go.RowKit

theorem clone_any (s : ByteArray) (w : World) (hs : s.size ≤ 65536) : Calls Tryz.prog 48 #[.string s] w fun e w' => e = .returned (.string s) ∧ Below w.heap.size w w' := by
  go_enter Tryz.func48, Tryz.ntmps48
  go_wp2_with (go_at_call 55; refine (Tryz.stringslite_Clone _ _ (by omega)).mono ?_; rintro e w' ⟨rfl, hb⟩)
  go_ret
  exact ⟨rfl, hb⟩
end Go.Proofs.YtnbpcaoblpidjaaGreatDoor
