/- A header drawn for a law. No condition of its own. -/
import Derived.Test.YtpdonghdnaehhaaGreatDoorZHeadDraw
namespace Go.Proofs.YtpdonghdnaehhaaGreatDoor
open Go.ChangeShapes Go.WideShapes Go.ChangeAt Go.WideMaps Go.WideElems Go.RowKit

set_option maxHeartbeats 2000000 in
set_option maxRecDepth 100000 in
theorem headerDrawn_any (v : Value) (len : Nat) (w : World) (h : CodeIn w v len) : Calls Tryz.prog 14 #[v] w fun e w' => ∃ s : ByteArray, e = .returned (.string s) ∧ s.size ≤ 1010 ∧ Below w.heap.size w w' := by
  have HC := Lib.hid h
  clear h
  go_enter Tryz.func14, Tryz.ntmps14
  go_wp2_with fail
  refine (source_any _ _ _ HC.out).mono ?_
  rintro e w1 ⟨rfl, hsrc, hb⟩
  have HX := Lib.hid hsrc
  have HB := Lib.hid hb
  clear hb hsrc
  go_wp2_with fail
  refine (anyHeader_any _ v len 0 _ (by omega) HX.out (Src.lt HX.out)).mono ?_
  rintro e w2 ⟨s, rfl, hs, hg⟩
  have HG := Lib.hid hg
  clear hg
  go_wp2_with fail
  go_ret
  exact ⟨s, rfl, hs, below_of_own HB.out HG.out.1⟩
end Go.Proofs.YtpdonghdnaehhaaGreatDoor
