/- The walk of the law on ReadPairs. No condition of its own. -/
import Derived.Test.YtoggjemmkebckaaDoorPairs
namespace Go.Proofs.YtoggjemmkebckaaDoor
open Go.ChangeShapes Go.WideShapes Go.ChangeAt Go.WideMaps Go.WideElems Go.RowKit

set_option maxHeartbeats 1000000 in
set_option maxRecDepth 100000 in
theorem walk_FnExactReadPairs (W : World) (s : ByteArray) (hs : s.size ≤ maxLen) (_ : laidMetH Tryd.prog Rows.fnExactReadPairsRow.laid W) (hSh : W.ShapedOpen Tryd.prog) :
    Calls Tryd.prog 7 #[.string s] W fun e w' => e = .returned (.bool true) ∧ Below W.heap.size W w' := by
  have HS := Lib.hid hs
  have HM := Lib.hid (max_now hSh)
  clear hSh
  unfold maxLen at hs
  by_cases hl : (s.size : Int) ≤ 1048576
  · have hlen := prs_len s
    have hn : (prsC s != prsC s) = false := by simp
    go_enter Tryd.func7, Tryd.ntmps7
    go_wp2_with fail
    refine (specPairs s _ HS.out).mono ?_
    rintro e w1 ⟨v0, rfl, hr, hb⟩
    have R0 := Lib.hid hr
    have B1 := Lib.hid hb
    clear hr hb
    go_wp2_with fail
    refine (implPairs s _ HS.out (HM.out.below B1.out)).mono ?_
    rintro e w2 ⟨g0, rfl, hr, hb⟩
    have R1 := Lib.hid hr
    have R02 := Lib.hid (R0.out.below hb)
    have B2 := Lib.hid (B1.out.trans (hb.mono B1.out.size))
    have hap := row_apart R0.out R1.out
    have HA := Lib.hid hap
    have hz1 := hb.size
    clear hr hb hap
    go_wp2_with fail
    refine (eqStrings_any g0 v0 (prsL s) _ _ _ (by omega) R1.out R02.out).mono ?_
    rintro e w3 ⟨rfl, hb⟩
    have R13 := Lib.hid (R1.out.below hb)
    have R03 := Lib.hid (R02.out.below hb)
    have B3 := Lib.hid (B2.out.trans (hb.mono B2.out.size))
    clear hb
    go_wp2_with fail
    refine (markStrings_any g0 (prsL s) _ 1 _ (by omega) (by omega) R13.out).mono ?_
    rintro e w4 ⟨rfl, hr, hg⟩
    have R14 := Lib.hid hr
    have R04 := Lib.hid (R03.out.grown hg HA.out)
    have B4 := Lib.hid (B3.out.grown hg B3.out.size (fun k hk => Nat.le_trans B1.out.size (row_from R1.out k hk)))
    clear hr hg
    go_wp2_with fail
    refine (heldStrings_any g0 _ 1 (prsL s).length _ (by omega) (by omega) R14.out).mono ?_
    rintro e w5 ⟨rfl, hb⟩
    have R15 := Lib.hid (R14.out.below hb)
    have R05 := Lib.hid (R04.out.below hb)
    have B5 := Lib.hid (B4.out.trans (hb.mono B4.out.size))
    have hp1 : (0 : Int) ≤ ((1 + (prsL s).length : Nat) : Int) := by omega
    have hp2 : ((((1 + (prsL s).length : Nat) : Int)) != ((1 + (prsL s).length : Nat) : Int)) = false := by simp
    clear hb
    go_wp2_with fail
    refine (implPairs s _ HS.out (HM.out.below B5.out)).mono ?_
    rintro e w6 ⟨h0, rfl, hr, hb⟩
    have R6 := Lib.hid hr
    have R16 := Lib.hid (R15.out.below hb)
    have R06 := Lib.hid (R05.out.below hb)
    have B6 := Lib.hid (B5.out.trans (hb.mono B5.out.size))
    clear hr hb
    go_wp2_with fail
    refine (eqStrings_any h0 v0 (prsL s) _ _ _ (by omega) R6.out R06.out).mono ?_
    rintro e w7 ⟨rfl, hb⟩
    have R17 := Lib.hid (R16.out.below hb)
    have B7 := Lib.hid (B6.out.trans (hb.mono B6.out.size))
    clear hb
    go_wp2_with fail
    refine (heldStrings_any g0 _ 1 (prsL s).length _ (by omega) (by omega) R17.out).mono ?_
    rintro e w8 ⟨rfl, hb⟩
    have B8 := Lib.hid (B7.out.trans (hb.mono B7.out.size))
    clear hb
    go_wp2_with fail
    go_ret
    exact ⟨rfl, B8.out⟩
  · go_enter Tryd.func7, Tryd.ntmps7
    go_wp2
    go_ret
    exact ⟨rfl, Below.refl _ _⟩
end Go.Proofs.YtoggjemmkebckaaDoor
