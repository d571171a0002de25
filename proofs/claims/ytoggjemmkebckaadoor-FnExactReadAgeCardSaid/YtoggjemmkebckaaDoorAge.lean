/- ReadAge of the program and of the model; the law's walk. No condition of its own. -/
import Derived.Test.YtoggjemmkebckaaDoorDecimal
namespace Go.Proofs.YtoggjemmkebckaaDoor
open Go.ChangeShapes Go.WideShapes Go.ChangeAt Go.WideMaps Go.WideElems Go.RowKit

theorem implAge (t : ByteArray) (w : World) (hs : t.size ≤ maxLen) (hT : TabAt w) : Calls Tryd.prog 15 #[.string t] w fun e w' => e = .returned (.tuple #[.int .i64 (dN t), .int .i64 (dC t)]) ∧ Below w.heap.size w w' := by
  have HT := Lib.hid hT
  have hs0 := Lib.hid hs
  clear hT hs
  go_enter Tryd.func15, Tryd.ntmps15
  go_wp2_with (go_at_call 34; refine (implDecimal _ _ hs0.out HT.out).mono ?_; rintro e w' ⟨rfl, hb⟩; have HB := Lib.hid hb; clear hb)
  go_ret2
  exact ⟨rfl, HB.out⟩
theorem specAge (t : ByteArray) (w : World) (hs : t.size ≤ maxLen) : Calls Tryd.prog 14 #[.string t] w fun e w' => e = .returned (.tuple #[.int .i64 (dN t), .int .i64 (dC t)]) ∧ w = w' := by
  have hs0 := Lib.hid hs
  unfold maxLen at hs
  by_cases hl : t.size ≤ 65536
  · cases hok : decOK t with
    | false =>
      have HO := Lib.hid hok
      clear hok
      go_enter Tryd.func14, Tryd.ntmps14
      go_wp2_with (go_at_call 33; refine (specDec _ _ hs0.out).mono ?_; rintro e w' ⟨rfl, rfl⟩; rw [HO.out])
      go_ret2
      exact ⟨ints_end (by simp [dN, HO.out]) (by simp [dC, HO.out, hl]), rfl⟩
    | true =>
      have HO := Lib.hid hok
      clear hok
      go_enter Tryd.func14, Tryd.ntmps14
      go_wp2_with (go_at_call 33; refine (specDec _ _ hs0.out).mono ?_; rintro e w' ⟨rfl, rfl⟩; rw [HO.out])
      go_ret2
      exact ⟨ints_end (by simp [dN, HO.out, hl]) (by simp [dC, HO.out, hl]), rfl⟩
  · go_enter Tryd.func14, Tryd.ntmps14
    go_wp2
    go_ret2
    exact ⟨ints_end (by simp [dN, hl]) (by simp [dC, hl]), rfl⟩
theorem walk_FnExactReadAge (W : World) (s : ByteArray) (hs : s.size ≤ maxLen) (hL : laidMetH Tryd.prog Rows.fnExactReadAgeRow.laid W) (_ : W.ShapedOpen Tryd.prog) :
    Calls Tryd.prog 5 #[.string s] W fun e w' => e = .returned (.bool true) ∧ Below W.heap.size W w' := by
  have hT := Lib.hid (tab_laid hL)
  have hs0 := Lib.hid hs
  clear hL
  unfold maxLen at hs
  by_cases hl : (s.size : Int) ≤ 1048576
  · go_enter Tryd.func5, Tryd.ntmps5
    go_wp2_with (first
      | (go_at_call 14; refine (specAge _ _ hs0.out).mono ?_; rintro e w' ⟨rfl, rfl⟩)
      | (go_at_call 15; refine (implAge _ _ hs0.out hT.out).mono ?_; rintro e w' ⟨rfl, hb⟩))
    go_ret
    exact ⟨rfl, hb⟩
  · go_enter Tryd.func5, Tryd.ntmps5
    go_wp2
    go_ret
    exact ⟨rfl, Below.refl _ _⟩
end Go.Proofs.YtoggjemmkebckaaDoor
