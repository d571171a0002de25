/- ReadAge of the program and of the model; the law's walk. No condition of its own. -/
import Derived.Test.YtihlflhgbnfkkaaGreatDoorDecimal
namespace Go.Proofs.YtihlflhgbnfkkaaGreatDoor
open Go.ChangeShapes Go.WideShapes Go.ChangeAt Go.WideMaps Go.WideElems Go.RowKit

theorem implAge (t : ByteArray) (w : World) (hs : t.size ≤ maxLen) (hT : TabAt w) : Calls Tryz.prog 13 #[.string t] w fun e w' => e = .returned (.tuple #[.int .i64 (dN t), .int .i64 (dC t)]) ∧ Below w.heap.size w w' := by
  have HT := Lib.hid hT
  have hs0 := Lib.hid hs
  clear hT hs
  go_enter Tryz.func13, Tryz.ntmps13
  go_wp2_with (go_at_call 57; refine (implDecimal _ _ hs0.out HT.out).mono ?_; rintro e w' ⟨rfl, hb⟩; have HB := Lib.hid hb; clear hb)
  go_ret2
  exact ⟨rfl, HB.out⟩
theorem specAge (t : ByteArray) (w : World) (hs : t.size ≤ maxLen) : Calls Tryz.prog 14 #[.string t] w fun e w' => e = .returned (.tuple #[.int .i64 (dN t), .int .i64 (dC t)]) ∧ w = w' := by
  have hs0 := Lib.hid hs
  unfold maxLen at hs
  by_cases hl : t.size ≤ 65536
  · cases hok : decOK t with
    | false =>
      have HO := Lib.hid hok
      clear hok
      go_enter Tryz.func14, Tryz.ntmps14
      go_wp2_with (go_at_call 58; refine (specDec _ _ hs0.out).mono ?_; rintro e w' ⟨rfl, rfl⟩; rw [HO.out])
      go_ret2
      exact ⟨ints_end (by simp [dN, HO.out]) (by simp [dC, HO.out, hl]), rfl⟩
    | true =>
      have HO := Lib.hid hok
      clear hok
      go_enter Tryz.func14, Tryz.ntmps14
      go_wp2_with (go_at_call 58; refine (specDec _ _ hs0.out).mono ?_; rintro e w' ⟨rfl, rfl⟩; rw [HO.out])
      go_ret2
      exact ⟨ints_end (by simp [dN, HO.out, hl]) (by simp [dC, HO.out, hl]), rfl⟩
  · go_enter Tryz.func14, Tryz.ntmps14
    go_wp2
    go_ret2
    exact ⟨ints_end (by simp [dN, hl]) (by simp [dC, hl]), rfl⟩
end Go.Proofs.YtihlflhgbnfkkaaGreatDoor
