/- The days of months and years, of the program and of the model: what they answer. The years are bounded where a premise says so. -/
import Derived.Test.YtpdonghdnaehhaaGreatDoorBase
import Derived.Test.YtpdonghdnaehhaaGreatDoorZGa
import Derived.IntWalk
import Derived.Deep.QuietTactic
import Derived.BigQuiet
import Derived.BigRegion
namespace Go.Proofs.YtpdonghdnaehhaaGreatDoor
open Go.ChangeShapes Go.WideShapes Go.ChangeAt Go.WideMaps Go.WideElems Go.RowKit

theorem drewN_below {B : Nat} {a w : World} (h : Below B a w) (n : Nat) : Below B a (w.drewN n) := ⟨h.os, h.tape, h.output, h.size, h.block⟩
theorem bool_of {a b : Bool} (h : a = b) : Ending.returned (.bool a) = .returned (.bool b) := by rw [h]
theorem int_of {k : IntKind} {a b : Int} (h : a = b) : Ending.returned (.int k a) = .returned (.int k b) := by rw [h]
/-- A year in the bounds of the walks. -/
theorem implLeap (y : Int) (w : World) (h1 : 0 ≤ y) (h2 : y ≤ 20000) : Calls Tryz.prog 333 #[.int .i64 y] w fun e w' => e = .returned (.bool (leapB y)) ∧ w = w' := by
  go_enter Tryz.func333, Tryz.ntmps333
  go_wp2
  all_goals go_ret
  all_goals refine ⟨bool_of ?_, rfl⟩
  all_goals rw [Bool.eq_iff_iff]; simp [leapB]; omega
theorem specLeap (y : Int) (w : World) (h1 : 0 ≤ y) (h2 : y ≤ 20000) : Calls Tryz.prog 301 #[.int .i64 y] w fun e w' => e = .returned (.bool (leapB y)) ∧ w = w' := by
  go_enter Tryz.func301, Tryz.ntmps301
  go_wp2
  all_goals go_ret
  all_goals refine ⟨bool_of ?_, rfl⟩
  all_goals rw [Bool.eq_iff_iff]; simp [leapB]; omega
theorem implDays (y m : Int) (w : World) (h1 : 0 ≤ y) (h2 : y ≤ 20000) : Calls Tryz.prog 295 #[.int .i64 y, .int .i64 m] w fun e w' => e = .returned (.int .i64 (mdays y m)) ∧ w = w' := by
  by_cases h : m = 4 ∨ m = 6 ∨ m = 9 ∨ m = 11
  · have HE : Hid (mdays y m = 30) := by show mdays y m = 30; rw [mdays, if_pos h]
    go_enter Tryz.func295, Tryz.ntmps295
    go_wp2
    all_goals go_ret
    all_goals exact ⟨int_of HE.out.symm, rfl⟩
  · by_cases h3 : m = 2
    · subst h3
      cases hl : leapB y with
      | true =>
        have HE : Hid (mdays y 2 = 29) := by show mdays y 2 = 29; rw [mdays, if_neg h, if_pos rfl, hl]; rfl
        have HL := Lib.hid hl
        clear hl h
        go_enter Tryz.func295, Tryz.ntmps295
        go_wp2_with (go_at_call 333; refine (implLeap _ _ h1 h2).mono ?_; rintro e w' ⟨rfl, rfl⟩; rw [HL.out])
        go_ret
        exact ⟨int_of HE.out.symm, rfl⟩
      | false =>
        have HE : Hid (mdays y 2 = 28) := by show mdays y 2 = 28; rw [mdays, if_neg h, if_pos rfl, hl]; rfl
        have HL := Lib.hid hl
        clear hl h
        go_enter Tryz.func295, Tryz.ntmps295
        go_wp2_with (go_at_call 333; refine (implLeap _ _ h1 h2).mono ?_; rintro e w' ⟨rfl, rfl⟩; rw [HL.out])
        go_ret
        exact ⟨int_of HE.out.symm, rfl⟩
    · have HE : Hid (mdays y m = 31) := by show mdays y m = 31; rw [mdays, if_neg h, if_neg h3]
      have e4 : ¬ m = 4 := by omega
      have e6 : ¬ m = 6 := by omega
      have e9 : ¬ m = 9 := by omega
      have e11 : ¬ m = 11 := by omega
      clear h
      go_enter Tryz.func295, Tryz.ntmps295
      go_wp2
      go_ret
      exact ⟨int_of HE.out.symm, rfl⟩
theorem specDays (y m : Int) (w : World) (h1 : 0 ≤ y) (h2 : y ≤ 20000) : Calls Tryz.prog 245 #[.int .i64 y, .int .i64 m] w fun e w' => e = .returned (.int .i64 (mdays y m)) ∧ w = w' := by
  by_cases h : m = 4 ∨ m = 6 ∨ m = 9 ∨ m = 11
  · have HE : Hid (mdays y m = 30) := by show mdays y m = 30; rw [mdays, if_pos h]
    have h2 : ¬ m = 2 := by omega
    go_enter Tryz.func245, Tryz.ntmps245
    go_wp2
    all_goals go_ret
    all_goals exact ⟨int_of HE.out.symm, rfl⟩
  · by_cases h3 : m = 2
    · subst h3
      cases hl : leapB y with
      | true =>
        have HE : Hid (mdays y 2 = 29) := by show mdays y 2 = 29; rw [mdays, if_neg h, if_pos rfl, hl]; rfl
        have HL := Lib.hid hl
        clear hl h
        go_enter Tryz.func245, Tryz.ntmps245
        go_wp2_with (go_at_call 301; refine (specLeap _ _ h1 h2).mono ?_; rintro e w' ⟨rfl, rfl⟩; rw [HL.out])
        go_ret
        exact ⟨int_of HE.out.symm, rfl⟩
      | false =>
        have HE : Hid (mdays y 2 = 28) := by show mdays y 2 = 28; rw [mdays, if_neg h, if_pos rfl, hl]; rfl
        have HL := Lib.hid hl
        clear hl h
        go_enter Tryz.func245, Tryz.ntmps245
        go_wp2_with (go_at_call 301; refine (specLeap _ _ h1 h2).mono ?_; rintro e w' ⟨rfl, rfl⟩; rw [HL.out])
        go_ret
        exact ⟨int_of HE.out.symm, rfl⟩
    · have HE : Hid (mdays y m = 31) := by show mdays y m = 31; rw [mdays, if_neg h, if_neg h3]
      have e4 : ¬ m = 4 := by omega
      have e6 : ¬ m = 6 := by omega
      have e9 : ¬ m = 9 := by omega
      have e11 : ¬ m = 11 := by omega
      clear h
      go_enter Tryz.func245, Tryz.ntmps245
      go_wp2
      go_ret
      exact ⟨int_of HE.out.symm, rfl⟩
theorem implBefore (y : Int) (w : World) (h1 : 1601 ≤ y) (h2 : y ≤ 20000) : Calls Tryz.prog 294 #[.int .i64 y] w fun e w' => e = .returned (.int .i64 (before y)) ∧ w = w' := by
  go_enter Tryz.func294, Tryz.ntmps294
  go_wp2
  go_ret
  exact ⟨int_of (by unfold before; omega), rfl⟩
/-- The model counts from the year 1 on. -/
theorem specBefore (y : Int) (w : World) (h1 : 1601 ≤ y) (h2 : y ≤ 20000) : Calls Tryz.prog 244 #[.int .i64 y] w fun e w' => e = .returned (.int .i64 (before y + 584388)) ∧ w = w' := by
  go_enter Tryz.func244, Tryz.ntmps244
  go_wp2
  go_ret
  exact ⟨int_of (by unfold before; omega), rfl⟩
end Go.Proofs.YtpdonghdnaehhaaGreatDoor
