/- A number within bounds, in the program and in the model. No condition. -/
import Derived.Test.YteaapglkomlnhaaScan
namespace Go.Proofs.Yteaapglkomlnhaa
open Go.ChangeShapes Go.WideShapes Go.ChangeAt Go.WideMaps Go.WideElems Go.RowKit

def inRange (n a b : Int) : Bool := decide (a ≤ n ∧ n ≤ b)
theorem within_any (n a b : Int) (w : World) : Calls Try.prog 53 #[.int .i64 n, .int .i64 a, .int .i64 b] w fun e w' => e = .returned (.bool (inRange n a b)) ∧ w = w' := by
  by_cases h1 : a ≤ n
  · by_cases h2 : n ≤ b
    · have HE : Hid (inRange n a b = true) := decide_eq_true ⟨h1, h2⟩
      go_enter Try.func53, Try.ntmps53
      go_wp2
      go_ret
      exact ⟨bool_end HE.out.symm, rfl⟩
    · have HE : Hid (inRange n a b = false) := decide_eq_false (fun h => h2 h.2)
      go_enter Try.func53, Try.ntmps53
      go_wp2
      go_ret
      exact ⟨bool_end HE.out.symm, rfl⟩
  · have HE : Hid (inRange n a b = false) := decide_eq_false (fun h => h1 h.1)
    go_enter Try.func53, Try.ntmps53
    go_wp2
    go_ret
    exact ⟨bool_end HE.out.symm, rfl⟩
theorem isWithin_is (n a b : Int) (w : World) : Calls Try.prog 56 #[.int .i64 n, .int .i64 a, .int .i64 b] w fun e w' => e = .returned (.bool (inRange n a b)) ∧ w = w' := by
  by_cases h1 : a ≤ n
  · by_cases h2 : n ≤ b
    · have HI : Hid (inRange n a b = true) := by show inRange n a b = true; simp [inRange, h1, h2]
      go_enter Try.func56, Try.ntmps56
      go_wp2_with fail
      go_ret
      exact ⟨bool_end (by simp [inRange, h1, h2]), rfl⟩
    · have h2' : b < n := by omega
      go_enter Try.func56, Try.ntmps56
      go_wp2_with fail
      go_ret
      exact ⟨bool_end (by simp [inRange, h1, h2]), rfl⟩
  · have h1' : n < a := by omega
    go_enter Try.func56, Try.ntmps56
    go_wp2_with fail
    go_ret
    exact ⟨bool_end (by simp [inRange]; intro h; omega), rfl⟩
end Go.Proofs.Yteaapglkomlnhaa
