/- A number within bounds, in the program and in the model. No condition. -/
import Derived.Test.YtcaabnnkjnleeaaDoorHostSpec
namespace Go.Proofs.YtcaabnnkjnleeaaDoor
open Go.ChangeShapes Go.WideShapes Go.ChangeAt Go.WideMaps Go.WideElems Go.RowKit

theorem isWithin_is (n a b : Int) (w : World) : Calls Tryd.prog 87 #[.int .i64 n, .int .i64 a, .int .i64 b] w fun e w' => e = .returned (.bool (inRange n a b)) ∧ w = w' := by
  by_cases h1 : a ≤ n
  · by_cases h2 : n ≤ b
    · have HI : Hid (inRange n a b = true) := by show inRange n a b = true; simp [inRange, h1, h2]
      go_enter Tryd.func87, Tryd.ntmps87
      go_wp2_with fail
      go_ret
      exact ⟨bool_end (by simp [inRange, h1, h2]), rfl⟩
    · have h2' : b < n := by omega
      go_enter Tryd.func87, Tryd.ntmps87
      go_wp2_with fail
      go_ret
      exact ⟨bool_end (by simp [inRange, h1, h2]), rfl⟩
  · have h1' : n < a := by omega
    go_enter Tryd.func87, Tryd.ntmps87
    go_wp2_with fail
    go_ret
    exact ⟨bool_end (by simp [inRange]; intro h; omega), rfl⟩
end Go.Proofs.YtcaabnnkjnleeaaDoor
