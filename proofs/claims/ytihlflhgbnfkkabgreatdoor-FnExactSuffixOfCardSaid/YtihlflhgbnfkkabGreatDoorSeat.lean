/- Facts of this seat's program that every law's frame asks for, each checked once. No condition. -/
import Derived.Test.YtihlflhgbnfkkabGreatDoorRows
import Derived.KernelRfl
namespace Go.Proofs.YtihlflhgbnfkkabGreatDoor
theorem seat_mayEnter : Tryz.pinned.checked.prog.mayEnter = true := by kernel_rfl
theorem seat_lifts : Tryz.pinned.checked.prog.liftsFinal = Rows.fnExactSuffixOfRow.lifted := by kernel_rfl
theorem seat_make : Tryz.pinned.checked.prog.make = some Rows.fnExactSuffixOfRow.make := by kernel_rfl
theorem seat_main : Tryz.pinned.checked.prog.mainIs = some (true, ( "a71320e9069b961c0f074843d99daf19a6d39c7cd88042902b2d0f87633eb577" : String).toList) := by kernel_rfl
end Go.Proofs.YtihlflhgbnfkkabGreatDoor
