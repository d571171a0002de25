/- Facts of this seat's program that every law's frame asks for, each checked once. No condition. -/
import Derived.Test.YtcaabnnkjnleeaaGreatDoorRows
import Derived.KernelRfl
namespace Go.Proofs.YtcaabnnkjnleeaaGreatDoor
theorem seat_mayEnter : Tryz.pinned.checked.prog.mayEnter = true := by kernel_rfl
theorem seat_lifts : Tryz.pinned.checked.prog.liftsFinal = Rows.fnExactCoversRow.lifted := by kernel_rfl
theorem seat_make : Tryz.pinned.checked.prog.make = some Rows.fnExactCoversRow.make := by kernel_rfl
theorem seat_main : Tryz.pinned.checked.prog.mainIs = some (true, ( "6b5aaa9e5d29b9f11c349b554b9d0fdd4c40fe7f42edcc4fddf77c1eb4bac607" : String).toList) := by kernel_rfl
end Go.Proofs.YtcaabnnkjnleeaaGreatDoor
