/- Facts of this seat's program that every law's frame asks for, each checked once. No condition. -/
import Derived.Test.YtnbpcaoblpidjabDoorRows
import Derived.KernelRfl
namespace Go.Proofs.YtnbpcaoblpidjabDoor
theorem seat_mayEnter : Tryd.pinned.checked.prog.mayEnter = true := by kernel_rfl
theorem seat_lifts : Tryd.pinned.checked.prog.liftsFinal = Rows.fnHeaderRow.lifted := by kernel_rfl
theorem seat_make : Tryd.pinned.checked.prog.make = some Rows.fnHeaderRow.make := by kernel_rfl
theorem seat_main : Tryd.pinned.checked.prog.mainIs = some (true, ( "e06717881532e26f13fb7c9ca7d5c14c75cbf0e3e8d9cb21b6ccd2e2b5baaa8a" : String).toList) := by kernel_rfl
end Go.Proofs.YtnbpcaoblpidjabDoor
