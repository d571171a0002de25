/- Facts of this seat's program that every law's frame asks for, each checked once. No condition. -/
import Derived.Test.YtpdonghdnaehhaaGreatDoorRows
import Derived.KernelRfl
namespace Go.Proofs.YtpdonghdnaehhaaGreatDoor
theorem seat_mayEnter : Tryz.pinned.checked.prog.mayEnter = true := by kernel_rfl
theorem seat_lifts : Tryz.pinned.checked.prog.liftsFinal = Rows.fnHeadersRow.lifted := by kernel_rfl
theorem seat_make : Tryz.pinned.checked.prog.make = some Rows.fnHeadersRow.make := by kernel_rfl
theorem seat_main : Tryz.pinned.checked.prog.mainIs = some (true, ( "ce4962e5f2b87d8b1ae2e4800f80a6f84fff95a14f3798030c5b8c4c18f24919" : String).toList) := by kernel_rfl
end Go.Proofs.YtpdonghdnaehhaaGreatDoor
