/- Facts of this seat's program that every law's frame asks for, each checked once. No condition. -/
import Derived.Test.YtihlflhgbnfkkaaGreatDoorRows
import Derived.KernelRfl
namespace Go.Proofs.YtihlflhgbnfkkaaGreatDoor
theorem seat_mayEnter : Tryz.pinned.checked.prog.mayEnter = true := by kernel_rfl
theorem seat_lifts : Tryz.pinned.checked.prog.liftsFinal = Rows.fnHeadersRow.lifted := by kernel_rfl
theorem seat_make : Tryz.pinned.checked.prog.make = some Rows.fnHeadersRow.make := by kernel_rfl
theorem seat_main : Tryz.pinned.checked.prog.mainIs = some (true, ( "382f97a64c31a846cbc089a7eade53d8386ac70f9102288fd268ffa167ff027f" : String).toList) := by kernel_rfl
end Go.Proofs.YtihlflhgbnfkkaaGreatDoor
