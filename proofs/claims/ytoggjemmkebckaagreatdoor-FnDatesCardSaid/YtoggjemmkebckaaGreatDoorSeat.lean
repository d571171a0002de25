/- Facts of this seat's program that every law's frame asks for, each checked once. No condition. -/
import Derived.Test.YtoggjemmkebckaaGreatDoorRows
import Derived.KernelRfl
namespace Go.Proofs.YtoggjemmkebckaaGreatDoor
theorem seat_mayEnter : Tryz.pinned.checked.prog.mayEnter = true := by kernel_rfl
theorem seat_lifts : Tryz.pinned.checked.prog.liftsFinal = Rows.fnDatesRow.lifted := by kernel_rfl
theorem seat_make : Tryz.pinned.checked.prog.make = some Rows.fnDatesRow.make := by kernel_rfl
theorem seat_main : Tryz.pinned.checked.prog.mainIs = some (true, ( "5629e6a25149097d4cbcde8a77765552bd02b570f48c94006df3725d2a656baf" : String).toList) := by kernel_rfl
end Go.Proofs.YtoggjemmkebckaaGreatDoor
