/- Facts of this seat's program that every law's frame asks for, each checked once. No condition. -/
import Derived.Test.YtoggjemmkebckaaDoorRows
import Derived.KernelRfl
namespace Go.Proofs.YtoggjemmkebckaaDoor
theorem seat_mayEnter : Tryd.pinned.checked.prog.mayEnter = true := by kernel_rfl
theorem seat_lifts : Tryd.pinned.checked.prog.liftsFinal = Rows.fnExactSetTextRow.lifted := by kernel_rfl
theorem seat_make : Tryd.pinned.checked.prog.make = some Rows.fnExactSetTextRow.make := by kernel_rfl
theorem seat_main : Tryd.pinned.checked.prog.mainIs = some (true, ( "78a6400da5fb1696f58c18f23bd4708eda28404aaae73c848c4651c2c8c7be6b" : String).toList) := by kernel_rfl
end Go.Proofs.YtoggjemmkebckaaDoor
