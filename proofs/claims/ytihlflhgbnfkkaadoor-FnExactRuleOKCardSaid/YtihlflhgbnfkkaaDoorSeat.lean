/- Facts of this seat's program that every law's frame asks for, each checked once. No condition. -/
import Derived.Test.YtihlflhgbnfkkaaDoorRows
import Derived.KernelRfl
namespace Go.Proofs.YtihlflhgbnfkkaaDoor
theorem seat_mayEnter : Tryd.pinned.checked.prog.mayEnter = true := by kernel_rfl
theorem seat_lifts : Tryd.pinned.checked.prog.liftsFinal = Rows.fnExactSetTextRow.lifted := by kernel_rfl
theorem seat_make : Tryd.pinned.checked.prog.make = some Rows.fnExactSetTextRow.make := by kernel_rfl
theorem seat_main : Tryd.pinned.checked.prog.mainIs = some (true, ( "898ca93f4ad00c4fa126f293f00a08526f5144fd3297d33d64832aa5c71f8a66" : String).toList) := by kernel_rfl
end Go.Proofs.YtihlflhgbnfkkaaDoor
