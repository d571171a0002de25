/- Facts of this seat's program that every law's frame asks for, each checked once. No condition. -/
import Derived.Test.YtihlflhgbnfkkabDoorRows
import Derived.KernelRfl
namespace Go.Proofs.YtihlflhgbnfkkabDoor
theorem seat_mayEnter : Tryd.pinned.checked.prog.mayEnter = true := by kernel_rfl
theorem seat_lifts : Tryd.pinned.checked.prog.liftsFinal = Rows.fnExactRulesOKRow.lifted := by kernel_rfl
theorem seat_make : Tryd.pinned.checked.prog.make = some Rows.fnExactRulesOKRow.make := by kernel_rfl
theorem seat_main : Tryd.pinned.checked.prog.mainIs = some (true, ( "b98253a0485d70619c8ceea11892245cdc384439c097ee0f8d9d6a8133ad39dc" : String).toList) := by kernel_rfl
end Go.Proofs.YtihlflhgbnfkkabDoor
