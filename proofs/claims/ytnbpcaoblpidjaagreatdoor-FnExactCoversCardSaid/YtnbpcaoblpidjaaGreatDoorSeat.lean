/- Facts of this seat's program that every law's frame asks for, each checked once. No condition. -/
import Derived.Test.YtnbpcaoblpidjaaGreatDoorRows
import Derived.KernelRfl
namespace Go.Proofs.YtnbpcaoblpidjaaGreatDoor
theorem seat_mayEnter : Tryz.pinned.checked.prog.mayEnter = true := by kernel_rfl
theorem seat_lifts : Tryz.pinned.checked.prog.liftsFinal = Rows.fnExactCoversRow.lifted := by kernel_rfl
theorem seat_make : Tryz.pinned.checked.prog.make = some Rows.fnExactCoversRow.make := by kernel_rfl
theorem seat_main : Tryz.pinned.checked.prog.mainIs = some (true, ( "c318e99c7bb8a1d8ae44ff5dfb873e0ba337d55a61181ce0d6a1553960b3ce75" : String).toList) := by kernel_rfl
end Go.Proofs.YtnbpcaoblpidjaaGreatDoor
