/- Facts of this seat's program that every law's frame asks for, each checked once. No condition. -/
import Derived.Test.YtgokolgknendiaaDoorRows
import Derived.KernelRfl
namespace Go.Proofs.YtgokolgknendiaaDoor
theorem seat_mayEnter : Tryd.pinned.checked.prog.mayEnter = true := by kernel_rfl
theorem seat_lifts : Tryd.pinned.checked.prog.liftsFinal = Rows.fnExactReadDateRow.lifted := by kernel_rfl
theorem seat_make : Tryd.pinned.checked.prog.make = some Rows.fnExactReadDateRow.make := by kernel_rfl
theorem seat_main : Tryd.pinned.checked.prog.mainIs = some (true, ( "4666b15eefa3252dbae95e13562d77810aaafbc7fc9afbad5e07f7626066b0d4" : String).toList) := by kernel_rfl
end Go.Proofs.YtgokolgknendiaaDoor
