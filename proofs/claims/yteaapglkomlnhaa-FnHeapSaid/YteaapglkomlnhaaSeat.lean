/- Facts of this seat's program that every law's frame asks for, each checked once. No condition. -/
import Derived.Test.YteaapglkomlnhaaRows
import Derived.KernelRfl
namespace Go.Proofs.Yteaapglkomlnhaa
theorem seat_mayEnter : Try.pinned.checked.prog.mayEnter = true := by kernel_rfl
theorem seat_lifts : Try.pinned.checked.prog.liftsFinal = Rows.fnExactHeapOKRow.lifted := by kernel_rfl
theorem seat_make : Try.pinned.checked.prog.make = some Rows.fnExactHeapOKRow.make := by kernel_rfl
end Go.Proofs.Yteaapglkomlnhaa
