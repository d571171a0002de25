/- Facts of this seat's program that every law's frame asks for, each checked once. No condition. -/
import Derived.Test.YtgokolgknendiaaRows
import Derived.KernelRfl
namespace Go.Proofs.Ytgokolgknendiaa
theorem seat_mayEnter : Try.pinned.checked.prog.mayEnter = true := by kernel_rfl
theorem seat_lifts : Try.pinned.checked.prog.liftsFinal = Rows.fnExactDateTokensRow.lifted := by kernel_rfl
theorem seat_make : Try.pinned.checked.prog.make = some Rows.fnExactDateTokensRow.make := by kernel_rfl
end Go.Proofs.Ytgokolgknendiaa
