/- Facts of this seat's program that every law's frame asks for, each checked once. No condition. -/
import Derived.Test.YtmmmipkccnmmdaaRows
import Derived.KernelRfl
namespace Go.Proofs.Ytmmmipkccnmmdaa
theorem seat_mayEnter : Try.pinned.checked.prog.mayEnter = true := by kernel_rfl
theorem seat_lifts : Try.pinned.checked.prog.liftsFinal = Rows.fnPathsRow.lifted := by kernel_rfl
theorem seat_make : Try.pinned.checked.prog.make = some Rows.fnPathsRow.make := by kernel_rfl
end Go.Proofs.Ytmmmipkccnmmdaa
