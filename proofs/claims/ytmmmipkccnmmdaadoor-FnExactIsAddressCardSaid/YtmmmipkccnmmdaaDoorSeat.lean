/- Facts of this seat's program that every law's frame asks for, each checked once. No condition. -/
import Derived.Test.YtmmmipkccnmmdaaDoorRows
import Derived.KernelRfl
namespace Go.Proofs.YtmmmipkccnmmdaaDoor
theorem seat_mayEnter : Tryd.pinned.checked.prog.mayEnter = true := by kernel_rfl
theorem seat_lifts : Tryd.pinned.checked.prog.liftsFinal = Rows.fnHostsRow.lifted := by kernel_rfl
theorem seat_make : Tryd.pinned.checked.prog.make = some Rows.fnHostsRow.make := by kernel_rfl
theorem seat_main : Tryd.pinned.checked.prog.mainIs = some (true, ( "32b1e95884037f6563e4700e087447444406fd0f375b84a60261ffe115bb37b8" : String).toList) := by kernel_rfl
end Go.Proofs.YtmmmipkccnmmdaaDoor
