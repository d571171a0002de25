/- Facts of this seat's program that every law's frame asks for, each checked once. No condition. -/
import Derived.Test.YtcaabnnkjnleeaaDoorRows
import Derived.KernelRfl
namespace Go.Proofs.YtcaabnnkjnleeaaDoor
theorem seat_mayEnter : Tryd.pinned.checked.prog.mayEnter = true := by kernel_rfl
theorem seat_lifts : Tryd.pinned.checked.prog.liftsFinal = Rows.fnExactTrieOKRow.lifted := by kernel_rfl
theorem seat_make : Tryd.pinned.checked.prog.make = some Rows.fnExactTrieOKRow.make := by kernel_rfl
theorem seat_main : Tryd.pinned.checked.prog.mainIs = some (true, ( "767d8902c3d1900d4111b214088460b3e83f794777d00eab282bf6655832f6e3" : String).toList) := by kernel_rfl
end Go.Proofs.YtcaabnnkjnleeaaDoor
