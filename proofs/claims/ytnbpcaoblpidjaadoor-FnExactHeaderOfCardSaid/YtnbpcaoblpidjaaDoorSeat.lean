/- Facts of this seat's program that every law's frame asks for, each checked once. No condition. -/
import Derived.Test.YtnbpcaoblpidjaaDoorRows
import Derived.KernelRfl
namespace Go.Proofs.YtnbpcaoblpidjaaDoor
theorem seat_mayEnter : Tryd.pinned.checked.prog.mayEnter = true := by kernel_rfl
theorem seat_lifts : Tryd.pinned.checked.prog.liftsFinal = Rows.fnExactCookieOKRow.lifted := by kernel_rfl
theorem seat_make : Tryd.pinned.checked.prog.make = some Rows.fnExactCookieOKRow.make := by kernel_rfl
theorem seat_main : Tryd.pinned.checked.prog.mainIs = some (true, ( "6ffd881002246d93aaebdf9bc7a651c3be81c6204fbaf2497789e4faf10ce153" : String).toList) := by kernel_rfl
end Go.Proofs.YtnbpcaoblpidjaaDoor
