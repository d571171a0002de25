/-
  DERIVED. GIVEN WITH THE SEED: THE CARDS: each row of YtnbpcaoblpidjaaDoorRows.lean that lists a variable, with what it lists TIED to the program's text (the seventh form; the later family's looks); each row that meets fmt, with fmt's text TOLD by the authors' own Lean function (tested against real Go, not proved from fmt's source: count such statements apart). THE CARD IS WHAT COUNTS. Prove the row's statement (the work); the ties are given (YtnbpcaoblpidjaaDoorTie.lean); close each card by the builder's one call (the guide's Derived/Test/ToyasCard.lean, 'card_holds'). Laid BY PROGRAM, IN A SANDBOX (cutbox-door.mjs). By AI agents, Wed Nov 11 2026. No macro, syntax, notation, axiom, sorry.
-/
import Derived.Test.YtnbpcaoblpidjaaDoorRows
import GoSem.ClaimSeven
namespace Go.Proofs.YtnbpcaoblpidjaaDoor
namespace Rows

/-- THE TIED CARD OF 'laws.FnExactCookieOK'. -/
def fnExactCookieOKCard : Claim7 := { stood := { row := fnExactCookieOKRow, standIns := [], harness := (true, "6ffd881002246d93aaebdf9bc7a651c3be81c6204fbaf2497789e4faf10ce153"), looks := false }, kinds := [], alts := [], laidByText := true, laidKinds := [.data, .data, .pinned], laidTests := true, laidLooks := .later }
def FnExactCookieOKCardSaid : Prop := Claim7.holds Tryd.pinned (.plain (OpenSpec.ofChange fnExactCookieOKSpec)) fnExactCookieOKCard

/-- THE TIED CARD OF 'laws.FnExactSameKey'. -/
def fnExactSameKeyCard : Claim7 := { stood := { row := fnExactSameKeyRow, standIns := [], harness := (true, "6ffd881002246d93aaebdf9bc7a651c3be81c6204fbaf2497789e4faf10ce153"), looks := false }, kinds := [], alts := [], laidByText := true, laidKinds := [.data, .data, .pinned], laidTests := true, laidLooks := .later }
def FnExactSameKeyCardSaid : Prop := Claim7.holds Tryd.pinned (.plain (OpenSpec.ofChange fnExactSameKeySpec)) fnExactSameKeyCard

/-- THE TIED CARD OF 'laws.FnExactComesFirst'. -/
def fnExactComesFirstCard : Claim7 := { stood := { row := fnExactComesFirstRow, standIns := [], harness := (true, "6ffd881002246d93aaebdf9bc7a651c3be81c6204fbaf2497789e4faf10ce153"), looks := false }, kinds := [], alts := [], laidByText := true, laidKinds := [.data, .data, .pinned], laidTests := true, laidLooks := .later }
def FnExactComesFirstCardSaid : Prop := Claim7.holds Tryd.pinned (.plain (OpenSpec.ofChange fnExactComesFirstSpec)) fnExactComesFirstCard

/-- THE TIED CARD OF 'laws.FnExactGoesFirst'. -/
def fnExactGoesFirstCard : Claim7 := { stood := { row := fnExactGoesFirstRow, standIns := [], harness := (true, "6ffd881002246d93aaebdf9bc7a651c3be81c6204fbaf2497789e4faf10ce153"), looks := false }, kinds := [], alts := [], laidByText := true, laidKinds := [.data, .data, .pinned], laidTests := true, laidLooks := .later }
def FnExactGoesFirstCardSaid : Prop := Claim7.holds Tryd.pinned (.plain (OpenSpec.ofChange fnExactGoesFirstSpec)) fnExactGoesFirstCard

/-- THE TIED CARD OF 'laws.FnExactSortCookies'. -/
def fnExactSortCookiesCard : Claim7 := { stood := { row := fnExactSortCookiesRow, standIns := [], harness := (true, "6ffd881002246d93aaebdf9bc7a651c3be81c6204fbaf2497789e4faf10ce153"), looks := false }, kinds := [], alts := [], laidByText := true, laidKinds := [.data, .data, .pinned], laidTests := true, laidLooks := .later }
def FnExactSortCookiesCardSaid : Prop := Claim7.holds Tryd.pinned (.plain (OpenSpec.ofChange fnExactSortCookiesSpec)) fnExactSortCookiesCard

/-- THE TIED CARD OF 'laws.FnExactHeaderOf'. -/
def fnExactHeaderOfCard : Claim7 := { stood := { row := fnExactHeaderOfRow, standIns := [], harness := (true, "6ffd881002246d93aaebdf9bc7a651c3be81c6204fbaf2497789e4faf10ce153"), looks := false }, kinds := [], alts := [], laidByText := true, laidKinds := [.data, .data, .pinned], laidTests := true, laidLooks := .later }
def FnExactHeaderOfCardSaid : Prop := Claim7.holds Tryd.pinned (.plain (OpenSpec.ofChange fnExactHeaderOfSpec)) fnExactHeaderOfCard

/-- THE SECOND FORM's CARD OF 'laws.FnExactCookieOK'. -/
def fnExactCookieOKUptoCard : Claim7 := { stood := { row := fnExactCookieOKUptoRow, standIns := [], harness := (true, "6ffd881002246d93aaebdf9bc7a651c3be81c6204fbaf2497789e4faf10ce153"), looks := false }, kinds := [], alts := [], laidByText := true, laidKinds := [.data, .data, .pinned], laidTests := true, laidLooks := .later }
def FnExactCookieOKUptoCardSaid : Prop := Claim7.holds Tryd.pinned (.plain (OpenSpec.upto fnExactCookieOKSpec)) fnExactCookieOKUptoCard

/-- THE SECOND FORM's CARD OF 'laws.FnExactSameKey'. -/
def fnExactSameKeyUptoCard : Claim7 := { stood := { row := fnExactSameKeyUptoRow, standIns := [], harness := (true, "6ffd881002246d93aaebdf9bc7a651c3be81c6204fbaf2497789e4faf10ce153"), looks := false }, kinds := [], alts := [], laidByText := true, laidKinds := [.data, .data, .pinned], laidTests := true, laidLooks := .later }
def FnExactSameKeyUptoCardSaid : Prop := Claim7.holds Tryd.pinned (.plain (OpenSpec.upto fnExactSameKeySpec)) fnExactSameKeyUptoCard

/-- THE SECOND FORM's CARD OF 'laws.FnExactComesFirst'. -/
def fnExactComesFirstUptoCard : Claim7 := { stood := { row := fnExactComesFirstUptoRow, standIns := [], harness := (true, "6ffd881002246d93aaebdf9bc7a651c3be81c6204fbaf2497789e4faf10ce153"), looks := false }, kinds := [], alts := [], laidByText := true, laidKinds := [.data, .data, .pinned], laidTests := true, laidLooks := .later }
def FnExactComesFirstUptoCardSaid : Prop := Claim7.holds Tryd.pinned (.plain (OpenSpec.upto fnExactComesFirstSpec)) fnExactComesFirstUptoCard

/-- THE SECOND FORM's CARD OF 'laws.FnExactGoesFirst'. -/
def fnExactGoesFirstUptoCard : Claim7 := { stood := { row := fnExactGoesFirstUptoRow, standIns := [], harness := (true, "6ffd881002246d93aaebdf9bc7a651c3be81c6204fbaf2497789e4faf10ce153"), looks := false }, kinds := [], alts := [], laidByText := true, laidKinds := [.data, .data, .pinned], laidTests := true, laidLooks := .later }
def FnExactGoesFirstUptoCardSaid : Prop := Claim7.holds Tryd.pinned (.plain (OpenSpec.upto fnExactGoesFirstSpec)) fnExactGoesFirstUptoCard

/-- THE SECOND FORM's CARD OF 'laws.FnExactSortCookies'. -/
def fnExactSortCookiesUptoCard : Claim7 := { stood := { row := fnExactSortCookiesUptoRow, standIns := [], harness := (true, "6ffd881002246d93aaebdf9bc7a651c3be81c6204fbaf2497789e4faf10ce153"), looks := false }, kinds := [], alts := [], laidByText := true, laidKinds := [.data, .data, .pinned], laidTests := true, laidLooks := .later }
def FnExactSortCookiesUptoCardSaid : Prop := Claim7.holds Tryd.pinned (.plain (OpenSpec.upto fnExactSortCookiesSpec)) fnExactSortCookiesUptoCard

/-- THE SECOND FORM's CARD OF 'laws.FnExactHeaderOf'. -/
def fnExactHeaderOfUptoCard : Claim7 := { stood := { row := fnExactHeaderOfUptoRow, standIns := [], harness := (true, "6ffd881002246d93aaebdf9bc7a651c3be81c6204fbaf2497789e4faf10ce153"), looks := false }, kinds := [], alts := [], laidByText := true, laidKinds := [.data, .data, .pinned], laidTests := true, laidLooks := .later }
def FnExactHeaderOfUptoCardSaid : Prop := Claim7.holds Tryd.pinned (.plain (OpenSpec.upto fnExactHeaderOfSpec)) fnExactHeaderOfUptoCard
end Rows
end Go.Proofs.YtnbpcaoblpidjaaDoor
