/-
  DERIVED. GIVEN WITH THE SEED: THE CARDS: each row of YtmmmipkccnmmdaaDoorRows.lean that lists a variable, with what it lists TIED to the program's text (the seventh form; the later family's looks); each row that meets fmt, with fmt's text TOLD by the authors' own Lean function (tested against real Go, not proved from fmt's source: count such statements apart). THE CARD IS WHAT COUNTS. Prove the row's statement (the work); the ties are given (YtmmmipkccnmmdaaDoorTie.lean); close each card by the builder's one call (the guide's Derived/Test/ToyasCard.lean, 'card_holds'). Laid BY PROGRAM, IN A SANDBOX (cutbox-door.mjs). By AI agents, Wed Nov 11 2026. No macro, syntax, notation, axiom, sorry.
-/
import Derived.Test.YtmmmipkccnmmdaaDoorRows
import GoSem.ClaimSeven
namespace Go.Proofs.YtmmmipkccnmmdaaDoor
namespace Rows

/-- THE TIED CARD OF 'laws.FnHosts'. -/
def fnHostsCard : Claim7 := { stood := { row := fnHostsRow, standIns := [], harness := (true, "32b1e95884037f6563e4700e087447444406fd0f375b84a60261ffe115bb37b8"), looks := true }, kinds := [], alts := [], laidByText := true, laidKinds := [.data, .data, .data, .data, .sentinel, .sentinel, .data, .pinned], laidTests := true, laidLooks := .later }
def FnHostsCardSaid : Prop := Claim7.holds Tryd.pinned (.plain (OpenSpec.ofChange fnHostsSpec)) fnHostsCard

/-- THE TIED CARD OF 'laws.FnExactCanonHost'. -/
def fnExactCanonHostCard : Claim7 := { stood := { row := fnExactCanonHostRow, standIns := [], harness := (true, "32b1e95884037f6563e4700e087447444406fd0f375b84a60261ffe115bb37b8"), looks := true }, kinds := [], alts := [], laidByText := true, laidKinds := [.data], laidTests := true, laidLooks := .later }
def FnExactCanonHostCardSaid : Prop := Claim7.holds Tryd.pinned (.plain (OpenSpec.ofChange fnExactCanonHostSpec)) fnExactCanonHostCard

/-- THE TIED CARD OF 'laws.FnExactHostOK'. -/
def fnExactHostOKCard : Claim7 := { stood := { row := fnExactHostOKRow, standIns := [], harness := (true, "32b1e95884037f6563e4700e087447444406fd0f375b84a60261ffe115bb37b8"), looks := true }, kinds := [], alts := [], laidByText := true, laidKinds := [.data], laidTests := true, laidLooks := .later }
def FnExactHostOKCardSaid : Prop := Claim7.holds Tryd.pinned (.plain (OpenSpec.ofChange fnExactHostOKSpec)) fnExactHostOKCard

/-- THE TIED CARD OF 'laws.FnExactIsAddress'. -/
def fnExactIsAddressCard : Claim7 := { stood := { row := fnExactIsAddressRow, standIns := [], harness := (true, "32b1e95884037f6563e4700e087447444406fd0f375b84a60261ffe115bb37b8"), looks := true }, kinds := [], alts := [], laidByText := true, laidKinds := [.data, .data, .data, .data, .sentinel, .sentinel, .data, .pinned], laidTests := true, laidLooks := .later }
def FnExactIsAddressCardSaid : Prop := Claim7.holds Tryd.pinned (.plain (OpenSpec.ofChange fnExactIsAddressSpec)) fnExactIsAddressCard

/-- THE TIED CARD OF 'laws.FnExactLabelsOf'. -/
def fnExactLabelsOfCard : Claim7 := { stood := { row := fnExactLabelsOfRow, standIns := [], harness := (true, "32b1e95884037f6563e4700e087447444406fd0f375b84a60261ffe115bb37b8"), looks := true }, kinds := [], alts := [], laidByText := true, laidKinds := [.data, .data, .pinned], laidTests := true, laidLooks := .later }
def FnExactLabelsOfCardSaid : Prop := Claim7.holds Tryd.pinned (.plain (OpenSpec.ofChange fnExactLabelsOfSpec)) fnExactLabelsOfCard

/-- THE TIED CARD OF 'laws.FnExactDomainMatch'. -/
def fnExactDomainMatchCard : Claim7 := { stood := { row := fnExactDomainMatchRow, standIns := [], harness := (true, "32b1e95884037f6563e4700e087447444406fd0f375b84a60261ffe115bb37b8"), looks := true }, kinds := [], alts := [], laidByText := true, laidKinds := [.data, .data, .data, .data, .sentinel, .sentinel, .data, .pinned], laidTests := true, laidLooks := .later }
def FnExactDomainMatchCardSaid : Prop := Claim7.holds Tryd.pinned (.plain (OpenSpec.ofChange fnExactDomainMatchSpec)) fnExactDomainMatchCard

/-- THE SECOND FORM's CARD OF 'laws.FnHosts'. -/
def fnHostsUptoCard : Claim7 := { stood := { row := fnHostsUptoRow, standIns := [], harness := (true, "32b1e95884037f6563e4700e087447444406fd0f375b84a60261ffe115bb37b8"), looks := true }, kinds := [], alts := [], laidByText := true, laidKinds := [.data, .data, .data, .data, .sentinel, .sentinel, .data, .pinned], laidTests := true, laidLooks := .later }
def FnHostsUptoCardSaid : Prop := Claim7.holds Tryd.pinned (.plain (OpenSpec.upto fnHostsSpec)) fnHostsUptoCard

/-- THE SECOND FORM's CARD OF 'laws.FnExactCanonHost'. -/
def fnExactCanonHostUptoCard : Claim7 := { stood := { row := fnExactCanonHostUptoRow, standIns := [], harness := (true, "32b1e95884037f6563e4700e087447444406fd0f375b84a60261ffe115bb37b8"), looks := true }, kinds := [], alts := [], laidByText := true, laidKinds := [.data], laidTests := true, laidLooks := .later }
def FnExactCanonHostUptoCardSaid : Prop := Claim7.holds Tryd.pinned (.plain (OpenSpec.upto fnExactCanonHostSpec)) fnExactCanonHostUptoCard

/-- THE SECOND FORM's CARD OF 'laws.FnExactHostOK'. -/
def fnExactHostOKUptoCard : Claim7 := { stood := { row := fnExactHostOKUptoRow, standIns := [], harness := (true, "32b1e95884037f6563e4700e087447444406fd0f375b84a60261ffe115bb37b8"), looks := true }, kinds := [], alts := [], laidByText := true, laidKinds := [.data], laidTests := true, laidLooks := .later }
def FnExactHostOKUptoCardSaid : Prop := Claim7.holds Tryd.pinned (.plain (OpenSpec.upto fnExactHostOKSpec)) fnExactHostOKUptoCard

/-- THE SECOND FORM's CARD OF 'laws.FnExactIsAddress'. -/
def fnExactIsAddressUptoCard : Claim7 := { stood := { row := fnExactIsAddressUptoRow, standIns := [], harness := (true, "32b1e95884037f6563e4700e087447444406fd0f375b84a60261ffe115bb37b8"), looks := true }, kinds := [], alts := [], laidByText := true, laidKinds := [.data, .data, .data, .data, .sentinel, .sentinel, .data, .pinned], laidTests := true, laidLooks := .later }
def FnExactIsAddressUptoCardSaid : Prop := Claim7.holds Tryd.pinned (.plain (OpenSpec.upto fnExactIsAddressSpec)) fnExactIsAddressUptoCard

/-- THE SECOND FORM's CARD OF 'laws.FnExactLabelsOf'. -/
def fnExactLabelsOfUptoCard : Claim7 := { stood := { row := fnExactLabelsOfUptoRow, standIns := [], harness := (true, "32b1e95884037f6563e4700e087447444406fd0f375b84a60261ffe115bb37b8"), looks := true }, kinds := [], alts := [], laidByText := true, laidKinds := [.data, .data, .pinned], laidTests := true, laidLooks := .later }
def FnExactLabelsOfUptoCardSaid : Prop := Claim7.holds Tryd.pinned (.plain (OpenSpec.upto fnExactLabelsOfSpec)) fnExactLabelsOfUptoCard

/-- THE SECOND FORM's CARD OF 'laws.FnExactDomainMatch'. -/
def fnExactDomainMatchUptoCard : Claim7 := { stood := { row := fnExactDomainMatchUptoRow, standIns := [], harness := (true, "32b1e95884037f6563e4700e087447444406fd0f375b84a60261ffe115bb37b8"), looks := true }, kinds := [], alts := [], laidByText := true, laidKinds := [.data, .data, .data, .data, .sentinel, .sentinel, .data, .pinned], laidTests := true, laidLooks := .later }
def FnExactDomainMatchUptoCardSaid : Prop := Claim7.holds Tryd.pinned (.plain (OpenSpec.upto fnExactDomainMatchSpec)) fnExactDomainMatchUptoCard
end Rows
end Go.Proofs.YtmmmipkccnmmdaaDoor
