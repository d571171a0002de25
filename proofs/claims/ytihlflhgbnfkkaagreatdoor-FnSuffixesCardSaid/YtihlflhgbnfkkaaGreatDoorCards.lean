/-
  DERIVED. GIVEN WITH THE SEED: THE CARDS: each row of YtihlflhgbnfkkaaGreatDoorRows.lean that lists a variable, with what it lists TIED to the program's text (the seventh form; the later family's looks); each row that meets fmt, with fmt's text TOLD by the authors' own Lean function (tested against real Go, not proved from fmt's source: count such statements apart). THE CARD IS WHAT COUNTS. Prove the row's statement (the work); the ties are given (YtihlflhgbnfkkaaGreatDoorTie.lean); close each card by the builder's one call (the guide's Derived/Test/ToyasCard.lean, 'card_holds'). Laid BY PROGRAM, IN A SANDBOX (cutbox-door.mjs). By AI agents, Wed Nov 11 2026. No macro, syntax, notation, axiom, sorry.
-/
import Derived.Test.YtihlflhgbnfkkaaGreatDoorRows
import GoSem.ClaimSeven
namespace Go.Proofs.YtihlflhgbnfkkaaGreatDoor
namespace Rows

/-- THE TIED CARD OF 'laws.FnHeaders'. -/
def fnHeadersCard : Claim7 := { stood := { row := fnHeadersRow, standIns := [], harness := (true, "382f97a64c31a846cbc089a7eade53d8386ac70f9102288fd268ffa167ff027f"), looks := true }, kinds := [], alts := [], laidByText := true, laidKinds := [.data, .data, .data, .data, .data, .data, .data, .data, .pinned], laidTests := true, laidLooks := .later }
def FnHeadersCardSaid : Prop := Claim7.holds Tryz.pinned (.plain (OpenSpec.ofChange fnHeadersSpec)) fnHeadersCard

/-- THE TIED CARD OF 'laws.FnSuffixes'. -/
def fnSuffixesCard : Claim7 := { stood := { row := fnSuffixesRow, standIns := [], harness := (true, "382f97a64c31a846cbc089a7eade53d8386ac70f9102288fd268ffa167ff027f"), looks := true }, kinds := [], alts := [], laidByText := true, laidKinds := [.data, .data, .data, .data, .sentinel, .sentinel, .data, .pinned], laidTests := true, laidLooks := .later }
def FnSuffixesCardSaid : Prop := Claim7.holds Tryz.pinned (.plain (OpenSpec.ofChange fnSuffixesSpec)) fnSuffixesCard

/-- THE TIED CARD OF 'laws.FnExactParseSet'. -/
def fnExactParseSetCard : Claim7 := { stood := { row := fnExactParseSetRow, standIns := [], harness := (true, "382f97a64c31a846cbc089a7eade53d8386ac70f9102288fd268ffa167ff027f"), looks := true }, kinds := [], alts := [], laidByText := true, laidKinds := [.data, .data, .data, .data, .pinned], laidTests := true, laidLooks := .later }
def FnExactParseSetCardSaid : Prop := Claim7.holds Tryz.pinned (.plain (OpenSpec.ofChange fnExactParseSetSpec)) fnExactParseSetCard

/-- THE SECOND FORM's CARD OF 'laws.FnHeaders'. -/
def fnHeadersUptoCard : Claim7 := { stood := { row := fnHeadersUptoRow, standIns := [], harness := (true, "382f97a64c31a846cbc089a7eade53d8386ac70f9102288fd268ffa167ff027f"), looks := true }, kinds := [], alts := [], laidByText := true, laidKinds := [.data, .data, .data, .data, .data, .data, .data, .data, .pinned], laidTests := true, laidLooks := .later }
def FnHeadersUptoCardSaid : Prop := Claim7.holds Tryz.pinned (.plain (OpenSpec.upto fnHeadersSpec)) fnHeadersUptoCard

/-- THE SECOND FORM's CARD OF 'laws.FnSuffixes'. -/
def fnSuffixesUptoCard : Claim7 := { stood := { row := fnSuffixesUptoRow, standIns := [], harness := (true, "382f97a64c31a846cbc089a7eade53d8386ac70f9102288fd268ffa167ff027f"), looks := true }, kinds := [], alts := [], laidByText := true, laidKinds := [.data, .data, .data, .data, .sentinel, .sentinel, .data, .pinned], laidTests := true, laidLooks := .later }
def FnSuffixesUptoCardSaid : Prop := Claim7.holds Tryz.pinned (.plain (OpenSpec.upto fnSuffixesSpec)) fnSuffixesUptoCard

/-- THE SECOND FORM's CARD OF 'laws.FnExactParseSet'. -/
def fnExactParseSetUptoCard : Claim7 := { stood := { row := fnExactParseSetUptoRow, standIns := [], harness := (true, "382f97a64c31a846cbc089a7eade53d8386ac70f9102288fd268ffa167ff027f"), looks := true }, kinds := [], alts := [], laidByText := true, laidKinds := [.data, .data, .data, .data, .pinned], laidTests := true, laidLooks := .later }
def FnExactParseSetUptoCardSaid : Prop := Claim7.holds Tryz.pinned (.plain (OpenSpec.upto fnExactParseSetSpec)) fnExactParseSetUptoCard
end Rows
end Go.Proofs.YtihlflhgbnfkkaaGreatDoor
