/-
  DERIVED. GIVEN WITH THE SEED: THE CARDS: each row of YtihlflhgbnfkkaaDoorRows.lean that lists a variable, with what it lists TIED to the program's text (the seventh form; the later family's looks); each row that meets fmt, with fmt's text TOLD by the authors' own Lean function (tested against real Go, not proved from fmt's source: count such statements apart). THE CARD IS WHAT COUNTS. Prove the row's statement (the work); the ties are given (YtihlflhgbnfkkaaDoorTie.lean); close each card by the builder's one call (the guide's Derived/Test/ToyasCard.lean, 'card_holds'). Laid BY PROGRAM, IN A SANDBOX (cutbox-door.mjs). By AI agents, Wed Nov 11 2026. No macro, syntax, notation, axiom, sorry.
-/
import Derived.Test.YtihlflhgbnfkkaaDoorRows
import GoSem.ClaimSeven
namespace Go.Proofs.YtihlflhgbnfkkaaDoor
namespace Rows

/-- THE TIED CARD OF 'laws.FnExactSetText'. -/
def fnExactSetTextCard : Claim7 := { stood := { row := fnExactSetTextRow, standIns := [], harness := (true, "898ca93f4ad00c4fa126f293f00a08526f5144fd3297d33d64832aa5c71f8a66"), looks := false }, kinds := [], alts := [], laidByText := true, laidKinds := [.data, .data, .data, .data, .data, .data, .data, .data, .pinned], laidTests := true, laidLooks := .later }
def FnExactSetTextCardSaid : Prop := Claim7.holds Tryd.pinned (.plain (OpenSpec.ofChange fnExactSetTextSpec)) fnExactSetTextCard

/-- THE TIED CARD OF 'laws.FnExactParsedOK'. -/
def fnExactParsedOKCard : Claim7 := { stood := { row := fnExactParsedOKRow, standIns := [], harness := (true, "898ca93f4ad00c4fa126f293f00a08526f5144fd3297d33d64832aa5c71f8a66"), looks := false }, kinds := [], alts := [], laidByText := true, laidKinds := [.data, .data, .pinned], laidTests := true, laidLooks := .later }
def FnExactParsedOKCardSaid : Prop := Claim7.holds Tryd.pinned (.plain (OpenSpec.ofChange fnExactParsedOKSpec)) fnExactParsedOKCard

/-- THE TIED CARD OF 'laws.FnExactRuleOK'. -/
def fnExactRuleOKCard : Claim7 := { stood := { row := fnExactRuleOKRow, standIns := [], harness := (true, "898ca93f4ad00c4fa126f293f00a08526f5144fd3297d33d64832aa5c71f8a66"), looks := false }, kinds := [], alts := [], laidByText := true, laidKinds := [.data], laidTests := true, laidLooks := .later }
def FnExactRuleOKCardSaid : Prop := Claim7.holds Tryd.pinned (.plain (OpenSpec.ofChange fnExactRuleOKSpec)) fnExactRuleOKCard

/-- THE SECOND FORM's CARD OF 'laws.FnExactSetText'. -/
def fnExactSetTextUptoCard : Claim7 := { stood := { row := fnExactSetTextUptoRow, standIns := [], harness := (true, "898ca93f4ad00c4fa126f293f00a08526f5144fd3297d33d64832aa5c71f8a66"), looks := false }, kinds := [], alts := [], laidByText := true, laidKinds := [.data, .data, .data, .data, .data, .data, .data, .data, .pinned], laidTests := true, laidLooks := .later }
def FnExactSetTextUptoCardSaid : Prop := Claim7.holds Tryd.pinned (.plain (OpenSpec.upto fnExactSetTextSpec)) fnExactSetTextUptoCard

/-- THE SECOND FORM's CARD OF 'laws.FnExactParsedOK'. -/
def fnExactParsedOKUptoCard : Claim7 := { stood := { row := fnExactParsedOKUptoRow, standIns := [], harness := (true, "898ca93f4ad00c4fa126f293f00a08526f5144fd3297d33d64832aa5c71f8a66"), looks := false }, kinds := [], alts := [], laidByText := true, laidKinds := [.data, .data, .pinned], laidTests := true, laidLooks := .later }
def FnExactParsedOKUptoCardSaid : Prop := Claim7.holds Tryd.pinned (.plain (OpenSpec.upto fnExactParsedOKSpec)) fnExactParsedOKUptoCard

/-- THE SECOND FORM's CARD OF 'laws.FnExactRuleOK'. -/
def fnExactRuleOKUptoCard : Claim7 := { stood := { row := fnExactRuleOKUptoRow, standIns := [], harness := (true, "898ca93f4ad00c4fa126f293f00a08526f5144fd3297d33d64832aa5c71f8a66"), looks := false }, kinds := [], alts := [], laidByText := true, laidKinds := [.data], laidTests := true, laidLooks := .later }
def FnExactRuleOKUptoCardSaid : Prop := Claim7.holds Tryd.pinned (.plain (OpenSpec.upto fnExactRuleOKSpec)) fnExactRuleOKUptoCard
end Rows
end Go.Proofs.YtihlflhgbnfkkaaDoor
