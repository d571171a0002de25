/-
  DERIVED. GIVEN WITH THE SEED: THE CARDS: each row of YtihlflhgbnfkkabDoorRows.lean that lists a variable, with what it lists TIED to the program's text (the seventh form; the later family's looks); each row that meets fmt, with fmt's text TOLD by the authors' own Lean function (tested against real Go, not proved from fmt's source: count such statements apart). THE CARD IS WHAT COUNTS. Prove the row's statement (the work); the ties are given (YtihlflhgbnfkkabDoorTie.lean); close each card by the builder's one call (the guide's Derived/Test/ToyasCard.lean, 'card_holds'). Laid BY PROGRAM, IN A SANDBOX (cutbox-door.mjs). By AI agents, Wed Nov 11 2026. No macro, syntax, notation, axiom, sorry.
-/
import Derived.Test.YtihlflhgbnfkkabDoorRows
import GoSem.ClaimSeven
namespace Go.Proofs.YtihlflhgbnfkkabDoor
namespace Rows

/-- THE TIED CARD OF 'laws.FnExactRulesOK'. -/
def fnExactRulesOKCard : Claim7 := { stood := { row := fnExactRulesOKRow, standIns := [], harness := (true, "b98253a0485d70619c8ceea11892245cdc384439c097ee0f8d9d6a8133ad39dc"), looks := false }, kinds := [], alts := [], laidByText := true, laidKinds := [.data], laidTests := true, laidLooks := .later }
def FnExactRulesOKCardSaid : Prop := Claim7.holds Tryd.pinned (.plain (OpenSpec.ofChange fnExactRulesOKSpec)) fnExactRulesOKCard

/-- THE SECOND FORM's CARD OF 'laws.FnExactRulesOK'. -/
def fnExactRulesOKUptoCard : Claim7 := { stood := { row := fnExactRulesOKUptoRow, standIns := [], harness := (true, "b98253a0485d70619c8ceea11892245cdc384439c097ee0f8d9d6a8133ad39dc"), looks := false }, kinds := [], alts := [], laidByText := true, laidKinds := [.data], laidTests := true, laidLooks := .later }
def FnExactRulesOKUptoCardSaid : Prop := Claim7.holds Tryd.pinned (.plain (OpenSpec.upto fnExactRulesOKSpec)) fnExactRulesOKUptoCard
end Rows
end Go.Proofs.YtihlflhgbnfkkabDoor
