/-
  DERIVED. GIVEN WITH THE SEED: THE CARDS: each row of YtihlflhgbnfkkabGreatDoorRows.lean that lists a variable, with what it lists TIED to the program's text (the seventh form; the later family's looks); each row that meets fmt, with fmt's text TOLD by the authors' own Lean function (tested against real Go, not proved from fmt's source: count such statements apart). THE CARD IS WHAT COUNTS. Prove the row's statement (the work); the ties are given (YtihlflhgbnfkkabGreatDoorTie.lean); close each card by the builder's one call (the guide's Derived/Test/ToyasCard.lean, 'card_holds'). Laid BY PROGRAM, IN A SANDBOX (cutbox-door.mjs). By AI agents, Wed Nov 11 2026. No macro, syntax, notation, axiom, sorry.
-/
import Derived.Test.YtihlflhgbnfkkabGreatDoorRows
import GoSem.ClaimSeven
namespace Go.Proofs.YtihlflhgbnfkkabGreatDoor
namespace Rows

/-- THE TIED CARD OF 'laws.FnExactSuffixOf'. -/
def fnExactSuffixOfCard : Claim7 := { stood := { row := fnExactSuffixOfRow, standIns := [], harness := (true, "a71320e9069b961c0f074843d99daf19a6d39c7cd88042902b2d0f87633eb577"), looks := true }, kinds := [], alts := [], laidByText := true, laidKinds := [.data, .data, .data, .data, .sentinel, .sentinel, .data, .pinned], laidTests := true, laidLooks := .later }
def FnExactSuffixOfCardSaid : Prop := Claim7.holds Tryz.pinned (.plain (OpenSpec.ofChange fnExactSuffixOfSpec)) fnExactSuffixOfCard

/-- THE TIED CARD OF 'laws.FnExactIsSuffix'. -/
def fnExactIsSuffixCard : Claim7 := { stood := { row := fnExactIsSuffixRow, standIns := [], harness := (true, "a71320e9069b961c0f074843d99daf19a6d39c7cd88042902b2d0f87633eb577"), looks := true }, kinds := [], alts := [], laidByText := true, laidKinds := [.data, .data, .data, .data, .sentinel, .sentinel, .data, .pinned], laidTests := true, laidLooks := .later }
def FnExactIsSuffixCardSaid : Prop := Claim7.holds Tryz.pinned (.plain (OpenSpec.ofChange fnExactIsSuffixSpec)) fnExactIsSuffixCard

/-- THE TIED CARD OF 'laws.FnExactRegistrable'. -/
def fnExactRegistrableCard : Claim7 := { stood := { row := fnExactRegistrableRow, standIns := [], harness := (true, "a71320e9069b961c0f074843d99daf19a6d39c7cd88042902b2d0f87633eb577"), looks := true }, kinds := [], alts := [], laidByText := true, laidKinds := [.data, .data, .data, .data, .sentinel, .sentinel, .data, .pinned], laidTests := true, laidLooks := .later }
def FnExactRegistrableCardSaid : Prop := Claim7.holds Tryz.pinned (.plain (OpenSpec.ofChange fnExactRegistrableSpec)) fnExactRegistrableCard

/-- THE TIED CARD OF 'laws.FnExactSameParty'. -/
def fnExactSamePartyCard : Claim7 := { stood := { row := fnExactSamePartyRow, standIns := [], harness := (true, "a71320e9069b961c0f074843d99daf19a6d39c7cd88042902b2d0f87633eb577"), looks := true }, kinds := [], alts := [], laidByText := true, laidKinds := [.data, .data, .data, .data, .sentinel, .sentinel, .data, .pinned], laidTests := true, laidLooks := .later }
def FnExactSamePartyCardSaid : Prop := Claim7.holds Tryz.pinned (.plain (OpenSpec.ofChange fnExactSamePartySpec)) fnExactSamePartyCard

/-- THE SECOND FORM's CARD OF 'laws.FnExactSuffixOf'. -/
def fnExactSuffixOfUptoCard : Claim7 := { stood := { row := fnExactSuffixOfUptoRow, standIns := [], harness := (true, "a71320e9069b961c0f074843d99daf19a6d39c7cd88042902b2d0f87633eb577"), looks := true }, kinds := [], alts := [], laidByText := true, laidKinds := [.data, .data, .data, .data, .sentinel, .sentinel, .data, .pinned], laidTests := true, laidLooks := .later }
def FnExactSuffixOfUptoCardSaid : Prop := Claim7.holds Tryz.pinned (.plain (OpenSpec.upto fnExactSuffixOfSpec)) fnExactSuffixOfUptoCard

/-- THE SECOND FORM's CARD OF 'laws.FnExactIsSuffix'. -/
def fnExactIsSuffixUptoCard : Claim7 := { stood := { row := fnExactIsSuffixUptoRow, standIns := [], harness := (true, "a71320e9069b961c0f074843d99daf19a6d39c7cd88042902b2d0f87633eb577"), looks := true }, kinds := [], alts := [], laidByText := true, laidKinds := [.data, .data, .data, .data, .sentinel, .sentinel, .data, .pinned], laidTests := true, laidLooks := .later }
def FnExactIsSuffixUptoCardSaid : Prop := Claim7.holds Tryz.pinned (.plain (OpenSpec.upto fnExactIsSuffixSpec)) fnExactIsSuffixUptoCard

/-- THE SECOND FORM's CARD OF 'laws.FnExactRegistrable'. -/
def fnExactRegistrableUptoCard : Claim7 := { stood := { row := fnExactRegistrableUptoRow, standIns := [], harness := (true, "a71320e9069b961c0f074843d99daf19a6d39c7cd88042902b2d0f87633eb577"), looks := true }, kinds := [], alts := [], laidByText := true, laidKinds := [.data, .data, .data, .data, .sentinel, .sentinel, .data, .pinned], laidTests := true, laidLooks := .later }
def FnExactRegistrableUptoCardSaid : Prop := Claim7.holds Tryz.pinned (.plain (OpenSpec.upto fnExactRegistrableSpec)) fnExactRegistrableUptoCard

/-- THE SECOND FORM's CARD OF 'laws.FnExactSameParty'. -/
def fnExactSamePartyUptoCard : Claim7 := { stood := { row := fnExactSamePartyUptoRow, standIns := [], harness := (true, "a71320e9069b961c0f074843d99daf19a6d39c7cd88042902b2d0f87633eb577"), looks := true }, kinds := [], alts := [], laidByText := true, laidKinds := [.data, .data, .data, .data, .sentinel, .sentinel, .data, .pinned], laidTests := true, laidLooks := .later }
def FnExactSamePartyUptoCardSaid : Prop := Claim7.holds Tryz.pinned (.plain (OpenSpec.upto fnExactSamePartySpec)) fnExactSamePartyUptoCard
end Rows
end Go.Proofs.YtihlflhgbnfkkabGreatDoor
