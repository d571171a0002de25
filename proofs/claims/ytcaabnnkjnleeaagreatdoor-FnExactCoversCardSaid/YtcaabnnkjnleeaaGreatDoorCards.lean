/-
  DERIVED. GIVEN WITH THE SEED: THE CARDS: each row of YtcaabnnkjnleeaaGreatDoorRows.lean that lists a variable, with what it lists TIED to the program's text (the seventh form; the later family's looks); each row that meets fmt, with fmt's text TOLD by the authors' own Lean function (tested against real Go, not proved from fmt's source: count such statements apart). THE CARD IS WHAT COUNTS. Prove the row's statement (the work); the ties are given (YtcaabnnkjnleeaaGreatDoorTie.lean); close each card by the builder's one call (the guide's Derived/Test/ToyasCard.lean, 'card_holds'). Laid BY PROGRAM, IN A SANDBOX (cutbox-door.mjs). By AI agents, Wed Nov 11 2026. No macro, syntax, notation, axiom, sorry.
-/
import Derived.Test.YtcaabnnkjnleeaaGreatDoorRows
import GoSem.ClaimSeven
namespace Go.Proofs.YtcaabnnkjnleeaaGreatDoor
namespace Rows

/-- THE TIED CARD OF 'laws.FnExactCovers'. -/
def fnExactCoversCard : Claim7 := { stood := { row := fnExactCoversRow, standIns := [], harness := (true, "6b5aaa9e5d29b9f11c349b554b9d0fdd4c40fe7f42edcc4fddf77c1eb4bac607"), looks := true }, kinds := [], alts := [], laidByText := true, laidKinds := [.data, .data, .data, .data, .sentinel, .sentinel, .data, .pinned], laidTests := true, laidLooks := .later }
def FnExactCoversCardSaid : Prop := Claim7.holds Tryz.pinned (.plain (OpenSpec.ofChange fnExactCoversSpec)) fnExactCoversCard

/-- THE TIED CARD OF 'laws.FnExactTrieAdd'. -/
def fnExactTrieAddCard : Claim7 := { stood := { row := fnExactTrieAddRow, standIns := [], harness := (true, "6b5aaa9e5d29b9f11c349b554b9d0fdd4c40fe7f42edcc4fddf77c1eb4bac607"), looks := true }, kinds := [], alts := [], laidByText := true, laidKinds := [.data, .data, .pinned], laidTests := true, laidLooks := .later }
def FnExactTrieAddCardSaid : Prop := Claim7.holds Tryz.pinned (.plain (OpenSpec.ofChange fnExactTrieAddSpec)) fnExactTrieAddCard

/-- THE TIED CARD OF 'laws.FnExactTrieRemove'. -/
def fnExactTrieRemoveCard : Claim7 := { stood := { row := fnExactTrieRemoveRow, standIns := [], harness := (true, "6b5aaa9e5d29b9f11c349b554b9d0fdd4c40fe7f42edcc4fddf77c1eb4bac607"), looks := true }, kinds := [], alts := [], laidByText := true, laidKinds := [.data, .data, .pinned], laidTests := true, laidLooks := .later }
def FnExactTrieRemoveCardSaid : Prop := Claim7.holds Tryz.pinned (.plain (OpenSpec.ofChange fnExactTrieRemoveSpec)) fnExactTrieRemoveCard

/-- THE TIED CARD OF 'laws.FnExactTrieAlong'. -/
def fnExactTrieAlongCard : Claim7 := { stood := { row := fnExactTrieAlongRow, standIns := [], harness := (true, "6b5aaa9e5d29b9f11c349b554b9d0fdd4c40fe7f42edcc4fddf77c1eb4bac607"), looks := true }, kinds := [], alts := [], laidByText := true, laidKinds := [.data, .data, .pinned], laidTests := true, laidLooks := .later }
def FnExactTrieAlongCardSaid : Prop := Claim7.holds Tryz.pinned (.plain (OpenSpec.ofChange fnExactTrieAlongSpec)) fnExactTrieAlongCard

/-- THE TIED CARD OF 'laws.FnExactJarOK'. -/
def fnExactJarOKCard : Claim7 := { stood := { row := fnExactJarOKRow, standIns := [], harness := (true, "6b5aaa9e5d29b9f11c349b554b9d0fdd4c40fe7f42edcc4fddf77c1eb4bac607"), looks := true }, kinds := [], alts := [], laidByText := true, laidKinds := [.data, .data, .data, .data, .sentinel, .sentinel, .data, .pinned], laidTests := true, laidLooks := .later }
def FnExactJarOKCardSaid : Prop := Claim7.holds Tryz.pinned (.plain (OpenSpec.ofChange fnExactJarOKSpec)) fnExactJarOKCard

/-- THE TIED CARD OF 'laws.FnExactSameJar'. -/
def fnExactSameJarCard : Claim7 := { stood := { row := fnExactSameJarRow, standIns := [], harness := (true, "6b5aaa9e5d29b9f11c349b554b9d0fdd4c40fe7f42edcc4fddf77c1eb4bac607"), looks := true }, kinds := [], alts := [], laidByText := true, laidKinds := [.data, .data, .data, .data, .sentinel, .sentinel, .data, .pinned], laidTests := true, laidLooks := .later }
def FnExactSameJarCardSaid : Prop := Claim7.holds Tryz.pinned (.plain (OpenSpec.ofChange fnExactSameJarSpec)) fnExactSameJarCard

/-- THE SECOND FORM's CARD OF 'laws.FnExactCovers'. -/
def fnExactCoversUptoCard : Claim7 := { stood := { row := fnExactCoversUptoRow, standIns := [], harness := (true, "6b5aaa9e5d29b9f11c349b554b9d0fdd4c40fe7f42edcc4fddf77c1eb4bac607"), looks := true }, kinds := [], alts := [], laidByText := true, laidKinds := [.data, .data, .data, .data, .sentinel, .sentinel, .data, .pinned], laidTests := true, laidLooks := .later }
def FnExactCoversUptoCardSaid : Prop := Claim7.holds Tryz.pinned (.plain (OpenSpec.upto fnExactCoversSpec)) fnExactCoversUptoCard

/-- THE SECOND FORM's CARD OF 'laws.FnExactTrieAdd'. -/
def fnExactTrieAddUptoCard : Claim7 := { stood := { row := fnExactTrieAddUptoRow, standIns := [], harness := (true, "6b5aaa9e5d29b9f11c349b554b9d0fdd4c40fe7f42edcc4fddf77c1eb4bac607"), looks := true }, kinds := [], alts := [], laidByText := true, laidKinds := [.data, .data, .pinned], laidTests := true, laidLooks := .later }
def FnExactTrieAddUptoCardSaid : Prop := Claim7.holds Tryz.pinned (.plain (OpenSpec.upto fnExactTrieAddSpec)) fnExactTrieAddUptoCard

/-- THE SECOND FORM's CARD OF 'laws.FnExactTrieRemove'. -/
def fnExactTrieRemoveUptoCard : Claim7 := { stood := { row := fnExactTrieRemoveUptoRow, standIns := [], harness := (true, "6b5aaa9e5d29b9f11c349b554b9d0fdd4c40fe7f42edcc4fddf77c1eb4bac607"), looks := true }, kinds := [], alts := [], laidByText := true, laidKinds := [.data, .data, .pinned], laidTests := true, laidLooks := .later }
def FnExactTrieRemoveUptoCardSaid : Prop := Claim7.holds Tryz.pinned (.plain (OpenSpec.upto fnExactTrieRemoveSpec)) fnExactTrieRemoveUptoCard

/-- THE SECOND FORM's CARD OF 'laws.FnExactTrieAlong'. -/
def fnExactTrieAlongUptoCard : Claim7 := { stood := { row := fnExactTrieAlongUptoRow, standIns := [], harness := (true, "6b5aaa9e5d29b9f11c349b554b9d0fdd4c40fe7f42edcc4fddf77c1eb4bac607"), looks := true }, kinds := [], alts := [], laidByText := true, laidKinds := [.data, .data, .pinned], laidTests := true, laidLooks := .later }
def FnExactTrieAlongUptoCardSaid : Prop := Claim7.holds Tryz.pinned (.plain (OpenSpec.upto fnExactTrieAlongSpec)) fnExactTrieAlongUptoCard

/-- THE SECOND FORM's CARD OF 'laws.FnExactJarOK'. -/
def fnExactJarOKUptoCard : Claim7 := { stood := { row := fnExactJarOKUptoRow, standIns := [], harness := (true, "6b5aaa9e5d29b9f11c349b554b9d0fdd4c40fe7f42edcc4fddf77c1eb4bac607"), looks := true }, kinds := [], alts := [], laidByText := true, laidKinds := [.data, .data, .data, .data, .sentinel, .sentinel, .data, .pinned], laidTests := true, laidLooks := .later }
def FnExactJarOKUptoCardSaid : Prop := Claim7.holds Tryz.pinned (.plain (OpenSpec.upto fnExactJarOKSpec)) fnExactJarOKUptoCard

/-- THE SECOND FORM's CARD OF 'laws.FnExactSameJar'. -/
def fnExactSameJarUptoCard : Claim7 := { stood := { row := fnExactSameJarUptoRow, standIns := [], harness := (true, "6b5aaa9e5d29b9f11c349b554b9d0fdd4c40fe7f42edcc4fddf77c1eb4bac607"), looks := true }, kinds := [], alts := [], laidByText := true, laidKinds := [.data, .data, .data, .data, .sentinel, .sentinel, .data, .pinned], laidTests := true, laidLooks := .later }
def FnExactSameJarUptoCardSaid : Prop := Claim7.holds Tryz.pinned (.plain (OpenSpec.upto fnExactSameJarSpec)) fnExactSameJarUptoCard
end Rows
end Go.Proofs.YtcaabnnkjnleeaaGreatDoor
