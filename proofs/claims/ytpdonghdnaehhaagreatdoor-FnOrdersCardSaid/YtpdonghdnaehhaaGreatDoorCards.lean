/-
  DERIVED. GIVEN WITH THE SEED: THE CARDS: each row of YtpdonghdnaehhaaGreatDoorRows.lean that lists a variable, with what it lists TIED to the program's text (the seventh form; the later family's looks); each row that meets fmt, with fmt's text TOLD by the authors' own Lean function (tested against real Go, not proved from fmt's source: count such statements apart). THE CARD IS WHAT COUNTS. Prove the row's statement (the work); the ties are given (YtpdonghdnaehhaaGreatDoorTie.lean); close each card by the builder's one call (the guide's Derived/Test/ToyasCard.lean, 'card_holds'). Laid BY PROGRAM, IN A SANDBOX (cutbox-door.mjs). By AI agents, Wed Nov 11 2026. No macro, syntax, notation, axiom, sorry.
-/
import Derived.Test.YtpdonghdnaehhaaGreatDoorRows
import GoSem.ClaimSeven
namespace Go.Proofs.YtpdonghdnaehhaaGreatDoor
namespace Rows

/-- THE TIED CARD OF 'laws.FnHeaders'. -/
def fnHeadersCard : Claim7 := { stood := { row := fnHeadersRow, standIns := [], harness := (true, "ce4962e5f2b87d8b1ae2e4800f80a6f84fff95a14f3798030c5b8c4c18f24919"), looks := true }, kinds := [], alts := [], laidByText := true, laidKinds := [.data, .data, .data, .data, .data, .data, .data, .data, .pinned], laidTests := true, laidLooks := .later }
def FnHeadersCardSaid : Prop := Claim7.holds Tryz.pinned (.plain (OpenSpec.ofChange fnHeadersSpec)) fnHeadersCard

/-- THE TIED CARD OF 'laws.FnOrders'. -/
def fnOrdersCard : Claim7 := { stood := { row := fnOrdersRow, standIns := [], harness := (true, "ce4962e5f2b87d8b1ae2e4800f80a6f84fff95a14f3798030c5b8c4c18f24919"), looks := true }, kinds := [], alts := [], laidByText := true, laidKinds := [.data, .data, .data, .data, .sentinel, .sentinel, .data, .pinned], laidTests := true, laidLooks := .later }
def FnOrdersCardSaid : Prop := Claim7.holds Tryz.pinned (.plain (OpenSpec.ofChange fnOrdersSpec)) fnOrdersCard

/-- THE TIED CARD OF 'laws.FnTrie'. -/
def fnTrieCard : Claim7 := { stood := { row := fnTrieRow, standIns := [], harness := (true, "ce4962e5f2b87d8b1ae2e4800f80a6f84fff95a14f3798030c5b8c4c18f24919"), looks := true }, kinds := [], alts := [], laidByText := true, laidKinds := [.data, .data, .pinned], laidTests := true, laidLooks := .later }
def FnTrieCardSaid : Prop := Claim7.holds Tryz.pinned (.plain (OpenSpec.ofChange fnTrieSpec)) fnTrieCard

/-- THE TIED CARD OF 'laws.FnExactTrieAdd'. -/
def fnExactTrieAddCard : Claim7 := { stood := { row := fnExactTrieAddRow, standIns := [], harness := (true, "ce4962e5f2b87d8b1ae2e4800f80a6f84fff95a14f3798030c5b8c4c18f24919"), looks := true }, kinds := [], alts := [], laidByText := true, laidKinds := [.data, .data, .pinned], laidTests := true, laidLooks := .later }
def FnExactTrieAddCardSaid : Prop := Claim7.holds Tryz.pinned (.plain (OpenSpec.ofChange fnExactTrieAddSpec)) fnExactTrieAddCard

/-- THE TIED CARD OF 'laws.FnExactTrieRemove'. -/
def fnExactTrieRemoveCard : Claim7 := { stood := { row := fnExactTrieRemoveRow, standIns := [], harness := (true, "ce4962e5f2b87d8b1ae2e4800f80a6f84fff95a14f3798030c5b8c4c18f24919"), looks := true }, kinds := [], alts := [], laidByText := true, laidKinds := [.data, .data, .pinned], laidTests := true, laidLooks := .later }
def FnExactTrieRemoveCardSaid : Prop := Claim7.holds Tryz.pinned (.plain (OpenSpec.ofChange fnExactTrieRemoveSpec)) fnExactTrieRemoveCard

/-- THE TIED CARD OF 'laws.FnExactTrieAlong'. -/
def fnExactTrieAlongCard : Claim7 := { stood := { row := fnExactTrieAlongRow, standIns := [], harness := (true, "ce4962e5f2b87d8b1ae2e4800f80a6f84fff95a14f3798030c5b8c4c18f24919"), looks := true }, kinds := [], alts := [], laidByText := true, laidKinds := [.data, .data, .pinned], laidTests := true, laidLooks := .later }
def FnExactTrieAlongCardSaid : Prop := Claim7.holds Tryz.pinned (.plain (OpenSpec.ofChange fnExactTrieAlongSpec)) fnExactTrieAlongCard

/-- THE SECOND FORM's CARD OF 'laws.FnHeaders'. -/
def fnHeadersUptoCard : Claim7 := { stood := { row := fnHeadersUptoRow, standIns := [], harness := (true, "ce4962e5f2b87d8b1ae2e4800f80a6f84fff95a14f3798030c5b8c4c18f24919"), looks := true }, kinds := [], alts := [], laidByText := true, laidKinds := [.data, .data, .data, .data, .data, .data, .data, .data, .pinned], laidTests := true, laidLooks := .later }
def FnHeadersUptoCardSaid : Prop := Claim7.holds Tryz.pinned (.plain (OpenSpec.upto fnHeadersSpec)) fnHeadersUptoCard

/-- THE SECOND FORM's CARD OF 'laws.FnOrders'. -/
def fnOrdersUptoCard : Claim7 := { stood := { row := fnOrdersUptoRow, standIns := [], harness := (true, "ce4962e5f2b87d8b1ae2e4800f80a6f84fff95a14f3798030c5b8c4c18f24919"), looks := true }, kinds := [], alts := [], laidByText := true, laidKinds := [.data, .data, .data, .data, .sentinel, .sentinel, .data, .pinned], laidTests := true, laidLooks := .later }
def FnOrdersUptoCardSaid : Prop := Claim7.holds Tryz.pinned (.plain (OpenSpec.upto fnOrdersSpec)) fnOrdersUptoCard

/-- THE SECOND FORM's CARD OF 'laws.FnTrie'. -/
def fnTrieUptoCard : Claim7 := { stood := { row := fnTrieUptoRow, standIns := [], harness := (true, "ce4962e5f2b87d8b1ae2e4800f80a6f84fff95a14f3798030c5b8c4c18f24919"), looks := true }, kinds := [], alts := [], laidByText := true, laidKinds := [.data, .data, .pinned], laidTests := true, laidLooks := .later }
def FnTrieUptoCardSaid : Prop := Claim7.holds Tryz.pinned (.plain (OpenSpec.upto fnTrieSpec)) fnTrieUptoCard

/-- THE SECOND FORM's CARD OF 'laws.FnExactTrieAdd'. -/
def fnExactTrieAddUptoCard : Claim7 := { stood := { row := fnExactTrieAddUptoRow, standIns := [], harness := (true, "ce4962e5f2b87d8b1ae2e4800f80a6f84fff95a14f3798030c5b8c4c18f24919"), looks := true }, kinds := [], alts := [], laidByText := true, laidKinds := [.data, .data, .pinned], laidTests := true, laidLooks := .later }
def FnExactTrieAddUptoCardSaid : Prop := Claim7.holds Tryz.pinned (.plain (OpenSpec.upto fnExactTrieAddSpec)) fnExactTrieAddUptoCard

/-- THE SECOND FORM's CARD OF 'laws.FnExactTrieRemove'. -/
def fnExactTrieRemoveUptoCard : Claim7 := { stood := { row := fnExactTrieRemoveUptoRow, standIns := [], harness := (true, "ce4962e5f2b87d8b1ae2e4800f80a6f84fff95a14f3798030c5b8c4c18f24919"), looks := true }, kinds := [], alts := [], laidByText := true, laidKinds := [.data, .data, .pinned], laidTests := true, laidLooks := .later }
def FnExactTrieRemoveUptoCardSaid : Prop := Claim7.holds Tryz.pinned (.plain (OpenSpec.upto fnExactTrieRemoveSpec)) fnExactTrieRemoveUptoCard

/-- THE SECOND FORM's CARD OF 'laws.FnExactTrieAlong'. -/
def fnExactTrieAlongUptoCard : Claim7 := { stood := { row := fnExactTrieAlongUptoRow, standIns := [], harness := (true, "ce4962e5f2b87d8b1ae2e4800f80a6f84fff95a14f3798030c5b8c4c18f24919"), looks := true }, kinds := [], alts := [], laidByText := true, laidKinds := [.data, .data, .pinned], laidTests := true, laidLooks := .later }
def FnExactTrieAlongUptoCardSaid : Prop := Claim7.holds Tryz.pinned (.plain (OpenSpec.upto fnExactTrieAlongSpec)) fnExactTrieAlongUptoCard
end Rows
end Go.Proofs.YtpdonghdnaehhaaGreatDoor
