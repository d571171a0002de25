/-
  DERIVED. GIVEN WITH THE SEED: THE CARDS: each row of YtcaabnnkjnleeaaDoorRows.lean that lists a variable, with what it lists TIED to the program's text (the seventh form; the later family's looks); each row that meets fmt, with fmt's text TOLD by the authors' own Lean function (tested against real Go, not proved from fmt's source: count such statements apart). THE CARD IS WHAT COUNTS. Prove the row's statement (the work); the ties are given (YtcaabnnkjnleeaaDoorTie.lean); close each card by the builder's one call (the guide's Derived/Test/ToyasCard.lean, 'card_holds'). Laid BY PROGRAM, IN A SANDBOX (cutbox-door.mjs). By AI agents, Wed Nov 11 2026. No macro, syntax, notation, axiom, sorry.
-/
import Derived.Test.YtcaabnnkjnleeaaDoorRows
import GoSem.ClaimSeven
namespace Go.Proofs.YtcaabnnkjnleeaaDoor
namespace Rows

/-- THE TIED CARD OF 'laws.FnExactTrieOK'. -/
def fnExactTrieOKCard : Claim7 := { stood := { row := fnExactTrieOKRow, standIns := [], harness := (true, "767d8902c3d1900d4111b214088460b3e83f794777d00eab282bf6655832f6e3"), looks := false }, kinds := [], alts := [], laidByText := true, laidKinds := [.data], laidTests := true, laidLooks := .later }
def FnExactTrieOKCardSaid : Prop := Claim7.holds Tryd.pinned (.plain (OpenSpec.ofChange fnExactTrieOKSpec)) fnExactTrieOKCard

/-- THE TIED CARD OF 'laws.FnExactTrieAll'. -/
def fnExactTrieAllCard : Claim7 := { stood := { row := fnExactTrieAllRow, standIns := [], harness := (true, "767d8902c3d1900d4111b214088460b3e83f794777d00eab282bf6655832f6e3"), looks := false }, kinds := [], alts := [], laidByText := true, laidKinds := [.data], laidTests := true, laidLooks := .later }
def FnExactTrieAllCardSaid : Prop := Claim7.holds Tryd.pinned (.plain (OpenSpec.ofChange fnExactTrieAllSpec)) fnExactTrieAllCard

/-- THE TIED CARD OF 'laws.FnExactTrieNodes'. -/
def fnExactTrieNodesCard : Claim7 := { stood := { row := fnExactTrieNodesRow, standIns := [], harness := (true, "767d8902c3d1900d4111b214088460b3e83f794777d00eab282bf6655832f6e3"), looks := false }, kinds := [], alts := [], laidByText := true, laidKinds := [.data], laidTests := true, laidLooks := .later }
def FnExactTrieNodesCardSaid : Prop := Claim7.holds Tryd.pinned (.plain (OpenSpec.ofChange fnExactTrieNodesSpec)) fnExactTrieNodesCard

/-- THE TIED CARD OF 'laws.FnExactSameTrie'. -/
def fnExactSameTrieCard : Claim7 := { stood := { row := fnExactSameTrieRow, standIns := [], harness := (true, "767d8902c3d1900d4111b214088460b3e83f794777d00eab282bf6655832f6e3"), looks := false }, kinds := [], alts := [], laidByText := true, laidKinds := [.data], laidTests := true, laidLooks := .later }
def FnExactSameTrieCardSaid : Prop := Claim7.holds Tryd.pinned (.plain (OpenSpec.ofChange fnExactSameTrieSpec)) fnExactSameTrieCard

/-- THE TIED CARD OF 'laws.FnExactNewJar'. -/
def fnExactNewJarCard : Claim7 := { stood := { row := fnExactNewJarRow, standIns := [], harness := (true, "767d8902c3d1900d4111b214088460b3e83f794777d00eab282bf6655832f6e3"), looks := false }, kinds := [], alts := [], laidByText := true, laidKinds := [.data], laidTests := true, laidLooks := .later }
def FnExactNewJarCardSaid : Prop := Claim7.holds Tryd.pinned (.plain (OpenSpec.ofChange fnExactNewJarSpec)) fnExactNewJarCard

/-- THE TIED CARD OF 'laws.FnExactRequestOK'. -/
def fnExactRequestOKCard : Claim7 := { stood := { row := fnExactRequestOKRow, standIns := [], harness := (true, "767d8902c3d1900d4111b214088460b3e83f794777d00eab282bf6655832f6e3"), looks := false }, kinds := [], alts := [], laidByText := true, laidKinds := [.data], laidTests := true, laidLooks := .later }
def FnExactRequestOKCardSaid : Prop := Claim7.holds Tryd.pinned (.plain (OpenSpec.ofChange fnExactRequestOKSpec)) fnExactRequestOKCard

/-- THE SECOND FORM's CARD OF 'laws.FnExactTrieOK'. -/
def fnExactTrieOKUptoCard : Claim7 := { stood := { row := fnExactTrieOKUptoRow, standIns := [], harness := (true, "767d8902c3d1900d4111b214088460b3e83f794777d00eab282bf6655832f6e3"), looks := false }, kinds := [], alts := [], laidByText := true, laidKinds := [.data], laidTests := true, laidLooks := .later }
def FnExactTrieOKUptoCardSaid : Prop := Claim7.holds Tryd.pinned (.plain (OpenSpec.upto fnExactTrieOKSpec)) fnExactTrieOKUptoCard

/-- THE SECOND FORM's CARD OF 'laws.FnExactTrieAll'. -/
def fnExactTrieAllUptoCard : Claim7 := { stood := { row := fnExactTrieAllUptoRow, standIns := [], harness := (true, "767d8902c3d1900d4111b214088460b3e83f794777d00eab282bf6655832f6e3"), looks := false }, kinds := [], alts := [], laidByText := true, laidKinds := [.data], laidTests := true, laidLooks := .later }
def FnExactTrieAllUptoCardSaid : Prop := Claim7.holds Tryd.pinned (.plain (OpenSpec.upto fnExactTrieAllSpec)) fnExactTrieAllUptoCard

/-- THE SECOND FORM's CARD OF 'laws.FnExactTrieNodes'. -/
def fnExactTrieNodesUptoCard : Claim7 := { stood := { row := fnExactTrieNodesUptoRow, standIns := [], harness := (true, "767d8902c3d1900d4111b214088460b3e83f794777d00eab282bf6655832f6e3"), looks := false }, kinds := [], alts := [], laidByText := true, laidKinds := [.data], laidTests := true, laidLooks := .later }
def FnExactTrieNodesUptoCardSaid : Prop := Claim7.holds Tryd.pinned (.plain (OpenSpec.upto fnExactTrieNodesSpec)) fnExactTrieNodesUptoCard

/-- THE SECOND FORM's CARD OF 'laws.FnExactSameTrie'. -/
def fnExactSameTrieUptoCard : Claim7 := { stood := { row := fnExactSameTrieUptoRow, standIns := [], harness := (true, "767d8902c3d1900d4111b214088460b3e83f794777d00eab282bf6655832f6e3"), looks := false }, kinds := [], alts := [], laidByText := true, laidKinds := [.data], laidTests := true, laidLooks := .later }
def FnExactSameTrieUptoCardSaid : Prop := Claim7.holds Tryd.pinned (.plain (OpenSpec.upto fnExactSameTrieSpec)) fnExactSameTrieUptoCard

/-- THE SECOND FORM's CARD OF 'laws.FnExactNewJar'. -/
def fnExactNewJarUptoCard : Claim7 := { stood := { row := fnExactNewJarUptoRow, standIns := [], harness := (true, "767d8902c3d1900d4111b214088460b3e83f794777d00eab282bf6655832f6e3"), looks := false }, kinds := [], alts := [], laidByText := true, laidKinds := [.data], laidTests := true, laidLooks := .later }
def FnExactNewJarUptoCardSaid : Prop := Claim7.holds Tryd.pinned (.plain (OpenSpec.upto fnExactNewJarSpec)) fnExactNewJarUptoCard

/-- THE SECOND FORM's CARD OF 'laws.FnExactRequestOK'. -/
def fnExactRequestOKUptoCard : Claim7 := { stood := { row := fnExactRequestOKUptoRow, standIns := [], harness := (true, "767d8902c3d1900d4111b214088460b3e83f794777d00eab282bf6655832f6e3"), looks := false }, kinds := [], alts := [], laidByText := true, laidKinds := [.data], laidTests := true, laidLooks := .later }
def FnExactRequestOKUptoCardSaid : Prop := Claim7.holds Tryd.pinned (.plain (OpenSpec.upto fnExactRequestOKSpec)) fnExactRequestOKUptoCard
end Rows
end Go.Proofs.YtcaabnnkjnleeaaDoor
