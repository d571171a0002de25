/-
  DERIVED. GIVEN WITH THE SEED: THE CARDS: each row of YtoggjemmkebckaaDoorRows.lean that lists a variable, with what it lists TIED to the program's text (the seventh form; the later family's looks); each row that meets fmt, with fmt's text TOLD by the authors' own Lean function (tested against real Go, not proved from fmt's source: count such statements apart). THE CARD IS WHAT COUNTS. Prove the row's statement (the work); the ties are given (YtoggjemmkebckaaDoorTie.lean); close each card by the builder's one call (the guide's Derived/Test/ToyasCard.lean, 'card_holds'). Laid BY PROGRAM, IN A SANDBOX (cutbox-door.mjs). By AI agents, Wed Nov 11 2026. No macro, syntax, notation, axiom, sorry.
-/
import Derived.Test.YtoggjemmkebckaaDoorRows
import GoSem.ClaimSeven
namespace Go.Proofs.YtoggjemmkebckaaDoor
namespace Rows

/-- THE TIED CARD OF 'laws.FnExactSetText'. -/
def fnExactSetTextCard : Claim7 := { stood := { row := fnExactSetTextRow, standIns := [], harness := (true, "78a6400da5fb1696f58c18f23bd4708eda28404aaae73c848c4651c2c8c7be6b"), looks := false }, kinds := [], alts := [], laidByText := true, laidKinds := [.data, .data, .data, .data, .data, .data, .data, .data, .pinned], laidTests := true, laidLooks := .later }
def FnExactSetTextCardSaid : Prop := Claim7.holds Tryd.pinned (.plain (OpenSpec.ofChange fnExactSetTextSpec)) fnExactSetTextCard

/-- THE TIED CARD OF 'laws.FnExactParsedOK'. -/
def fnExactParsedOKCard : Claim7 := { stood := { row := fnExactParsedOKRow, standIns := [], harness := (true, "78a6400da5fb1696f58c18f23bd4708eda28404aaae73c848c4651c2c8c7be6b"), looks := false }, kinds := [], alts := [], laidByText := true, laidKinds := [.data, .data, .pinned], laidTests := true, laidLooks := .later }
def FnExactParsedOKCardSaid : Prop := Claim7.holds Tryd.pinned (.plain (OpenSpec.ofChange fnExactParsedOKSpec)) fnExactParsedOKCard

/-- THE TIED CARD OF 'laws.FnExactReadAge'. -/
def fnExactReadAgeCard : Claim7 := { stood := { row := fnExactReadAgeRow, standIns := [], harness := (true, "78a6400da5fb1696f58c18f23bd4708eda28404aaae73c848c4651c2c8c7be6b"), looks := false }, kinds := [], alts := [], laidByText := true, laidKinds := [.data], laidTests := true, laidLooks := .later }
def FnExactReadAgeCardSaid : Prop := Claim7.holds Tryd.pinned (.plain (OpenSpec.ofChange fnExactReadAgeSpec)) fnExactReadAgeCard

/-- THE TIED CARD OF 'laws.FnExactReadSite'. -/
def fnExactReadSiteCard : Claim7 := { stood := { row := fnExactReadSiteRow, standIns := [], harness := (true, "78a6400da5fb1696f58c18f23bd4708eda28404aaae73c848c4651c2c8c7be6b"), looks := false }, kinds := [], alts := [], laidByText := true, laidKinds := [.data, .data], laidTests := true, laidLooks := .later }
def FnExactReadSiteCardSaid : Prop := Claim7.holds Tryd.pinned (.plain (OpenSpec.ofChange fnExactReadSiteSpec)) fnExactReadSiteCard

/-- THE TIED CARD OF 'laws.FnExactReadPairs'. -/
def fnExactReadPairsCard : Claim7 := { stood := { row := fnExactReadPairsRow, standIns := [], harness := (true, "78a6400da5fb1696f58c18f23bd4708eda28404aaae73c848c4651c2c8c7be6b"), looks := false }, kinds := [], alts := [], laidByText := true, laidKinds := [.data, .pinned], laidTests := true, laidLooks := .later }
def FnExactReadPairsCardSaid : Prop := Claim7.holds Tryd.pinned (.plain (OpenSpec.ofChange fnExactReadPairsSpec)) fnExactReadPairsCard

/-- THE SECOND FORM's CARD OF 'laws.FnExactSetText'. -/
def fnExactSetTextUptoCard : Claim7 := { stood := { row := fnExactSetTextUptoRow, standIns := [], harness := (true, "78a6400da5fb1696f58c18f23bd4708eda28404aaae73c848c4651c2c8c7be6b"), looks := false }, kinds := [], alts := [], laidByText := true, laidKinds := [.data, .data, .data, .data, .data, .data, .data, .data, .pinned], laidTests := true, laidLooks := .later }
def FnExactSetTextUptoCardSaid : Prop := Claim7.holds Tryd.pinned (.plain (OpenSpec.upto fnExactSetTextSpec)) fnExactSetTextUptoCard

/-- THE SECOND FORM's CARD OF 'laws.FnExactParsedOK'. -/
def fnExactParsedOKUptoCard : Claim7 := { stood := { row := fnExactParsedOKUptoRow, standIns := [], harness := (true, "78a6400da5fb1696f58c18f23bd4708eda28404aaae73c848c4651c2c8c7be6b"), looks := false }, kinds := [], alts := [], laidByText := true, laidKinds := [.data, .data, .pinned], laidTests := true, laidLooks := .later }
def FnExactParsedOKUptoCardSaid : Prop := Claim7.holds Tryd.pinned (.plain (OpenSpec.upto fnExactParsedOKSpec)) fnExactParsedOKUptoCard

/-- THE SECOND FORM's CARD OF 'laws.FnExactReadAge'. -/
def fnExactReadAgeUptoCard : Claim7 := { stood := { row := fnExactReadAgeUptoRow, standIns := [], harness := (true, "78a6400da5fb1696f58c18f23bd4708eda28404aaae73c848c4651c2c8c7be6b"), looks := false }, kinds := [], alts := [], laidByText := true, laidKinds := [.data], laidTests := true, laidLooks := .later }
def FnExactReadAgeUptoCardSaid : Prop := Claim7.holds Tryd.pinned (.plain (OpenSpec.upto fnExactReadAgeSpec)) fnExactReadAgeUptoCard

/-- THE SECOND FORM's CARD OF 'laws.FnExactReadSite'. -/
def fnExactReadSiteUptoCard : Claim7 := { stood := { row := fnExactReadSiteUptoRow, standIns := [], harness := (true, "78a6400da5fb1696f58c18f23bd4708eda28404aaae73c848c4651c2c8c7be6b"), looks := false }, kinds := [], alts := [], laidByText := true, laidKinds := [.data, .data], laidTests := true, laidLooks := .later }
def FnExactReadSiteUptoCardSaid : Prop := Claim7.holds Tryd.pinned (.plain (OpenSpec.upto fnExactReadSiteSpec)) fnExactReadSiteUptoCard

/-- THE SECOND FORM's CARD OF 'laws.FnExactReadPairs'. -/
def fnExactReadPairsUptoCard : Claim7 := { stood := { row := fnExactReadPairsUptoRow, standIns := [], harness := (true, "78a6400da5fb1696f58c18f23bd4708eda28404aaae73c848c4651c2c8c7be6b"), looks := false }, kinds := [], alts := [], laidByText := true, laidKinds := [.data, .pinned], laidTests := true, laidLooks := .later }
def FnExactReadPairsUptoCardSaid : Prop := Claim7.holds Tryd.pinned (.plain (OpenSpec.upto fnExactReadPairsSpec)) fnExactReadPairsUptoCard
end Rows
end Go.Proofs.YtoggjemmkebckaaDoor
