/-
  NARROWER THAN 'FOR EVERY INPUT', by the rows' own cells (each row's printed sentence says how): FnBytes: laid · FnExactNameOK: laid · FnExactCodeWord: laid · FnExactCodeOf: laid · FnExactFold: laid · FnExactTrim: laid · FnExactHasControl: laid · FnExactIsToken: laid · FnExactDecimal: laid.
  DERIVED. THE GIVEN ROWS OF THIS SEAT. 9 by the template 'for every input the law returns true; each argument reads behind the call as it read before'; 0 by the template 'total and deterministic' (their statements: YtijhaljmccfcoaaDoorTotals.lean).
  GIVEN WITH THE SEED: the statements are not yours to turn. If you find one false, say at which input.
  Laid BY PROGRAM, IN A SANDBOX (cutbox-rows.mjs): the forced cells as the released guide's own fill.sh prints them over the translation 3e68edf866cc4a02… (all of the seat's roots in one cut). By AI agents, Wed Nov 11 2026. No macro, syntax, notation, axiom, sorry.
-/
import Derived.Test.YtijhaljmccfcoaaDoorChecked
import GoSem.PinnedTables
import GoSem.Claim
import GoSem.ClaimJoined
import GoSem.ClaimMapViews
import Derived.JoinedTies
import Derived.KernelRfl
namespace Go.Proofs.YtijhaljmccfcoaaDoor
/- THE CELL 'sum', in the pinned program and in every row, IS THE sha256 OF THE DUMP (.gsa) THAT YtijhaljmccfcoaaDoorProg.lean LOADS. Nothing in Lean hashes anything: it is a label: what it is worth is what the hold of that sum in a sandbox is worth. -/
noncomputable def Tryd.pinned : Pinned := { name := "ytijhaljmccfcoaadoor", sum := "3e68edf866cc4a02ef4aa9345f88c80b834252058dc41dc5fc7020d38db1f62e", checked := Tryd.checked }
namespace Rows
def none {H : Type} : Left H := { results := [], args := [] }

/- WHAT THE LISTED PACKAGE-LEVEL VARIABLES READ AS WHEN THE CALL BEGINS. Each datum BY PROGRAM (the guide's laid-datum.mjs) off the statement by which the dump's own 'gosem.cut.vars' lays the variable. In a bare row this is a premise. The card (YtijhaljmccfcoaaDoorCards.lean) ties it to the program's text. -/
def laid_unicode_utf8_acceptRanges {H : Type} : DataW H := .agg [.agg [.lit (.int .u8 128), .lit (.int .u8 191)], .agg [.lit (.int .u8 160), .lit (.int .u8 191)], .agg [.lit (.int .u8 128), .lit (.int .u8 159)], .agg [.lit (.int .u8 144), .lit (.int .u8 191)], .agg [.lit (.int .u8 128), .lit (.int .u8 143)], .agg [.lit (.int .u8 0), .lit (.int .u8 0)], .agg [.lit (.int .u8 0), .lit (.int .u8 0)], .agg [.lit (.int .u8 0), .lit (.int .u8 0)], .agg [.lit (.int .u8 0), .lit (.int .u8 0)], .agg [.lit (.int .u8 0), .lit (.int .u8 0)], .agg [.lit (.int .u8 0), .lit (.int .u8 0)], .agg [.lit (.int .u8 0), .lit (.int .u8 0)], .agg [.lit (.int .u8 0), .lit (.int .u8 0)], .agg [.lit (.int .u8 0), .lit (.int .u8 0)], .agg [.lit (.int .u8 0), .lit (.int .u8 0)], .agg [.lit (.int .u8 0), .lit (.int .u8 0)]]
def laid_loop_example_g00803_impl_byteClasses {H : Type} : DataW H := .agg [.lit (.int .u8 1), .lit (.int .u8 1), .lit (.int .u8 1), .lit (.int .u8 1), .lit (.int .u8 1), .lit (.int .u8 1), .lit (.int .u8 1), .lit (.int .u8 1), .lit (.int .u8 1), .lit (.int .u8 2), .lit (.int .u8 1), .lit (.int .u8 1), .lit (.int .u8 1), .lit (.int .u8 1), .lit (.int .u8 1), .lit (.int .u8 1), .lit (.int .u8 1), .lit (.int .u8 1), .lit (.int .u8 1), .lit (.int .u8 1), .lit (.int .u8 1), .lit (.int .u8 1), .lit (.int .u8 1), .lit (.int .u8 1), .lit (.int .u8 1), .lit (.int .u8 1), .lit (.int .u8 1), .lit (.int .u8 1), .lit (.int .u8 1), .lit (.int .u8 1), .lit (.int .u8 1), .lit (.int .u8 1), .lit (.int .u8 2), .lit (.int .u8 3), .lit (.int .u8 0), .lit (.int .u8 3), .lit (.int .u8 3), .lit (.int .u8 3), .lit (.int .u8 3), .lit (.int .u8 3), .lit (.int .u8 0), .lit (.int .u8 0), .lit (.int .u8 3), .lit (.int .u8 3), .lit (.int .u8 0), .lit (.int .u8 3), .lit (.int .u8 3), .lit (.int .u8 0), .lit (.int .u8 4), .lit (.int .u8 4), .lit (.int .u8 4), .lit (.int .u8 4), .lit (.int .u8 4), .lit (.int .u8 4), .lit (.int .u8 4), .lit (.int .u8 4), .lit (.int .u8 4), .lit (.int .u8 4), .lit (.int .u8 0), .lit (.int .u8 0), .lit (.int .u8 0), .lit (.int .u8 0), .lit (.int .u8 0), .lit (.int .u8 0), .lit (.int .u8 0), .lit (.int .u8 6), .lit (.int .u8 6), .lit (.int .u8 6), .lit (.int .u8 6), .lit (.int .u8 6), .lit (.int .u8 6), .lit (.int .u8 6), .lit (.int .u8 6), .lit (.int .u8 6), .lit (.int .u8 6), .lit (.int .u8 6), .lit (.int .u8 6), .lit (.int .u8 6), .lit (.int .u8 6), .lit (.int .u8 6), .lit (.int .u8 6), .lit (.int .u8 6), .lit (.int .u8 6), .lit (.int .u8 6), .lit (.int .u8 6), .lit (.int .u8 6), .lit (.int .u8 6), .lit (.int .u8 6), .lit (.int .u8 6), .lit (.int .u8 6), .lit (.int .u8 6), .lit (.int .u8 0), .lit (.int .u8 0), .lit (.int .u8 0), .lit (.int .u8 3), .lit (.int .u8 5), .lit (.int .u8 0), .lit (.int .u8 7), .lit (.int .u8 7), .lit (.int .u8 7), .lit (.int .u8 7), .lit (.int .u8 7), .lit (.int .u8 7), .lit (.int .u8 7), .lit (.int .u8 7), .lit (.int .u8 7), .lit (.int .u8 7), .lit (.int .u8 7), .lit (.int .u8 7), .lit (.int .u8 7), .lit (.int .u8 7), .lit (.int .u8 7), .lit (.int .u8 7), .lit (.int .u8 7), .lit (.int .u8 7), .lit (.int .u8 7), .lit (.int .u8 7), .lit (.int .u8 7), .lit (.int .u8 7), .lit (.int .u8 7), .lit (.int .u8 7), .lit (.int .u8 7), .lit (.int .u8 7), .lit (.int .u8 0), .lit (.int .u8 3), .lit (.int .u8 0), .lit (.int .u8 3), .lit (.int .u8 1)]
/-- One of Go's own tables, pinned by name: the form's constant. -/
def laid_unicode_utf8_first : DataW Unit := Go.Pinned.utf8First
def laid_loop_example_g00803_impl_codeWords {H : Type} : DataW H := .agg [.lit (.string [111, 107]), .lit (.string [98, 97, 100]), .lit (.string [108, 111, 110, 103]), .lit (.string [102, 111, 114, 109]), .lit (.string [114, 97, 110, 103, 101]), .lit (.string [110, 111, 110, 101]), .lit (.string [109, 97, 110, 121]), .lit (.string [102, 117, 108, 108]), .lit (.string [115, 105, 122, 101]), .lit (.string [107, 105, 110, 100]), .lit (.string [100, 97, 116, 101]), .lit (.string [115, 117, 102, 102, 105, 120]), .lit (.string [100, 111, 109, 97, 105, 110]), .lit (.string [115, 101, 99, 117, 114, 101]), .lit (.string [104, 116, 116, 112]), .lit (.string [115, 105, 116, 101]), .lit (.string [112, 114, 101, 102, 105, 120]), .lit (.string [111, 114, 100, 101, 114]), .lit (.string [115, 97, 109, 101])]

/-- 'laws.FnBytes': WHATEVER THE INPUT: true; the input reads as it did. -/
def fnBytesSpec : ChangeSpec := { name := "fnBytes", vars := ["loop.example/g00803/impl.byteClasses"], fn := fun _ => fun
  | [d1, d2, g1] => { results := [.lit (.bool true)], args := [d1, d2], vars := [g1] }
  | _ => none }
def fnBytesRow : OpenClaim := { program := "ytijhaljmccfcoaadoor", sum := "3e68edf866cc4a02ef4aa9345f88c80b834252058dc41dc5fc7020d38db1f62e", func := "loop.example/g00803/laws.FnBytes", spec := "fnBytes", inPlace := ["internal/bytealg.IndexByteString", "internal/bytealg.IndexString"], named := ["loop.example/g00803/impl.byteClasses", "unicode/utf8.first", "unicode/utf8.acceptRanges", "internal/bytealg.MaxLen"], apart := false, laid := [("unicode/utf8.acceptRanges", laid_unicode_utf8_acceptRanges), ("loop.example/g00803/impl.byteClasses", laid_loop_example_g00803_impl_byteClasses), ("unicode/utf8.first", laid_unicode_utf8_first)] }
def FnBytesSaid : Prop := fnBytesRow.holds Tryd.pinned (OpenSpec.ofChange fnBytesSpec)

/-- ITS FALSE NEIGHBOUR: 'it returns false'. Refute it at one input. -/
def fnBytesWrong : ChangeSpec := { name := "fnBytes", vars := ["loop.example/g00803/impl.byteClasses"], fn := fun _ => fun
  | [d1, d2, g1] => { results := [.lit (.bool false)], args := [d1, d2], vars := [g1] }
  | _ => none }
def FnBytesWrongFalsely : Prop := fnBytesRow.holds Tryd.pinned (OpenSpec.ofChange fnBytesWrong)

/-- 'laws.FnExactNameOK': WHATEVER THE INPUT: true; the input reads as it did. -/
def fnExactNameOKSpec : ChangeSpec := { name := "fnExactNameOK", vars := ["loop.example/g00803/impl.byteClasses"], fn := fun _ => fun
  | [d, g1] => { results := [.lit (.bool true)], args := [d], vars := [g1] }
  | _ => none }
def fnExactNameOKRow : OpenClaim := { program := "ytijhaljmccfcoaadoor", sum := "3e68edf866cc4a02ef4aa9345f88c80b834252058dc41dc5fc7020d38db1f62e", func := "loop.example/g00803/laws.FnExactNameOK", spec := "fnExactNameOK", named := ["loop.example/g00803/impl.byteClasses"], apart := false, laid := [("loop.example/g00803/impl.byteClasses", laid_loop_example_g00803_impl_byteClasses)] }
def FnExactNameOKSaid : Prop := fnExactNameOKRow.holds Tryd.pinned (OpenSpec.ofChange fnExactNameOKSpec)

/-- ITS FALSE NEIGHBOUR: 'it returns false'. Refute it at one input. -/
def fnExactNameOKWrong : ChangeSpec := { name := "fnExactNameOK", vars := ["loop.example/g00803/impl.byteClasses"], fn := fun _ => fun
  | [d, g1] => { results := [.lit (.bool false)], args := [d], vars := [g1] }
  | _ => none }
def FnExactNameOKWrongFalsely : Prop := fnExactNameOKRow.holds Tryd.pinned (OpenSpec.ofChange fnExactNameOKWrong)

/-- 'laws.FnExactCodeWord': WHATEVER THE INPUT: true; the input reads as it did. -/
def fnExactCodeWordSpec : ChangeSpec := { name := "fnExactCodeWord", vars := ["loop.example/g00803/impl.codeWords"], fn := fun _ => fun
  | [d, g1] => { results := [.lit (.bool true)], args := [d], vars := [g1] }
  | _ => none }
def fnExactCodeWordRow : OpenClaim := { program := "ytijhaljmccfcoaadoor", sum := "3e68edf866cc4a02ef4aa9345f88c80b834252058dc41dc5fc7020d38db1f62e", func := "loop.example/g00803/laws.FnExactCodeWord", spec := "fnExactCodeWord", named := ["loop.example/g00803/impl.codeWords"], apart := false, laid := [("loop.example/g00803/impl.codeWords", laid_loop_example_g00803_impl_codeWords)] }
def FnExactCodeWordSaid : Prop := fnExactCodeWordRow.holds Tryd.pinned (OpenSpec.ofChange fnExactCodeWordSpec)

/-- ITS FALSE NEIGHBOUR: 'it returns false'. Refute it at one input. -/
def fnExactCodeWordWrong : ChangeSpec := { name := "fnExactCodeWord", vars := ["loop.example/g00803/impl.codeWords"], fn := fun _ => fun
  | [d, g1] => { results := [.lit (.bool false)], args := [d], vars := [g1] }
  | _ => none }
def FnExactCodeWordWrongFalsely : Prop := fnExactCodeWordRow.holds Tryd.pinned (OpenSpec.ofChange fnExactCodeWordWrong)

/-- 'laws.FnExactCodeOf': WHATEVER THE INPUT: true; the input reads as it did. -/
def fnExactCodeOfSpec : ChangeSpec := { name := "fnExactCodeOf", vars := ["loop.example/g00803/impl.codeWords"], fn := fun _ => fun
  | [d, g1] => { results := [.lit (.bool true)], args := [d], vars := [g1] }
  | _ => none }
def fnExactCodeOfRow : OpenClaim := { program := "ytijhaljmccfcoaadoor", sum := "3e68edf866cc4a02ef4aa9345f88c80b834252058dc41dc5fc7020d38db1f62e", func := "loop.example/g00803/laws.FnExactCodeOf", spec := "fnExactCodeOf", named := ["loop.example/g00803/impl.codeWords"], apart := false, laid := [("loop.example/g00803/impl.codeWords", laid_loop_example_g00803_impl_codeWords)] }
def FnExactCodeOfSaid : Prop := fnExactCodeOfRow.holds Tryd.pinned (OpenSpec.ofChange fnExactCodeOfSpec)

/-- ITS FALSE NEIGHBOUR: 'it returns false'. Refute it at one input. -/
def fnExactCodeOfWrong : ChangeSpec := { name := "fnExactCodeOf", vars := ["loop.example/g00803/impl.codeWords"], fn := fun _ => fun
  | [d, g1] => { results := [.lit (.bool false)], args := [d], vars := [g1] }
  | _ => none }
def FnExactCodeOfWrongFalsely : Prop := fnExactCodeOfRow.holds Tryd.pinned (OpenSpec.ofChange fnExactCodeOfWrong)

/-- 'laws.FnExactFold': WHATEVER THE INPUT: true; the input reads as it did. -/
def fnExactFoldSpec : ChangeSpec := { name := "fnExactFold", vars := ["loop.example/g00803/impl.byteClasses"], fn := fun _ => fun
  | [d, g1] => { results := [.lit (.bool true)], args := [d], vars := [g1] }
  | _ => none }
def fnExactFoldRow : OpenClaim := { program := "ytijhaljmccfcoaadoor", sum := "3e68edf866cc4a02ef4aa9345f88c80b834252058dc41dc5fc7020d38db1f62e", func := "loop.example/g00803/laws.FnExactFold", spec := "fnExactFold", named := ["loop.example/g00803/impl.byteClasses"], apart := false, laid := [("loop.example/g00803/impl.byteClasses", laid_loop_example_g00803_impl_byteClasses)] }
def FnExactFoldSaid : Prop := fnExactFoldRow.holds Tryd.pinned (OpenSpec.ofChange fnExactFoldSpec)

/-- ITS FALSE NEIGHBOUR: 'it returns false'. Refute it at one input. -/
def fnExactFoldWrong : ChangeSpec := { name := "fnExactFold", vars := ["loop.example/g00803/impl.byteClasses"], fn := fun _ => fun
  | [d, g1] => { results := [.lit (.bool false)], args := [d], vars := [g1] }
  | _ => none }
def FnExactFoldWrongFalsely : Prop := fnExactFoldRow.holds Tryd.pinned (OpenSpec.ofChange fnExactFoldWrong)

/-- 'laws.FnExactTrim': WHATEVER THE INPUT: true; the input reads as it did. -/
def fnExactTrimSpec : ChangeSpec := { name := "fnExactTrim", fn := fun _ => fun
  | [d] => { results := [.lit (.bool true)], args := [d] }
  | _ => none }
def fnExactTrimRow : OpenClaim := { program := "ytijhaljmccfcoaadoor", sum := "3e68edf866cc4a02ef4aa9345f88c80b834252058dc41dc5fc7020d38db1f62e", func := "loop.example/g00803/laws.FnExactTrim", spec := "fnExactTrim", inPlace := ["internal/bytealg.IndexByteString", "internal/bytealg.IndexString"], named := ["unicode/utf8.first", "unicode/utf8.acceptRanges", "internal/bytealg.MaxLen"], apart := false, laid := [("unicode/utf8.acceptRanges", laid_unicode_utf8_acceptRanges), ("unicode/utf8.first", laid_unicode_utf8_first)] }
def FnExactTrimSaid : Prop := fnExactTrimRow.holds Tryd.pinned (OpenSpec.ofChange fnExactTrimSpec)

/-- ITS FALSE NEIGHBOUR: 'it returns false'. Refute it at one input. -/
def fnExactTrimWrong : ChangeSpec := { name := "fnExactTrim", fn := fun _ => fun
  | [d] => { results := [.lit (.bool false)], args := [d] }
  | _ => none }
def FnExactTrimWrongFalsely : Prop := fnExactTrimRow.holds Tryd.pinned (OpenSpec.ofChange fnExactTrimWrong)

/-- 'laws.FnExactHasControl': WHATEVER THE INPUT: true; the input reads as it did. -/
def fnExactHasControlSpec : ChangeSpec := { name := "fnExactHasControl", vars := ["loop.example/g00803/impl.byteClasses"], fn := fun _ => fun
  | [d, g1] => { results := [.lit (.bool true)], args := [d], vars := [g1] }
  | _ => none }
def fnExactHasControlRow : OpenClaim := { program := "ytijhaljmccfcoaadoor", sum := "3e68edf866cc4a02ef4aa9345f88c80b834252058dc41dc5fc7020d38db1f62e", func := "loop.example/g00803/laws.FnExactHasControl", spec := "fnExactHasControl", named := ["loop.example/g00803/impl.byteClasses"], apart := false, laid := [("loop.example/g00803/impl.byteClasses", laid_loop_example_g00803_impl_byteClasses)] }
def FnExactHasControlSaid : Prop := fnExactHasControlRow.holds Tryd.pinned (OpenSpec.ofChange fnExactHasControlSpec)

/-- ITS FALSE NEIGHBOUR: 'it returns false'. Refute it at one input. -/
def fnExactHasControlWrong : ChangeSpec := { name := "fnExactHasControl", vars := ["loop.example/g00803/impl.byteClasses"], fn := fun _ => fun
  | [d, g1] => { results := [.lit (.bool false)], args := [d], vars := [g1] }
  | _ => none }
def FnExactHasControlWrongFalsely : Prop := fnExactHasControlRow.holds Tryd.pinned (OpenSpec.ofChange fnExactHasControlWrong)

/-- 'laws.FnExactIsToken': WHATEVER THE INPUT: true; the input reads as it did. -/
def fnExactIsTokenSpec : ChangeSpec := { name := "fnExactIsToken", vars := ["loop.example/g00803/impl.byteClasses"], fn := fun _ => fun
  | [d, g1] => { results := [.lit (.bool true)], args := [d], vars := [g1] }
  | _ => none }
def fnExactIsTokenRow : OpenClaim := { program := "ytijhaljmccfcoaadoor", sum := "3e68edf866cc4a02ef4aa9345f88c80b834252058dc41dc5fc7020d38db1f62e", func := "loop.example/g00803/laws.FnExactIsToken", spec := "fnExactIsToken", named := ["loop.example/g00803/impl.byteClasses"], apart := false, laid := [("loop.example/g00803/impl.byteClasses", laid_loop_example_g00803_impl_byteClasses)] }
def FnExactIsTokenSaid : Prop := fnExactIsTokenRow.holds Tryd.pinned (OpenSpec.ofChange fnExactIsTokenSpec)

/-- ITS FALSE NEIGHBOUR: 'it returns false'. Refute it at one input. -/
def fnExactIsTokenWrong : ChangeSpec := { name := "fnExactIsToken", vars := ["loop.example/g00803/impl.byteClasses"], fn := fun _ => fun
  | [d, g1] => { results := [.lit (.bool false)], args := [d], vars := [g1] }
  | _ => none }
def FnExactIsTokenWrongFalsely : Prop := fnExactIsTokenRow.holds Tryd.pinned (OpenSpec.ofChange fnExactIsTokenWrong)

/-- 'laws.FnExactDecimal': WHATEVER THE INPUT: true; the input reads as it did. -/
def fnExactDecimalSpec : ChangeSpec := { name := "fnExactDecimal", vars := ["loop.example/g00803/impl.byteClasses"], fn := fun _ => fun
  | [d, g1] => { results := [.lit (.bool true)], args := [d], vars := [g1] }
  | _ => none }
def fnExactDecimalRow : OpenClaim := { program := "ytijhaljmccfcoaadoor", sum := "3e68edf866cc4a02ef4aa9345f88c80b834252058dc41dc5fc7020d38db1f62e", func := "loop.example/g00803/laws.FnExactDecimal", spec := "fnExactDecimal", named := ["loop.example/g00803/impl.byteClasses"], apart := false, laid := [("loop.example/g00803/impl.byteClasses", laid_loop_example_g00803_impl_byteClasses)] }
def FnExactDecimalSaid : Prop := fnExactDecimalRow.holds Tryd.pinned (OpenSpec.ofChange fnExactDecimalSpec)

/-- ITS FALSE NEIGHBOUR: 'it returns false'. Refute it at one input. -/
def fnExactDecimalWrong : ChangeSpec := { name := "fnExactDecimal", vars := ["loop.example/g00803/impl.byteClasses"], fn := fun _ => fun
  | [d, g1] => { results := [.lit (.bool false)], args := [d], vars := [g1] }
  | _ => none }
def FnExactDecimalWrongFalsely : Prop := fnExactDecimalRow.holds Tryd.pinned (OpenSpec.ofChange fnExactDecimalWrong)

/- THE SECOND FORM. 'bulk': how many values and letters a reading holds, each counted each time it is reached (what is shared counts as often as it is met; a slice's spare places count too). A statement '..UptoSaid' is the law's where the arguments, and the package variables that the reading takes, are together of bulk at most 1048576: NARROWER than '..Said'. Prove '..Said' where nothing that the law and all that it calls make is longer than what came in: it says more and counts as full. Else prove '..UptoSaid'. A law counts once. -/
mutual
def uptoBulk {H : Type} : DataW H → Nat
  | .lit (.string bytes) => bytes.length + 1
  | .lit _ => 1
  | .nil => 1
  | .ptr d => uptoBulk d + 1
  | .slice elems spare => uptoBulkAll elems + uptoBulkAll spare + 1
  | .agg parts => uptoBulkAll parts + 1
  | .iface _ d => uptoBulk d + 1
  | .map entries => uptoBulkEntries entries + 1
  | .held _ => 1
def uptoBulkAll {H : Type} : List (DataW H) → Nat
  | [] => 0
  | d :: r => uptoBulk d + uptoBulkAll r
def uptoBulkEntries {H : Type} : List (Lit × DataW H) → Nat
  | [] => 0
  | x :: r => uptoBulkEntry x + uptoBulkEntries r
def uptoBulkEntry {H : Type} : Lit × DataW H → Nat
  | (.string bytes, d) => bytes.length + uptoBulk d + 1
  | (_, d) => uptoBulk d + 1
 end
def uptoSmall : (H : Type) → List (DataW H) → Bool := fun _ ds => decide (uptoBulkAll ds ≤ 1048576)
def OpenSpec.upto (s : _root_.Go.ChangeSpec) : _root_.Go.OpenSpec := { _root_.Go.OpenSpec.ofChange s with cond := some uptoSmall }

/-- 'laws.FnBytes', WHERE WHAT IT READS IS OF BULK AT MOST 1048576: true; the input reads as it did. -/
def fnBytesUptoRow : OpenClaim := { program := "ytijhaljmccfcoaadoor", sum := "3e68edf866cc4a02ef4aa9345f88c80b834252058dc41dc5fc7020d38db1f62e", func := "loop.example/g00803/laws.FnBytes", spec := "fnBytes", inPlace := ["internal/bytealg.IndexByteString", "internal/bytealg.IndexString"], named := ["loop.example/g00803/impl.byteClasses", "unicode/utf8.first", "unicode/utf8.acceptRanges", "internal/bytealg.MaxLen"], apart := false, laid := [("unicode/utf8.acceptRanges", laid_unicode_utf8_acceptRanges), ("loop.example/g00803/impl.byteClasses", laid_loop_example_g00803_impl_byteClasses), ("unicode/utf8.first", laid_unicode_utf8_first)], narrowed := true }
def FnBytesUptoSaid : Prop := fnBytesUptoRow.holds Tryd.pinned (OpenSpec.upto fnBytesSpec)

/-- 'laws.FnExactNameOK', WHERE WHAT IT READS IS OF BULK AT MOST 1048576: true; the input reads as it did. -/
def fnExactNameOKUptoRow : OpenClaim := { program := "ytijhaljmccfcoaadoor", sum := "3e68edf866cc4a02ef4aa9345f88c80b834252058dc41dc5fc7020d38db1f62e", func := "loop.example/g00803/laws.FnExactNameOK", spec := "fnExactNameOK", named := ["loop.example/g00803/impl.byteClasses"], apart := false, laid := [("loop.example/g00803/impl.byteClasses", laid_loop_example_g00803_impl_byteClasses)], narrowed := true }
def FnExactNameOKUptoSaid : Prop := fnExactNameOKUptoRow.holds Tryd.pinned (OpenSpec.upto fnExactNameOKSpec)

/-- 'laws.FnExactCodeWord', WHERE WHAT IT READS IS OF BULK AT MOST 1048576: true; the input reads as it did. -/
def fnExactCodeWordUptoRow : OpenClaim := { program := "ytijhaljmccfcoaadoor", sum := "3e68edf866cc4a02ef4aa9345f88c80b834252058dc41dc5fc7020d38db1f62e", func := "loop.example/g00803/laws.FnExactCodeWord", spec := "fnExactCodeWord", named := ["loop.example/g00803/impl.codeWords"], apart := false, laid := [("loop.example/g00803/impl.codeWords", laid_loop_example_g00803_impl_codeWords)], narrowed := true }
def FnExactCodeWordUptoSaid : Prop := fnExactCodeWordUptoRow.holds Tryd.pinned (OpenSpec.upto fnExactCodeWordSpec)

/-- 'laws.FnExactCodeOf', WHERE WHAT IT READS IS OF BULK AT MOST 1048576: true; the input reads as it did. -/
def fnExactCodeOfUptoRow : OpenClaim := { program := "ytijhaljmccfcoaadoor", sum := "3e68edf866cc4a02ef4aa9345f88c80b834252058dc41dc5fc7020d38db1f62e", func := "loop.example/g00803/laws.FnExactCodeOf", spec := "fnExactCodeOf", named := ["loop.example/g00803/impl.codeWords"], apart := false, laid := [("loop.example/g00803/impl.codeWords", laid_loop_example_g00803_impl_codeWords)], narrowed := true }
def FnExactCodeOfUptoSaid : Prop := fnExactCodeOfUptoRow.holds Tryd.pinned (OpenSpec.upto fnExactCodeOfSpec)

/-- 'laws.FnExactFold', WHERE WHAT IT READS IS OF BULK AT MOST 1048576: true; the input reads as it did. -/
def fnExactFoldUptoRow : OpenClaim := { program := "ytijhaljmccfcoaadoor", sum := "3e68edf866cc4a02ef4aa9345f88c80b834252058dc41dc5fc7020d38db1f62e", func := "loop.example/g00803/laws.FnExactFold", spec := "fnExactFold", named := ["loop.example/g00803/impl.byteClasses"], apart := false, laid := [("loop.example/g00803/impl.byteClasses", laid_loop_example_g00803_impl_byteClasses)], narrowed := true }
def FnExactFoldUptoSaid : Prop := fnExactFoldUptoRow.holds Tryd.pinned (OpenSpec.upto fnExactFoldSpec)

/-- 'laws.FnExactTrim', WHERE WHAT IT READS IS OF BULK AT MOST 1048576: true; the input reads as it did. -/
def fnExactTrimUptoRow : OpenClaim := { program := "ytijhaljmccfcoaadoor", sum := "3e68edf866cc4a02ef4aa9345f88c80b834252058dc41dc5fc7020d38db1f62e", func := "loop.example/g00803/laws.FnExactTrim", spec := "fnExactTrim", inPlace := ["internal/bytealg.IndexByteString", "internal/bytealg.IndexString"], named := ["unicode/utf8.first", "unicode/utf8.acceptRanges", "internal/bytealg.MaxLen"], apart := false, laid := [("unicode/utf8.acceptRanges", laid_unicode_utf8_acceptRanges), ("unicode/utf8.first", laid_unicode_utf8_first)], narrowed := true }
def FnExactTrimUptoSaid : Prop := fnExactTrimUptoRow.holds Tryd.pinned (OpenSpec.upto fnExactTrimSpec)

/-- 'laws.FnExactHasControl', WHERE WHAT IT READS IS OF BULK AT MOST 1048576: true; the input reads as it did. -/
def fnExactHasControlUptoRow : OpenClaim := { program := "ytijhaljmccfcoaadoor", sum := "3e68edf866cc4a02ef4aa9345f88c80b834252058dc41dc5fc7020d38db1f62e", func := "loop.example/g00803/laws.FnExactHasControl", spec := "fnExactHasControl", named := ["loop.example/g00803/impl.byteClasses"], apart := false, laid := [("loop.example/g00803/impl.byteClasses", laid_loop_example_g00803_impl_byteClasses)], narrowed := true }
def FnExactHasControlUptoSaid : Prop := fnExactHasControlUptoRow.holds Tryd.pinned (OpenSpec.upto fnExactHasControlSpec)

/-- 'laws.FnExactIsToken', WHERE WHAT IT READS IS OF BULK AT MOST 1048576: true; the input reads as it did. -/
def fnExactIsTokenUptoRow : OpenClaim := { program := "ytijhaljmccfcoaadoor", sum := "3e68edf866cc4a02ef4aa9345f88c80b834252058dc41dc5fc7020d38db1f62e", func := "loop.example/g00803/laws.FnExactIsToken", spec := "fnExactIsToken", named := ["loop.example/g00803/impl.byteClasses"], apart := false, laid := [("loop.example/g00803/impl.byteClasses", laid_loop_example_g00803_impl_byteClasses)], narrowed := true }
def FnExactIsTokenUptoSaid : Prop := fnExactIsTokenUptoRow.holds Tryd.pinned (OpenSpec.upto fnExactIsTokenSpec)

/-- 'laws.FnExactDecimal', WHERE WHAT IT READS IS OF BULK AT MOST 1048576: true; the input reads as it did. -/
def fnExactDecimalUptoRow : OpenClaim := { program := "ytijhaljmccfcoaadoor", sum := "3e68edf866cc4a02ef4aa9345f88c80b834252058dc41dc5fc7020d38db1f62e", func := "loop.example/g00803/laws.FnExactDecimal", spec := "fnExactDecimal", named := ["loop.example/g00803/impl.byteClasses"], apart := false, laid := [("loop.example/g00803/impl.byteClasses", laid_loop_example_g00803_impl_byteClasses)], narrowed := true }
def FnExactDecimalUptoSaid : Prop := fnExactDecimalUptoRow.holds Tryd.pinned (OpenSpec.upto fnExactDecimalSpec)

end Rows
end Go.Proofs.YtijhaljmccfcoaaDoor
