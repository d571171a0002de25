/-
  NARROWER THAN 'FOR EVERY INPUT', by the rows' own cells (each row's printed sentence says how): FnExactCookieOK: laid · FnExactSameKey: laid · FnExactComesFirst: laid · FnExactGoesFirst: laid · FnExactSortCookies: laid · FnExactHeaderOf: laid.
  DERIVED. THE GIVEN ROWS OF THIS SEAT. 6 by the template 'for every input the law returns true; each argument reads behind the call as it read before'; 0 by the template 'total and deterministic' (their statements: YtnbpcaoblpidjaaDoorTotals.lean).
  GIVEN WITH THE SEED: the statements are not yours to turn. If you find one false, say at which input.
  Laid BY PROGRAM, IN A SANDBOX (cutbox-rows.mjs): the forced cells as the released guide's own fill.sh prints them over the translation d5d1beba1da831ed… (all of the seat's roots in one cut). By AI agents, Wed Nov 11 2026. No macro, syntax, notation, axiom, sorry.
-/
import Derived.Test.YtnbpcaoblpidjaaDoorChecked
import GoSem.PinnedTables
import GoSem.Claim
import GoSem.ClaimJoined
import GoSem.ClaimMapViews
import Derived.JoinedTies
import Derived.KernelRfl
namespace Go.Proofs.YtnbpcaoblpidjaaDoor
/- THE CELL 'sum', in the pinned program and in every row, IS THE sha256 OF THE DUMP (.gsa) THAT YtnbpcaoblpidjaaDoorProg.lean LOADS. Nothing in Lean hashes anything: it is a label: what it is worth is what the hold of that sum in a sandbox is worth. -/
noncomputable def Tryd.pinned : Pinned := { name := "ytnbpcaoblpidjaadoor", sum := "d5d1beba1da831ed75a7494ae70464fcc9a9f12c2e09fb869d9f991a4c3273cc", checked := Tryd.checked }
namespace Rows
def none {H : Type} : Left H := { results := [], args := [] }

/- WHAT THE LISTED PACKAGE-LEVEL VARIABLES READ AS WHEN THE CALL BEGINS. Each datum BY PROGRAM (the guide's laid-datum.mjs) off the statement by which the dump's own 'gosem.cut.vars' lays the variable. In a bare row this is a premise. The card (YtnbpcaoblpidjaaDoorCards.lean) ties it to the program's text. -/
def laid_unicode_utf8_acceptRanges {H : Type} : DataW H := .agg [.agg [.lit (.int .u8 128), .lit (.int .u8 191)], .agg [.lit (.int .u8 160), .lit (.int .u8 191)], .agg [.lit (.int .u8 128), .lit (.int .u8 159)], .agg [.lit (.int .u8 144), .lit (.int .u8 191)], .agg [.lit (.int .u8 128), .lit (.int .u8 143)], .agg [.lit (.int .u8 0), .lit (.int .u8 0)], .agg [.lit (.int .u8 0), .lit (.int .u8 0)], .agg [.lit (.int .u8 0), .lit (.int .u8 0)], .agg [.lit (.int .u8 0), .lit (.int .u8 0)], .agg [.lit (.int .u8 0), .lit (.int .u8 0)], .agg [.lit (.int .u8 0), .lit (.int .u8 0)], .agg [.lit (.int .u8 0), .lit (.int .u8 0)], .agg [.lit (.int .u8 0), .lit (.int .u8 0)], .agg [.lit (.int .u8 0), .lit (.int .u8 0)], .agg [.lit (.int .u8 0), .lit (.int .u8 0)], .agg [.lit (.int .u8 0), .lit (.int .u8 0)]]
def laid_loop_example_g00803_impl_byteClasses {H : Type} : DataW H := .agg [.lit (.int .u8 1), .lit (.int .u8 1), .lit (.int .u8 1), .lit (.int .u8 1), .lit (.int .u8 1), .lit (.int .u8 1), .lit (.int .u8 1), .lit (.int .u8 1), .lit (.int .u8 1), .lit (.int .u8 2), .lit (.int .u8 1), .lit (.int .u8 1), .lit (.int .u8 1), .lit (.int .u8 1), .lit (.int .u8 1), .lit (.int .u8 1), .lit (.int .u8 1), .lit (.int .u8 1), .lit (.int .u8 1), .lit (.int .u8 1), .lit (.int .u8 1), .lit (.int .u8 1), .lit (.int .u8 1), .lit (.int .u8 1), .lit (.int .u8 1), .lit (.int .u8 1), .lit (.int .u8 1), .lit (.int .u8 1), .lit (.int .u8 1), .lit (.int .u8 1), .lit (.int .u8 1), .lit (.int .u8 1), .lit (.int .u8 2), .lit (.int .u8 3), .lit (.int .u8 0), .lit (.int .u8 3), .lit (.int .u8 3), .lit (.int .u8 3), .lit (.int .u8 3), .lit (.int .u8 3), .lit (.int .u8 0), .lit (.int .u8 0), .lit (.int .u8 3), .lit (.int .u8 3), .lit (.int .u8 0), .lit (.int .u8 3), .lit (.int .u8 3), .lit (.int .u8 0), .lit (.int .u8 4), .lit (.int .u8 4), .lit (.int .u8 4), .lit (.int .u8 4), .lit (.int .u8 4), .lit (.int .u8 4), .lit (.int .u8 4), .lit (.int .u8 4), .lit (.int .u8 4), .lit (.int .u8 4), .lit (.int .u8 0), .lit (.int .u8 0), .lit (.int .u8 0), .lit (.int .u8 0), .lit (.int .u8 0), .lit (.int .u8 0), .lit (.int .u8 0), .lit (.int .u8 6), .lit (.int .u8 6), .lit (.int .u8 6), .lit (.int .u8 6), .lit (.int .u8 6), .lit (.int .u8 6), .lit (.int .u8 6), .lit (.int .u8 6), .lit (.int .u8 6), .lit (.int .u8 6), .lit (.int .u8 6), .lit (.int .u8 6), .lit (.int .u8 6), .lit (.int .u8 6), .lit (.int .u8 6), .lit (.int .u8 6), .lit (.int .u8 6), .lit (.int .u8 6), .lit (.int .u8 6), .lit (.int .u8 6), .lit (.int .u8 6), .lit (.int .u8 6), .lit (.int .u8 6), .lit (.int .u8 6), .lit (.int .u8 6), .lit (.int .u8 6), .lit (.int .u8 0), .lit (.int .u8 0), .lit (.int .u8 0), .lit (.int .u8 3), .lit (.int .u8 5), .lit (.int .u8 0), .lit (.int .u8 7), .lit (.int .u8 7), .lit (.int .u8 7), .lit (.int .u8 7), .lit (.int .u8 7), .lit (.int .u8 7), .lit (.int .u8 7), .lit (.int .u8 7), .lit (.int .u8 7), .lit (.int .u8 7), .lit (.int .u8 7), .lit (.int .u8 7), .lit (.int .u8 7), .lit (.int .u8 7), .lit (.int .u8 7), .lit (.int .u8 7), .lit (.int .u8 7), .lit (.int .u8 7), .lit (.int .u8 7), .lit (.int .u8 7), .lit (.int .u8 7), .lit (.int .u8 7), .lit (.int .u8 7), .lit (.int .u8 7), .lit (.int .u8 7), .lit (.int .u8 7), .lit (.int .u8 0), .lit (.int .u8 3), .lit (.int .u8 0), .lit (.int .u8 3), .lit (.int .u8 1)]
/-- One of Go's own tables, pinned by name: the form's constant. -/
def laid_unicode_utf8_first : DataW Unit := Go.Pinned.utf8First

/-- 'laws.FnExactCookieOK': WHATEVER THE INPUT: true; the input reads as it did. -/
def fnExactCookieOKSpec : ChangeSpec := { name := "fnExactCookieOK", vars := ["loop.example/g00803/impl.byteClasses"], fn := fun _ => fun
  | [d, g1] => { results := [.lit (.bool true)], args := [d], vars := [g1] }
  | _ => none }
def fnExactCookieOKRow : OpenClaim := { program := "ytnbpcaoblpidjaadoor", sum := "d5d1beba1da831ed75a7494ae70464fcc9a9f12c2e09fb869d9f991a4c3273cc", func := "loop.example/g00803/laws.FnExactCookieOK", spec := "fnExactCookieOK", inPlace := ["internal/bytealg.IndexByteString", "internal/bytealg.IndexString"], named := ["loop.example/g00803/impl.byteClasses", "internal/bytealg.MaxLen", "unicode/utf8.first", "unicode/utf8.acceptRanges"], apart := false, laid := [("unicode/utf8.acceptRanges", laid_unicode_utf8_acceptRanges), ("loop.example/g00803/impl.byteClasses", laid_loop_example_g00803_impl_byteClasses), ("unicode/utf8.first", laid_unicode_utf8_first)] }
def FnExactCookieOKSaid : Prop := fnExactCookieOKRow.holds Tryd.pinned (OpenSpec.ofChange fnExactCookieOKSpec)

/-- ITS FALSE NEIGHBOUR: 'it returns false'. Refute it at one input. -/
def fnExactCookieOKWrong : ChangeSpec := { name := "fnExactCookieOK", vars := ["loop.example/g00803/impl.byteClasses"], fn := fun _ => fun
  | [d, g1] => { results := [.lit (.bool false)], args := [d], vars := [g1] }
  | _ => none }
def FnExactCookieOKWrongFalsely : Prop := fnExactCookieOKRow.holds Tryd.pinned (OpenSpec.ofChange fnExactCookieOKWrong)

/-- 'laws.FnExactSameKey': WHATEVER THE INPUT: true; the input reads as it did. -/
def fnExactSameKeySpec : ChangeSpec := { name := "fnExactSameKey", vars := ["loop.example/g00803/impl.byteClasses"], fn := fun _ => fun
  | [d1, d2, g1] => { results := [.lit (.bool true)], args := [d1, d2], vars := [g1] }
  | _ => none }
def fnExactSameKeyRow : OpenClaim := { program := "ytnbpcaoblpidjaadoor", sum := "d5d1beba1da831ed75a7494ae70464fcc9a9f12c2e09fb869d9f991a4c3273cc", func := "loop.example/g00803/laws.FnExactSameKey", spec := "fnExactSameKey", inPlace := ["internal/bytealg.IndexByteString", "internal/bytealg.IndexString"], named := ["loop.example/g00803/impl.byteClasses", "internal/bytealg.MaxLen", "unicode/utf8.first", "unicode/utf8.acceptRanges"], apart := false, laid := [("unicode/utf8.acceptRanges", laid_unicode_utf8_acceptRanges), ("loop.example/g00803/impl.byteClasses", laid_loop_example_g00803_impl_byteClasses), ("unicode/utf8.first", laid_unicode_utf8_first)] }
def FnExactSameKeySaid : Prop := fnExactSameKeyRow.holds Tryd.pinned (OpenSpec.ofChange fnExactSameKeySpec)

/-- ITS FALSE NEIGHBOUR: 'it returns false'. Refute it at one input. -/
def fnExactSameKeyWrong : ChangeSpec := { name := "fnExactSameKey", vars := ["loop.example/g00803/impl.byteClasses"], fn := fun _ => fun
  | [d1, d2, g1] => { results := [.lit (.bool false)], args := [d1, d2], vars := [g1] }
  | _ => none }
def FnExactSameKeyWrongFalsely : Prop := fnExactSameKeyRow.holds Tryd.pinned (OpenSpec.ofChange fnExactSameKeyWrong)

/-- 'laws.FnExactComesFirst': WHATEVER THE INPUT: true; the input reads as it did. -/
def fnExactComesFirstSpec : ChangeSpec := { name := "fnExactComesFirst", vars := ["loop.example/g00803/impl.byteClasses"], fn := fun _ => fun
  | [d1, d2, g1] => { results := [.lit (.bool true)], args := [d1, d2], vars := [g1] }
  | _ => none }
def fnExactComesFirstRow : OpenClaim := { program := "ytnbpcaoblpidjaadoor", sum := "d5d1beba1da831ed75a7494ae70464fcc9a9f12c2e09fb869d9f991a4c3273cc", func := "loop.example/g00803/laws.FnExactComesFirst", spec := "fnExactComesFirst", inPlace := ["internal/bytealg.IndexByteString", "internal/bytealg.IndexString"], unfollowed := true, recurses := true, named := ["loop.example/g00803/impl.byteClasses", "internal/bytealg.MaxLen", "unicode/utf8.first", "unicode/utf8.acceptRanges"], apart := false, laid := [("unicode/utf8.acceptRanges", laid_unicode_utf8_acceptRanges), ("loop.example/g00803/impl.byteClasses", laid_loop_example_g00803_impl_byteClasses), ("unicode/utf8.first", laid_unicode_utf8_first)] }
def FnExactComesFirstSaid : Prop := fnExactComesFirstRow.holds Tryd.pinned (OpenSpec.ofChange fnExactComesFirstSpec)

/-- ITS FALSE NEIGHBOUR: 'it returns false'. Refute it at one input. -/
def fnExactComesFirstWrong : ChangeSpec := { name := "fnExactComesFirst", vars := ["loop.example/g00803/impl.byteClasses"], fn := fun _ => fun
  | [d1, d2, g1] => { results := [.lit (.bool false)], args := [d1, d2], vars := [g1] }
  | _ => none }
def FnExactComesFirstWrongFalsely : Prop := fnExactComesFirstRow.holds Tryd.pinned (OpenSpec.ofChange fnExactComesFirstWrong)

/-- 'laws.FnExactGoesFirst': WHATEVER THE INPUT: true; the input reads as it did. -/
def fnExactGoesFirstSpec : ChangeSpec := { name := "fnExactGoesFirst", vars := ["loop.example/g00803/impl.byteClasses"], fn := fun _ => fun
  | [d1, d2, d3, g1] => { results := [.lit (.bool true)], args := [d1, d2, d3], vars := [g1] }
  | _ => none }
def fnExactGoesFirstRow : OpenClaim := { program := "ytnbpcaoblpidjaadoor", sum := "d5d1beba1da831ed75a7494ae70464fcc9a9f12c2e09fb869d9f991a4c3273cc", func := "loop.example/g00803/laws.FnExactGoesFirst", spec := "fnExactGoesFirst", inPlace := ["internal/bytealg.IndexByteString", "internal/bytealg.IndexString"], unfollowed := true, recurses := true, named := ["loop.example/g00803/impl.byteClasses", "internal/bytealg.MaxLen", "unicode/utf8.first", "unicode/utf8.acceptRanges"], apart := false, laid := [("unicode/utf8.acceptRanges", laid_unicode_utf8_acceptRanges), ("loop.example/g00803/impl.byteClasses", laid_loop_example_g00803_impl_byteClasses), ("unicode/utf8.first", laid_unicode_utf8_first)] }
def FnExactGoesFirstSaid : Prop := fnExactGoesFirstRow.holds Tryd.pinned (OpenSpec.ofChange fnExactGoesFirstSpec)

/-- ITS FALSE NEIGHBOUR: 'it returns false'. Refute it at one input. -/
def fnExactGoesFirstWrong : ChangeSpec := { name := "fnExactGoesFirst", vars := ["loop.example/g00803/impl.byteClasses"], fn := fun _ => fun
  | [d1, d2, d3, g1] => { results := [.lit (.bool false)], args := [d1, d2, d3], vars := [g1] }
  | _ => none }
def FnExactGoesFirstWrongFalsely : Prop := fnExactGoesFirstRow.holds Tryd.pinned (OpenSpec.ofChange fnExactGoesFirstWrong)

/-- 'laws.FnExactSortCookies': WHATEVER THE INPUT: true; the input reads as it did. -/
def fnExactSortCookiesSpec : ChangeSpec := { name := "fnExactSortCookies", vars := ["loop.example/g00803/impl.byteClasses"], fn := fun _ => fun
  | [d, g1] => { results := [.lit (.bool true)], args := [d], vars := [g1] }
  | _ => none }
def fnExactSortCookiesRow : OpenClaim := { program := "ytnbpcaoblpidjaadoor", sum := "d5d1beba1da831ed75a7494ae70464fcc9a9f12c2e09fb869d9f991a4c3273cc", func := "loop.example/g00803/laws.FnExactSortCookies", spec := "fnExactSortCookies", inPlace := ["internal/bytealg.IndexByteString", "internal/bytealg.IndexString"], unfollowed := true, recurses := true, named := ["loop.example/g00803/impl.byteClasses", "internal/bytealg.MaxLen", "unicode/utf8.first", "unicode/utf8.acceptRanges"], apart := false, laid := [("unicode/utf8.acceptRanges", laid_unicode_utf8_acceptRanges), ("loop.example/g00803/impl.byteClasses", laid_loop_example_g00803_impl_byteClasses), ("unicode/utf8.first", laid_unicode_utf8_first)] }
def FnExactSortCookiesSaid : Prop := fnExactSortCookiesRow.holds Tryd.pinned (OpenSpec.ofChange fnExactSortCookiesSpec)

/-- ITS FALSE NEIGHBOUR: 'it returns false'. Refute it at one input. -/
def fnExactSortCookiesWrong : ChangeSpec := { name := "fnExactSortCookies", vars := ["loop.example/g00803/impl.byteClasses"], fn := fun _ => fun
  | [d, g1] => { results := [.lit (.bool false)], args := [d], vars := [g1] }
  | _ => none }
def FnExactSortCookiesWrongFalsely : Prop := fnExactSortCookiesRow.holds Tryd.pinned (OpenSpec.ofChange fnExactSortCookiesWrong)

/-- 'laws.FnExactHeaderOf': WHATEVER THE INPUT: true; the input reads as it did. -/
def fnExactHeaderOfSpec : ChangeSpec := { name := "fnExactHeaderOf", vars := ["loop.example/g00803/impl.byteClasses"], fn := fun _ => fun
  | [d, g1] => { results := [.lit (.bool true)], args := [d], vars := [g1] }
  | _ => none }
def fnExactHeaderOfRow : OpenClaim := { program := "ytnbpcaoblpidjaadoor", sum := "d5d1beba1da831ed75a7494ae70464fcc9a9f12c2e09fb869d9f991a4c3273cc", func := "loop.example/g00803/laws.FnExactHeaderOf", spec := "fnExactHeaderOf", inPlace := ["internal/bytealg.IndexByteString", "internal/bytealg.IndexString", "internal/abi.NoEscape"], unfollowed := true, recurses := true, named := ["loop.example/g00803/impl.byteClasses", "internal/bytealg.MaxLen", "unicode/utf8.first", "unicode/utf8.acceptRanges"], apart := false, laid := [("unicode/utf8.acceptRanges", laid_unicode_utf8_acceptRanges), ("loop.example/g00803/impl.byteClasses", laid_loop_example_g00803_impl_byteClasses), ("unicode/utf8.first", laid_unicode_utf8_first)] }
def FnExactHeaderOfSaid : Prop := fnExactHeaderOfRow.holds Tryd.pinned (OpenSpec.ofChange fnExactHeaderOfSpec)

/-- ITS FALSE NEIGHBOUR: 'it returns false'. Refute it at one input. -/
def fnExactHeaderOfWrong : ChangeSpec := { name := "fnExactHeaderOf", vars := ["loop.example/g00803/impl.byteClasses"], fn := fun _ => fun
  | [d, g1] => { results := [.lit (.bool false)], args := [d], vars := [g1] }
  | _ => none }
def FnExactHeaderOfWrongFalsely : Prop := fnExactHeaderOfRow.holds Tryd.pinned (OpenSpec.ofChange fnExactHeaderOfWrong)

/- THE SECOND FORM. 'bulk': how many values and letters a reading holds, each counted each time it is reached (what is shared counts as often as it is met; a slice's spare places count too). A statement '..UptoSaid' is the law's where the arguments, and the package variables that the reading takes, are together of bulk at most 1048576: NARROWER than '..Said'. Prove '..Said' where nothing that the law and all that it calls make is longer than what came in: it says more and counts as full. Else prove '..UptoSaid'. A law counts once. -/
mutual
def uptoBulk {H : Type} : DataW H → Nat
  | .lit (.string bytes) => bytes.length + 1
  | .lit _ => 1
  | .nil => 1
  | .ptr d => uptoBulk d + 1
  | .slice elems spare => uptoBulkAll elems + uptoBulkAll spare + 1
  | .agg parts => uptoBulkAll parts + 1
  | .iface _ d => uptoBulk d + 1
  | .map entries => uptoBulkEntries entries + 1
  | .held _ => 1
def uptoBulkAll {H : Type} : List (DataW H) → Nat
  | [] => 0
  | d :: r => uptoBulk d + uptoBulkAll r
def uptoBulkEntries {H : Type} : List (Lit × DataW H) → Nat
  | [] => 0
  | x :: r => uptoBulkEntry x + uptoBulkEntries r
def uptoBulkEntry {H : Type} : Lit × DataW H → Nat
  | (.string bytes, d) => bytes.length + uptoBulk d + 1
  | (_, d) => uptoBulk d + 1
 end
def uptoSmall : (H : Type) → List (DataW H) → Bool := fun _ ds => decide (uptoBulkAll ds ≤ 1048576)
def OpenSpec.upto (s : _root_.Go.ChangeSpec) : _root_.Go.OpenSpec := { _root_.Go.OpenSpec.ofChange s with cond := some uptoSmall }

/-- 'laws.FnExactCookieOK', WHERE WHAT IT READS IS OF BULK AT MOST 1048576: true; the input reads as it did. -/
def fnExactCookieOKUptoRow : OpenClaim := { program := "ytnbpcaoblpidjaadoor", sum := "d5d1beba1da831ed75a7494ae70464fcc9a9f12c2e09fb869d9f991a4c3273cc", func := "loop.example/g00803/laws.FnExactCookieOK", spec := "fnExactCookieOK", inPlace := ["internal/bytealg.IndexByteString", "internal/bytealg.IndexString"], named := ["loop.example/g00803/impl.byteClasses", "internal/bytealg.MaxLen", "unicode/utf8.first", "unicode/utf8.acceptRanges"], apart := false, laid := [("unicode/utf8.acceptRanges", laid_unicode_utf8_acceptRanges), ("loop.example/g00803/impl.byteClasses", laid_loop_example_g00803_impl_byteClasses), ("unicode/utf8.first", laid_unicode_utf8_first)], narrowed := true }
def FnExactCookieOKUptoSaid : Prop := fnExactCookieOKUptoRow.holds Tryd.pinned (OpenSpec.upto fnExactCookieOKSpec)

/-- 'laws.FnExactSameKey', WHERE WHAT IT READS IS OF BULK AT MOST 1048576: true; the input reads as it did. -/
def fnExactSameKeyUptoRow : OpenClaim := { program := "ytnbpcaoblpidjaadoor", sum := "d5d1beba1da831ed75a7494ae70464fcc9a9f12c2e09fb869d9f991a4c3273cc", func := "loop.example/g00803/laws.FnExactSameKey", spec := "fnExactSameKey", inPlace := ["internal/bytealg.IndexByteString", "internal/bytealg.IndexString"], named := ["loop.example/g00803/impl.byteClasses", "internal/bytealg.MaxLen", "unicode/utf8.first", "unicode/utf8.acceptRanges"], apart := false, laid := [("unicode/utf8.acceptRanges", laid_unicode_utf8_acceptRanges), ("loop.example/g00803/impl.byteClasses", laid_loop_example_g00803_impl_byteClasses), ("unicode/utf8.first", laid_unicode_utf8_first)], narrowed := true }
def FnExactSameKeyUptoSaid : Prop := fnExactSameKeyUptoRow.holds Tryd.pinned (OpenSpec.upto fnExactSameKeySpec)

/-- 'laws.FnExactComesFirst', WHERE WHAT IT READS IS OF BULK AT MOST 1048576: true; the input reads as it did. -/
def fnExactComesFirstUptoRow : OpenClaim := { program := "ytnbpcaoblpidjaadoor", sum := "d5d1beba1da831ed75a7494ae70464fcc9a9f12c2e09fb869d9f991a4c3273cc", func := "loop.example/g00803/laws.FnExactComesFirst", spec := "fnExactComesFirst", inPlace := ["internal/bytealg.IndexByteString", "internal/bytealg.IndexString"], unfollowed := true, recurses := true, named := ["loop.example/g00803/impl.byteClasses", "internal/bytealg.MaxLen", "unicode/utf8.first", "unicode/utf8.acceptRanges"], apart := false, laid := [("unicode/utf8.acceptRanges", laid_unicode_utf8_acceptRanges), ("loop.example/g00803/impl.byteClasses", laid_loop_example_g00803_impl_byteClasses), ("unicode/utf8.first", laid_unicode_utf8_first)], narrowed := true }
def FnExactComesFirstUptoSaid : Prop := fnExactComesFirstUptoRow.holds Tryd.pinned (OpenSpec.upto fnExactComesFirstSpec)

/-- 'laws.FnExactGoesFirst', WHERE WHAT IT READS IS OF BULK AT MOST 1048576: true; the input reads as it did. -/
def fnExactGoesFirstUptoRow : OpenClaim := { program := "ytnbpcaoblpidjaadoor", sum := "d5d1beba1da831ed75a7494ae70464fcc9a9f12c2e09fb869d9f991a4c3273cc", func := "loop.example/g00803/laws.FnExactGoesFirst", spec := "fnExactGoesFirst", inPlace := ["internal/bytealg.IndexByteString", "internal/bytealg.IndexString"], unfollowed := true, recurses := true, named := ["loop.example/g00803/impl.byteClasses", "internal/bytealg.MaxLen", "unicode/utf8.first", "unicode/utf8.acceptRanges"], apart := false, laid := [("unicode/utf8.acceptRanges", laid_unicode_utf8_acceptRanges), ("loop.example/g00803/impl.byteClasses", laid_loop_example_g00803_impl_byteClasses), ("unicode/utf8.first", laid_unicode_utf8_first)], narrowed := true }
def FnExactGoesFirstUptoSaid : Prop := fnExactGoesFirstUptoRow.holds Tryd.pinned (OpenSpec.upto fnExactGoesFirstSpec)

/-- 'laws.FnExactSortCookies', WHERE WHAT IT READS IS OF BULK AT MOST 1048576: true; the input reads as it did. -/
def fnExactSortCookiesUptoRow : OpenClaim := { program := "ytnbpcaoblpidjaadoor", sum := "d5d1beba1da831ed75a7494ae70464fcc9a9f12c2e09fb869d9f991a4c3273cc", func := "loop.example/g00803/laws.FnExactSortCookies", spec := "fnExactSortCookies", inPlace := ["internal/bytealg.IndexByteString", "internal/bytealg.IndexString"], unfollowed := true, recurses := true, named := ["loop.example/g00803/impl.byteClasses", "internal/bytealg.MaxLen", "unicode/utf8.first", "unicode/utf8.acceptRanges"], apart := false, laid := [("unicode/utf8.acceptRanges", laid_unicode_utf8_acceptRanges), ("loop.example/g00803/impl.byteClasses", laid_loop_example_g00803_impl_byteClasses), ("unicode/utf8.first", laid_unicode_utf8_first)], narrowed := true }
def FnExactSortCookiesUptoSaid : Prop := fnExactSortCookiesUptoRow.holds Tryd.pinned (OpenSpec.upto fnExactSortCookiesSpec)

/-- 'laws.FnExactHeaderOf', WHERE WHAT IT READS IS OF BULK AT MOST 1048576: true; the input reads as it did. -/
def fnExactHeaderOfUptoRow : OpenClaim := { program := "ytnbpcaoblpidjaadoor", sum := "d5d1beba1da831ed75a7494ae70464fcc9a9f12c2e09fb869d9f991a4c3273cc", func := "loop.example/g00803/laws.FnExactHeaderOf", spec := "fnExactHeaderOf", inPlace := ["internal/bytealg.IndexByteString", "internal/bytealg.IndexString", "internal/abi.NoEscape"], unfollowed := true, recurses := true, named := ["loop.example/g00803/impl.byteClasses", "internal/bytealg.MaxLen", "unicode/utf8.first", "unicode/utf8.acceptRanges"], apart := false, laid := [("unicode/utf8.acceptRanges", laid_unicode_utf8_acceptRanges), ("loop.example/g00803/impl.byteClasses", laid_loop_example_g00803_impl_byteClasses), ("unicode/utf8.first", laid_unicode_utf8_first)], narrowed := true }
def FnExactHeaderOfUptoSaid : Prop := fnExactHeaderOfUptoRow.holds Tryd.pinned (OpenSpec.upto fnExactHeaderOfSpec)

end Rows
end Go.Proofs.YtnbpcaoblpidjaaDoor
