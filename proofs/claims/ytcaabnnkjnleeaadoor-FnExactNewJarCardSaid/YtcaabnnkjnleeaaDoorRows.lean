/-
  NARROWER THAN 'FOR EVERY INPUT', by the rows' own cells (each row's printed sentence says how): FnExactTrieOK: loops, laid · FnExactTrieAll: loops, laid · FnExactTrieNodes: loops, laid · FnExactSameTrie: loops, laid · FnExactNewJar: laid · FnExactRequestOK: laid.
  DERIVED. THE GIVEN ROWS OF THIS SEAT. 6 by the template 'for every input the law returns true; each argument reads behind the call as it read before'; 0 by the template 'total and deterministic' (their statements: YtcaabnnkjnleeaaDoorTotals.lean).
  GIVEN WITH THE SEED: the statements are not yours to turn. If you find one false, say at which input.
  Laid BY PROGRAM, IN A SANDBOX (cutbox-rows.mjs): the forced cells as the released guide's own fill.sh prints them over the translation 2d4535409d9650d4… (all of the seat's roots in one cut). By AI agents, Wed Nov 11 2026. No macro, syntax, notation, axiom, sorry.
-/
import Derived.Test.YtcaabnnkjnleeaaDoorChecked
import GoSem.Claim
import GoSem.ClaimJoined
import GoSem.ClaimMapViews
import Derived.JoinedTies
import Derived.KernelRfl
namespace Go.Proofs.YtcaabnnkjnleeaaDoor
/- THE CELL 'sum', in the pinned program and in every row, IS THE sha256 OF THE DUMP (.gsa) THAT YtcaabnnkjnleeaaDoorProg.lean LOADS. Nothing in Lean hashes anything: it is a label: what it is worth is what the hold of that sum in a sandbox is worth. -/
noncomputable def Tryd.pinned : Pinned := { name := "ytcaabnnkjnleeaadoor", sum := "2d4535409d9650d41d07459aa246994eca4cedc4a18310b06d2ff93dfe181793", checked := Tryd.checked }
namespace Rows
def none {H : Type} : Left H := { results := [], args := [] }

/- WHAT THE LISTED PACKAGE-LEVEL VARIABLES READ AS WHEN THE CALL BEGINS. Each datum BY PROGRAM (the guide's laid-datum.mjs) off the statement by which the dump's own 'gosem.cut.vars' lays the variable. In a bare row this is a premise. The card (YtcaabnnkjnleeaaDoorCards.lean) ties it to the program's text. -/
def laid_loop_example_g00803_impl_byteClasses {H : Type} : DataW H := .agg [.lit (.int .u8 1), .lit (.int .u8 1), .lit (.int .u8 1), .lit (.int .u8 1), .lit (.int .u8 1), .lit (.int .u8 1), .lit (.int .u8 1), .lit (.int .u8 1), .lit (.int .u8 1), .lit (.int .u8 2), .lit (.int .u8 1), .lit (.int .u8 1), .lit (.int .u8 1), .lit (.int .u8 1), .lit (.int .u8 1), .lit (.int .u8 1), .lit (.int .u8 1), .lit (.int .u8 1), .lit (.int .u8 1), .lit (.int .u8 1), .lit (.int .u8 1), .lit (.int .u8 1), .lit (.int .u8 1), .lit (.int .u8 1), .lit (.int .u8 1), .lit (.int .u8 1), .lit (.int .u8 1), .lit (.int .u8 1), .lit (.int .u8 1), .lit (.int .u8 1), .lit (.int .u8 1), .lit (.int .u8 1), .lit (.int .u8 2), .lit (.int .u8 3), .lit (.int .u8 0), .lit (.int .u8 3), .lit (.int .u8 3), .lit (.int .u8 3), .lit (.int .u8 3), .lit (.int .u8 3), .lit (.int .u8 0), .lit (.int .u8 0), .lit (.int .u8 3), .lit (.int .u8 3), .lit (.int .u8 0), .lit (.int .u8 3), .lit (.int .u8 3), .lit (.int .u8 0), .lit (.int .u8 4), .lit (.int .u8 4), .lit (.int .u8 4), .lit (.int .u8 4), .lit (.int .u8 4), .lit (.int .u8 4), .lit (.int .u8 4), .lit (.int .u8 4), .lit (.int .u8 4), .lit (.int .u8 4), .lit (.int .u8 0), .lit (.int .u8 0), .lit (.int .u8 0), .lit (.int .u8 0), .lit (.int .u8 0), .lit (.int .u8 0), .lit (.int .u8 0), .lit (.int .u8 6), .lit (.int .u8 6), .lit (.int .u8 6), .lit (.int .u8 6), .lit (.int .u8 6), .lit (.int .u8 6), .lit (.int .u8 6), .lit (.int .u8 6), .lit (.int .u8 6), .lit (.int .u8 6), .lit (.int .u8 6), .lit (.int .u8 6), .lit (.int .u8 6), .lit (.int .u8 6), .lit (.int .u8 6), .lit (.int .u8 6), .lit (.int .u8 6), .lit (.int .u8 6), .lit (.int .u8 6), .lit (.int .u8 6), .lit (.int .u8 6), .lit (.int .u8 6), .lit (.int .u8 6), .lit (.int .u8 6), .lit (.int .u8 6), .lit (.int .u8 6), .lit (.int .u8 0), .lit (.int .u8 0), .lit (.int .u8 0), .lit (.int .u8 3), .lit (.int .u8 5), .lit (.int .u8 0), .lit (.int .u8 7), .lit (.int .u8 7), .lit (.int .u8 7), .lit (.int .u8 7), .lit (.int .u8 7), .lit (.int .u8 7), .lit (.int .u8 7), .lit (.int .u8 7), .lit (.int .u8 7), .lit (.int .u8 7), .lit (.int .u8 7), .lit (.int .u8 7), .lit (.int .u8 7), .lit (.int .u8 7), .lit (.int .u8 7), .lit (.int .u8 7), .lit (.int .u8 7), .lit (.int .u8 7), .lit (.int .u8 7), .lit (.int .u8 7), .lit (.int .u8 7), .lit (.int .u8 7), .lit (.int .u8 7), .lit (.int .u8 7), .lit (.int .u8 7), .lit (.int .u8 7), .lit (.int .u8 0), .lit (.int .u8 3), .lit (.int .u8 0), .lit (.int .u8 3), .lit (.int .u8 1)]

/-- 'laws.FnExactTrieOK': WHATEVER THE INPUT: true; the input reads as it did. -/
def fnExactTrieOKSpec : ChangeSpec := { name := "fnExactTrieOK", vars := ["loop.example/g00803/impl.byteClasses"], fn := fun _ => fun
  | [d, g1] => { results := [.lit (.bool true)], args := [d], vars := [g1] }
  | _ => none }
def fnExactTrieOKRow : OpenClaim := { program := "ytcaabnnkjnleeaadoor", sum := "2d4535409d9650d41d07459aa246994eca4cedc4a18310b06d2ff93dfe181793", func := "loop.example/g00803/laws.FnExactTrieOK", spec := "fnExactTrieOK", inPlace := ["internal/bytealg.IndexByteString", "internal/bytealg.IndexString"], unfollowed := true, recurses := true, named := ["loop.example/g00803/impl.byteClasses", "internal/bytealg.MaxLen"], loops := true, apart := false, laid := [("loop.example/g00803/impl.byteClasses", laid_loop_example_g00803_impl_byteClasses)] }
def FnExactTrieOKSaid : Prop := fnExactTrieOKRow.holds Tryd.pinned (OpenSpec.ofChange fnExactTrieOKSpec)

/-- ITS FALSE NEIGHBOUR: 'it returns false'. Refute it at one input. -/
def fnExactTrieOKWrong : ChangeSpec := { name := "fnExactTrieOK", vars := ["loop.example/g00803/impl.byteClasses"], fn := fun _ => fun
  | [d, g1] => { results := [.lit (.bool false)], args := [d], vars := [g1] }
  | _ => none }
def FnExactTrieOKWrongFalsely : Prop := fnExactTrieOKRow.holds Tryd.pinned (OpenSpec.ofChange fnExactTrieOKWrong)

/-- 'laws.FnExactTrieAll': WHATEVER THE INPUT: true; the input reads as it did. -/
def fnExactTrieAllSpec : ChangeSpec := { name := "fnExactTrieAll", vars := ["loop.example/g00803/impl.byteClasses"], fn := fun _ => fun
  | [d, g1] => { results := [.lit (.bool true)], args := [d], vars := [g1] }
  | _ => none }
def fnExactTrieAllRow : OpenClaim := { program := "ytcaabnnkjnleeaadoor", sum := "2d4535409d9650d41d07459aa246994eca4cedc4a18310b06d2ff93dfe181793", func := "loop.example/g00803/laws.FnExactTrieAll", spec := "fnExactTrieAll", inPlace := ["internal/bytealg.IndexByteString", "internal/bytealg.IndexString"], unfollowed := true, recurses := true, named := ["loop.example/g00803/impl.byteClasses", "internal/bytealg.MaxLen"], loops := true, apart := false, laid := [("loop.example/g00803/impl.byteClasses", laid_loop_example_g00803_impl_byteClasses)] }
def FnExactTrieAllSaid : Prop := fnExactTrieAllRow.holds Tryd.pinned (OpenSpec.ofChange fnExactTrieAllSpec)

/-- ITS FALSE NEIGHBOUR: 'it returns false'. Refute it at one input. -/
def fnExactTrieAllWrong : ChangeSpec := { name := "fnExactTrieAll", vars := ["loop.example/g00803/impl.byteClasses"], fn := fun _ => fun
  | [d, g1] => { results := [.lit (.bool false)], args := [d], vars := [g1] }
  | _ => none }
def FnExactTrieAllWrongFalsely : Prop := fnExactTrieAllRow.holds Tryd.pinned (OpenSpec.ofChange fnExactTrieAllWrong)

/-- 'laws.FnExactTrieNodes': WHATEVER THE INPUT: true; the input reads as it did. -/
def fnExactTrieNodesSpec : ChangeSpec := { name := "fnExactTrieNodes", vars := ["loop.example/g00803/impl.byteClasses"], fn := fun _ => fun
  | [d, g1] => { results := [.lit (.bool true)], args := [d], vars := [g1] }
  | _ => none }
def fnExactTrieNodesRow : OpenClaim := { program := "ytcaabnnkjnleeaadoor", sum := "2d4535409d9650d41d07459aa246994eca4cedc4a18310b06d2ff93dfe181793", func := "loop.example/g00803/laws.FnExactTrieNodes", spec := "fnExactTrieNodes", inPlace := ["internal/bytealg.IndexByteString", "internal/bytealg.IndexString"], unfollowed := true, recurses := true, named := ["loop.example/g00803/impl.byteClasses", "internal/bytealg.MaxLen"], loops := true, apart := false, laid := [("loop.example/g00803/impl.byteClasses", laid_loop_example_g00803_impl_byteClasses)] }
def FnExactTrieNodesSaid : Prop := fnExactTrieNodesRow.holds Tryd.pinned (OpenSpec.ofChange fnExactTrieNodesSpec)

/-- ITS FALSE NEIGHBOUR: 'it returns false'. Refute it at one input. -/
def fnExactTrieNodesWrong : ChangeSpec := { name := "fnExactTrieNodes", vars := ["loop.example/g00803/impl.byteClasses"], fn := fun _ => fun
  | [d, g1] => { results := [.lit (.bool false)], args := [d], vars := [g1] }
  | _ => none }
def FnExactTrieNodesWrongFalsely : Prop := fnExactTrieNodesRow.holds Tryd.pinned (OpenSpec.ofChange fnExactTrieNodesWrong)

/-- 'laws.FnExactSameTrie': WHATEVER THE INPUT: true; the input reads as it did. -/
def fnExactSameTrieSpec : ChangeSpec := { name := "fnExactSameTrie", vars := ["loop.example/g00803/impl.byteClasses"], fn := fun _ => fun
  | [d1, d2, g1] => { results := [.lit (.bool true)], args := [d1, d2], vars := [g1] }
  | _ => none }
def fnExactSameTrieRow : OpenClaim := { program := "ytcaabnnkjnleeaadoor", sum := "2d4535409d9650d41d07459aa246994eca4cedc4a18310b06d2ff93dfe181793", func := "loop.example/g00803/laws.FnExactSameTrie", spec := "fnExactSameTrie", inPlace := ["internal/bytealg.IndexByteString", "internal/bytealg.IndexString"], unfollowed := true, recurses := true, named := ["loop.example/g00803/impl.byteClasses", "internal/bytealg.MaxLen"], loops := true, apart := false, laid := [("loop.example/g00803/impl.byteClasses", laid_loop_example_g00803_impl_byteClasses)] }
def FnExactSameTrieSaid : Prop := fnExactSameTrieRow.holds Tryd.pinned (OpenSpec.ofChange fnExactSameTrieSpec)

/-- ITS FALSE NEIGHBOUR: 'it returns false'. Refute it at one input. -/
def fnExactSameTrieWrong : ChangeSpec := { name := "fnExactSameTrie", vars := ["loop.example/g00803/impl.byteClasses"], fn := fun _ => fun
  | [d1, d2, g1] => { results := [.lit (.bool false)], args := [d1, d2], vars := [g1] }
  | _ => none }
def FnExactSameTrieWrongFalsely : Prop := fnExactSameTrieRow.holds Tryd.pinned (OpenSpec.ofChange fnExactSameTrieWrong)

/-- 'laws.FnExactNewJar': WHATEVER THE INPUT: true; the input reads as it did. -/
def fnExactNewJarSpec : ChangeSpec := { name := "fnExactNewJar", vars := ["loop.example/g00803/impl.byteClasses"], fn := fun _ => fun
  | [d1, d2, d3, g1] => { results := [.lit (.bool true)], args := [d1, d2, d3], vars := [g1] }
  | _ => none }
def fnExactNewJarRow : OpenClaim := { program := "ytcaabnnkjnleeaadoor", sum := "2d4535409d9650d41d07459aa246994eca4cedc4a18310b06d2ff93dfe181793", func := "loop.example/g00803/laws.FnExactNewJar", spec := "fnExactNewJar", unfollowed := true, recurses := true, named := ["loop.example/g00803/impl.byteClasses"], apart := false, laid := [("loop.example/g00803/impl.byteClasses", laid_loop_example_g00803_impl_byteClasses)] }
def FnExactNewJarSaid : Prop := fnExactNewJarRow.holds Tryd.pinned (OpenSpec.ofChange fnExactNewJarSpec)

/-- ITS FALSE NEIGHBOUR: 'it returns false'. Refute it at one input. -/
def fnExactNewJarWrong : ChangeSpec := { name := "fnExactNewJar", vars := ["loop.example/g00803/impl.byteClasses"], fn := fun _ => fun
  | [d1, d2, d3, g1] => { results := [.lit (.bool false)], args := [d1, d2, d3], vars := [g1] }
  | _ => none }
def FnExactNewJarWrongFalsely : Prop := fnExactNewJarRow.holds Tryd.pinned (OpenSpec.ofChange fnExactNewJarWrong)

/-- 'laws.FnExactRequestOK': WHATEVER THE INPUT: true; the input reads as it did. -/
def fnExactRequestOKSpec : ChangeSpec := { name := "fnExactRequestOK", vars := ["loop.example/g00803/impl.byteClasses"], fn := fun _ => fun
  | [d, g1] => { results := [.lit (.bool true)], args := [d], vars := [g1] }
  | _ => none }
def fnExactRequestOKRow : OpenClaim := { program := "ytcaabnnkjnleeaadoor", sum := "2d4535409d9650d41d07459aa246994eca4cedc4a18310b06d2ff93dfe181793", func := "loop.example/g00803/laws.FnExactRequestOK", spec := "fnExactRequestOK", named := ["loop.example/g00803/impl.byteClasses"], apart := false, laid := [("loop.example/g00803/impl.byteClasses", laid_loop_example_g00803_impl_byteClasses)] }
def FnExactRequestOKSaid : Prop := fnExactRequestOKRow.holds Tryd.pinned (OpenSpec.ofChange fnExactRequestOKSpec)

/-- ITS FALSE NEIGHBOUR: 'it returns false'. Refute it at one input. -/
def fnExactRequestOKWrong : ChangeSpec := { name := "fnExactRequestOK", vars := ["loop.example/g00803/impl.byteClasses"], fn := fun _ => fun
  | [d, g1] => { results := [.lit (.bool false)], args := [d], vars := [g1] }
  | _ => none }
def FnExactRequestOKWrongFalsely : Prop := fnExactRequestOKRow.holds Tryd.pinned (OpenSpec.ofChange fnExactRequestOKWrong)

/- THE SECOND FORM. 'bulk': how many values and letters a reading holds, each counted each time it is reached (what is shared counts as often as it is met; a slice's spare places count too). A statement '..UptoSaid' is the law's where the arguments, and the package variables that the reading takes, are together of bulk at most 1048576: NARROWER than '..Said'. Prove '..Said' where nothing that the law and all that it calls make is longer than what came in: it says more and counts as full. Else prove '..UptoSaid'. A law counts once. -/
mutual
def uptoBulk {H : Type} : DataW H → Nat
  | .lit (.string bytes) => bytes.length + 1
  | .lit _ => 1
  | .nil => 1
  | .ptr d => uptoBulk d + 1
  | .slice elems spare => uptoBulkAll elems + uptoBulkAll spare + 1
  | .agg parts => uptoBulkAll parts + 1
  | .iface _ d => uptoBulk d + 1
  | .map entries => uptoBulkEntries entries + 1
  | .held _ => 1
def uptoBulkAll {H : Type} : List (DataW H) → Nat
  | [] => 0
  | d :: r => uptoBulk d + uptoBulkAll r
def uptoBulkEntries {H : Type} : List (Lit × DataW H) → Nat
  | [] => 0
  | x :: r => uptoBulkEntry x + uptoBulkEntries r
def uptoBulkEntry {H : Type} : Lit × DataW H → Nat
  | (.string bytes, d) => bytes.length + uptoBulk d + 1
  | (_, d) => uptoBulk d + 1
 end
def uptoSmall : (H : Type) → List (DataW H) → Bool := fun _ ds => decide (uptoBulkAll ds ≤ 1048576)
def OpenSpec.upto (s : _root_.Go.ChangeSpec) : _root_.Go.OpenSpec := { _root_.Go.OpenSpec.ofChange s with cond := some uptoSmall }

/-- 'laws.FnExactTrieOK', WHERE WHAT IT READS IS OF BULK AT MOST 1048576: true; the input reads as it did. -/
def fnExactTrieOKUptoRow : OpenClaim := { program := "ytcaabnnkjnleeaadoor", sum := "2d4535409d9650d41d07459aa246994eca4cedc4a18310b06d2ff93dfe181793", func := "loop.example/g00803/laws.FnExactTrieOK", spec := "fnExactTrieOK", inPlace := ["internal/bytealg.IndexByteString", "internal/bytealg.IndexString"], unfollowed := true, recurses := true, named := ["loop.example/g00803/impl.byteClasses", "internal/bytealg.MaxLen"], loops := true, apart := false, laid := [("loop.example/g00803/impl.byteClasses", laid_loop_example_g00803_impl_byteClasses)], narrowed := true }
def FnExactTrieOKUptoSaid : Prop := fnExactTrieOKUptoRow.holds Tryd.pinned (OpenSpec.upto fnExactTrieOKSpec)

/-- 'laws.FnExactTrieAll', WHERE WHAT IT READS IS OF BULK AT MOST 1048576: true; the input reads as it did. -/
def fnExactTrieAllUptoRow : OpenClaim := { program := "ytcaabnnkjnleeaadoor", sum := "2d4535409d9650d41d07459aa246994eca4cedc4a18310b06d2ff93dfe181793", func := "loop.example/g00803/laws.FnExactTrieAll", spec := "fnExactTrieAll", inPlace := ["internal/bytealg.IndexByteString", "internal/bytealg.IndexString"], unfollowed := true, recurses := true, named := ["loop.example/g00803/impl.byteClasses", "internal/bytealg.MaxLen"], loops := true, apart := false, laid := [("loop.example/g00803/impl.byteClasses", laid_loop_example_g00803_impl_byteClasses)], narrowed := true }
def FnExactTrieAllUptoSaid : Prop := fnExactTrieAllUptoRow.holds Tryd.pinned (OpenSpec.upto fnExactTrieAllSpec)

/-- 'laws.FnExactTrieNodes', WHERE WHAT IT READS IS OF BULK AT MOST 1048576: true; the input reads as it did. -/
def fnExactTrieNodesUptoRow : OpenClaim := { program := "ytcaabnnkjnleeaadoor", sum := "2d4535409d9650d41d07459aa246994eca4cedc4a18310b06d2ff93dfe181793", func := "loop.example/g00803/laws.FnExactTrieNodes", spec := "fnExactTrieNodes", inPlace := ["internal/bytealg.IndexByteString", "internal/bytealg.IndexString"], unfollowed := true, recurses := true, named := ["loop.example/g00803/impl.byteClasses", "internal/bytealg.MaxLen"], loops := true, apart := false, laid := [("loop.example/g00803/impl.byteClasses", laid_loop_example_g00803_impl_byteClasses)], narrowed := true }
def FnExactTrieNodesUptoSaid : Prop := fnExactTrieNodesUptoRow.holds Tryd.pinned (OpenSpec.upto fnExactTrieNodesSpec)

/-- 'laws.FnExactSameTrie', WHERE WHAT IT READS IS OF BULK AT MOST 1048576: true; the input reads as it did. -/
def fnExactSameTrieUptoRow : OpenClaim := { program := "ytcaabnnkjnleeaadoor", sum := "2d4535409d9650d41d07459aa246994eca4cedc4a18310b06d2ff93dfe181793", func := "loop.example/g00803/laws.FnExactSameTrie", spec := "fnExactSameTrie", inPlace := ["internal/bytealg.IndexByteString", "internal/bytealg.IndexString"], unfollowed := true, recurses := true, named := ["loop.example/g00803/impl.byteClasses", "internal/bytealg.MaxLen"], loops := true, apart := false, laid := [("loop.example/g00803/impl.byteClasses", laid_loop_example_g00803_impl_byteClasses)], narrowed := true }
def FnExactSameTrieUptoSaid : Prop := fnExactSameTrieUptoRow.holds Tryd.pinned (OpenSpec.upto fnExactSameTrieSpec)

/-- 'laws.FnExactNewJar', WHERE WHAT IT READS IS OF BULK AT MOST 1048576: true; the input reads as it did. -/
def fnExactNewJarUptoRow : OpenClaim := { program := "ytcaabnnkjnleeaadoor", sum := "2d4535409d9650d41d07459aa246994eca4cedc4a18310b06d2ff93dfe181793", func := "loop.example/g00803/laws.FnExactNewJar", spec := "fnExactNewJar", unfollowed := true, recurses := true, named := ["loop.example/g00803/impl.byteClasses"], apart := false, laid := [("loop.example/g00803/impl.byteClasses", laid_loop_example_g00803_impl_byteClasses)], narrowed := true }
def FnExactNewJarUptoSaid : Prop := fnExactNewJarUptoRow.holds Tryd.pinned (OpenSpec.upto fnExactNewJarSpec)

/-- 'laws.FnExactRequestOK', WHERE WHAT IT READS IS OF BULK AT MOST 1048576: true; the input reads as it did. -/
def fnExactRequestOKUptoRow : OpenClaim := { program := "ytcaabnnkjnleeaadoor", sum := "2d4535409d9650d41d07459aa246994eca4cedc4a18310b06d2ff93dfe181793", func := "loop.example/g00803/laws.FnExactRequestOK", spec := "fnExactRequestOK", named := ["loop.example/g00803/impl.byteClasses"], apart := false, laid := [("loop.example/g00803/impl.byteClasses", laid_loop_example_g00803_impl_byteClasses)], narrowed := true }
def FnExactRequestOKUptoSaid : Prop := fnExactRequestOKUptoRow.holds Tryd.pinned (OpenSpec.upto fnExactRequestOKSpec)

end Rows
end Go.Proofs.YtcaabnnkjnleeaaDoor
