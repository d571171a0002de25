/-
  No cell of these rows narrows 'for every input' (looked for: loops, veiled, ifaces, maps, wideKeys, modest, calm, conditions, laid).
  DERIVED. THE GIVEN ROWS OF THIS SEAT. 3 by the template 'for every input the law returns true; each argument reads behind the call as it read before'; 0 by the template 'total and deterministic' (their statements: YtmmmipkccnmmdaaTotals.lean).
  GIVEN WITH THE SEED: the statements are not yours to turn. If you find one false, say at which input.
  Laid BY PROGRAM, IN A SANDBOX (cutbox-rows.mjs): the forced cells as the released guide's own fill.sh prints them over the translation 5cb9a47974f897a8… (all of the seat's roots in one cut). By AI agents, Wed Nov 11 2026. No macro, syntax, notation, axiom, sorry.
-/
import Derived.Test.YtmmmipkccnmmdaaChecked
import GoSem.Claim
import GoSem.ClaimJoined
import GoSem.ClaimMapViews
import Derived.JoinedTies
import Derived.KernelRfl
namespace Go.Proofs.Ytmmmipkccnmmdaa
/- THE CELL 'sum', in the pinned program and in every row, IS THE sha256 OF THE DUMP (.gsa) THAT YtmmmipkccnmmdaaProg.lean LOADS. Nothing in Lean hashes anything: it is a label: what it is worth is what the hold of that sum in a sandbox is worth. -/
noncomputable def Try.pinned : Pinned := { name := "ytmmmipkccnmmdaa", sum := "5cb9a47974f897a844cac14821cfd5bfcf1190421cbdde51aae7a72c03956a89", checked := Try.checked }
namespace Rows
def none {H : Type} : Left H := { results := [], args := [] }

/-- 'laws.FnPaths': WHATEVER THE INPUT: true; the input reads as it did. -/
def fnPathsSpec : ChangeSpec := { name := "fnPaths", fn := fun _ => fun
  | [d1, d2] => { results := [.lit (.bool true)], args := [d1, d2] }
  | _ => none }
def fnPathsRow : OpenClaim := { program := "ytmmmipkccnmmdaa", sum := "5cb9a47974f897a844cac14821cfd5bfcf1190421cbdde51aae7a72c03956a89", func := "loop.example/g00803/laws.FnPaths", spec := "fnPaths", apart := false }
def FnPathsSaid : Prop := fnPathsRow.holds Try.pinned (OpenSpec.ofChange fnPathsSpec)

/-- ITS FALSE NEIGHBOUR: 'it returns false'. Refute it at one input. -/
def fnPathsWrong : ChangeSpec := { name := "fnPaths", fn := fun _ => fun
  | [d1, d2] => { results := [.lit (.bool false)], args := [d1, d2] }
  | _ => none }
def FnPathsWrongFalsely : Prop := fnPathsRow.holds Try.pinned (OpenSpec.ofChange fnPathsWrong)

/-- 'laws.FnExactDefaultPath': WHATEVER THE INPUT: true; the input reads as it did. -/
def fnExactDefaultPathSpec : ChangeSpec := { name := "fnExactDefaultPath", fn := fun _ => fun
  | [d] => { results := [.lit (.bool true)], args := [d] }
  | _ => none }
def fnExactDefaultPathRow : OpenClaim := { program := "ytmmmipkccnmmdaa", sum := "5cb9a47974f897a844cac14821cfd5bfcf1190421cbdde51aae7a72c03956a89", func := "loop.example/g00803/laws.FnExactDefaultPath", spec := "fnExactDefaultPath", apart := false }
def FnExactDefaultPathSaid : Prop := fnExactDefaultPathRow.holds Try.pinned (OpenSpec.ofChange fnExactDefaultPathSpec)

/-- ITS FALSE NEIGHBOUR: 'it returns false'. Refute it at one input. -/
def fnExactDefaultPathWrong : ChangeSpec := { name := "fnExactDefaultPath", fn := fun _ => fun
  | [d] => { results := [.lit (.bool false)], args := [d] }
  | _ => none }
def FnExactDefaultPathWrongFalsely : Prop := fnExactDefaultPathRow.holds Try.pinned (OpenSpec.ofChange fnExactDefaultPathWrong)

/-- 'laws.FnExactPathMatch': WHATEVER THE INPUT: true; the input reads as it did. -/
def fnExactPathMatchSpec : ChangeSpec := { name := "fnExactPathMatch", fn := fun _ => fun
  | [d1, d2] => { results := [.lit (.bool true)], args := [d1, d2] }
  | _ => none }
def fnExactPathMatchRow : OpenClaim := { program := "ytmmmipkccnmmdaa", sum := "5cb9a47974f897a844cac14821cfd5bfcf1190421cbdde51aae7a72c03956a89", func := "loop.example/g00803/laws.FnExactPathMatch", spec := "fnExactPathMatch", apart := false }
def FnExactPathMatchSaid : Prop := fnExactPathMatchRow.holds Try.pinned (OpenSpec.ofChange fnExactPathMatchSpec)

/-- ITS FALSE NEIGHBOUR: 'it returns false'. Refute it at one input. -/
def fnExactPathMatchWrong : ChangeSpec := { name := "fnExactPathMatch", fn := fun _ => fun
  | [d1, d2] => { results := [.lit (.bool false)], args := [d1, d2] }
  | _ => none }
def FnExactPathMatchWrongFalsely : Prop := fnExactPathMatchRow.holds Try.pinned (OpenSpec.ofChange fnExactPathMatchWrong)

/- THE SECOND FORM. 'bulk': how many values and letters a reading holds, each counted each time it is reached (what is shared counts as often as it is met; a slice's spare places count too). A statement '..UptoSaid' is the law's where the arguments, and the package variables that the reading takes, are together of bulk at most 1048576: NARROWER than '..Said'. Prove '..Said' where nothing that the law and all that it calls make is longer than what came in: it says more and counts as full. Else prove '..UptoSaid'. A law counts once. -/
mutual
def uptoBulk {H : Type} : DataW H → Nat
  | .lit (.string bytes) => bytes.length + 1
  | .lit _ => 1
  | .nil => 1
  | .ptr d => uptoBulk d + 1
  | .slice elems spare => uptoBulkAll elems + uptoBulkAll spare + 1
  | .agg parts => uptoBulkAll parts + 1
  | .iface _ d => uptoBulk d + 1
  | .map entries => uptoBulkEntries entries + 1
  | .held _ => 1
def uptoBulkAll {H : Type} : List (DataW H) → Nat
  | [] => 0
  | d :: r => uptoBulk d + uptoBulkAll r
def uptoBulkEntries {H : Type} : List (Lit × DataW H) → Nat
  | [] => 0
  | x :: r => uptoBulkEntry x + uptoBulkEntries r
def uptoBulkEntry {H : Type} : Lit × DataW H → Nat
  | (.string bytes, d) => bytes.length + uptoBulk d + 1
  | (_, d) => uptoBulk d + 1
 end
def uptoSmall : (H : Type) → List (DataW H) → Bool := fun _ ds => decide (uptoBulkAll ds ≤ 1048576)
def OpenSpec.upto (s : _root_.Go.ChangeSpec) : _root_.Go.OpenSpec := { _root_.Go.OpenSpec.ofChange s with cond := some uptoSmall }

/-- 'laws.FnPaths', WHERE WHAT IT READS IS OF BULK AT MOST 1048576: true; the input reads as it did. -/
def fnPathsUptoRow : OpenClaim := { program := "ytmmmipkccnmmdaa", sum := "5cb9a47974f897a844cac14821cfd5bfcf1190421cbdde51aae7a72c03956a89", func := "loop.example/g00803/laws.FnPaths", spec := "fnPaths", apart := false, narrowed := true }
def FnPathsUptoSaid : Prop := fnPathsUptoRow.holds Try.pinned (OpenSpec.upto fnPathsSpec)

/-- 'laws.FnExactDefaultPath', WHERE WHAT IT READS IS OF BULK AT MOST 1048576: true; the input reads as it did. -/
def fnExactDefaultPathUptoRow : OpenClaim := { program := "ytmmmipkccnmmdaa", sum := "5cb9a47974f897a844cac14821cfd5bfcf1190421cbdde51aae7a72c03956a89", func := "loop.example/g00803/laws.FnExactDefaultPath", spec := "fnExactDefaultPath", apart := false, narrowed := true }
def FnExactDefaultPathUptoSaid : Prop := fnExactDefaultPathUptoRow.holds Try.pinned (OpenSpec.upto fnExactDefaultPathSpec)

/-- 'laws.FnExactPathMatch', WHERE WHAT IT READS IS OF BULK AT MOST 1048576: true; the input reads as it did. -/
def fnExactPathMatchUptoRow : OpenClaim := { program := "ytmmmipkccnmmdaa", sum := "5cb9a47974f897a844cac14821cfd5bfcf1190421cbdde51aae7a72c03956a89", func := "loop.example/g00803/laws.FnExactPathMatch", spec := "fnExactPathMatch", apart := false, narrowed := true }
def FnExactPathMatchUptoSaid : Prop := fnExactPathMatchUptoRow.holds Try.pinned (OpenSpec.upto fnExactPathMatchSpec)

end Rows
end Go.Proofs.Ytmmmipkccnmmdaa
