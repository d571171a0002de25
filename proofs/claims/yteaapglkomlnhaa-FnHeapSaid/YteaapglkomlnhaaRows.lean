/-
  No cell of these rows narrows 'for every input' (looked for: loops, veiled, ifaces, maps, wideKeys, modest, calm, conditions, laid).
  DERIVED. THE GIVEN ROWS OF THIS SEAT. 7 by the template 'for every input the law returns true; each argument reads behind the call as it read before'; 0 by the template 'total and deterministic' (their statements: YteaapglkomlnhaaTotals.lean).
  GIVEN WITH THE SEED: the statements are not yours to turn. If you find one false, say at which input.
  Laid BY PROGRAM, IN A SANDBOX (cutbox-rows.mjs): the forced cells as the released guide's own fill.sh prints them over the translation f765eb10589dbd5c… (all of the seat's roots in one cut). By AI agents, Wed Nov 11 2026. No macro, syntax, notation, axiom, sorry.
-/
import Derived.Test.YteaapglkomlnhaaChecked
import GoSem.Claim
import GoSem.ClaimJoined
import GoSem.ClaimMapViews
import Derived.JoinedTies
import Derived.KernelRfl
namespace Go.Proofs.Yteaapglkomlnhaa
/- THE CELL 'sum', in the pinned program and in every row, IS THE sha256 OF THE DUMP (.gsa) THAT YteaapglkomlnhaaProg.lean LOADS. Nothing in Lean hashes anything: it is a label: what it is worth is what the hold of that sum in a sandbox is worth. -/
noncomputable def Try.pinned : Pinned := { name := "yteaapglkomlnhaa", sum := "f765eb10589dbd5c224aedae5001a33e97c9e95ba97afb377b5c33f3c43c8c3b", checked := Try.checked }
namespace Rows
def none {H : Type} : Left H := { results := [], args := [] }

/-- 'laws.FnExactHeapOK': WHATEVER THE INPUT: true; the input reads as it did. -/
def fnExactHeapOKSpec : ChangeSpec := { name := "fnExactHeapOK", fn := fun _ => fun
  | [d] => { results := [.lit (.bool true)], args := [d] }
  | _ => none }
def fnExactHeapOKRow : OpenClaim := { program := "yteaapglkomlnhaa", sum := "f765eb10589dbd5c224aedae5001a33e97c9e95ba97afb377b5c33f3c43c8c3b", func := "loop.example/g00803/laws.FnExactHeapOK", spec := "fnExactHeapOK", unfollowed := true, recurses := true, apart := false }
def FnExactHeapOKSaid : Prop := fnExactHeapOKRow.holds Try.pinned (OpenSpec.ofChange fnExactHeapOKSpec)

/-- ITS FALSE NEIGHBOUR: 'it returns false'. Refute it at one input. -/
def fnExactHeapOKWrong : ChangeSpec := { name := "fnExactHeapOK", fn := fun _ => fun
  | [d] => { results := [.lit (.bool false)], args := [d] }
  | _ => none }
def FnExactHeapOKWrongFalsely : Prop := fnExactHeapOKRow.holds Try.pinned (OpenSpec.ofChange fnExactHeapOKWrong)

/-- 'laws.FnExactHeapPush': WHATEVER THE INPUT: true; the input reads as it did. -/
def fnExactHeapPushSpec : ChangeSpec := { name := "fnExactHeapPush", fn := fun _ => fun
  | [d1, d2] => { results := [.lit (.bool true)], args := [d1, d2] }
  | _ => none }
def fnExactHeapPushRow : OpenClaim := { program := "yteaapglkomlnhaa", sum := "f765eb10589dbd5c224aedae5001a33e97c9e95ba97afb377b5c33f3c43c8c3b", func := "loop.example/g00803/laws.FnExactHeapPush", spec := "fnExactHeapPush", unfollowed := true, recurses := true, apart := false }
def FnExactHeapPushSaid : Prop := fnExactHeapPushRow.holds Try.pinned (OpenSpec.ofChange fnExactHeapPushSpec)

/-- ITS FALSE NEIGHBOUR: 'it returns false'. Refute it at one input. -/
def fnExactHeapPushWrong : ChangeSpec := { name := "fnExactHeapPush", fn := fun _ => fun
  | [d1, d2] => { results := [.lit (.bool false)], args := [d1, d2] }
  | _ => none }
def FnExactHeapPushWrongFalsely : Prop := fnExactHeapPushRow.holds Try.pinned (OpenSpec.ofChange fnExactHeapPushWrong)

/-- 'laws.FnExactHeapPop': WHATEVER THE INPUT: true; the input reads as it did. -/
def fnExactHeapPopSpec : ChangeSpec := { name := "fnExactHeapPop", fn := fun _ => fun
  | [d] => { results := [.lit (.bool true)], args := [d] }
  | _ => none }
def fnExactHeapPopRow : OpenClaim := { program := "yteaapglkomlnhaa", sum := "f765eb10589dbd5c224aedae5001a33e97c9e95ba97afb377b5c33f3c43c8c3b", func := "loop.example/g00803/laws.FnExactHeapPop", spec := "fnExactHeapPop", unfollowed := true, recurses := true, apart := false }
def FnExactHeapPopSaid : Prop := fnExactHeapPopRow.holds Try.pinned (OpenSpec.ofChange fnExactHeapPopSpec)

/-- ITS FALSE NEIGHBOUR: 'it returns false'. Refute it at one input. -/
def fnExactHeapPopWrong : ChangeSpec := { name := "fnExactHeapPop", fn := fun _ => fun
  | [d] => { results := [.lit (.bool false)], args := [d] }
  | _ => none }
def FnExactHeapPopWrongFalsely : Prop := fnExactHeapPopRow.holds Try.pinned (OpenSpec.ofChange fnExactHeapPopWrong)

/-- 'laws.FnExactHeapRemove': WHATEVER THE INPUT: true; the input reads as it did. -/
def fnExactHeapRemoveSpec : ChangeSpec := { name := "fnExactHeapRemove", fn := fun _ => fun
  | [d1, d2] => { results := [.lit (.bool true)], args := [d1, d2] }
  | _ => none }
def fnExactHeapRemoveRow : OpenClaim := { program := "yteaapglkomlnhaa", sum := "f765eb10589dbd5c224aedae5001a33e97c9e95ba97afb377b5c33f3c43c8c3b", func := "loop.example/g00803/laws.FnExactHeapRemove", spec := "fnExactHeapRemove", unfollowed := true, recurses := true, apart := false }
def FnExactHeapRemoveSaid : Prop := fnExactHeapRemoveRow.holds Try.pinned (OpenSpec.ofChange fnExactHeapRemoveSpec)

/-- ITS FALSE NEIGHBOUR: 'it returns false'. Refute it at one input. -/
def fnExactHeapRemoveWrong : ChangeSpec := { name := "fnExactHeapRemove", fn := fun _ => fun
  | [d1, d2] => { results := [.lit (.bool false)], args := [d1, d2] }
  | _ => none }
def FnExactHeapRemoveWrongFalsely : Prop := fnExactHeapRemoveRow.holds Try.pinned (OpenSpec.ofChange fnExactHeapRemoveWrong)

/-- 'laws.FnExactHeapUntil': WHATEVER THE INPUT: true; the input reads as it did. -/
def fnExactHeapUntilSpec : ChangeSpec := { name := "fnExactHeapUntil", fn := fun _ => fun
  | [d1, d2] => { results := [.lit (.bool true)], args := [d1, d2] }
  | _ => none }
def fnExactHeapUntilRow : OpenClaim := { program := "yteaapglkomlnhaa", sum := "f765eb10589dbd5c224aedae5001a33e97c9e95ba97afb377b5c33f3c43c8c3b", func := "loop.example/g00803/laws.FnExactHeapUntil", spec := "fnExactHeapUntil", unfollowed := true, recurses := true, apart := false }
def FnExactHeapUntilSaid : Prop := fnExactHeapUntilRow.holds Try.pinned (OpenSpec.ofChange fnExactHeapUntilSpec)

/-- ITS FALSE NEIGHBOUR: 'it returns false'. Refute it at one input. -/
def fnExactHeapUntilWrong : ChangeSpec := { name := "fnExactHeapUntil", fn := fun _ => fun
  | [d1, d2] => { results := [.lit (.bool false)], args := [d1, d2] }
  | _ => none }
def FnExactHeapUntilWrongFalsely : Prop := fnExactHeapUntilRow.holds Try.pinned (OpenSpec.ofChange fnExactHeapUntilWrong)

/-- 'laws.FnExactHeapSort': WHATEVER THE INPUT: true; the input reads as it did. -/
def fnExactHeapSortSpec : ChangeSpec := { name := "fnExactHeapSort", fn := fun _ => fun
  | [d] => { results := [.lit (.bool true)], args := [d] }
  | _ => none }
def fnExactHeapSortRow : OpenClaim := { program := "yteaapglkomlnhaa", sum := "f765eb10589dbd5c224aedae5001a33e97c9e95ba97afb377b5c33f3c43c8c3b", func := "loop.example/g00803/laws.FnExactHeapSort", spec := "fnExactHeapSort", unfollowed := true, recurses := true, apart := false }
def FnExactHeapSortSaid : Prop := fnExactHeapSortRow.holds Try.pinned (OpenSpec.ofChange fnExactHeapSortSpec)

/-- ITS FALSE NEIGHBOUR: 'it returns false'. Refute it at one input. -/
def fnExactHeapSortWrong : ChangeSpec := { name := "fnExactHeapSort", fn := fun _ => fun
  | [d] => { results := [.lit (.bool false)], args := [d] }
  | _ => none }
def FnExactHeapSortWrongFalsely : Prop := fnExactHeapSortRow.holds Try.pinned (OpenSpec.ofChange fnExactHeapSortWrong)

/-- 'laws.FnHeap': WHATEVER THE INPUT: true; the input reads as it did. -/
def fnHeapSpec : ChangeSpec := { name := "fnHeap", fn := fun _ => fun
  | [d1, d2] => { results := [.lit (.bool true)], args := [d1, d2] }
  | _ => none }
def fnHeapRow : OpenClaim := { program := "yteaapglkomlnhaa", sum := "f765eb10589dbd5c224aedae5001a33e97c9e95ba97afb377b5c33f3c43c8c3b", func := "loop.example/g00803/laws.FnHeap", spec := "fnHeap", unfollowed := true, recurses := true, apart := false }
def FnHeapSaid : Prop := fnHeapRow.holds Try.pinned (OpenSpec.ofChange fnHeapSpec)

/-- ITS FALSE NEIGHBOUR: 'it returns false'. Refute it at one input. -/
def fnHeapWrong : ChangeSpec := { name := "fnHeap", fn := fun _ => fun
  | [d1, d2] => { results := [.lit (.bool false)], args := [d1, d2] }
  | _ => none }
def FnHeapWrongFalsely : Prop := fnHeapRow.holds Try.pinned (OpenSpec.ofChange fnHeapWrong)

/- THE SECOND FORM. 'bulk': how many values and letters a reading holds, each counted each time it is reached (what is shared counts as often as it is met; a slice's spare places count too). A statement '..UptoSaid' is the law's where the arguments, and the package variables that the reading takes, are together of bulk at most 1048576: NARROWER than '..Said'. Prove '..Said' where nothing that the law and all that it calls make is longer than what came in: it says more and counts as full. Else prove '..UptoSaid'. A law counts once. -/
mutual
def uptoBulk {H : Type} : DataW H → Nat
  | .lit (.string bytes) => bytes.length + 1
  | .lit _ => 1
  | .nil => 1
  | .ptr d => uptoBulk d + 1
  | .slice elems spare => uptoBulkAll elems + uptoBulkAll spare + 1
  | .agg parts => uptoBulkAll parts + 1
  | .iface _ d => uptoBulk d + 1
  | .map entries => uptoBulkEntries entries + 1
  | .held _ => 1
def uptoBulkAll {H : Type} : List (DataW H) → Nat
  | [] => 0
  | d :: r => uptoBulk d + uptoBulkAll r
def uptoBulkEntries {H : Type} : List (Lit × DataW H) → Nat
  | [] => 0
  | x :: r => uptoBulkEntry x + uptoBulkEntries r
def uptoBulkEntry {H : Type} : Lit × DataW H → Nat
  | (.string bytes, d) => bytes.length + uptoBulk d + 1
  | (_, d) => uptoBulk d + 1
 end
def uptoSmall : (H : Type) → List (DataW H) → Bool := fun _ ds => decide (uptoBulkAll ds ≤ 1048576)
def OpenSpec.upto (s : _root_.Go.ChangeSpec) : _root_.Go.OpenSpec := { _root_.Go.OpenSpec.ofChange s with cond := some uptoSmall }

/-- 'laws.FnExactHeapOK', WHERE WHAT IT READS IS OF BULK AT MOST 1048576: true; the input reads as it did. -/
def fnExactHeapOKUptoRow : OpenClaim := { program := "yteaapglkomlnhaa", sum := "f765eb10589dbd5c224aedae5001a33e97c9e95ba97afb377b5c33f3c43c8c3b", func := "loop.example/g00803/laws.FnExactHeapOK", spec := "fnExactHeapOK", unfollowed := true, recurses := true, apart := false, narrowed := true }
def FnExactHeapOKUptoSaid : Prop := fnExactHeapOKUptoRow.holds Try.pinned (OpenSpec.upto fnExactHeapOKSpec)

/-- 'laws.FnExactHeapPush', WHERE WHAT IT READS IS OF BULK AT MOST 1048576: true; the input reads as it did. -/
def fnExactHeapPushUptoRow : OpenClaim := { program := "yteaapglkomlnhaa", sum := "f765eb10589dbd5c224aedae5001a33e97c9e95ba97afb377b5c33f3c43c8c3b", func := "loop.example/g00803/laws.FnExactHeapPush", spec := "fnExactHeapPush", unfollowed := true, recurses := true, apart := false, narrowed := true }
def FnExactHeapPushUptoSaid : Prop := fnExactHeapPushUptoRow.holds Try.pinned (OpenSpec.upto fnExactHeapPushSpec)

/-- 'laws.FnExactHeapPop', WHERE WHAT IT READS IS OF BULK AT MOST 1048576: true; the input reads as it did. -/
def fnExactHeapPopUptoRow : OpenClaim := { program := "yteaapglkomlnhaa", sum := "f765eb10589dbd5c224aedae5001a33e97c9e95ba97afb377b5c33f3c43c8c3b", func := "loop.example/g00803/laws.FnExactHeapPop", spec := "fnExactHeapPop", unfollowed := true, recurses := true, apart := false, narrowed := true }
def FnExactHeapPopUptoSaid : Prop := fnExactHeapPopUptoRow.holds Try.pinned (OpenSpec.upto fnExactHeapPopSpec)

/-- 'laws.FnExactHeapRemove', WHERE WHAT IT READS IS OF BULK AT MOST 1048576: true; the input reads as it did. -/
def fnExactHeapRemoveUptoRow : OpenClaim := { program := "yteaapglkomlnhaa", sum := "f765eb10589dbd5c224aedae5001a33e97c9e95ba97afb377b5c33f3c43c8c3b", func := "loop.example/g00803/laws.FnExactHeapRemove", spec := "fnExactHeapRemove", unfollowed := true, recurses := true, apart := false, narrowed := true }
def FnExactHeapRemoveUptoSaid : Prop := fnExactHeapRemoveUptoRow.holds Try.pinned (OpenSpec.upto fnExactHeapRemoveSpec)

/-- 'laws.FnExactHeapUntil', WHERE WHAT IT READS IS OF BULK AT MOST 1048576: true; the input reads as it did. -/
def fnExactHeapUntilUptoRow : OpenClaim := { program := "yteaapglkomlnhaa", sum := "f765eb10589dbd5c224aedae5001a33e97c9e95ba97afb377b5c33f3c43c8c3b", func := "loop.example/g00803/laws.FnExactHeapUntil", spec := "fnExactHeapUntil", unfollowed := true, recurses := true, apart := false, narrowed := true }
def FnExactHeapUntilUptoSaid : Prop := fnExactHeapUntilUptoRow.holds Try.pinned (OpenSpec.upto fnExactHeapUntilSpec)

/-- 'laws.FnExactHeapSort', WHERE WHAT IT READS IS OF BULK AT MOST 1048576: true; the input reads as it did. -/
def fnExactHeapSortUptoRow : OpenClaim := { program := "yteaapglkomlnhaa", sum := "f765eb10589dbd5c224aedae5001a33e97c9e95ba97afb377b5c33f3c43c8c3b", func := "loop.example/g00803/laws.FnExactHeapSort", spec := "fnExactHeapSort", unfollowed := true, recurses := true, apart := false, narrowed := true }
def FnExactHeapSortUptoSaid : Prop := fnExactHeapSortUptoRow.holds Try.pinned (OpenSpec.upto fnExactHeapSortSpec)

/-- 'laws.FnHeap', WHERE WHAT IT READS IS OF BULK AT MOST 1048576: true; the input reads as it did. -/
def fnHeapUptoRow : OpenClaim := { program := "yteaapglkomlnhaa", sum := "f765eb10589dbd5c224aedae5001a33e97c9e95ba97afb377b5c33f3c43c8c3b", func := "loop.example/g00803/laws.FnHeap", spec := "fnHeap", unfollowed := true, recurses := true, apart := false, narrowed := true }
def FnHeapUptoSaid : Prop := fnHeapUptoRow.holds Try.pinned (OpenSpec.upto fnHeapSpec)

end Rows
end Go.Proofs.Yteaapglkomlnhaa
