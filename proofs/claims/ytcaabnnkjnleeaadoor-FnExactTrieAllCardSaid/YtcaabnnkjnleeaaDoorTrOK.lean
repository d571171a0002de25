/- The model's TrieOK: what it answers. No condition of its own. -/
import Derived.Test.YtcaabnnkjnleeaaDoorTrNodeW
namespace Go.Proofs.YtcaabnnkjnleeaaDoor
open Go.ChangeShapes Go.WideShapes Go.ChangeAt Go.WideMaps Go.WideElems Go.RowKit

theorem nodeLaw (A B n : Nat) (z : Bool) (t : Tr) (vi vk : Value) (hwt : wtT n t ≤ 1048576) (hn : n ≤ 1100000) : NodeLaw A B n z t vi vk := fun w hB h => specNode_any A B z n t vi vk 6 w hwt (by omega) (by omega) hB h
theorem specOK_any (A B n : Nat) (z : Bool) (t : Tr) (vi vk : Value) (w : World) (hwt : wtT n t ≤ 1048576) (hn : n ≤ 1100000) (hB : B ≤ w.heap.size) (h : NodeIn w A B z n t vi vk) : Calls Tryd.prog 39 #[.agg #[.string t.l, vi, vk]] w fun e w' => e = .returned (.bool (trieB n t)) ∧ Below w.heap.size w w' := specTrOK_of A B n z t vi vk w (nodeLaw A B n z t vi vk hwt hn) hwt hB h
end Go.Proofs.YtcaabnnkjnleeaaDoor
