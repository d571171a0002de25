/- What the laws on tries share: an argument's block, its reading no deeper than it weighs. No condition of its own. -/
import Derived.Test.YtcaabnnkjnleeaaDoorTrImpl
import Derived.Test.YtcaabnnkjnleeaaDoorTrOK
import Derived.Test.YtcaabnnkjnleeaaDoorTrEq
import Derived.Test.YtcaabnnkjnleeaaDoorTrArg
namespace Go.Proofs.YtcaabnnkjnleeaaDoor
open Go.ChangeShapes Go.WideShapes Go.ChangeAt Go.WideMaps Go.WideElems Go.RowKit

/-- A block that holds a node. -/
def NdB (w : World) (b : Nat) (ty : TypeId) (l : ByteArray) (vi vk : Value) : Prop := w.heap[b]? = some (.cells #[.string l, vi, vk] ty (0, 0))
theorem NdB.new (w : World) (ty : TypeId) (l : ByteArray) (vi vk : Value) : NdB (w.alloc (.cells #[.string l, vi, vk] ty)) w.heap.size ty l vi vk := heap_alloc_new w _
theorem NdB.lt {w : World} {b : Nat} {ty : TypeId} {l : ByteArray} {vi vk : Value} (h : NdB w b ty l vi vk) : b < w.heap.size := (Array.getElem?_eq_some_iff.1 h).1
theorem NdB.stays {w w' : World} {b : Nat} {ty : TypeId} {l : ByteArray} {vi vk : Value} (h : NdB w b ty l vi vk) (hb : Below w.heap.size w w') : NdB w' b ty l vi vk := (hb.block b h.lt).trans h
theorem NdB.alloc {w : World} {b : Nat} {ty : TypeId} {l : ByteArray} {vi vk : Value} (h : NdB w b ty l vi vk) (o : Obj) : NdB (w.alloc o) b ty l vi vk := (Below.heap_alloc w o b h.lt).trans h
theorem NdB.at {w : World} {b : Nat} {ty : TypeId} {l : ByteArray} {vi vk : Value} (h : NdB w b ty l vi vk) : w.cell? ⟨b, 0, none⟩ = some (.string l) ∧ w.cell? ⟨b, 1, none⟩ = some vi ∧ w.cell? ⟨b, 2, none⟩ = some vk := node_cells h
theorem node_shallow {w : World} {A B n : Nat} {z : Bool} {t : Tr} {vi vk : Value} (h : NodeIn w A B z n t vi vk) (hw : wtT n t ≤ 1048576) : ∃ m, NodeIn w A B z m t vi vk ∧ wtT m t = wtT n t ∧ m ≤ 1048577 :=
  ⟨wtT n t + 1, NodeIn.cut n _ t vi vk h (Nat.le_refl _), wt_same _ _ t (node_deep (NodeIn.cut n _ t vi vk h (Nat.le_refl _))) (node_deep h), by omega⟩
set_option maxRecDepth 100000 in
theorem specTrieOK_any (A B n : Nat) (z : Bool) (t : Tr) (vi vk : Value) (w : World) (hwt : wtT n t ≤ 1048576) (hn : n ≤ 1100000) (hB : B ≤ w.heap.size) (h : NodeIn w A B z n t vi vk) : Calls Tryd.prog 10 #[.agg #[.string t.l, vi, vk]] w fun e w' => e = .returned (.bool (trieB n t)) ∧ Below w.heap.size w w' := by
  obtain ⟨⟨ai, li, ci, rfl⟩, ak, lk, ck, rfl⟩ := h.forms
  have hb0 := (Below.refl w.heap.size w).alloc (Nat.le_refl _) (.cells #[.string t.l, .slice ai li ci, .slice ak lk ck] 30)
  have HB0 := Lib.hid hb0
  have HN := Lib.hid (h.below hb0 hB)
  have hsz : B ≤ (w.alloc (.cells #[.string t.l, .slice ai li ci, .slice ak lk ck] 30)).heap.size := by simp; omega
  obtain ⟨c0, c1, c2⟩ := (NdB.new w 30 t.l (.slice ai li ci) (.slice ak lk ck)).at
  clear h hb0
  go_enter Tryd.func10, Tryd.ntmps10
  go_wp2_with fail
  refine (specOK_any A B n z t _ _ _ hwt hn hsz HN.out).mono ?_
  rintro e w1 ⟨rfl, hb⟩
  have HB1 := Lib.hid (HB0.out.trans (hb.mono HB0.out.size))
  clear hb
  go_wp2_with fail
  go_ret
  exact ⟨rfl, HB1.out⟩
end Go.Proofs.YtcaabnnkjnleeaaDoor
