/- A block that holds a date: its cells, what a write makes of it. No condition. -/
import Derived.Test.YtihlflhgbnfkkaaGreatDoorDateOK
namespace Go.Proofs.YtihlflhgbnfkkaaGreatDoor
open Go.ChangeShapes Go.WideShapes Go.ChangeAt Go.WideMaps Go.WideElems Go.RowKit

/-- The block B holds a date. -/
def Blk (w : World) (B : Nat) (y m d h n s : Int) : Prop := w.heap[B]? = some (.cells #[.int .i64 y, .int .i64 m, .int .i64 d, .int .i64 h, .int .i64 n, .int .i64 s] 90 (0, 0))
theorem Blk.at {w : World} {B : Nat} {y m d h n s : Int} (hb : Blk w B y m d h n s) : w.cell? ⟨B, 0, none⟩ = some (.int .i64 y) ∧ w.cell? ⟨B, 1, none⟩ = some (.int .i64 m) ∧ w.cell? ⟨B, 2, none⟩ = some (.int .i64 d) ∧ w.cell? ⟨B, 3, none⟩ = some (.int .i64 h) ∧ w.cell? ⟨B, 4, none⟩ = some (.int .i64 n) ∧ w.cell? ⟨B, 5, none⟩ = some (.int .i64 s) := by
  unfold Blk at hb
  refine ⟨?_, ?_, ?_, ?_, ?_, ?_⟩ <;> simp [World.cell?, hb]
theorem Blk.free {w : World} {B : Nat} {y m d h n s : Int} (hb : Blk w B y m d h n s) (i : Nat) : w.frozen? ⟨B, i, none⟩ = false := by
  unfold Blk at hb
  simp [World.frozen?, hb]
theorem Blk.lt {w : World} {B : Nat} {y m d h n s : Int} (hb : Blk w B y m d h n s) : B < w.heap.size := (Array.getElem?_eq_some_iff.1 hb).1
theorem Blk.other {w : World} {B B' i : Nat} {y m d h n s : Int} {v : Value} (hb : Blk w B y m d h n s) (hne : B' ≠ B) : Blk (w.setCell ⟨B', i, none⟩ v) B y m d h n s := by
  unfold Blk at *
  rw [Below.heap_setCell _ _ _ _ (Ne.symm hne)]
  exact hb
theorem Blk.alloc {w : World} {B : Nat} {y m d h n s : Int} (hb : Blk w B y m d h n s) (o : Obj) : Blk (w.alloc o) B y m d h n s := (Below.heap_alloc _ _ _ hb.lt).trans hb
theorem heap_set {w : World} {b : Nat} {cs : Array Value} {t : TypeId} {fr : Nat × Nat} (h : w.heap[b]? = some (.cells cs t fr)) (i : Nat) (v : Value) : (w.setCell ⟨b, i, none⟩ v).heap[b]? = some (.cells (cs.setIfInBounds i v) t fr) := by
  simp only [World.setCell, Array.getElem?_modify, if_true, h]
  rfl
theorem Blk.year {w : World} {B : Nat} {y m d h n s : Int} (hb : Blk w B y m d h n s) (x : Int) : Blk (w.setCell ⟨B, 0, none⟩ (.int .i64 x)) B x m d h n s := heap_set hb 0 _
theorem Blk.month {w : World} {B : Nat} {y m d h n s : Int} (hb : Blk w B y m d h n s) (x : Int) : Blk (w.setCell ⟨B, 1, none⟩ (.int .i64 x)) B y x d h n s := heap_set hb 1 _
theorem Blk.day {w : World} {B : Nat} {y m d h n s : Int} (hb : Blk w B y m d h n s) (x : Int) : Blk (w.setCell ⟨B, 2, none⟩ (.int .i64 x)) B y m x h n s := heap_set hb 2 _
theorem Blk.hour {w : World} {B : Nat} {y m d h n s : Int} (hb : Blk w B y m d h n s) (x : Int) : Blk (w.setCell ⟨B, 3, none⟩ (.int .i64 x)) B y m d x n s := heap_set hb 3 _
theorem Blk.minute {w : World} {B : Nat} {y m d h n s : Int} (hb : Blk w B y m d h n s) (x : Int) : Blk (w.setCell ⟨B, 4, none⟩ (.int .i64 x)) B y m d h x s := heap_set hb 4 _
theorem Blk.second {w : World} {B : Nat} {y m d h n s : Int} (hb : Blk w B y m d h n s) (x : Int) : Blk (w.setCell ⟨B, 5, none⟩ (.int .i64 x)) B y m d h n x := heap_set hb 5 _
/-- A whole date written into its block. -/
theorem Blk.put {w : World} {B : Nat} {y m d h n s : Int} (hb : Blk w B y m d h n s) (y' m' d' h' n' s' : Int) : Blk ((((((w.setCell ⟨B, 0, none⟩ (.int .i64 y')).setCell ⟨B, 1, none⟩ (.int .i64 m')).setCell ⟨B, 2, none⟩ (.int .i64 d')).setCell ⟨B, 3, none⟩ (.int .i64 h')).setCell ⟨B, 4, none⟩ (.int .i64 n')).setCell ⟨B, 5, none⟩ (.int .i64 s')) B y' m' d' h' n' s' :=
  (((((hb.year _).month _).day _).hour _).minute _).second _
theorem Blk.putBelow {w wr : World} {B C : Nat} (hb : Below C w wr) (hB : C ≤ B) (y' m' d' h' n' s' : Int) : Below C w ((((((wr.setCell ⟨B, 0, none⟩ (.int .i64 y')).setCell ⟨B, 1, none⟩ (.int .i64 m')).setCell ⟨B, 2, none⟩ (.int .i64 d')).setCell ⟨B, 3, none⟩ (.int .i64 h')).setCell ⟨B, 4, none⟩ (.int .i64 n')).setCell ⟨B, 5, none⟩ (.int .i64 s')) :=
  (((((hb.setCell hB _).setCell hB _).setCell hB _).setCell hB _).setCell hB _).setCell hB _
theorem Blk.new (w : World) (y m d h n s : Int) : Blk (w.alloc (.cells #[.int .i64 y, .int .i64 m, .int .i64 d, .int .i64 h, .int .i64 n, .int .i64 s] 90)) w.heap.size y m d h n s := heap_alloc_new w _
end Go.Proofs.YtihlflhgbnfkkaaGreatDoor
