/- DateOf of the model, and the walks of the laws on DateOK, Seconds, DateOf and Weekday. No condition of its own. -/
import Derived.Test.YtihlflhgbnfkkaaGreatDoorDateOf
import Derived.Test.YtihlflhgbnfkkaaGreatDoorDateArg
namespace Go.Proofs.YtihlflhgbnfkkaaGreatDoor
open Go.ChangeShapes Go.WideShapes Go.ChangeAt Go.WideMaps Go.WideElems Go.RowKit

theorem below_step {w a b : World} (h : Below w.heap.size w a) (h2 : Below a.heap.size a b) : Below w.heap.size w b := h.trans (h2.mono h.size)
theorem six_at {w : World} {B : Nat} {T : TypeId} {y m d h n s : Int} (hb : w.heap[B]? = some (.cells #[.int .i64 y, .int .i64 m, .int .i64 d, .int .i64 h, .int .i64 n, .int .i64 s] T (0, 0))) : w.cell? ⟨B, 0, none⟩ = some (.int .i64 y) ∧ w.cell? ⟨B, 1, none⟩ = some (.int .i64 m) ∧ w.cell? ⟨B, 2, none⟩ = some (.int .i64 d) ∧ w.cell? ⟨B, 3, none⟩ = some (.int .i64 h) ∧ w.cell? ⟨B, 4, none⟩ = some (.int .i64 n) ∧ w.cell? ⟨B, 5, none⟩ = some (.int .i64 s) := by
  refine ⟨?_, ?_, ?_, ?_, ?_, ?_⟩ <;> simp [World.cell?, hb]
/-- The block just made, seen behind a call. -/
theorem six_new {w w2 : World} {T : TypeId} {y m d h n s : Int} (hb : Below (w.alloc (.cells #[.int .i64 y, .int .i64 m, .int .i64 d, .int .i64 h, .int .i64 n, .int .i64 s] T)).heap.size (w.alloc (.cells #[.int .i64 y, .int .i64 m, .int .i64 d, .int .i64 h, .int .i64 n, .int .i64 s] T)) w2) :
    (w.heap.size < w2.heap.size) ∧ w2.cell? ⟨w.heap.size, 0, none⟩ = some (.int .i64 y) ∧ w2.cell? ⟨w.heap.size, 1, none⟩ = some (.int .i64 m) ∧ w2.cell? ⟨w.heap.size, 2, none⟩ = some (.int .i64 d) ∧ w2.cell? ⟨w.heap.size, 3, none⟩ = some (.int .i64 h) ∧ w2.cell? ⟨w.heap.size, 4, none⟩ = some (.int .i64 n) ∧ w2.cell? ⟨w.heap.size, 5, none⟩ = some (.int .i64 s) :=
  ⟨by have := hb.size; simp at this; omega, six_at ((hb.block w.heap.size (by simp)).trans (heap_alloc_new w _))⟩
theorem ok_first : okB ⟨1601, 1, 1, 0, 0, 0⟩ = true := by decide
theorem ok_last : okB ⟨9999, 12, 31, 0, 0, 0⟩ = true := by decide
theorem secs_first : secsN ⟨1601, 1, 1, 0, 0, 0⟩ = -11644473600 := by decide
theorem secs_last : secsN ⟨9999, 12, 31, 0, 0, 0⟩ = 253402214400 := by decide
theorem six_keep {w w2 : World} {B : Nat} {y m d h n s : Int} (hb : Below w.heap.size w w2) (c : w.cell? ⟨B, 0, none⟩ = some (.int .i64 y) ∧ w.cell? ⟨B, 1, none⟩ = some (.int .i64 m) ∧ w.cell? ⟨B, 2, none⟩ = some (.int .i64 d) ∧ w.cell? ⟨B, 3, none⟩ = some (.int .i64 h) ∧ w.cell? ⟨B, 4, none⟩ = some (.int .i64 n) ∧ w.cell? ⟨B, 5, none⟩ = some (.int .i64 s)) :
    w2.cell? ⟨B, 0, none⟩ = some (.int .i64 y) ∧ w2.cell? ⟨B, 1, none⟩ = some (.int .i64 m) ∧ w2.cell? ⟨B, 2, none⟩ = some (.int .i64 d) ∧ w2.cell? ⟨B, 3, none⟩ = some (.int .i64 h) ∧ w2.cell? ⟨B, 4, none⟩ = some (.int .i64 n) ∧ w2.cell? ⟨B, 5, none⟩ = some (.int .i64 s) :=
  ⟨cell_kept hb c.1, cell_kept hb c.2.1, cell_kept hb c.2.2.1, cell_kept hb c.2.2.2.1, cell_kept hb c.2.2.2.2.1, cell_kept hb c.2.2.2.2.2⟩
end Go.Proofs.YtihlflhgbnfkkaaGreatDoor
