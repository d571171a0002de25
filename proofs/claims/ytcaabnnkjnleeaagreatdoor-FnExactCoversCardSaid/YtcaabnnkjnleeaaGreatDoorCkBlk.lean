/- A cookie's block of memory: the program's and a law's own. No condition. -/
import Derived.Test.YtcaabnnkjnleeaaGreatDoorCkArg
namespace Go.Proofs.YtcaabnnkjnleeaaGreatDoor
open Go.ChangeShapes Go.WideShapes Go.ChangeAt Go.WideMaps Go.WideElems Go.RowKit

theorem heap_put_ck {w : World} {b : Nat} {cs : Array Value} {t : TypeId} {fr : Nat × Nat} (h : w.heap[b]? = some (.cells cs t fr)) (i : Nat) (u : Value) : (w.setCell ⟨b, i, none⟩ u).heap[b]? = some (.cells (cs.setIfInBounds i u) t fr) := by
  simp only [World.setCell, Array.getElem?_modify, if_true, h]
  rfl
def CkB (w : World) (B : Nat) (q : Ck) : Prop := w.heap[B]? = some (.cells #[.int .i64 q.i, .string q.n, .string q.v, .string q.d, .string q.p, .bool q.ho, .bool q.sc, .bool q.ht, .int .i64 q.s, .int .i64 q.x, .int .i64 q.m, .int .i64 q.u] 26 (0, 0))
theorem CkB.at {w : World} {B : Nat} {q : Ck} (hb : CkB w B q) : w.cell? ⟨B, 0, none⟩ = some (.int .i64 q.i) ∧ w.cell? ⟨B, 1, none⟩ = some (.string q.n) ∧ w.cell? ⟨B, 2, none⟩ = some (.string q.v) ∧ w.cell? ⟨B, 3, none⟩ = some (.string q.d) ∧ w.cell? ⟨B, 4, none⟩ = some (.string q.p) ∧ w.cell? ⟨B, 5, none⟩ = some (.bool q.ho) ∧ w.cell? ⟨B, 6, none⟩ = some (.bool q.sc) ∧ w.cell? ⟨B, 7, none⟩ = some (.bool q.ht) ∧ w.cell? ⟨B, 8, none⟩ = some (.int .i64 q.s) ∧ w.cell? ⟨B, 9, none⟩ = some (.int .i64 q.x) ∧ w.cell? ⟨B, 10, none⟩ = some (.int .i64 q.m) ∧ w.cell? ⟨B, 11, none⟩ = some (.int .i64 q.u) := by
  refine ⟨?_, ?_, ?_, ?_, ?_, ?_, ?_, ?_, ?_, ?_, ?_, ?_⟩ <;> simp [World.cell?, show w.heap[B]? = _ from hb]
theorem CkB.free {w : World} {B : Nat} {q : Ck} (hb : CkB w B q) (i : Nat) : w.frozen? ⟨B, i, none⟩ = false := by
  simp [World.frozen?, show w.heap[B]? = _ from hb]
theorem CkB.lt {w : World} {B : Nat} {q : Ck} (hb : CkB w B q) : B < w.heap.size := (Array.getElem?_eq_some_iff.1 hb).1
theorem CkB.new (w : World) (q : Ck) : CkB (w.alloc (.cells #[.int .i64 q.i, .string q.n, .string q.v, .string q.d, .string q.p, .bool q.ho, .bool q.sc, .bool q.ht, .int .i64 q.s, .int .i64 q.x, .int .i64 q.m, .int .i64 q.u] 26)) w.heap.size q := heap_alloc_new w _
theorem CkB.stays {w w' : World} {B : Nat} {q : Ck} (h : CkB w B q) (hb : Below w.heap.size w w') : CkB w' B q := (hb.block B h.lt).trans h
theorem CkB.alloc {w : World} {B : Nat} {q : Ck} (hb : CkB w B q) (o : Obj) : CkB (w.alloc o) B q := (Below.heap_alloc _ _ _ hb.lt).trans hb
theorem CkB.other {w : World} {B B' i : Nat} {u : Value} {q : Ck} (hb : CkB w B q) (hne : B' ≠ B) : CkB (w.setCell ⟨B', i, none⟩ u) B q := (Below.heap_setCell _ _ _ _ (by show B ≠ B'; exact Ne.symm hne)).trans hb
theorem CkB.set0 {w : World} {B : Nat} {q : Ck} (hb : CkB w B q) (y : Int) : CkB (w.setCell ⟨B, 0, none⟩ (.int .i64 y)) B { q with i := y } := heap_put_ck hb 0 _
theorem CkB.set1 {w : World} {B : Nat} {q : Ck} (hb : CkB w B q) (y : ByteArray) : CkB (w.setCell ⟨B, 1, none⟩ (.string y)) B { q with n := y } := heap_put_ck hb 1 _
theorem CkB.set2 {w : World} {B : Nat} {q : Ck} (hb : CkB w B q) (y : ByteArray) : CkB (w.setCell ⟨B, 2, none⟩ (.string y)) B { q with v := y } := heap_put_ck hb 2 _
theorem CkB.set3 {w : World} {B : Nat} {q : Ck} (hb : CkB w B q) (y : ByteArray) : CkB (w.setCell ⟨B, 3, none⟩ (.string y)) B { q with d := y } := heap_put_ck hb 3 _
theorem CkB.set4 {w : World} {B : Nat} {q : Ck} (hb : CkB w B q) (y : ByteArray) : CkB (w.setCell ⟨B, 4, none⟩ (.string y)) B { q with p := y } := heap_put_ck hb 4 _
theorem CkB.set5 {w : World} {B : Nat} {q : Ck} (hb : CkB w B q) (y : Bool) : CkB (w.setCell ⟨B, 5, none⟩ (.bool y)) B { q with ho := y } := heap_put_ck hb 5 _
theorem CkB.set6 {w : World} {B : Nat} {q : Ck} (hb : CkB w B q) (y : Bool) : CkB (w.setCell ⟨B, 6, none⟩ (.bool y)) B { q with sc := y } := heap_put_ck hb 6 _
theorem CkB.set7 {w : World} {B : Nat} {q : Ck} (hb : CkB w B q) (y : Bool) : CkB (w.setCell ⟨B, 7, none⟩ (.bool y)) B { q with ht := y } := heap_put_ck hb 7 _
theorem CkB.set8 {w : World} {B : Nat} {q : Ck} (hb : CkB w B q) (y : Int) : CkB (w.setCell ⟨B, 8, none⟩ (.int .i64 y)) B { q with s := y } := heap_put_ck hb 8 _
theorem CkB.set9 {w : World} {B : Nat} {q : Ck} (hb : CkB w B q) (y : Int) : CkB (w.setCell ⟨B, 9, none⟩ (.int .i64 y)) B { q with x := y } := heap_put_ck hb 9 _
theorem CkB.set10 {w : World} {B : Nat} {q : Ck} (hb : CkB w B q) (y : Int) : CkB (w.setCell ⟨B, 10, none⟩ (.int .i64 y)) B { q with m := y } := heap_put_ck hb 10 _
theorem CkB.set11 {w : World} {B : Nat} {q : Ck} (hb : CkB w B q) (y : Int) : CkB (w.setCell ⟨B, 11, none⟩ (.int .i64 y)) B { q with u := y } := heap_put_ck hb 11 _
def LkB (w : World) (B : Nat) (q : Ck) : Prop := w.heap[B]? = some (.cells #[.int .i64 q.i, .string q.n, .string q.v, .string q.d, .string q.p, .bool q.ho, .bool q.sc, .bool q.ht, .int .i64 q.s, .int .i64 q.x, .int .i64 q.m, .int .i64 q.u] 23 (0, 0))
theorem LkB.at {w : World} {B : Nat} {q : Ck} (hb : LkB w B q) : w.cell? ⟨B, 0, none⟩ = some (.int .i64 q.i) ∧ w.cell? ⟨B, 1, none⟩ = some (.string q.n) ∧ w.cell? ⟨B, 2, none⟩ = some (.string q.v) ∧ w.cell? ⟨B, 3, none⟩ = some (.string q.d) ∧ w.cell? ⟨B, 4, none⟩ = some (.string q.p) ∧ w.cell? ⟨B, 5, none⟩ = some (.bool q.ho) ∧ w.cell? ⟨B, 6, none⟩ = some (.bool q.sc) ∧ w.cell? ⟨B, 7, none⟩ = some (.bool q.ht) ∧ w.cell? ⟨B, 8, none⟩ = some (.int .i64 q.s) ∧ w.cell? ⟨B, 9, none⟩ = some (.int .i64 q.x) ∧ w.cell? ⟨B, 10, none⟩ = some (.int .i64 q.m) ∧ w.cell? ⟨B, 11, none⟩ = some (.int .i64 q.u) := by
  refine ⟨?_, ?_, ?_, ?_, ?_, ?_, ?_, ?_, ?_, ?_, ?_, ?_⟩ <;> simp [World.cell?, show w.heap[B]? = _ from hb]
theorem LkB.free {w : World} {B : Nat} {q : Ck} (hb : LkB w B q) (i : Nat) : w.frozen? ⟨B, i, none⟩ = false := by
  simp [World.frozen?, show w.heap[B]? = _ from hb]
theorem LkB.lt {w : World} {B : Nat} {q : Ck} (hb : LkB w B q) : B < w.heap.size := (Array.getElem?_eq_some_iff.1 hb).1
theorem LkB.new (w : World) (q : Ck) : LkB (w.alloc (.cells #[.int .i64 q.i, .string q.n, .string q.v, .string q.d, .string q.p, .bool q.ho, .bool q.sc, .bool q.ht, .int .i64 q.s, .int .i64 q.x, .int .i64 q.m, .int .i64 q.u] 23)) w.heap.size q := heap_alloc_new w _
theorem LkB.stays {w w' : World} {B : Nat} {q : Ck} (h : LkB w B q) (hb : Below w.heap.size w w') : LkB w' B q := (hb.block B h.lt).trans h
theorem LkB.alloc {w : World} {B : Nat} {q : Ck} (hb : LkB w B q) (o : Obj) : LkB (w.alloc o) B q := (Below.heap_alloc _ _ _ hb.lt).trans hb
theorem LkB.other {w : World} {B B' i : Nat} {u : Value} {q : Ck} (hb : LkB w B q) (hne : B' ≠ B) : LkB (w.setCell ⟨B', i, none⟩ u) B q := (Below.heap_setCell _ _ _ _ (by show B ≠ B'; exact Ne.symm hne)).trans hb
end Go.Proofs.YtcaabnnkjnleeaaGreatDoor
