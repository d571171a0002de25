/- DateOf of the model, and the walks of the laws on DateOK, Seconds, DateOf and Weekday. No condition of its own. -/
import Derived.Test.YtoggjemmkebckaaGreatDoorDateOf
import Derived.Test.YtoggjemmkebckaaGreatDoorDateArg
namespace Go.Proofs.YtoggjemmkebckaaGreatDoor
open Go.ChangeShapes Go.WideShapes Go.ChangeAt Go.WideMaps Go.WideElems Go.RowKit

theorem below_step {w a b : World} (h : Below w.heap.size w a) (h2 : Below a.heap.size a b) : Below w.heap.size w b := h.trans (h2.mono h.size)
theorem six_at {w : World} {B : Nat} {T : TypeId} {y m d h n s : Int} (hb : w.heap[B]? = some (.cells #[.int .i64 y, .int .i64 m, .int .i64 d, .int .i64 h, .int .i64 n, .int .i64 s] T (0, 0))) : w.cell? ⟨B, 0, none⟩ = some (.int .i64 y) ∧ w.cell? ⟨B, 1, none⟩ = some (.int .i64 m) ∧ w.cell? ⟨B, 2, none⟩ = some (.int .i64 d) ∧ w.cell? ⟨B, 3, none⟩ = some (.int .i64 h) ∧ w.cell? ⟨B, 4, none⟩ = some (.int .i64 n) ∧ w.cell? ⟨B, 5, none⟩ = some (.int .i64 s) := by
  refine ⟨?_, ?_, ?_, ?_, ?_, ?_⟩ <;> simp [World.cell?, hb]
/-- The block just made, seen behind a call. -/
theorem six_new {w w2 : World} {T : TypeId} {y m d h n s : Int} (hb : Below (w.alloc (.cells #[.int .i64 y, .int .i64 m, .int .i64 d, .int .i64 h, .int .i64 n, .int .i64 s] T)).heap.size (w.alloc (.cells #[.int .i64 y, .int .i64 m, .int .i64 d, .int .i64 h, .int .i64 n, .int .i64 s] T)) w2) :
    (w.heap.size < w2.heap.size) ∧ w2.cell? ⟨w.heap.size, 0, none⟩ = some (.int .i64 y) ∧ w2.cell? ⟨w.heap.size, 1, none⟩ = some (.int .i64 m) ∧ w2.cell? ⟨w.heap.size, 2, none⟩ = some (.int .i64 d) ∧ w2.cell? ⟨w.heap.size, 3, none⟩ = some (.int .i64 h) ∧ w2.cell? ⟨w.heap.size, 4, none⟩ = some (.int .i64 n) ∧ w2.cell? ⟨w.heap.size, 5, none⟩ = some (.int .i64 s) :=
  ⟨by have := hb.size; simp at this; omega, six_at ((hb.block w.heap.size (by simp)).trans (heap_alloc_new w _))⟩
theorem ok_first : okB ⟨1601, 1, 1, 0, 0, 0⟩ = true := by decide
theorem ok_last : okB ⟨9999, 12, 31, 0, 0, 0⟩ = true := by decide
theorem secs_first : secsN ⟨1601, 1, 1, 0, 0, 0⟩ = -11644473600 := by decide
theorem secs_last : secsN ⟨9999, 12, 31, 0, 0, 0⟩ = 253402214400 := by decide
theorem specDateIn (n : Int) (w : World) (h1 : -11644473600 ≤ n) (h2 : n ≤ 253402300799) : Calls Tryz.prog 17 #[.int .i64 n] w (DatePost w n) := by
  have hin : inB n (-11644473600) 253402300799 = true := in_iff.2 ⟨h1, h2⟩
  have HI := Lib.hid hin
  clear hin
  go_enter Tryz.func17, Tryz.ntmps17
  go_wp2_with fail
  refine (specSecsL 1601 1 1 0 0 0 _ ok_first).mono ?_
  rintro e w1 ⟨rfl, hb⟩
  rw [secs_first]
  have hres : Blk w1 w.heap.size 0 0 0 0 0 0 := (hb.block w.heap.size (by simp)).trans (Blk.new w 0 0 0 0 0 0)
  have HR1 := Lib.hid hres
  have HB1 := Lib.hid (((Below.refl w.heap.size w).alloc (Nat.le_refl _) _).trans (hb.mono (by simp)))
  clear hb hres
  go_wp2_with fail
  refine (specSecsL 9999 12 31 0 0 0 _ ok_last).mono ?_
  rintro e w2 ⟨rfl, hb⟩
  rw [secs_last]
  have hres : Blk w2 w.heap.size 0 0 0 0 0 0 := (hb.block w.heap.size HR1.out.lt).trans HR1.out
  have HR2 := Lib.hid hres
  have HB2 := Lib.hid (HB1.out.trans (hb.mono HB1.out.size))
  clear hb hres
  go_wp2_with fail
  refine (in_any _ _ _ _).mono ?_
  rintro e w' ⟨rfl, rfl⟩
  rw [HI.out]
  go_wp2_with fail
  refine (specOf (n + 11644473600) _ (by omega) (by omega)).mono ?_
  rintro e w3 ⟨y, m, d, h, q, s, hdate, rfl, hb⟩
  have HD := Lib.hid hdate
  have hres : Blk w3 w.heap.size 0 0 0 0 0 0 := (hb.block w.heap.size HR2.out.lt).trans HR2.out
  have HR3 := Lib.hid hres
  have HB3 := Lib.hid (HB2.out.trans (hb.mono HB2.out.size))
  have f0 := hres.free 0
  have f1 := hres.free 1
  have f2 := hres.free 2
  have f3 := hres.free 3
  have f4 := hres.free 4
  have f5 := hres.free 5
  obtain ⟨r0, r1, r2, r3, r4, r5⟩ := hres.at
  clear hres hb hdate
  go_wp2_with fail
  obtain ⟨q0, q1, q2, q3, q4, q5⟩ := (HR3.out.put y m d h q s).at
  refine bodyPost_ret (v := .tuple #[.agg #[.int .i64 y, .int .i64 m, .int .i64 d, .int .i64 h, .int .i64 q, .int .i64 s], .int .i64 0]) (by simp [results, Tryz.results17, go_sem, q0, q1, q2, q3, q4, q5]) rfl ?_
  exact ⟨y, m, d, h, q, s, HD.out, rfl, Blk.putBelow HB3.out (Nat.le_refl _) _ _ _ _ _ _⟩
theorem specDateOut (n : Int) (w : World) (h : n < -11644473600 ∨ 253402300799 < n) : Calls Tryz.prog 17 #[.int .i64 n] w (OutPost w) := by
  have hin : inB n (-11644473600) 253402300799 = false := by
    cases hh : inB n (-11644473600) 253402300799 with
    | false => rfl
    | true => obtain ⟨a, b⟩ := in_iff.1 hh; omega
  have HI := Lib.hid hin
  clear hin
  go_enter Tryz.func17, Tryz.ntmps17
  go_wp2_with fail
  refine (specSecsL 1601 1 1 0 0 0 _ ok_first).mono ?_
  rintro e w1 ⟨rfl, hb⟩
  rw [secs_first]
  have hres : Blk w1 w.heap.size 0 0 0 0 0 0 := (hb.block w.heap.size (by simp)).trans (Blk.new w 0 0 0 0 0 0)
  have HR1 := Lib.hid hres
  have HB1 := Lib.hid (((Below.refl w.heap.size w).alloc (Nat.le_refl _) _).trans (hb.mono (by simp)))
  clear hb hres
  go_wp2_with fail
  refine (specSecsL 9999 12 31 0 0 0 _ ok_last).mono ?_
  rintro e w2 ⟨rfl, hb⟩
  rw [secs_last]
  have hres : Blk w2 w.heap.size 0 0 0 0 0 0 := (hb.block w.heap.size HR1.out.lt).trans HR1.out
  have HR2 := Lib.hid hres
  have HB2 := Lib.hid (HB1.out.trans (hb.mono HB1.out.size))
  clear hb
  have f0 := hres.free 0
  have f1 := hres.free 1
  have f2 := hres.free 2
  have f3 := hres.free 3
  have f4 := hres.free 4
  have f5 := hres.free 5
  obtain ⟨r0, r1, r2, r3, r4, r5⟩ := hres.at
  clear hres
  go_wp2_with fail
  refine (in_any _ _ _ _).mono ?_
  rintro e w' ⟨rfl, rfl⟩
  rw [HI.out]
  go_wp2_with fail
  obtain ⟨q0, q1, q2, q3, q4, q5⟩ := (HR2.out.put 0 0 0 0 0 0).at
  refine bodyPost_ret (v := .tuple #[.agg #[.int .i64 0, .int .i64 0, .int .i64 0, .int .i64 0, .int .i64 0, .int .i64 0], .int .i64 4]) (by simp [results, Tryz.results17, go_sem, q0, q1, q2, q3, q4, q5]) rfl ?_
  exact ⟨rfl, Blk.putBelow HB2.out (Nat.le_refl _) _ _ _ _ _ _⟩
theorem six_keep {w w2 : World} {B : Nat} {y m d h n s : Int} (hb : Below w.heap.size w w2) (c : w.cell? ⟨B, 0, none⟩ = some (.int .i64 y) ∧ w.cell? ⟨B, 1, none⟩ = some (.int .i64 m) ∧ w.cell? ⟨B, 2, none⟩ = some (.int .i64 d) ∧ w.cell? ⟨B, 3, none⟩ = some (.int .i64 h) ∧ w.cell? ⟨B, 4, none⟩ = some (.int .i64 n) ∧ w.cell? ⟨B, 5, none⟩ = some (.int .i64 s)) :
    w2.cell? ⟨B, 0, none⟩ = some (.int .i64 y) ∧ w2.cell? ⟨B, 1, none⟩ = some (.int .i64 m) ∧ w2.cell? ⟨B, 2, none⟩ = some (.int .i64 d) ∧ w2.cell? ⟨B, 3, none⟩ = some (.int .i64 h) ∧ w2.cell? ⟨B, 4, none⟩ = some (.int .i64 n) ∧ w2.cell? ⟨B, 5, none⟩ = some (.int .i64 s) :=
  ⟨cell_kept hb c.1, cell_kept hb c.2.1, cell_kept hb c.2.2.1, cell_kept hb c.2.2.2.1, cell_kept hb c.2.2.2.2.1, cell_kept hb c.2.2.2.2.2⟩
end Go.Proofs.YtoggjemmkebckaaGreatDoor
