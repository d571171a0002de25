/- The walk of the law on ParsedOK. No condition of its own. -/
import Derived.Test.YtihlflhgbnfkkaaDoorSpecOK
import Derived.Stop.LaidErr
namespace Go.Proofs.YtihlflhgbnfkkaaDoor
open Go.ChangeShapes Go.WideShapes Go.ChangeAt Go.WideMaps Go.WideElems Go.RowKit

/-- The law's own block of its argument. -/
def LpB (w : World) (B : Nat) (n v d p : ByteArray) (he ha hp : Bool) (x a s : Int) (sc ho : Bool) : Prop := w.heap[B]? = some (.cells #[.string n, .string v, .string d, .string p, .bool he, .bool ha, .bool hp, .int .i64 x, .int .i64 a, .int .i64 s, .bool sc, .bool ho] 23 (0, 0))
theorem LpB.at {w : World} {B : Nat} {n v d p : ByteArray} {he ha hp : Bool} {x a s : Int} {sc ho : Bool} (hb : LpB w B n v d p he ha hp x a s sc ho) : w.cell? ⟨B, 0, none⟩ = some (.string n) ∧ w.cell? ⟨B, 1, none⟩ = some (.string v) ∧ w.cell? ⟨B, 2, none⟩ = some (.string d) ∧ w.cell? ⟨B, 3, none⟩ = some (.string p) ∧ w.cell? ⟨B, 4, none⟩ = some (.bool he) ∧ w.cell? ⟨B, 5, none⟩ = some (.bool ha) ∧ w.cell? ⟨B, 6, none⟩ = some (.bool hp) ∧ w.cell? ⟨B, 7, none⟩ = some (.int .i64 x) ∧ w.cell? ⟨B, 8, none⟩ = some (.int .i64 a) ∧ w.cell? ⟨B, 9, none⟩ = some (.int .i64 s) ∧ w.cell? ⟨B, 10, none⟩ = some (.bool sc) ∧ w.cell? ⟨B, 11, none⟩ = some (.bool ho) := by
  refine ⟨?_, ?_, ?_, ?_, ?_, ?_, ?_, ?_, ?_, ?_, ?_, ?_⟩ <;> simp [World.cell?, show w.heap[B]? = _ from hb]
theorem LpB.stays {w w' : World} {B : Nat} {n v d p : ByteArray} {he ha hp : Bool} {x a s : Int} {sc ho : Bool} (h : LpB w B n v d p he ha hp x a s sc ho) (hb : Below w.heap.size w w') : LpB w' B n v d p he ha hp x a s sc ho := (hb.block B (Array.getElem?_eq_some_iff.1 h).1).trans h
theorem LpB.new (w : World) (n v d p : ByteArray) (he ha hp : Bool) (x a s : Int) (sc ho : Bool) : LpB (w.alloc (.cells #[.string n, .string v, .string d, .string p, .bool he, .bool ha, .bool hp, .int .i64 x, .int .i64 a, .int .i64 s, .bool sc, .bool ho] 23)) w.heap.size n v d p he ha hp x a s sc ho := heap_alloc_new w _
set_option maxHeartbeats 2000000 in
set_option maxRecDepth 100000 in
theorem specParsedOK (n v d p : ByteArray) (he ha hp : Bool) (x a s : Int) (sc ho : Bool) (w : World) (hn : n.size ≤ 1048576) (hv : v.size ≤ 1048576) (hd : d.size ≤ 1048576) (hpp : p.size ≤ 1048576) :
    Calls Tryd.prog 10 #[.agg #[.string n, .string v, .string d, .string p, .bool he, .bool ha, .bool hp, .int .i64 x, .int .i64 a, .int .i64 s, .bool sc, .bool ho]] w fun e w' => e = .returned (.bool (psOK ⟨n, v, d, p, he, ha, hp, x, a, s, sc, ho⟩)) ∧ Below w.heap.size w w' := by
  go_enter Tryd.func10, Tryd.ntmps10
  go_wp2_with fail
  refine (specOKL n v d p he ha hp x a s sc ho _ hn hv hd hpp).mono ?_
  rintro e w1 ⟨rfl, hb⟩
  have HB := Lib.hid (((Below.refl w.heap.size w).alloc (Nat.le_refl _) _).trans (hb.mono (by simp)))
  clear hb
  go_wp2_with fail
  go_ret
  exact ⟨rfl, HB.out⟩
set_option maxHeartbeats 2000000 in
set_option maxRecDepth 100000 in
theorem walk_FnExactParsedOK (W : World) (n v d p : ByteArray) (he ha hp : Bool) (x a s : Int) (sc ho : Bool) (m0 : n.size ≤ maxLen) (m1 : v.size ≤ maxLen) (m2 : d.size ≤ maxLen) (m3 : p.size ≤ maxLen) (hL : laidMetH Tryd.prog Rows.fnExactParsedOKRow.laid W) (_ : W.ShapedOpen Tryd.prog) :
    Calls Tryd.prog 4 #[.agg #[.string n, .string v, .string d, .string p, .bool he, .bool ha, .bool hp, .int .i64 x, .int .i64 a, .int .i64 s, .bool sc, .bool ho]] W fun e w' => e = .returned (.bool true) ∧ Below W.heap.size W w' := by
  rw [MakeChecks.laidMetH_plain _ _ _ (by kernel_rfl)] at hL
  have HT := Lib.hid (tab_of_laid (laidMet.tail hL))
  clear hL
  have B0 := Lib.hid ((Below.refl W.heap.size W).alloc (Nat.le_refl _) (.cells #[.string n, .string v, .string d, .string p, .bool he, .bool ha, .bool hp, .int .i64 x, .int .i64 a, .int .i64 s, .bool sc, .bool ho] 23))
  have P0 := Lib.hid (LpB.new W n v d p he ha hp x a s sc ho)
  have n1 : (psOK ⟨n, v, d, p, he, ha, hp, x, a, s, sc, ho⟩ != psOK ⟨n, v, d, p, he, ha, hp, x, a, s, sc, ho⟩) = false := by simp
  by_cases h : n.size + v.size + d.size + p.size ≤ 1048576
  · have hh : (0 : Int) ≤ 1048576 - (n.size : Int) - v.size - d.size - p.size := by omega
    have s0 : n.size ≤ 1048576 := by omega
    have s1 : v.size ≤ 1048576 := by omega
    have s2 : d.size ≤ 1048576 := by omega
    have s3 : p.size ≤ 1048576 := by omega
    go_enter Tryd.func4, Tryd.ntmps4
    go_wp2_with fail
    refine (szParsed_any n v d p he ha hp x a s sc ho _ h).mono ?_
    rintro e w1 ⟨rfl, hb⟩
    have B1 := Lib.hid (B0.out.trans (hb.mono B0.out.size))
    have P1 := Lib.hid (P0.out.stays hb)
    clear hb
    obtain ⟨c0, c1, c2, c3, c4, c5, c6, c7, c8, c9, c10, c11⟩ := P1.out.at
    go_wp2_with fail
    refine (toParsed_any n v d p he ha hp x a s sc ho _).mono ?_
    rintro e w2 ⟨rfl, hb⟩
    have B2 := Lib.hid (B1.out.trans (hb.mono B1.out.size))
    have P2 := Lib.hid (P1.out.stays hb)
    clear hb
    clear c0 c1 c2 c3 c4 c5 c6 c7 c8 c9 c10 c11
    go_wp2_with fail
    refine (specParsedOK n v d p he ha hp x a s sc ho _ s0 s1 s2 s3).mono ?_
    rintro e w3 ⟨rfl, hb⟩
    have B3 := Lib.hid (B2.out.trans (hb.mono B2.out.size))
    have P3 := Lib.hid (P2.out.stays hb)
    clear hb
    obtain ⟨c0, c1, c2, c3, c4, c5, c6, c7, c8, c9, c10, c11⟩ := P3.out.at
    go_wp2_with fail
    refine (toParsed_any n v d p he ha hp x a s sc ho _).mono ?_
    rintro e w4 ⟨rfl, hb⟩
    have B4 := Lib.hid (B3.out.trans (hb.mono B3.out.size))
    clear hb
    clear c0 c1 c2 c3 c4 c5 c6 c7 c8 c9 c10 c11
    go_wp2_with fail
    refine (parsedOK_any n v d p he ha hp x a s sc ho _ s0 s1 s2 s3 (HT.out.below B4.out)).mono ?_
    rintro e w5 ⟨rfl, hb⟩
    have B5 := Lib.hid (B4.out.trans (hb.mono B4.out.size))
    clear hb
    go_wp2_with fail
    go_ret
    exact ⟨rfl, B5.out⟩
  · go_enter Tryd.func4, Tryd.ntmps4
    go_wp2_with fail
    refine (szParsed_big n v d p he ha hp x a s sc ho _ m0 m1 m2 m3 (by omega)).mono ?_
    rintro e w1 ⟨rfl, hb⟩
    have B1 := Lib.hid (B0.out.trans (hb.mono B0.out.size))
    clear hb
    go_wp2_with fail
    go_ret
    exact ⟨rfl, B1.out⟩
end Go.Proofs.YtihlflhgbnfkkaaDoor
