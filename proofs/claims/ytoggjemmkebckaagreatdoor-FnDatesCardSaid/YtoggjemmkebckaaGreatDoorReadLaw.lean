/- ReadDate of the model whole; the walk of the law on ReadDate. No condition of its own. -/
import Derived.Test.YtoggjemmkebckaaGreatDoorSpecRead
import Derived.Test.YtoggjemmkebckaaGreatDoorDateArg
import Derived.Shelf.LaysM
import Derived.Stop.LaidErr
namespace Go.Proofs.YtoggjemmkebckaaGreatDoor
open Go.ChangeShapes Go.WideShapes Go.ChangeAt Go.WideMaps Go.WideElems Go.RowKit

set_option maxHeartbeats 1000000 in
set_option maxRecDepth 100000 in
theorem specReadD (s : ByteArray) (w : World) : Calls Tryz.prog 19 #[.string s] w (ReadPost w s) := by
  by_cases hl : s.size ≤ 65536
  · have HL := Lib.hid hl
    cases hd : dateR (readL s.data.toList) with
    | none =>
      have HD := Lib.hid hd
      clear hd
      go_enter Tryz.func19, Tryz.ntmps19
      go_wp2_with fail
      refine (specReadL s _ HL.out).mono ?_
      rintro e w1 ⟨y, m, d, h, n, q, rfl, _, hb⟩
      rw [HD.out]
      have hres : Blk w1 w.heap.size 0 0 0 0 0 0 := (hb.block w.heap.size (by simp)).trans (Blk.new w 0 0 0 0 0 0)
      have HR := Lib.hid hres
      have HB := Lib.hid (((Below.refl w.heap.size w).alloc (Nat.le_refl _) _).trans (hb.mono (by simp)))
      have hlt : w.heap.size < w1.heap.size := hres.lt
      have hne : w.heap.size ≠ w1.heap.size := by omega
      have f0 := hres.free 0
      have f1 := hres.free 1
      have f2 := hres.free 2
      have f3 := hres.free 3
      have f4 := hres.free 4
      have f5 := hres.free 5
      obtain ⟨r0, r1, r2, r3, r4, r5⟩ := hres.at
      clear hb hres
      simp only [Option.isSome_none]
      go_wp2_with fail
      have hbel := Blk.putBelow HB.out (Nat.le_refl _) 0 0 0 0 0 0
      obtain ⟨q0, q1, q2, q3, q4, q5⟩ := ((HR.out.put 0 0 0 0 0 0).alloc (.cells #[.int .i64 y, .int .i64 m, .int .i64 d, .int .i64 h, .int .i64 n, .int .i64 q] 24)).at
      refine bodyPost_ret (v := .tuple #[.agg #[.int .i64 0, .int .i64 0, .int .i64 0, .int .i64 0, .int .i64 0, .int .i64 0], .int .i64 10]) (by simp [results, Tryz.results19, go_sem, q0, q1, q2, q3, q4, q5]) rfl ?_
      first
        | exact read_no HL.out HD.out (hbel.alloc hbel.size _)
        | exact read_no HL.out HD.out (Blk.putBelow (HB.out.alloc HB.out.size _) (Nat.le_refl _) _ _ _ _ _ _)
    | some a =>
      obtain ⟨y', m', d', h', n', q'⟩ := a
      have HD := Lib.hid hd
      clear hd
      go_enter Tryz.func19, Tryz.ntmps19
      go_wp2_with fail
      refine (specReadL s _ HL.out).mono ?_
      rintro e w1 ⟨y, m, d, h, n, q, rfl, hv, hb⟩
      have he := hv _ HD.out
      simp only [Dt.mk.injEq] at he
      obtain ⟨rfl, rfl, rfl, rfl, rfl, rfl⟩ := he
      rw [HD.out]
      have hres : Blk w1 w.heap.size 0 0 0 0 0 0 := (hb.block w.heap.size (by simp)).trans (Blk.new w 0 0 0 0 0 0)
      have HR := Lib.hid hres
      have HB := Lib.hid (((Below.refl w.heap.size w).alloc (Nat.le_refl _) _).trans (hb.mono (by simp)))
      have hlt : w.heap.size < w1.heap.size := hres.lt
      have hne : w.heap.size ≠ w1.heap.size := by omega
      have f0 := hres.free 0
      have f1 := hres.free 1
      have f2 := hres.free 2
      have f3 := hres.free 3
      have f4 := hres.free 4
      have f5 := hres.free 5
      obtain ⟨r0, r1, r2, r3, r4, r5⟩ := hres.at
      clear hb hres hv
      simp only [Option.isSome_some]
      go_wp2_with fail
      have hbel := Blk.putBelow HB.out (Nat.le_refl _) y' m' d' h' n' q'
      obtain ⟨q0, q1, q2, q3, q4, q5⟩ := ((HR.out.put y' m' d' h' n' q').alloc (.cells #[.int .i64 y', .int .i64 m', .int .i64 d', .int .i64 h', .int .i64 n', .int .i64 q'] 24)).at
      refine bodyPost_ret (v := .tuple #[.agg #[.int .i64 y', .int .i64 m', .int .i64 d', .int .i64 h', .int .i64 n', .int .i64 q'], .int .i64 0]) (by simp [results, Tryz.results19, go_sem, q0, q1, q2, q3, q4, q5]) rfl ?_
      first
        | exact read_yes HL.out HD.out (hbel.alloc hbel.size _)
        | exact read_yes HL.out HD.out (Blk.putBelow (HB.out.alloc HB.out.size _) (Nat.le_refl _) _ _ _ _ _ _)
  · have HL := Lib.hid hl
    go_enter Tryz.func19, Tryz.ntmps19
    go_wp2_with fail
    refine bodyPost_ret (v := .tuple #[.agg #[.int .i64 0, .int .i64 0, .int .i64 0, .int .i64 0, .int .i64 0, .int .i64 0], .int .i64 2]) (by simp [results, Tryz.results19, go_sem]) rfl ?_
    exact read_long HL.out ((Below.refl _ _).alloc (Nat.le_refl _) _)
theorem max_is {W : World} (h : W.ShapedOpen Tryz.prog) : MaxIs W :=
  Go.Proofs.cell_of_shapedOpen_int (zero := #[.int .i64 0]) (t := 3) h (of_decide_eq_true (by kernel_rfl)) (by kernel_rfl) rfl (by kernel_rfl) (by kernel_rfl) Tryz.underlying3
theorem gMonths : Tryz.prog.globalNamed "loop.example/g00803/impl.monthNames" = some 1 := by kernel_rfl
theorem tMonths : (Tryz.prog.globals[1]?).map (·.type) = some 59 := by kernel_rfl
theorem row_texts {P : Program} {w : World} {name : String} {zs : List (List UInt8)} {g : Nat} (hg : P.globalNamed name = some g) (h : TextsAt P w name zs) : ∃ t fr, w.heap[g]? = some (.cells (zs.map fun z => Value.string ⟨z.toArray⟩).toArray t fr) := by
  unfold TextsAt World.var? at h
  rw [hg, Option.bind_some] at h
  split at h
  · rename_i cs t fr hh
    cases h
    exact ⟨t, fr, hh⟩
  · cases h
theorem months_laid {W : World} {rest : List (String × DataW Unit)} (h : laidMet Tryz.prog (("loop.example/g00803/impl.monthNames", Rows.laid_loop_example_g00803_impl_monthNames) :: rest) W) : MonthsAt W :=
  row_texts gMonths (texts_of_head (zs := names) (rest := rest) gMonths tMonths Tryz.underlying59 Tryz.underlying9 (by kernel_rfl) (by kernel_rfl) h)
end Go.Proofs.YtoggjemmkebckaaGreatDoor
