/- ReadDate of the model whole; the walk of the law on ReadDate. No condition of its own. -/
import Derived.Test.YtgokolgknendiaaDoorSpecRead
import Derived.Test.YtgokolgknendiaaDoorDateArg
import Derived.Shelf.LaysM
import Derived.Stop.LaidErr
namespace Go.Proofs.YtgokolgknendiaaDoor
open Go.ChangeShapes Go.WideShapes Go.ChangeAt Go.WideMaps Go.WideElems Go.RowKit

set_option maxHeartbeats 1000000 in
set_option maxRecDepth 100000 in
theorem specReadD (s : ByteArray) (w : World) : Calls Tryd.prog 5 #[.string s] w (ReadPost w s) := by
  by_cases hl : s.size ≤ 65536
  · have HL := Lib.hid hl
    cases hd : dateR (readL s.data.toList) with
    | none =>
      have HD := Lib.hid hd
      clear hd
      go_enter Tryd.func5, Tryd.ntmps5
      go_wp2_with fail
      refine (specReadL s _ HL.out).mono ?_
      rintro e w1 ⟨y, m, d, h, n, q, rfl, _, hb⟩
      rw [HD.out]
      have hres : Blk w1 w.heap.size 0 0 0 0 0 0 := (hb.block w.heap.size (by simp)).trans (Blk.new w 0 0 0 0 0 0)
      have HR := Lib.hid hres
      have HB := Lib.hid (((Below.refl w.heap.size w).alloc (Nat.le_refl _) _).trans (hb.mono (by simp)))
      have hlt : w.heap.size < w1.heap.size := hres.lt
      have hne : w.heap.size ≠ w1.heap.size := by omega
      have f0 := hres.free 0
      have f1 := hres.free 1
      have f2 := hres.free 2
      have f3 := hres.free 3
      have f4 := hres.free 4
      have f5 := hres.free 5
      obtain ⟨r0, r1, r2, r3, r4, r5⟩ := hres.at
      clear hb hres
      simp only [Option.isSome_none]
      go_wp2_with fail
      have hbel := Blk.putBelow HB.out (Nat.le_refl _) 0 0 0 0 0 0
      obtain ⟨q0, q1, q2, q3, q4, q5⟩ := ((HR.out.put 0 0 0 0 0 0).alloc (.cells #[.int .i64 y, .int .i64 m, .int .i64 d, .int .i64 h, .int .i64 n, .int .i64 q] 23)).at
      refine bodyPost_ret (v := .tuple #[.agg #[.int .i64 0, .int .i64 0, .int .i64 0, .int .i64 0, .int .i64 0, .int .i64 0], .int .i64 10]) (by simp [results, Tryd.results5, go_sem, q0, q1, q2, q3, q4, q5]) rfl ?_
      first
        | exact read_no HL.out HD.out (hbel.alloc hbel.size _)
        | exact read_no HL.out HD.out (Blk.putBelow (HB.out.alloc HB.out.size _) (Nat.le_refl _) _ _ _ _ _ _)
    | some a =>
      obtain ⟨y', m', d', h', n', q'⟩ := a
      have HD := Lib.hid hd
      clear hd
      go_enter Tryd.func5, Tryd.ntmps5
      go_wp2_with fail
      refine (specReadL s _ HL.out).mono ?_
      rintro e w1 ⟨y, m, d, h, n, q, rfl, hv, hb⟩
      have he := hv _ HD.out
      simp only [Dt.mk.injEq] at he
      obtain ⟨rfl, rfl, rfl, rfl, rfl, rfl⟩ := he
      rw [HD.out]
      have hres : Blk w1 w.heap.size 0 0 0 0 0 0 := (hb.block w.heap.size (by simp)).trans (Blk.new w 0 0 0 0 0 0)
      have HR := Lib.hid hres
      have HB := Lib.hid (((Below.refl w.heap.size w).alloc (Nat.le_refl _) _).trans (hb.mono (by simp)))
      have hlt : w.heap.size < w1.heap.size := hres.lt
      have hne : w.heap.size ≠ w1.heap.size := by omega
      have f0 := hres.free 0
      have f1 := hres.free 1
      have f2 := hres.free 2
      have f3 := hres.free 3
      have f4 := hres.free 4
      have f5 := hres.free 5
      obtain ⟨r0, r1, r2, r3, r4, r5⟩ := hres.at
      clear hb hres hv
      simp only [Option.isSome_some]
      go_wp2_with fail
      have hbel := Blk.putBelow HB.out (Nat.le_refl _) y' m' d' h' n' q'
      obtain ⟨q0, q1, q2, q3, q4, q5⟩ := ((HR.out.put y' m' d' h' n' q').alloc (.cells #[.int .i64 y', .int .i64 m', .int .i64 d', .int .i64 h', .int .i64 n', .int .i64 q'] 23)).at
      refine bodyPost_ret (v := .tuple #[.agg #[.int .i64 y', .int .i64 m', .int .i64 d', .int .i64 h', .int .i64 n', .int .i64 q'], .int .i64 0]) (by simp [results, Tryd.results5, go_sem, q0, q1, q2, q3, q4, q5]) rfl ?_
      first
        | exact read_yes HL.out HD.out (hbel.alloc hbel.size _)
        | exact read_yes HL.out HD.out (Blk.putBelow (HB.out.alloc HB.out.size _) (Nat.le_refl _) _ _ _ _ _ _)
  · have HL := Lib.hid hl
    go_enter Tryd.func5, Tryd.ntmps5
    go_wp2_with fail
    refine bodyPost_ret (v := .tuple #[.agg #[.int .i64 0, .int .i64 0, .int .i64 0, .int .i64 0, .int .i64 0, .int .i64 0], .int .i64 2]) (by simp [results, Tryd.results5, go_sem]) rfl ?_
    exact read_long HL.out ((Below.refl _ _).alloc (Nat.le_refl _) _)
theorem max_is {W : World} (h : W.ShapedOpen Tryd.prog) : MaxIs W :=
  Go.Proofs.cell_of_shapedOpen_int (zero := #[.int .i64 0]) (t := 3) h (of_decide_eq_true (by kernel_rfl)) (by kernel_rfl) rfl (by kernel_rfl) (by kernel_rfl) Tryd.underlying3
theorem gMonths : Tryd.prog.globalNamed "loop.example/g00803/impl.monthNames" = some 1 := by kernel_rfl
theorem tMonths : (Tryd.prog.globals[1]?).map (·.type) = some 47 := by kernel_rfl
theorem row_texts {P : Program} {w : World} {name : String} {zs : List (List UInt8)} {g : Nat} (hg : P.globalNamed name = some g) (h : TextsAt P w name zs) : ∃ t fr, w.heap[g]? = some (.cells (zs.map fun z => Value.string ⟨z.toArray⟩).toArray t fr) := by
  unfold TextsAt World.var? at h
  rw [hg, Option.bind_some] at h
  split at h
  · rename_i cs t fr hh
    cases h
    exact ⟨t, fr, hh⟩
  · cases h
theorem months_laid {W : World} {rest : List (String × DataW Unit)} (h : laidMet Tryd.prog (("loop.example/g00803/impl.monthNames", Rows.laid_loop_example_g00803_impl_monthNames) :: rest) W) : MonthsAt W :=
  row_texts gMonths (texts_of_head (zs := names) (rest := rest) gMonths tMonths Tryd.underlying47 Tryd.underlying9 (by kernel_rfl) (by kernel_rfl) h)
set_option maxHeartbeats 1000000 in
set_option maxRecDepth 100000 in
theorem walk_FnExactReadDate (W : World) (s : ByteArray) (hs : s.size ≤ maxLen) (hL : laidMetH Tryd.prog Rows.fnExactReadDateRow.laid W) (hSh : W.ShapedOpen Tryd.prog) :
    Calls Tryd.prog 3 #[.string s] W fun e w' => e = .returned (.bool true) ∧ Below W.heap.size W w' := by
  rw [MakeChecks.laidMetH_plain _ _ _ (by kernel_rfl)] at hL
  have HT := Lib.hid (tab_of_laid hL.tail)
  have HM := Lib.hid (months_laid hL.tail.tail)
  have HX := Lib.hid (max_is hSh)
  have HS := Lib.hid hs
  clear hL hSh
  unfold maxLen at hs
  by_cases hl : (s.size : Int) ≤ 1048576
  · have g2 : (rdC s != rdC s) = false := by simp
    go_enter Tryd.func3, Tryd.ntmps3
    go_wp2_with fail
    refine (specReadD s _).mono ?_
    rintro e w1 ⟨rfl, hb⟩
    have HB1 := Lib.hid hb
    clear hb
    go_wp2_with fail
    refine (implRead s _ HS.out (HT.out.below (HB1.out.alloc HB1.out.size _)) (HM.out.below (HB1.out.alloc HB1.out.size _)) (HX.out.below (HB1.out.alloc HB1.out.size _))).mono ?_
    rintro e w2 ⟨rfl, hb⟩
    have HB2 := Lib.hid ((HB1.out.alloc HB1.out.size _).trans (hb.mono (HB1.out.alloc HB1.out.size _).size))
    have hlt : w1.heap.size < w2.heap.size := by have := hb.size; simp at this; omega
    have hne : w1.heap.size ≠ w2.heap.size := by omega
    obtain ⟨r0, r1, r2, r3, r4, r5⟩ := Blk.at ((hb.block w1.heap.size (by simp)).trans (Blk.new w1 (rdA s).y (rdA s).m (rdA s).d (rdA s).h (rdA s).n (rdA s).s))
    clear hb
    go_wp2_with fail
    refine (eqDate_any _ _ _ _ _ _ _).mono ?_
    rintro e w3 ⟨rfl, hb⟩
    have HB3 := Lib.hid ((HB2.out.alloc HB2.out.size _).trans (hb.mono (HB2.out.alloc HB2.out.size _).size))
    clear hb
    go_wp2_with fail
    go_ret
    exact ⟨rfl, HB3.out⟩
  · go_enter Tryd.func3, Tryd.ntmps3
    go_wp2
    go_ret
    exact ⟨rfl, Below.refl _ _⟩
end Go.Proofs.YtgokolgknendiaaDoor
