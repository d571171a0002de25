/- FnExactNewJar: the law's walk. No condition of its own. -/
import Derived.Test.YtcaabnnkjnleeaaDoorNjEq
namespace Go.Proofs.YtcaabnnkjnleeaaDoor
open Go.ChangeShapes Go.WideShapes Go.ChangeAt Go.WideMaps Go.WideElems Go.RowKit

/-- A jar put into a box of its own. -/
theorem jar_boxed (w : World) (u : Value) (a b nx : Int) (x : Option Addr) (y : Nat) : ∃ w', w.alloc (.cells #[u, .int .i64 a, .int .i64 b, .int .i64 0, .int .i64 nx, .slice x 0 y] 46) = w' ∧ JAt w' w.heap.size u a b nx x y ∧ Below w.heap.size w w' ∧ w.heap.size < w'.heap.size :=
  ⟨_, rfl, JAt.new _ _ _ _ _ _ _, (Below.refl _ _).alloc (Nat.le_refl _) _, by simp⟩
theorem jar_zero (w : World) : (w.alloc (.cells #[.slice none 0 0, .int .i64 0, .int .i64 0, .int .i64 0, .int .i64 0, .slice none 0 0] 46)).cell? ⟨w.heap.size, 0, none⟩ = some (.slice none 0 0) ∧ (w.alloc (.cells #[.slice none 0 0, .int .i64 0, .int .i64 0, .int .i64 0, .int .i64 0, .slice none 0 0] 46)).cell? ⟨w.heap.size, 1, none⟩ = some (.int .i64 0) ∧ (w.alloc (.cells #[.slice none 0 0, .int .i64 0, .int .i64 0, .int .i64 0, .int .i64 0, .slice none 0 0] 46)).cell? ⟨w.heap.size, 2, none⟩ = some (.int .i64 0) ∧ (w.alloc (.cells #[.slice none 0 0, .int .i64 0, .int .i64 0, .int .i64 0, .int .i64 0, .slice none 0 0] 46)).cell? ⟨w.heap.size, 3, none⟩ = some (.int .i64 0) ∧ (w.alloc (.cells #[.slice none 0 0, .int .i64 0, .int .i64 0, .int .i64 0, .int .i64 0, .slice none 0 0] 46)).cell? ⟨w.heap.size, 4, none⟩ = some (.int .i64 0) ∧ (w.alloc (.cells #[.slice none 0 0, .int .i64 0, .int .i64 0, .int .i64 0, .int .i64 0, .slice none 0 0] 46)).cell? ⟨w.heap.size, 5, none⟩ = some (.slice none 0 0) ∧ ∀ i, (w.alloc (.cells #[.slice none 0 0, .int .i64 0, .int .i64 0, .int .i64 0, .int .i64 0, .slice none 0 0] 46)).frozen? ⟨w.heap.size, i, none⟩ = false :=
  have h := jar_cells (w := w.alloc (.cells #[.slice none 0 0, .int .i64 0, .int .i64 0, .int .i64 0, .int .i64 0, .slice none 0 0] 46)) (heap_alloc_new w _)
  ⟨h.1, h.2.1, h.2.2.1, h.2.2.2.1, h.2.2.2.2.1, h.2.2.2.2.2, fun i => frozen_none (heap_alloc_new w _) i⟩
theorem RowC.tx {w : World} {A : Nat} {v : Value} {ps : List (List UInt8)} (h : RowC w A v ps) : TxIn w A w.heap.size v ps := h.1.tx
set_option maxRecDepth 100000 in
set_option maxHeartbeats 8000000 in
theorem walk_FnExactNewJar (W : World) (v : Value) (ps : List (List UInt8)) (hv : ArgT W v ps) (hm : ∀ x ∈ ps, x.length ≤ maxLen) (a : Int) (_ : (Lit.int .i64 a).wf = true) (b : Int) (_ : (Lit.int .i64 b).wf = true) (hL : laidMetH Tryd.prog Rows.fnExactNewJarRow.laid W) (_ : W.ShapedOpen Tryd.prog) :
    Calls Tryd.prog 7 #[v, .int .i64 a, .int .i64 b] W fun e w' => e = .returned (.bool true) ∧ Below W.heap.size W w' := by
  have HT := Lib.hid (tab_laid hL)
  clear hL
  have HV := Lib.hid hv
  have HM := Lib.hid hm
  clear hv hm
  by_cases hw : weighL ps ≤ 1048576
  · obtain ⟨hl, hx⟩ := weigh_small hw
    have HX := Lib.hid hx
    clear hx
    obtain ⟨rs, ja, jb, nx, c, hrs, hq⟩ := jarQ_form ps a b
    have HQ := Lib.hid hq
    clear hq
    have hne : (c != c) = false := by simp
    go_enter Tryd.func7, Tryd.ntmps7
    go_wp2_with fail
    refine (szStrings_any v ps 1048576 _ (Nat.le_refl _) HV.out HM.out).mono ?_
    rintro e w0 ⟨r, rfl, h0, _, rfl⟩
    have hr := h0 hw
    clear h0
    go_wp2_with fail
    refine (toStrings_any v ps _ hl HV.out).mono ?_
    rintro e w1 ⟨u1, rfl, hr1, hb⟩
    have B1 := Lib.hid hb
    have R1 := Lib.hid hr1
    clear hb hr1
    go_wp2_with fail
    refine (specNewJar_any u1 _ ps a b _ hl HX.out R1.out).mono ?_
    intro e w2 hp
    rw [HQ.out] at hp
    obtain ⟨us, xs, ys, rfl, hs, hb⟩ := hp
    obtain ⟨_, s1, s2, rfl, _, _⟩ := id hs
    have B2 := Lib.hid (B1.out.trans (hb.mono B1.out.size))
    have S2 := Lib.hid hs.tx
    have z12 := hb.size
    clear hb hs
    obtain ⟨w3, hw3, hj3, hb3, hz3⟩ := jar_boxed w2 (.slice s1 rs.length s2) ja jb nx xs ys
    have HW3 := Lib.hid hw3
    have JS3 := Lib.hid hj3
    have B3 := Lib.hid (B2.out.trans (hb3.mono B2.out.size))
    have S3 := Lib.hid (S2.out.below hb3 (Nat.le_refl _))
    clear hw3 hj3 hb3
    obtain ⟨c0, c1, c2, c3, c4, c5, f0⟩ := jar_zero w2
    go_upto_region 6 with fail
    rw [HW3.out]
    clear c0 c1 c2 c3 c4 c5 f0
    go_wp2_with fail
    refine (toStrings_any v ps _ hl (HV.out.below B3.out)).mono ?_
    rintro e w4 ⟨u4, rfl, hr4, hb⟩
    have B4 := Lib.hid (B3.out.trans (hb.mono B3.out.size))
    have JS4 := Lib.hid (JS3.out.stays hb (Nat.le_refl _))
    have S4 := Lib.hid (S3.out.below hb (by omega))
    have R4 := Lib.hid hr4
    have z34 := hb.size
    clear hb hr4
    go_wp2_with fail
    refine (implNewJar_any u4 _ ps a b _ hl HX.out R4.out (HT.out.below B4.out)).mono ?_
    intro e w5 hp
    rw [HQ.out] at hp
    obtain ⟨ui, xi, yi, rfl, hs, hb⟩ := hp
    obtain ⟨_, i1, i2, rfl, _, _⟩ := id hs
    have B5 := Lib.hid (B4.out.trans (hb.mono B4.out.size))
    have JS5 := Lib.hid (JS4.out.stays hb (Nat.le_refl _))
    have S5 := Lib.hid (S4.out.below hb (by omega))
    have R5 := Lib.hid (R4.out.tx.below hb (Nat.le_refl _))
    have I5 := Lib.hid hs.tx
    have z45 := hb.size
    clear hb hs
    obtain ⟨w6, hw6, hj6, hb6, hz6⟩ := jar_boxed w5 (.slice i1 rs.length i2) ja jb nx xi yi
    have HW6 := Lib.hid hw6
    have JI6 := Lib.hid hj6
    have JS6 := Lib.hid (JS5.out.stays hb6 (Nat.le_refl _))
    have B6 := Lib.hid (B5.out.trans (hb6.mono B5.out.size))
    have S6 := Lib.hid (S5.out.below hb6 (by omega))
    have R6 := Lib.hid (R5.out.below hb6 (by omega))
    have I6 := Lib.hid (I5.out.below hb6 (by omega))
    clear hw6 hj6 hb6
    obtain ⟨c0, c1, c2, c3, c4, c5, f0⟩ := jar_zero w5
    go_upto_region 8 with fail
    rw [HW6.out]
    clear c0 c1 c2 c3 c4 c5 f0
    obtain ⟨c0, c1, c2, c3, c4, c5⟩ := jar_cells JS6.out
    obtain ⟨d0, d1, d2, d3, d4, d5⟩ := jar_cells JI6.out
    go_wp2_with fail
    refine (eqJar_any _ _ rs ja jb nx _ _ _ _ _ _ _ (by omega) I6.out.row S6.out.row).mono ?_
    rintro e w7 ⟨rfl, hb⟩
    have JI7 := Lib.hid (JI6.out.stays hb (Nat.le_refl _))
    have JS7 := Lib.hid (JS6.out.stays hb (Nat.le_refl _))
    have B7 := Lib.hid (B6.out.trans (hb.mono B6.out.size))
    have S7 := Lib.hid (S6.out.below hb (by omega))
    have R7 := Lib.hid (R6.out.below hb (by omega))
    have I7 := Lib.hid (I6.out.below hb (by omega))
    have z67 := hb.size
    clear hb c0 c1 c2 c3 c4 c5 d0 d1 d2 d3 d4 d5
    go_wp2_with fail
    refine (toStrings_any v ps _ hl (HV.out.below B7.out)).mono ?_
    rintro e w8 ⟨u8, rfl, hr8, hb⟩
    have JI8 := Lib.hid (JI7.out.stays hb (Nat.le_refl _))
    have JS8 := Lib.hid (JS7.out.stays hb (Nat.le_refl _))
    have B8 := Lib.hid (B7.out.trans (hb.mono B7.out.size))
    have S8 := Lib.hid (S7.out.below hb (by omega))
    have R8 := Lib.hid (R7.out.below hb (by omega))
    have I8 := Lib.hid (I7.out.below hb (by omega))
    have RB8 := Lib.hid hr8
    have z78 := hb.size
    clear hb hr8
    go_wp2_with fail
    refine (eqStrings_any u4 u8 ps _ _ _ hl R8.out.row RB8.out.1).mono ?_
    rintro e w9 ⟨rfl, hb⟩
    have JI9 := Lib.hid (JI8.out.stays hb (Nat.le_refl _))
    have JS9 := Lib.hid (JS8.out.stays hb (Nat.le_refl _))
    have B9 := Lib.hid (B8.out.trans (hb.mono B8.out.size))
    have S9 := Lib.hid (S8.out.below hb (by omega))
    have R9 := Lib.hid (R8.out.below hb (by omega))
    have I9 := Lib.hid (I8.out.below hb (by omega))
    have z89 := hb.size
    clear hb
    go_wp2_with fail
    refine (markTx_any u4 ps w3.heap.size w4.heap.size 1 _ (by omega) (by omega) R9.out).mono ?_
    rintro e w10 ⟨rfl, _, ho⟩
    have hk0 : ¬ ((1 + ps.length : Nat) : Int) < 0 := by omega
    have JI10 := Lib.hid (JI9.out.out ho (Or.inr (by omega)))
    have JS10 := Lib.hid (JS9.out.out ho (Or.inl (by omega)))
    have z09 := B9.out.size
    have z01 := B1.out.size
    have B10 := Lib.hid (B9.out.trans (ho.low3 (by omega) (by omega)))
    have S10 := Lib.hid (S9.out.out ho (Or.inl (by omega)))
    have I10 := Lib.hid (I9.out.out ho (Or.inr (by omega)))
    have z910 := ho.b0.size
    clear ho
    obtain ⟨c0, c1, c2, c3, c4, c5⟩ := jar_cells JS10.out
    obtain ⟨d0, d1, d2, d3, d4, d5⟩ := jar_cells JI10.out
    go_wp2_with fail
    refine (eqJar_any _ _ rs ja jb nx _ _ _ _ _ _ _ (by omega) I10.out.row S10.out.row).mono ?_
    rintro e w11 ⟨rfl, hb⟩
    have JI11 := Lib.hid (JI10.out.stays hb (Nat.le_refl _))
    have JS11 := Lib.hid (JS10.out.stays hb (Nat.le_refl _))
    have B11 := Lib.hid (B10.out.trans (hb.mono B10.out.size))
    have S11 := Lib.hid (S10.out.below hb (by omega))
    have I11 := Lib.hid (I10.out.below hb (by omega))
    have z1011 := hb.size
    clear hb c0 c1 c2 c3 c4 c5 d0 d1 d2 d3 d4 d5
    obtain ⟨d0, d1, d2, d3, d4, d5⟩ := jar_cells JI11.out
    go_wp2_with fail
    refine (markJar_any _ rs ja jb nx _ _ w4.heap.size w5.heap.size 1 _ (by omega) (by omega) I11.out (by omega)).mono ?_
    rintro e w12 ⟨rfl, hI, ho⟩
    have JI12 := Lib.hid (JI11.out.out ho (Or.inr (Nat.le_refl _)))
    have JS12 := Lib.hid (JS11.out.out ho (Or.inl (by omega)))
    have B12 := Lib.hid (B11.out.trans (ho.low3 (by omega) (by omega)))
    have S12 := Lib.hid (S11.out.out ho (Or.inl (by omega)))
    have I12 := Lib.hid hI
    have z1112 := ho.b0.size
    clear ho hI d0 d1 d2 d3 d4 d5
    obtain ⟨d0, d1, d2, d3, d4, d5⟩ := jar_cells JI12.out
    go_wp2_with fail
    refine (heldJar_any _ rs.length ja jb nx _ _ w4.heap.size w5.heap.size 1 _ (by omega) (by omega) I12.out (by omega)).mono ?_
    rintro e w13 ⟨rfl, hb⟩
    have hk1 : ¬ ((1 + rs.length : Nat) : Int) < 0 := by omega
    have hkk : (((1 + rs.length : Nat) : Int) != ((1 + rs.length : Nat) : Int)) = false := by simp
    have JI13 := Lib.hid (JI12.out.stays hb (Nat.le_refl _))
    have JS13 := Lib.hid (JS12.out.stays hb (Nat.le_refl _))
    have B13 := Lib.hid (B12.out.trans (hb.mono B12.out.size))
    have S13 := Lib.hid (S12.out.below hb (by omega))
    have I13 := Lib.hid (I12.out.below hb (by omega))
    have z1213 := hb.size
    clear hb d0 d1 d2 d3 d4 d5
    go_wp2_with fail
    refine (toStrings_any v ps _ hl (HV.out.below B13.out)).mono ?_
    rintro e w14 ⟨u14, rfl, hr14, hb⟩
    have JI14 := Lib.hid (JI13.out.stays hb (Nat.le_refl _))
    have JS14 := Lib.hid (JS13.out.stays hb (Nat.le_refl _))
    have B14 := Lib.hid (B13.out.trans (hb.mono B13.out.size))
    have S14 := Lib.hid (S13.out.below hb (by omega))
    have I14 := Lib.hid (I13.out.below hb (by omega))
    have R14 := Lib.hid hr14
    have z1314 := hb.size
    clear hb hr14
    go_wp2_with fail
    refine (implNewJar_any u14 _ ps a b _ hl HX.out R14.out (HT.out.below B14.out)).mono ?_
    intro e w15 hp
    rw [HQ.out] at hp
    obtain ⟨uh, xh, yh, rfl, hs, hb⟩ := hp
    obtain ⟨_, h1, h2, rfl, _, _⟩ := id hs
    have JI15 := Lib.hid (JI14.out.stays hb (Nat.le_refl _))
    have JS15 := Lib.hid (JS14.out.stays hb (Nat.le_refl _))
    have B15 := Lib.hid (B14.out.trans (hb.mono B14.out.size))
    have S15 := Lib.hid (S14.out.below hb (by omega))
    have I15 := Lib.hid (I14.out.below hb (by omega))
    have G15 := Lib.hid hs.tx
    have z1415 := hb.size
    clear hb hs
    obtain ⟨w16, hw16, hj16, hb16, hz16⟩ := jar_boxed w15 (.slice h1 rs.length h2) ja jb nx xh yh
    have HW16 := Lib.hid hw16
    have JH16 := Lib.hid hj16
    have JI16 := Lib.hid (JI15.out.stays hb16 (Nat.le_refl _))
    have JS16 := Lib.hid (JS15.out.stays hb16 (Nat.le_refl _))
    have B16 := Lib.hid (B15.out.trans (hb16.mono B15.out.size))
    have S16 := Lib.hid (S15.out.below hb16 (by omega))
    have I16 := Lib.hid (I15.out.below hb16 (by omega))
    have G16 := Lib.hid (G15.out.below hb16 (by omega))
    clear hw16 hj16 hb16
    obtain ⟨c0, c1, c2, c3, c4, c5, f0⟩ := jar_zero w15
    go_upto_region 25 with fail
    rw [HW16.out]
    clear c0 c1 c2 c3 c4 c5 f0
    obtain ⟨c0, c1, c2, c3, c4, c5⟩ := jar_cells JS16.out
    obtain ⟨d0, d1, d2, d3, d4, d5⟩ := jar_cells JH16.out
    go_wp2_with fail
    refine (eqJar_any _ _ rs ja jb nx _ _ _ _ _ _ _ (by omega) G16.out.row S16.out.row).mono ?_
    rintro e w17 ⟨rfl, hb⟩
    have JI17 := Lib.hid (JI16.out.stays hb (Nat.le_refl _))
    have B17 := Lib.hid (B16.out.trans (hb.mono B16.out.size))
    have I17 := Lib.hid (I16.out.below hb (by omega))
    have z1617 := hb.size
    clear hb c0 c1 c2 c3 c4 c5 d0 d1 d2 d3 d4 d5
    obtain ⟨d0, d1, d2, d3, d4, d5⟩ := jar_cells JI17.out
    go_wp2_with fail
    refine (heldJar_any _ rs.length ja jb nx _ _ w4.heap.size w5.heap.size 1 _ (by omega) (by omega) I17.out (by omega)).mono ?_
    rintro e w18 ⟨rfl, hb⟩
    have B18 := Lib.hid (B17.out.trans (hb.mono B17.out.size))
    clear hb d0 d1 d2 d3 d4 d5
    go_wp2_with fail
    go_ret
    exact ⟨rfl, B18.out⟩
  · go_enter Tryd.func7, Tryd.ntmps7
    go_wp2_with fail
    refine (szStrings_any v ps 1048576 _ (Nat.le_refl _) HV.out HM.out).mono ?_
    rintro e w0 ⟨r, rfl, _, h1, rfl⟩
    obtain rfl := h1 hw
    clear h1
    go_wp2_with fail
    go_ret
    exact ⟨rfl, Below.refl _ _⟩
end Go.Proofs.YtcaabnnkjnleeaaDoor
