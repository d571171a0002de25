/- The law of HeapSort: its walk. No condition of its own. -/
import Derived.Test.YteaapglkomlnhaaHpSort
import Derived.Test.YteaapglkomlnhaaHpOKWalk
namespace Go.Proofs.Yteaapglkomlnhaa
open Go.ChangeShapes Go.WideShapes Go.ChangeAt Go.WideMaps Go.WideElems Go.RowKit

set_option maxRecDepth 100000 in
set_option maxHeartbeats 2000000 in
theorem walk_FnExactHeapSort (W : World) (v : Value) (qs : List Sl) (hv : SlsIn W 0 W.heap.size false v qs) (_ : laidMetH Try.prog Rows.fnExactHeapSortRow.laid W) (_ : W.ShapedOpen Try.prog) :
    Calls Try.prog 8 #[v] W fun e w' => e = .returned (.bool true) ∧ Below W.heap.size W w' := by
  have HV := Lib.hid hv
  obtain ⟨a, cap, rfl, _⟩ := id hv
  clear hv
  by_cases hl : qs.length ≤ 1048576
  · obtain ⟨rs, hrs⟩ : ∃ rs, sorL qs = rs := ⟨_, rfl⟩
    obtain ⟨rc, hrc⟩ : ∃ rc, codeS qs = rc := ⟨_, rfl⟩
    have HRL : Hid (rs.length ≤ 1048576) := Lib.hid (by
      rw [← hrs]
      have := sorL_length qs
      omega)
    have HSP : Hid (∀ (w : World) (A B : Nat) (u : Value), B ≤ w.heap.size → SlsIn w A B true u qs → Calls Try.prog 30 #[u] w (ResSl w rs rc)) := Lib.hid fun w A B u hB h => by
      have := specSort_any u qs A B true w hl hB h
      rw [hrs, hrc] at this
      exact this
    have HIM : Hid (∀ (w : World) (A B : Nat) (u : Value), B ≤ w.heap.size → SlsIn w A B true u qs → Calls Try.prog 31 #[u] w (ResSl w rs rc)) := Lib.hid fun w A B u hB h => by
      have := implSort_any u qs A B true w hl hB h
      rw [hrs, hrc] at this
      exact this
    clear hrs hrc
    have hcc : (rc != rc) = false := by simp
    go_enter Try.func8, Try.ntmps8
    go_wp2_with fail
    refine (szSlots_any _ qs 1048576 0 W.heap.size false _ (Nat.le_refl _) HV.out).mono ?_
    rintro e w1 ⟨rfl, r, rfl, hr, _⟩
    have hr0 : (0 : Int) ≤ r := hr hl
    clear hr
    go_wp2_with fail
    refine (toSlots_any _ qs 0 W.heap.size false _ hl (Nat.le_refl _) HV.out).mono ?_
    rintro e w1 ⟨rfl, hrow, hb⟩
    have HR1 := Lib.hid hrow
    have HB1 := Lib.hid hb
    clear hrow hb
    go_wp2_with fail
    refine (HSP.out _ W.heap.size w1.heap.size _ (Nat.le_refl _) (HR1.out.own hl)).mono ?_
    rintro e w2 ⟨u, rfl, hu, hb⟩
    have HB2 := Lib.hid (HB1.out.trans (hb.mono HB1.out.size))
    have z12 := hb.size
    have HU2 := Lib.hid hu
    clear hu hb
    go_wp2_with fail
    refine (toSlots_any _ qs 0 W.heap.size false _ hl HB2.out.size (HV.out.below HB2.out (Nat.le_refl _))).mono ?_
    rintro e w3 ⟨rfl, hrow, hb⟩
    have HX3 := Lib.hid (hrow.own hl)
    have HU3 := Lib.hid (HU2.out.below hb (Nat.le_refl _))
    have HB3 := Lib.hid (HB2.out.trans (hb.mono HB2.out.size))
    have z23 := hb.size
    clear hrow hb
    go_wp2_with fail
    refine (HIM.out _ w2.heap.size w3.heap.size _ (Nat.le_refl _) HX3.out).mono ?_
    rintro e w4 ⟨g, rfl, hg, hb⟩
    have HG4 := Lib.hid hg
    have HX4 := Lib.hid (HX3.out.below hb (Nat.le_refl _))
    have HU4 := Lib.hid (HU3.out.below hb z23)
    have HB4 := Lib.hid (HB3.out.trans (hb.mono HB3.out.size))
    have z34 := hb.size
    clear hg hb
    go_wp2_with fail
    refine (eqSlots_any _ _ w3.heap.size w4.heap.size w1.heap.size w2.heap.size true true rs _ (by have := HRL.out; omega) (Nat.le_refl _) (by omega) HG4.out HU4.out).mono ?_
    rintro e w5 ⟨rfl, hb⟩
    have HG5 := Lib.hid (HG4.out.below hb (Nat.le_refl _))
    have HX5 := Lib.hid (HX4.out.below hb z34)
    have HU5 := Lib.hid (HU4.out.below hb (by omega))
    have HB5 := Lib.hid (HB4.out.trans (hb.mono HB4.out.size))
    have z45 := hb.size
    clear hb
    go_wp2_with fail
    refine (toSlots_any _ qs 0 W.heap.size false _ hl HB5.out.size (HV.out.below HB5.out (Nat.le_refl _))).mono ?_
    rintro e w6 ⟨rfl, hrow, hb⟩
    have HY6 := Lib.hid (hrow.own hl)
    have HG6 := Lib.hid (HG5.out.below hb z45)
    have HX6 := Lib.hid (HX5.out.below hb (by omega))
    have HU6 := Lib.hid (HU5.out.below hb (by omega))
    have HB6 := Lib.hid (HB5.out.trans (hb.mono HB5.out.size))
    have z56 := hb.size
    clear hrow hb
    go_wp2_with fail
    refine (eqSlots_any _ _ w2.heap.size w3.heap.size w5.heap.size w6.heap.size true true qs _ hl (by omega) (Nat.le_refl _) HX6.out HY6.out).mono ?_
    rintro e w7 ⟨rfl, hb⟩
    have HG7 := Lib.hid (HG6.out.below hb (by omega))
    have HX7 := Lib.hid (HX6.out.below hb (by omega))
    have HU7 := Lib.hid (HU6.out.below hb (by omega))
    have HB7 := Lib.hid (HB6.out.trans (hb.mono HB6.out.size))
    have z67 := hb.size
    clear hb
    go_wp2_with fail
    refine (mark_any _ qs w2.heap.size w3.heap.size 1 _ hl (by omega) (by decide) (by decide) HX7.out).mono ?_
    rintro e w8 ⟨rfl, _, hb⟩
    have HG8 := Lib.hid (HG7.out.out hb (by omega) (by omega))
    have HU8 := Lib.hid (HU7.out.out hb (by omega) (by omega))
    have z12W := HB1.out.size
    have HB8 := Lib.hid (HB7.out.trans (hb.below (by omega) |>.mono (show W.heap.size ≤ w2.heap.size by omega)))
    have z78 := hb.b0.size
    clear hb
    have hk : ¬ (1 + 2 * (qs.length : Int)) < 0 := by omega
    have hk2 : decide ((1 + 2 * (qs.length : Int)) < 0) = false := decide_eq_false hk
    go_wp2_with fail
    refine (eqSlots_any _ _ w3.heap.size w4.heap.size w1.heap.size w2.heap.size true true rs _ (by have := HRL.out; omega) (by omega) (by omega) HG8.out HU8.out).mono ?_
    rintro e w9 ⟨rfl, hb⟩
    have HG9 := Lib.hid (HG8.out.below hb (by omega))
    have HU9 := Lib.hid (HU8.out.below hb (by omega))
    have HB9 := Lib.hid (HB8.out.trans (hb.mono HB8.out.size))
    have z89 := hb.size
    clear hb
    go_wp2_with fail
    refine (mark_any _ rs w3.heap.size w4.heap.size 1 _ (by have := HRL.out; omega) (by omega) (by decide) (by decide) HG9.out).mono ?_
    rintro e w10 ⟨rfl, hm, hb⟩
    have HM10 := Lib.hid hm
    have HU10 := Lib.hid (HU9.out.out hb (by omega) (by omega))
    have HB10 := Lib.hid (HB9.out.trans (hb.below (by omega) |>.mono (show W.heap.size ≤ w3.heap.size by omega)))
    have z910 := hb.b0.size
    clear hb hm
    go_wp2_with fail
    refine (held_any _ rs.length w3.heap.size w4.heap.size 1 _ (by have := HRL.out; omega) (by omega) (by decide) (by decide) HM10.out).mono ?_
    rintro e w11 ⟨rfl, rfl⟩
    have hn : ¬ (1 + 2 * (rs.length : Int)) < 0 := by omega
    have hne : ((1 + 2 * (rs.length : Int)) != (1 + 2 * (rs.length : Int))) = false := by simp
    go_wp2_with fail
    refine (toSlots_any _ qs 0 W.heap.size false _ hl HB10.out.size (HV.out.below HB10.out (Nat.le_refl _))).mono ?_
    rintro e w12 ⟨rfl, hrow, hb⟩
    have HX12 := Lib.hid (hrow.own hl)
    have HM12 := Lib.hid (HM10.out.below hb (by omega))
    have HU12 := Lib.hid (HU10.out.below hb (by omega))
    have HB12 := Lib.hid (HB10.out.trans (hb.mono HB10.out.size))
    have z1112 := hb.size
    clear hrow hb
    go_wp2_with fail
    refine (HIM.out _ w10.heap.size w12.heap.size _ (Nat.le_refl _) HX12.out).mono ?_
    rintro e w13 ⟨h, rfl, hh, hb⟩
    have HH13 := Lib.hid hh
    have HM13 := Lib.hid (HM12.out.below hb (by omega))
    have HU13 := Lib.hid (HU12.out.below hb (by omega))
    have HB13 := Lib.hid (HB12.out.trans (hb.mono HB12.out.size))
    have z1213 := hb.size
    clear hh hb
    go_wp2_with fail
    refine (eqSlots_any _ _ w12.heap.size w13.heap.size w1.heap.size w2.heap.size true true rs _ (by have := HRL.out; omega) (Nat.le_refl _) (by omega) HH13.out HU13.out).mono ?_
    rintro e w14 ⟨rfl, hb⟩
    have HM14 := Lib.hid (HM13.out.below hb (by omega))
    have HB14 := Lib.hid (HB13.out.trans (hb.mono HB13.out.size))
    have z1314 := hb.size
    clear hb
    go_wp2_with fail
    refine (held_any _ rs.length w3.heap.size w4.heap.size 1 _ (by have := HRL.out; omega) (by omega) (by decide) (by decide) HM14.out).mono ?_
    rintro e w15 ⟨rfl, rfl⟩
    go_wp2_with fail
    go_ret
    exact ⟨rfl, HB14.out⟩
  · go_enter Try.func8, Try.ntmps8
    go_wp2_with fail
    refine (szSlots_any _ qs 1048576 0 W.heap.size false _ (Nat.le_refl _) HV.out).mono ?_
    rintro e w1 ⟨rfl, r, rfl, _, hr⟩
    obtain rfl := hr (by omega)
    clear hr
    go_wp2_with fail
    go_ret
    exact ⟨rfl, Below.refl _ _⟩
end Go.Proofs.Yteaapglkomlnhaa
