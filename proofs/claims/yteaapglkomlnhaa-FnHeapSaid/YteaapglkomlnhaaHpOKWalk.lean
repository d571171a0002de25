/- The law of HeapOK: its walk. No condition of its own. -/
import Derived.Test.YteaapglkomlnhaaHpOK
namespace Go.Proofs.Yteaapglkomlnhaa
open Go.ChangeShapes Go.WideShapes Go.ChangeAt Go.WideMaps Go.WideElems Go.RowKit

theorem RowSl.own {w : World} {g : Nat} {qs : List Sl} (h : RowSl w g qs) (hl : qs.length ≤ 1048576) : SlsIn w g w.heap.size true (.slice (some ⟨g, 0, none⟩) qs.length qs.length) qs := h.in (Nat.le_refl _) h.1 (Nat.le_refl _) (by unfold maxLen; omega)
set_option maxRecDepth 100000 in
set_option maxHeartbeats 1000000 in
theorem walk_FnExactHeapOK (W : World) (v : Value) (qs : List Sl) (hv : SlsIn W 0 W.heap.size false v qs) (_ : laidMetH Try.prog Rows.fnExactHeapOKRow.laid W) (_ : W.ShapedOpen Try.prog) :
    Calls Try.prog 3 #[v] W fun e w' => e = .returned (.bool true) ∧ Below W.heap.size W w' := by

  have HV := Lib.hid hv
  obtain ⟨a, cap, rfl, _⟩ := id hv
  clear hv
  by_cases hl : qs.length ≤ 1048576
  · go_enter Try.func3, Try.ntmps3
    go_wp2_with fail
    refine (szSlots_any _ qs 1048576 0 W.heap.size false _ (Nat.le_refl _) HV.out).mono ?_
    rintro e w1 ⟨rfl, r, rfl, hr, _⟩
    have hr0 : (0 : Int) ≤ r := hr hl
    clear hr
    go_wp2_with fail
    refine (toSlots_any _ qs 0 W.heap.size false _ hl (Nat.le_refl _) HV.out).mono ?_
    rintro e w1 ⟨rfl, hrow, hb⟩
    have HR1 := Lib.hid hrow
    have HB1 := Lib.hid hb
    clear hrow hb
    go_wp2_with fail
    refine (specHeapOK_any _ qs W.heap.size w1.heap.size true _ hl (Nat.le_refl _) (HR1.out.own hl)).mono ?_
    rintro e w2 ⟨rfl, hb⟩
    have HB2 := Lib.hid (HB1.out.trans (hb.mono HB1.out.size))
    clear hb
    go_wp2_with fail
    refine (toSlots_any _ qs 0 W.heap.size false _ hl HB2.out.size (HV.out.below HB2.out (Nat.le_refl _))).mono ?_
    rintro e w3 ⟨rfl, hrow, hb⟩
    have HR3 := Lib.hid hrow
    have HB3 := Lib.hid (HB2.out.trans (hb.mono HB2.out.size))
    clear hrow hb
    go_wp2_with fail
    refine (implHeapOK_any _ qs w2.heap.size w3.heap.size true _ hl (Nat.le_refl _) (HR3.out.own hl)).mono ?_
    rintro e w4 ⟨rfl, hb⟩
    have HB4 := Lib.hid (HB3.out.trans (hb.mono HB3.out.size))
    have HR4 := Lib.hid (HR3.out.below hb)
    clear hb
    have hne : (hpB qs != hpB qs) = false := by simp
    go_wp2_with fail
    refine (toSlots_any _ qs 0 W.heap.size false _ hl HB4.out.size (HV.out.below HB4.out (Nat.le_refl _))).mono ?_
    rintro e w5 ⟨rfl, hrow, hb⟩
    have HR5 := Lib.hid hrow
    have HB5 := Lib.hid (HB4.out.trans (hb.mono HB4.out.size))
    have HR45 := Lib.hid (HR4.out.below hb)
    clear hrow hb
    go_wp2_with fail
    refine (eqSlots_any _ _ w2.heap.size w5.heap.size w4.heap.size w5.heap.size true true qs _ hl (Nat.le_refl _) (Nat.le_refl _) (HR45.out.own hl) (HR5.out.own hl)).mono ?_
    rintro e w6 ⟨rfl, hb⟩
    have HB6 := Lib.hid (HB5.out.trans (hb.mono HB5.out.size))
    clear hb
    go_wp2_with fail
    go_ret
    exact ⟨rfl, HB6.out⟩
  · go_enter Try.func3, Try.ntmps3
    go_wp2_with fail
    refine (szSlots_any _ qs 1048576 0 W.heap.size false _ (Nat.le_refl _) HV.out).mono ?_
    rintro e w1 ⟨rfl, r, rfl, _, hr⟩
    obtain rfl := hr (by omega)
    clear hr
    go_wp2_with fail
    go_ret
    exact ⟨rfl, Below.refl _ _⟩
end Go.Proofs.Yteaapglkomlnhaa
