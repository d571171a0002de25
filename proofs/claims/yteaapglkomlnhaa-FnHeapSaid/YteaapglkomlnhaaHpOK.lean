/- HeapOK of the program and of the model; the law's walk. No condition of its own. -/
import Derived.Test.YteaapglkomlnhaaHpSame
namespace Go.Proofs.Yteaapglkomlnhaa
open Go.ChangeShapes Go.WideShapes Go.ChangeAt Go.WideMaps Go.WideElems Go.RowKit

set_option maxRecDepth 100000 in
theorem implHeapOK_any (v : Value) (qs : List Sl) (A B : Nat) (z : Bool) (w : World) (hl : qs.length ≤ 1048576) (hBw : B ≤ w.heap.size) (hv : SlsIn w A B z v qs) : Calls Try.prog 13 #[v] w fun e w' => e = .returned (.bool (hpB qs)) ∧ Below w.heap.size w w' := by
  obtain ⟨ans, hans⟩ : ∃ ans, hpB qs = ans := ⟨_, rfl⟩
  rw [hans]
  have HA := Lib.hid hans
  have HV := Lib.hid hv
  obtain ⟨a, cap, rfl, _⟩ := id hv
  clear hans hv
  by_cases h16 : qs.length ≤ 16
  · have s16 : decide ((qs.length : Int) > 16) = false := decide_eq_false (by omega)
    have HS := Lib.hid (heap_same h16)
    go_enter Try.func13, Try.ntmps13
    go_wp2_with fail
    refine (containsNoSlot_any _ qs A B z _ hl hBw HV.out).mono ?_
    rintro e w1 ⟨rfl, hb⟩
    have HB1 := Lib.hid hb
    clear hb
    cases h1 : qs.all slotB with
    | false =>
      have HE : Hid (ans = false) := Lib.hid (by rw [← HA.out, HS.out, h1]; rfl)
      go_wp2_with fail
      go_ret
      exact ⟨bool_end HE.out.symm, HB1.out⟩
    | true =>
      go_wp2_with fail
      refine (slotIds_any _ qs A B z w1 hl (Nat.le_trans hBw HB1.out.size) (HV.out.below HB1.out hBw)).mono ?_
      rintro e w2 ⟨u, rfl, hn, hb⟩
      have HB2 := Lib.hid (HB1.out.trans (hb.mono HB1.out.size))
      have HN := Lib.hid hn
      obtain ⟨ids, hids⟩ : ∃ ids, qs.map (·.i) = ids := ⟨_, rfl⟩
      have HL : Hid (ids.length ≤ 1048576) := Lib.hid (by rw [← hids]; simpa using hl)
      rw [hids] at HN HS hn
      obtain ⟨a2, cap2, rfl, _⟩ := id hn
      clear hb hn hids
      go_wp2_with fail
      refine (idsOK_any _ ids w2 HL.out HN.out).mono ?_
      rintro e w3 ⟨rfl, hb⟩
      have HB3 := Lib.hid (HB2.out.trans (hb.mono HB2.out.size))
      clear hb
      cases h2 : numsB ids with
      | false =>
        have HE : Hid (ans = false) := Lib.hid (by rw [← HA.out, HS.out, h1, h2]; rfl)
        go_wp2_with fail
        go_ret
        exact ⟨bool_end HE.out.symm, HB3.out⟩
      | true =>
        have HE : Hid (ans = ordB qs) := Lib.hid (by rw [← HA.out, HS.out, h1, h2]; rfl)
        go_wp2_with fail
        refine (ordered_any _ qs A B z w3 hl (Nat.le_trans hBw HB3.out.size) (HV.out.below HB3.out hBw)).mono ?_
        rintro e w4 ⟨rfl, hb⟩
        have HB4 := Lib.hid (HB3.out.trans (hb.mono HB3.out.size))
        clear hb
        go_wp2_with fail
        go_ret
        exact ⟨bool_end HE.out.symm, HB4.out⟩
  · have s16 : decide ((qs.length : Int) > 16) = true := decide_eq_true (by omega)
    have HE : Hid (ans = false) := Lib.hid (by rw [← HA.out]; exact hpB_no fun h => h16 h.1)
    go_enter Try.func13, Try.ntmps13
    go_wp2_with fail
    go_ret
    exact ⟨bool_end HE.out.symm, Below.refl _ _⟩
theorem specHeapOK_any (v : Value) (qs : List Sl) (A B : Nat) (z : Bool) (w : World) (hl : qs.length ≤ 1048576) (hBw : B ≤ w.heap.size) (hv : SlsIn w A B z v qs) : Calls Try.prog 11 #[v] w fun e w' => e = .returned (.bool (hpB qs)) ∧ Below w.heap.size w w' := by
  have HV := Lib.hid hv
  obtain ⟨a, cap, rfl, _⟩ := id hv
  clear hv
  by_cases h0 : (qs.length : Int) > 4096
  · have HE : Hid (hpB qs = false) := Lib.hid (hpB_no fun h => by have := h.1; omega)
    go_enter Try.func11, Try.ntmps11
    go_wp2_with fail
    go_ret
    exact ⟨bool_end HE.out.symm, Below.refl _ _⟩
  · go_enter Try.func11, Try.ntmps11
    go_wp2_with fail
    refine (spec08_any _ qs A B z w hl hBw HV.out).mono ?_
    rintro e w1 ⟨rfl, hb⟩
    have HB := Lib.hid hb
    clear hb
    go_wp2_with fail
    go_ret
    exact ⟨rfl, HB.out⟩
end Go.Proofs.Yteaapglkomlnhaa
