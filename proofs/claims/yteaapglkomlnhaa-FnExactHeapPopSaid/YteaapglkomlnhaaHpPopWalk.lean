/- The law of HeapPop: its walk. No condition of its own. -/
import Derived.Test.YteaapglkomlnhaaHpPop
import Derived.Test.YteaapglkomlnhaaHpOKWalk
namespace Go.Proofs.Yteaapglkomlnhaa
open Go.ChangeShapes Go.WideShapes Go.ChangeAt Go.WideMaps Go.WideElems Go.RowKit

theorem BlkSl.outr {w w' : World} {A B p : Nat} {q : Sl} (h : BlkSl w p q) (ho : Out A B w w') (hp : p < A ∨ B ≤ p) : BlkSl w' p q := (ho.block p h.lt hp).trans h
set_option maxRecDepth 100000 in
set_option maxHeartbeats 2000000 in
theorem walk_FnExactHeapPop (W : World) (v : Value) (qs : List Sl) (hv : SlsIn W 0 W.heap.size false v qs) (_ : laidMetH Try.prog Rows.fnExactHeapPopRow.laid W) (_ : W.ShapedOpen Try.prog) :
    Calls Try.prog 5 #[v] W fun e w' => e = .returned (.bool true) ∧ Below W.heap.size W w' := by
  have HV := Lib.hid hv
  have HB : Hid (Below W.heap.size W W) := Lib.hid (Below.refl _ _)
  have yW : W.heap.size ≤ W.heap.size := Nat.le_refl _
  obtain ⟨a, cap, rfl, _⟩ := id hv
  clear hv
  by_cases hl : qs.length ≤ 1048576
  · obtain ⟨rs, hrs⟩ : ∃ rs, popL qs = rs := ⟨_, rfl⟩
    obtain ⟨x, hx⟩ : ∃ x, popX qs = x := ⟨_, rfl⟩
    obtain ⟨rc, hrc⟩ : ∃ rc, popC qs = rc := ⟨_, rfl⟩
    have HRL : Hid (rs.length ≤ 1048576) := Lib.hid (by
      rw [← hrs]
      have := popL_length qs
      omega)
    have HSP : Hid (∀ (w : World) (A B : Nat) (u : Value), B ≤ w.heap.size → SlsIn w A B true u qs → Calls Try.prog 20 #[u] w (ResPop w rs x rc)) := Lib.hid fun w A B u hB h => by
      have := specPop_any u qs A B true w hl hB h
      rw [hrs, hx, hrc] at this
      exact this
    have HIM : Hid (∀ (w : World) (A B : Nat) (u : Value), B ≤ w.heap.size → SlsIn w A B true u qs → Calls Try.prog 21 #[u] w (ResPop w rs x rc)) := Lib.hid fun w A B u hB h => by
      have := implPop_any u qs A B true w hl hB h
      rw [hrs, hx, hrc] at this
      exact this
    clear hrs hx hrc
    have hcc : (rc != rc) = false := by simp
    go_enter Try.func5, Try.ntmps5
    go_wp2_with fail
    refine (szSlots_any _ qs 1048576 0 W.heap.size false _ (Nat.le_refl _) HV.out).mono ?_
    rintro e w1 ⟨rfl, r, rfl, hr, _⟩
    have hr0 : (0 : Int) ≤ r := hr hl
    clear hr
    go_wp2_with fail
    refine (toSlots_any _ qs 0 W.heap.size false _ hl HB.out.size (HV.out.below HB.out (Nat.le_refl _))).mono ?_
    rintro e w1 ⟨rfl, hrow, hb⟩
    have HB := Lib.hid (HB.out.trans (hb.mono HB.out.size))
    have zw1 := hb.size
    have yw1 := HB.out.size
    have X1 := Lib.hid (hrow.own hl)
    clear hrow hb
    go_wp2_with fail
    refine (HSP.out _ W.heap.size w1.heap.size _ (by omega) X1.out).mono ?_
    rintro e w2 ⟨u, rfl, hu, hb⟩
    have X1 := Lib.hid (X1.out.below hb (by omega))
    have HB := Lib.hid (HB.out.trans (hb.mono HB.out.size))
    have zw2 := hb.size
    have yw2 := HB.out.size
    have HU := Lib.hid hu
    clear hb hu
    obtain ⟨v2, hv2⟩ : ∃ v, w2.alloc (.cells #[.int .i64 x.k, .int .i64 x.i] 33) = v := ⟨_, rfl⟩
    have hb : Below w2.heap.size w2 v2 := by
      rw [← hv2]
      exact (Below.refl _ _).alloc (Nat.le_refl _) _
    have sv2 : w2.heap.size < v2.heap.size := by
      rw [← hv2]
      simp
    have hk : BlkSl v2 w2.heap.size x := by
      rw [← hv2]
      exact BlkSl.new _ x _ rfl
    have X1 := Lib.hid (X1.out.below hb (by omega))
    have HU := Lib.hid (HU.out.below hb (by omega))
    have HB := Lib.hid (HB.out.trans (hb.mono HB.out.size))
    have zv2 := hb.size
    have yv2 := HB.out.size
    have K1 := Lib.hid hk
    clear hb hk
    go_wp2_with fail
    refine (toSlots_any _ qs 0 W.heap.size false _ hl HB.out.size (HV.out.below HB.out (Nat.le_refl _))).mono ?_
    rintro e w3 ⟨rfl, hrow, hb⟩
    have HU := Lib.hid (HU.out.below hb (by omega))
    have K1 := Lib.hid (K1.out.below hb)
    have HB := Lib.hid (HB.out.trans (hb.mono HB.out.size))
    have zw3 := hb.size
    have yw3 := HB.out.size
    have HX := Lib.hid (hrow.own hl)
    clear hrow hb
    go_wp2_with fail
    refine (HIM.out _ v2.heap.size w3.heap.size _ (by omega) HX.out).mono ?_
    rintro e w4 ⟨gv, rfl, hg, hb⟩
    have HU := Lib.hid (HU.out.below hb (by omega))
    have HX := Lib.hid (HX.out.below hb (by omega))
    have K1 := Lib.hid (K1.out.below hb)
    have HB := Lib.hid (HB.out.trans (hb.mono HB.out.size))
    have zw4 := hb.size
    have yw4 := HB.out.size
    have HG := Lib.hid hg
    clear hb hg
    obtain ⟨v4, hv4⟩ : ∃ v, w4.alloc (.cells #[.int .i64 x.k, .int .i64 x.i] 33) = v := ⟨_, rfl⟩
    have hb : Below w4.heap.size w4 v4 := by
      rw [← hv4]
      exact (Below.refl _ _).alloc (Nat.le_refl _) _
    have sv4 : w4.heap.size < v4.heap.size := by
      rw [← hv4]
      simp
    have hk : BlkSl v4 w4.heap.size x := by
      rw [← hv4]
      exact BlkSl.new _ x _ rfl
    have HU := Lib.hid (HU.out.below hb (by omega))
    have HX := Lib.hid (HX.out.below hb (by omega))
    have HG := Lib.hid (HG.out.below hb (by omega))
    have K1 := Lib.hid (K1.out.below hb)
    have HB := Lib.hid (HB.out.trans (hb.mono HB.out.size))
    have zv4 := hb.size
    have yv4 := HB.out.size
    have K2 := Lib.hid hk
    clear hb hk
    go_wp2_with fail
    refine (eqSlots_any _ _ w3.heap.size w4.heap.size w1.heap.size w2.heap.size true true rs _ (by have := HRL.out; omega) (by omega) (by omega) HG.out HU.out).mono ?_
    rintro e w5 ⟨rfl, hb⟩
    have HU := Lib.hid (HU.out.below hb (by omega))
    have HX := Lib.hid (HX.out.below hb (by omega))
    have HG := Lib.hid (HG.out.below hb (by omega))
    have K1 := Lib.hid (K1.out.below hb)
    have K2 := Lib.hid (K2.out.below hb)
    have HB := Lib.hid (HB.out.trans (hb.mono HB.out.size))
    have zw5 := hb.size
    have yw5 := HB.out.size
    clear hb
    obtain ⟨k0, k1, _, _⟩ := K2.out.cells
    obtain ⟨l0, l1, _, _⟩ := K1.out.cells
    go_wp2_with fail
    refine (eqSlot_any x _).mono ?_
    rintro e w6 ⟨rfl, hb⟩
    have HU := Lib.hid (HU.out.below hb (by omega))
    have HX := Lib.hid (HX.out.below hb (by omega))
    have HG := Lib.hid (HG.out.below hb (by omega))
    have K1 := Lib.hid (K1.out.below hb)
    have K2 := Lib.hid (K2.out.below hb)
    have HB := Lib.hid (HB.out.trans (hb.mono HB.out.size))
    have zw6 := hb.size
    have yw6 := HB.out.size
    clear hb k0 k1 l0 l1
    go_wp2_with fail
    refine (toSlots_any _ qs 0 W.heap.size false _ hl HB.out.size (HV.out.below HB.out (Nat.le_refl _))).mono ?_
    rintro e w7 ⟨rfl, hrow, hb⟩
    have HU := Lib.hid (HU.out.below hb (by omega))
    have HX := Lib.hid (HX.out.below hb (by omega))
    have HG := Lib.hid (HG.out.below hb (by omega))
    have K1 := Lib.hid (K1.out.below hb)
    have K2 := Lib.hid (K2.out.below hb)
    have HB := Lib.hid (HB.out.trans (hb.mono HB.out.size))
    have zw7 := hb.size
    have yw7 := HB.out.size
    have HY := Lib.hid (hrow.own hl)
    clear hrow hb
    go_wp2_with fail
    refine (eqSlots_any _ _ v2.heap.size w3.heap.size w6.heap.size w7.heap.size true true qs _ hl (by omega) (by omega) HX.out HY.out).mono ?_
    rintro e w8 ⟨rfl, hb⟩
    have HU := Lib.hid (HU.out.below hb (by omega))
    have HX := Lib.hid (HX.out.below hb (by omega))
    have HG := Lib.hid (HG.out.below hb (by omega))
    have HY := Lib.hid (HY.out.below hb (by omega))
    have K1 := Lib.hid (K1.out.below hb)
    have K2 := Lib.hid (K2.out.below hb)
    have HB := Lib.hid (HB.out.trans (hb.mono HB.out.size))
    have zw8 := hb.size
    have yw8 := HB.out.size
    clear hb
    go_wp2_with fail
    refine (mark_any _ qs v2.heap.size w3.heap.size 1 _ hl (by omega) (by omega) (by omega) HX.out).mono ?_
    rintro e w9 ⟨rfl, hm, hb⟩
    have HU := Lib.hid (HU.out.out hb (by omega) (by omega))
    have HG := Lib.hid (HG.out.out hb (by omega) (by omega))
    have K1 := Lib.hid (K1.out.outr hb (by omega))
    have K2 := Lib.hid (K2.out.outr hb (by omega))
    have HB := Lib.hid (HB.out.trans ((hb.below (by omega)).mono (by omega)))
    have zw9 := hb.b0.size
    have yw9 := HB.out.size
    have HX := Lib.hid hm
    clear hb hm
    have hk : ¬ (1 + 2 * (qs.length : Int)) < 0 := by omega
    have hk2 : decide ((1 + 2 * (qs.length : Int)) < 0) = false := decide_eq_false hk
    go_wp2_with fail
    refine (eqSlots_any _ _ w3.heap.size w4.heap.size w1.heap.size w2.heap.size true true rs _ (by have := HRL.out; omega) (by omega) (by omega) HG.out HU.out).mono ?_
    rintro e w10 ⟨rfl, hb⟩
    have HU := Lib.hid (HU.out.below hb (by omega))
    have HG := Lib.hid (HG.out.below hb (by omega))
    have K1 := Lib.hid (K1.out.below hb)
    have K2 := Lib.hid (K2.out.below hb)
    have HB := Lib.hid (HB.out.trans (hb.mono HB.out.size))
    have zw10 := hb.size
    have yw10 := HB.out.size
    clear hb
    obtain ⟨k0, k1, _, _⟩ := K2.out.cells
    obtain ⟨l0, l1, _, _⟩ := K1.out.cells
    go_wp2_with fail
    refine (eqSlot_any x _).mono ?_
    rintro e w11 ⟨rfl, hb⟩
    have HU := Lib.hid (HU.out.below hb (by omega))
    have HG := Lib.hid (HG.out.below hb (by omega))
    have K1 := Lib.hid (K1.out.below hb)
    have K2 := Lib.hid (K2.out.below hb)
    have HB := Lib.hid (HB.out.trans (hb.mono HB.out.size))
    have zw11 := hb.size
    have yw11 := HB.out.size
    clear hb k0 k1 l0 l1
    go_wp2_with fail
    refine (mark_any _ rs w3.heap.size w4.heap.size 1 _ (by have := HRL.out; omega) (by omega) (by omega) (by omega) HG.out).mono ?_
    rintro e w12 ⟨rfl, hm, hb⟩
    have HU := Lib.hid (HU.out.out hb (by omega) (by omega))
    have K1 := Lib.hid (K1.out.outr hb (by omega))
    have K2 := Lib.hid (K2.out.outr hb (by omega))
    have HB := Lib.hid (HB.out.trans ((hb.below (by omega)).mono (by omega)))
    have zw12 := hb.b0.size
    have yw12 := HB.out.size
    have HG := Lib.hid hm
    clear hb hm
    go_wp2_with fail
    refine (held_any _ rs.length w3.heap.size w4.heap.size 1 _ (by have := HRL.out; omega) (by omega) (by omega) (by omega) HG.out).mono ?_
    rintro e wz ⟨rfl, rfl⟩
    have hn : ¬ (1 + 2 * (rs.length : Int)) < 0 := by omega
    have hne : ((1 + 2 * (rs.length : Int)) != (1 + 2 * (rs.length : Int))) = false := by simp
    go_wp2_with fail
    refine (toSlots_any _ qs 0 W.heap.size false _ hl HB.out.size (HV.out.below HB.out (Nat.le_refl _))).mono ?_
    rintro e w13 ⟨rfl, hrow, hb⟩
    have HU := Lib.hid (HU.out.below hb (by omega))
    have HG := Lib.hid (HG.out.below hb (by omega))
    have K1 := Lib.hid (K1.out.below hb)
    have K2 := Lib.hid (K2.out.below hb)
    have HB := Lib.hid (HB.out.trans (hb.mono HB.out.size))
    have zw13 := hb.size
    have yw13 := HB.out.size
    have X2 := Lib.hid (hrow.own hl)
    clear hrow hb
    go_wp2_with fail
    refine (HIM.out _ w12.heap.size w13.heap.size _ (by omega) X2.out).mono ?_
    rintro e w14 ⟨hv2, rfl, hh, hb⟩
    have HU := Lib.hid (HU.out.below hb (by omega))
    have HG := Lib.hid (HG.out.below hb (by omega))
    have X2 := Lib.hid (X2.out.below hb (by omega))
    have K1 := Lib.hid (K1.out.below hb)
    have K2 := Lib.hid (K2.out.below hb)
    have HB := Lib.hid (HB.out.trans (hb.mono HB.out.size))
    have zw14 := hb.size
    have yw14 := HB.out.size
    have HH := Lib.hid hh
    clear hb hh
    obtain ⟨v14, hv14⟩ : ∃ v, w14.alloc (.cells #[.int .i64 x.k, .int .i64 x.i] 33) = v := ⟨_, rfl⟩
    have hb : Below w14.heap.size w14 v14 := by
      rw [← hv14]
      exact (Below.refl _ _).alloc (Nat.le_refl _) _
    have sv14 : w14.heap.size < v14.heap.size := by
      rw [← hv14]
      simp
    have hk : BlkSl v14 w14.heap.size x := by
      rw [← hv14]
      exact BlkSl.new _ x _ rfl
    have HU := Lib.hid (HU.out.below hb (by omega))
    have HG := Lib.hid (HG.out.below hb (by omega))
    have X2 := Lib.hid (X2.out.below hb (by omega))
    have HH := Lib.hid (HH.out.below hb (by omega))
    have K1 := Lib.hid (K1.out.below hb)
    have K2 := Lib.hid (K2.out.below hb)
    have HB := Lib.hid (HB.out.trans (hb.mono HB.out.size))
    have zv14 := hb.size
    have yv14 := HB.out.size
    have K3 := Lib.hid hk
    clear hb hk
    go_wp2_with fail
    refine (eqSlots_any _ _ w13.heap.size w14.heap.size w1.heap.size w2.heap.size true true rs _ (by have := HRL.out; omega) (by omega) (by omega) HH.out HU.out).mono ?_
    rintro e w15 ⟨rfl, hb⟩
    have HU := Lib.hid (HU.out.below hb (by omega))
    have HG := Lib.hid (HG.out.below hb (by omega))
    have HH := Lib.hid (HH.out.below hb (by omega))
    have K1 := Lib.hid (K1.out.below hb)
    have K2 := Lib.hid (K2.out.below hb)
    have K3 := Lib.hid (K3.out.below hb)
    have HB := Lib.hid (HB.out.trans (hb.mono HB.out.size))
    have zw15 := hb.size
    have yw15 := HB.out.size
    clear hb
    obtain ⟨k0, k1, _, _⟩ := K3.out.cells
    obtain ⟨l0, l1, _, _⟩ := K1.out.cells
    go_wp2_with fail
    refine (eqSlot_any x _).mono ?_
    rintro e w16 ⟨rfl, hb⟩
    have HU := Lib.hid (HU.out.below hb (by omega))
    have HG := Lib.hid (HG.out.below hb (by omega))
    have HH := Lib.hid (HH.out.below hb (by omega))
    have K1 := Lib.hid (K1.out.below hb)
    have K2 := Lib.hid (K2.out.below hb)
    have K3 := Lib.hid (K3.out.below hb)
    have HB := Lib.hid (HB.out.trans (hb.mono HB.out.size))
    have zw16 := hb.size
    have yw16 := HB.out.size
    clear hb k0 k1 l0 l1
    go_wp2_with fail
    refine (held_any _ rs.length w3.heap.size w4.heap.size 1 _ (by have := HRL.out; omega) (by omega) (by omega) (by omega) HG.out).mono ?_
    rintro e wz ⟨rfl, rfl⟩
    go_wp2_with fail
    go_ret
    exact ⟨rfl, HB.out⟩
  · go_enter Try.func5, Try.ntmps5
    go_wp2_with fail
    refine (szSlots_any _ qs 1048576 0 W.heap.size false _ (Nat.le_refl _) HV.out).mono ?_
    rintro e w1 ⟨rfl, r, rfl, _, hr⟩
    obtain rfl := hr (by omega)
    clear hr
    go_wp2_with fail
    go_ret
    exact ⟨rfl, Below.refl _ _⟩
end Go.Proofs.Yteaapglkomlnhaa
