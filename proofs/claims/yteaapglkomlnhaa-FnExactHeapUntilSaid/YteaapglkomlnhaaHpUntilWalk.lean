/- The law of HeapUntil: its walk. No condition of its own. -/
import Derived.Test.YteaapglkomlnhaaHpUntilI
import Derived.Test.YteaapglkomlnhaaHpOKWalk
namespace Go.Proofs.Yteaapglkomlnhaa
open Go.ChangeShapes Go.WideShapes Go.ChangeAt Go.WideMaps Go.WideElems Go.RowKit

theorem Out.low {A B C : Nat} {w w' : World} (h : Out A B w w') (hA : C ≤ A) (hz : C ≤ w.heap.size) : Below C w w' :=
  ⟨h.b0.os, h.b0.tape, h.b0.output, h.b0.size, fun k hk => h.block k (Nat.lt_of_lt_of_le hk hz) (Or.inl (Nat.lt_of_lt_of_le hk hA))⟩
set_option maxRecDepth 100000 in
set_option maxHeartbeats 2000000 in
theorem walk_FnExactHeapUntil (W : World) (v : Value) (qs : List Sl) (hv : SlsIn W 0 W.heap.size false v qs) (key : Int) (_ : (Lit.int .i64 key).wf = true) (_ : laidMetH Try.prog Rows.fnExactHeapUntilRow.laid W) (_ : W.ShapedOpen Try.prog) :
    Calls Try.prog 7 #[v, .int .i64 key] W fun e w' => e = .returned (.bool true) ∧ Below W.heap.size W w' := by
  have HV := Lib.hid hv
  have HB : Hid (Below W.heap.size W W) := Lib.hid (Below.refl _ _)
  have yW : W.heap.size ≤ W.heap.size := Nat.le_refl _
  obtain ⟨a, cap, rfl, _⟩ := id hv
  clear hv
  by_cases hl : qs.length ≤ 1048576
  · obtain ⟨rs, hrs⟩ : ∃ rs, untL qs key = rs := ⟨_, rfl⟩
    obtain ⟨is, his⟩ : ∃ is, untI qs key = is := ⟨_, rfl⟩
    obtain ⟨rc, hrc⟩ : ∃ rc, codeS qs = rc := ⟨_, rfl⟩
    have hul := unt_length qs key
    rw [hrs, his] at hul
    have HRL : Hid (rs.length ≤ 1048576) := Lib.hid (by omega)
    have HIL : Hid (is.length ≤ 1048576) := Lib.hid (by omega)
    have hrl := HRL.out
    have hil := HIL.out
    have HSP : Hid (∀ (w : World) (A B : Nat) (u : Value), B ≤ w.heap.size → SlsIn w A B true u qs → Calls Try.prog 25 #[u, .int .i64 key] w (ResUn w rs is rc)) := Lib.hid fun w A B u hB h => by
      have := specUntil_any u qs A B true key w hl hB h
      rw [hrs, his, hrc] at this
      exact this
    have HIM : Hid (∀ (w : World) (A B : Nat) (u : Value), B ≤ w.heap.size → SlsIn w A B true u qs → Calls Try.prog 26 #[u, .int .i64 key] w (ResUn w rs is rc)) := Lib.hid fun w A B u hB h => by
      have := implUntil_any u qs A B true key w hl hB h
      rw [hrs, his, hrc] at this
      exact this
    clear hrs his hrc hul
    have hcc : (rc != rc) = false := by simp
    go_enter Try.func7, Try.ntmps7
    go_wp2_with fail
    refine (szSlots_any _ qs 1048576 0 W.heap.size false _ (Nat.le_refl _) HV.out).mono ?_
    rintro e w1 ⟨rfl, r, rfl, hr, _⟩
    have hr0 : (0 : Int) ≤ r := hr hl
    clear hr
    go_wp2_with fail
    refine (toSlots_any _ qs 0 W.heap.size false _ hl HB.out.size (HV.out.below HB.out (Nat.le_refl _))).mono ?_
    rintro e w1 ⟨rfl, hrow, hb⟩
    have HB := Lib.hid (HB.out.trans (hb.mono HB.out.size))
    have zw1 := hb.size
    have yw1 := HB.out.size
    have X1 := Lib.hid (hrow.own hl)
    clear hrow hb
    go_wp2_with fail
    refine (HSP.out _ W.heap.size w1.heap.size _ (by omega) X1.out).mono ?_
    rintro e w2 ⟨us, ui, rfl, ⟨AU, BU, CU, DU, hu, hi, pU1, pU2, pU3, pU4, pU5⟩, hb⟩
    have X1 := Lib.hid (X1.out.below hb (by omega))
    have HB := Lib.hid (HB.out.trans (hb.mono HB.out.size))
    have zw2 := hb.size
    have yw2 := HB.out.size
    have HU := Lib.hid hu
    have IU := Lib.hid hi
    clear hb hu hi
    go_wp2_with fail
    refine (toSlots_any _ qs 0 W.heap.size false _ hl HB.out.size (HV.out.below HB.out (Nat.le_refl _))).mono ?_
    rintro e w3 ⟨rfl, hrow, hb⟩
    have HU := Lib.hid (HU.out.below hb (by omega))
    have IU := Lib.hid (IU.out.below hb (by omega))
    have HB := Lib.hid (HB.out.trans (hb.mono HB.out.size))
    have zw3 := hb.size
    have yw3 := HB.out.size
    have HX := Lib.hid (hrow.own hl)
    clear hrow hb
    go_wp2_with fail
    refine (HIM.out _ w2.heap.size w3.heap.size _ (by omega) HX.out).mono ?_
    rintro e w4 ⟨gs, gi, rfl, ⟨AG, BG, CG, DG, hu, hi, pG1, pG2, pG3, pG4, pG5⟩, hb⟩
    have HU := Lib.hid (HU.out.below hb (by omega))
    have HX := Lib.hid (HX.out.below hb (by omega))
    have IU := Lib.hid (IU.out.below hb (by omega))
    have HB := Lib.hid (HB.out.trans (hb.mono HB.out.size))
    have zw4 := hb.size
    have yw4 := HB.out.size
    have HG := Lib.hid hu
    have IG := Lib.hid hi
    clear hb hu hi
    go_wp2_with fail
    refine (eqSlots_any _ _ AG BG AU BU true true rs _ (by have := HRL.out; omega) (by omega) (by omega) HG.out HU.out).mono ?_
    rintro e w5 ⟨rfl, hb⟩
    have HU := Lib.hid (HU.out.below hb (by omega))
    have HX := Lib.hid (HX.out.below hb (by omega))
    have HG := Lib.hid (HG.out.below hb (by omega))
    have IU := Lib.hid (IU.out.below hb (by omega))
    have IG := Lib.hid (IG.out.below hb (by omega))
    have HB := Lib.hid (HB.out.trans (hb.mono HB.out.size))
    have zw5 := hb.size
    have yw5 := HB.out.size
    clear hb
    go_wp2_with fail
    refine (eqNums_any _ _ CG DG CU DU true true is _ (by have := HIL.out; omega) (by omega) (by omega) IG.out IU.out).mono ?_
    rintro e w6 ⟨rfl, hb⟩
    have HU := Lib.hid (HU.out.below hb (by omega))
    have HX := Lib.hid (HX.out.below hb (by omega))
    have HG := Lib.hid (HG.out.below hb (by omega))
    have IU := Lib.hid (IU.out.below hb (by omega))
    have IG := Lib.hid (IG.out.below hb (by omega))
    have HB := Lib.hid (HB.out.trans (hb.mono HB.out.size))
    have zw6 := hb.size
    have yw6 := HB.out.size
    clear hb
    go_wp2_with fail
    refine (toSlots_any _ qs 0 W.heap.size false _ hl HB.out.size (HV.out.below HB.out (Nat.le_refl _))).mono ?_
    rintro e w7 ⟨rfl, hrow, hb⟩
    have HU := Lib.hid (HU.out.below hb (by omega))
    have HX := Lib.hid (HX.out.below hb (by omega))
    have HG := Lib.hid (HG.out.below hb (by omega))
    have IU := Lib.hid (IU.out.below hb (by omega))
    have IG := Lib.hid (IG.out.below hb (by omega))
    have HB := Lib.hid (HB.out.trans (hb.mono HB.out.size))
    have zw7 := hb.size
    have yw7 := HB.out.size
    have HY := Lib.hid (hrow.own hl)
    clear hrow hb
    go_wp2_with fail
    refine (eqSlots_any _ _ w2.heap.size w3.heap.size w6.heap.size w7.heap.size true true qs _ hl (by omega) (by omega) HX.out HY.out).mono ?_
    rintro e w8 ⟨rfl, hb⟩
    have HU := Lib.hid (HU.out.below hb (by omega))
    have HX := Lib.hid (HX.out.below hb (by omega))
    have HG := Lib.hid (HG.out.below hb (by omega))
    have HY := Lib.hid (HY.out.below hb (by omega))
    have IU := Lib.hid (IU.out.below hb (by omega))
    have IG := Lib.hid (IG.out.below hb (by omega))
    have HB := Lib.hid (HB.out.trans (hb.mono HB.out.size))
    have zw8 := hb.size
    have yw8 := HB.out.size
    clear hb
    go_wp2_with fail
    refine (mark_any _ qs w2.heap.size w3.heap.size 1 _ hl (by omega) (by omega) (by omega) HX.out).mono ?_
    rintro e w9 ⟨rfl, hm, hb⟩
    have HU := Lib.hid (HU.out.out hb (by omega) (by omega))
    have HG := Lib.hid (HG.out.out hb (by omega) (by omega))
    have IU := Lib.hid (IU.out.out hb (by omega) (by omega))
    have IG := Lib.hid (IG.out.out hb (by omega) (by omega))
    have HB := Lib.hid (HB.out.trans (hb.low (by omega) (by omega)))
    have zw9 := hb.b0.size
    have yw9 := HB.out.size
    have HX := Lib.hid hm
    clear hb hm
    have hk : ¬ (1 + 2 * (qs.length : Int)) < 0 := by omega
    have hk2 : decide ((1 + 2 * (qs.length : Int)) < 0) = false := decide_eq_false hk
    go_wp2_with fail
    refine (eqSlots_any _ _ AG BG AU BU true true rs _ (by have := HRL.out; omega) (by omega) (by omega) HG.out HU.out).mono ?_
    rintro e w10 ⟨rfl, hb⟩
    have HU := Lib.hid (HU.out.below hb (by omega))
    have HG := Lib.hid (HG.out.below hb (by omega))
    have IU := Lib.hid (IU.out.below hb (by omega))
    have IG := Lib.hid (IG.out.below hb (by omega))
    have HB := Lib.hid (HB.out.trans (hb.mono HB.out.size))
    have zw10 := hb.size
    have yw10 := HB.out.size
    clear hb
    go_wp2_with fail
    refine (eqNums_any _ _ CG DG CU DU true true is _ (by have := HIL.out; omega) (by omega) (by omega) IG.out IU.out).mono ?_
    rintro e w11 ⟨rfl, hb⟩
    have HU := Lib.hid (HU.out.below hb (by omega))
    have HG := Lib.hid (HG.out.below hb (by omega))
    have IU := Lib.hid (IU.out.below hb (by omega))
    have IG := Lib.hid (IG.out.below hb (by omega))
    have HB := Lib.hid (HB.out.trans (hb.mono HB.out.size))
    have zw11 := hb.size
    have yw11 := HB.out.size
    clear hb
    go_wp2_with fail
    refine (mark_any _ rs AG BG 1 _ (by have := HRL.out; omega) (by omega) (by omega) (by omega) HG.out).mono ?_
    rintro e w12 ⟨rfl, hm, hb⟩
    have HU := Lib.hid (HU.out.out hb (by omega) (by omega))
    have IU := Lib.hid (IU.out.out hb (by omega) (by omega))
    have IG := Lib.hid (IG.out.out hb (by omega) (by omega))
    have HB := Lib.hid (HB.out.trans (hb.low (by omega) (by omega)))
    have zw12 := hb.b0.size
    have yw12 := HB.out.size
    have HG := Lib.hid hm
    clear hb hm
    go_wp2_with fail
    refine (markI_any _ is CG DG (1 + 2 * (rs.length : Int)) _ (by have := HIL.out; omega) (by omega) (by omega) (by omega) IG.out).mono ?_
    rintro e w13 ⟨rfl, hm, hb⟩
    have HU := Lib.hid (HU.out.out hb (by omega) (by omega))
    have HG := Lib.hid (HG.out.out hb (by omega) (by omega))
    have IU := Lib.hid (IU.out.out hb (by omega) (by omega))
    have HB := Lib.hid (HB.out.trans (hb.low (by omega) (by omega)))
    have zw13 := hb.b0.size
    have yw13 := HB.out.size
    have IG := Lib.hid hm
    clear hb hm
    have hn : ¬ (1 + 2 * (rs.length : Int)) < 0 := by omega
    have hn3 : ¬ (1 + 2 * (rs.length : Int) + (is.length : Int)) < 0 := by omega
    have hne : ((1 + 2 * (rs.length : Int) + (is.length : Int)) != (1 + 2 * (rs.length : Int) + (is.length : Int))) = false := by simp
    go_wp2_with fail
    refine (held_any _ rs.length AG BG 1 _ (by have := HRL.out; omega) (by omega) (by omega) (by omega) HG.out).mono ?_
    rintro e wz ⟨rfl, rfl⟩
    go_wp2_with fail
    refine (heldI_any _ is.length CG DG (1 + 2 * (rs.length : Int)) _ (by have := HIL.out; omega) (by omega) (by omega) (by omega) IG.out).mono ?_
    rintro e wz ⟨rfl, rfl⟩
    go_wp2_with fail
    refine (toSlots_any _ qs 0 W.heap.size false _ hl HB.out.size (HV.out.below HB.out (Nat.le_refl _))).mono ?_
    rintro e w14 ⟨rfl, hrow, hb⟩
    have HU := Lib.hid (HU.out.below hb (by omega))
    have HG := Lib.hid (HG.out.below hb (by omega))
    have IU := Lib.hid (IU.out.below hb (by omega))
    have IG := Lib.hid (IG.out.below hb (by omega))
    have HB := Lib.hid (HB.out.trans (hb.mono HB.out.size))
    have zw14 := hb.size
    have yw14 := HB.out.size
    have X2 := Lib.hid (hrow.own hl)
    clear hrow hb
    go_wp2_with fail
    refine (HIM.out _ w13.heap.size w14.heap.size _ (by omega) X2.out).mono ?_
    rintro e w15 ⟨hs2, hi2, rfl, ⟨AH, BH, CH, DH, hu, hi, pH1, pH2, pH3, pH4, pH5⟩, hb⟩
    have HU := Lib.hid (HU.out.below hb (by omega))
    have HG := Lib.hid (HG.out.below hb (by omega))
    have X2 := Lib.hid (X2.out.below hb (by omega))
    have IU := Lib.hid (IU.out.below hb (by omega))
    have IG := Lib.hid (IG.out.below hb (by omega))
    have HB := Lib.hid (HB.out.trans (hb.mono HB.out.size))
    have zw15 := hb.size
    have yw15 := HB.out.size
    have HH := Lib.hid hu
    have IH := Lib.hid hi
    clear hb hu hi
    go_wp2_with fail
    refine (eqSlots_any _ _ AH BH AU BU true true rs _ (by have := HRL.out; omega) (by omega) (by omega) HH.out HU.out).mono ?_
    rintro e w16 ⟨rfl, hb⟩
    have HU := Lib.hid (HU.out.below hb (by omega))
    have HG := Lib.hid (HG.out.below hb (by omega))
    have HH := Lib.hid (HH.out.below hb (by omega))
    have IU := Lib.hid (IU.out.below hb (by omega))
    have IG := Lib.hid (IG.out.below hb (by omega))
    have IH := Lib.hid (IH.out.below hb (by omega))
    have HB := Lib.hid (HB.out.trans (hb.mono HB.out.size))
    have zw16 := hb.size
    have yw16 := HB.out.size
    clear hb
    go_wp2_with fail
    refine (eqNums_any _ _ CH DH CU DU true true is _ (by have := HIL.out; omega) (by omega) (by omega) IH.out IU.out).mono ?_
    rintro e w17 ⟨rfl, hb⟩
    have HU := Lib.hid (HU.out.below hb (by omega))
    have HG := Lib.hid (HG.out.below hb (by omega))
    have HH := Lib.hid (HH.out.below hb (by omega))
    have IU := Lib.hid (IU.out.below hb (by omega))
    have IG := Lib.hid (IG.out.below hb (by omega))
    have IH := Lib.hid (IH.out.below hb (by omega))
    have HB := Lib.hid (HB.out.trans (hb.mono HB.out.size))
    have zw17 := hb.size
    have yw17 := HB.out.size
    clear hb
    go_wp2_with fail
    refine (held_any _ rs.length AG BG 1 _ (by have := HRL.out; omega) (by omega) (by omega) (by omega) HG.out).mono ?_
    rintro e wz ⟨rfl, rfl⟩
    go_wp2_with fail
    refine (heldI_any _ is.length CG DG (1 + 2 * (rs.length : Int)) _ (by have := HIL.out; omega) (by omega) (by omega) (by omega) IG.out).mono ?_
    rintro e wz ⟨rfl, rfl⟩
    go_wp2_with fail
    go_ret
    exact ⟨rfl, HB.out⟩
  · go_enter Try.func7, Try.ntmps7
    go_wp2_with fail
    refine (szSlots_any _ qs 1048576 0 W.heap.size false _ (Nat.le_refl _) HV.out).mono ?_
    rintro e w1 ⟨rfl, r, rfl, _, hr⟩
    obtain rfl := hr (by omega)
    clear hr
    go_wp2_with fail
    go_ret
    exact ⟨rfl, Below.refl _ _⟩
end Go.Proofs.Yteaapglkomlnhaa
