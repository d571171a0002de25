/- The law of HeapPush: its walk. No condition of its own. -/
import Derived.Test.YteaapglkomlnhaaHpPushJ
import Derived.Test.YteaapglkomlnhaaHpOKWalk
import Derived.Test.YteaapglkomlnhaaHpArg
namespace Go.Proofs.Yteaapglkomlnhaa
open Go.ChangeShapes Go.WideShapes Go.ChangeAt Go.WideMaps Go.WideElems Go.RowKit

set_option maxRecDepth 100000 in
set_option maxHeartbeats 2000000 in
theorem walk_FnExactHeapPush (W : World) (v : Value) (qs : List Sl) (hv : SlsIn W 0 W.heap.size false v qs) (x : Sl) (_ : laidMetH Try.prog Rows.fnExactHeapPushRow.laid W) (_ : W.ShapedOpen Try.prog) :
    Calls Try.prog 4 #[v, .agg #[.int .i64 x.k, .int .i64 x.i]] W fun e w' => e = .returned (.bool true) ∧ Below W.heap.size W w' := by
  obtain ⟨w0, hw0⟩ : ∃ w0, W.alloc (.cells #[.int .i64 x.k, .int .i64 x.i] 30) = w0 := ⟨_, rfl⟩
  have hb0 : Below W.heap.size W w0 := by
    rw [← hw0]
    exact (Below.refl _ _).alloc (Nat.le_refl _) _
  have HBB := Lib.hid hb0
  have HKB : Hid (∀ w', Below w0.heap.size w0 w' → w'.cell? ⟨W.heap.size, 0, none⟩ = some (.int .i64 x.k) ∧ w'.cell? ⟨W.heap.size, 1, none⟩ = some (.int .i64 x.i)) := Lib.hid fun w' h => by
    have h1 : w0.heap[W.heap.size]? = some (.cells #[.int .i64 x.k, .int .i64 x.i] 30 (0, 0)) := by
      rw [← hw0]
      exact heap_alloc_new W _
    have h2 := (h.block _ (Array.getElem?_eq_some_iff.1 h1).1).trans h1
    exact ⟨by simp [World.cell?, h2], by simp [World.cell?, h2]⟩
  have HV := Lib.hid ((hv.below hb0 (Nat.le_refl _)).more (Nat.le_refl _) hb0.size)
  obtain ⟨a, cap, rfl, _⟩ := id hv
  clear hv hb0
  by_cases hl : qs.length ≤ 1048576
  · obtain ⟨rs, hrs⟩ : ∃ rs, pusL qs x = rs := ⟨_, rfl⟩
    obtain ⟨rc, hrc⟩ : ∃ rc, pusC qs x = rc := ⟨_, rfl⟩
    have HRL : Hid (rs.length ≤ 1048576) := Lib.hid (by
      rw [← hrs]
      exact pusL_length qs x hl)
    have HSP : Hid (∀ (w : World) (A B : Nat) (u : Value), B ≤ w.heap.size → SlsIn w A B true u qs → Calls Try.prog 15 #[u, .agg #[.int .i64 x.k, .int .i64 x.i]] w (ResSl w rs rc)) := Lib.hid fun w A B u hB h => by
      have := specPush_any u qs x A B true w hl hB h
      rw [hrs, hrc] at this
      exact this
    have HIM : Hid (∀ (w : World) (A B : Nat) (u : Value), B ≤ w.heap.size → SlsIn w A B true u qs → Calls Try.prog 17 #[u, .agg #[.int .i64 x.k, .int .i64 x.i]] w (ResSl w rs rc)) := Lib.hid fun w A B u hB h => by
      have := implPush_any u qs x A B true w hl hB h
      rw [hrs, hrc] at this
      exact this
    clear hrs hrc
    have hcc : (rc != rc) = false := by simp
    go_enter Try.func4, Try.ntmps4
    go_wp2_with fail
    refine (szSlots_any _ qs 1048576 0 w0.heap.size false _ (Nat.le_refl _) HV.out).mono ?_
    rintro e w1 ⟨rfl, r, rfl, hr, _⟩
    have hr0 : (0 : Int) ≤ r := hr hl
    clear hr
    go_upto_region 5 with fail
    go_cut [6, 7] (fun av cv wx => ∃ (u : Value) (wz : World), u = av ∧ cv = .int .i64 rc ∧ wz = wx ∧ SlsIn wz w0.heap.size wz.heap.size true u rs ∧ Below w0.heap.size w0 wz)
    case first =>
      obtain ⟨k0, k1⟩ := HKB.out _ (Below.refl w0.heap.size w0)
      go_region_with (first
        | (go_at_call 12; refine (toSlots_any _ qs 0 w0.heap.size false _ hl (Nat.le_trans (Nat.le_refl _) HTB.out.size) (HV.out.below HTB.out (Nat.le_refl _))).mono ?_; rintro e wc ⟨rfl, hrow, hb⟩; have HXC := Lib.hid ((hrow.own hl).more HTB.out.size (Nat.le_refl _)); have HBC := Lib.hid (HTB.out.trans (hb.mono HTB.out.size)); clear hrow hb)
        | (go_at_call 12; refine (toSlots_any _ qs 0 w0.heap.size false w0.drew hl (Nat.le_refl _) (SlsIn.drew HV.out)).mono ?_; rintro e wa ⟨rfl, hrow, hb⟩; have HXA := Lib.hid (hrow.own hl); have HBA : Hid (Below w0.heap.size w0 wa) := Lib.hid ((Below.refl _ _).drew.trans hb); obtain ⟨k0, k1⟩ := HKB.out _ ((Below.refl w0.heap.size w0).trans (HBA.out.mono (Below.refl w0.heap.size w0).size)); clear hrow hb)
        | (go_at_call 16; refine (toSlot_any x _).mono ?_; rintro e wc ⟨rfl, hb⟩; have HXC := Lib.hid ((HXA.out.below hb (Nat.le_refl _)).more (Nat.le_refl _) hb.size); have HBC := Lib.hid (HBA.out.trans (hb.mono HBA.out.size)); clear hb)
        | (go_at_call 16; refine (toSlot_any x _).mono ?_; rintro e wt ⟨rfl, hb⟩; have HTB : Hid (Below w0.heap.size w0 wt) := Lib.hid ((Below.refl _ _).drew.trans hb); clear hb)
        | (go_at_call 15; refine (HSP.out _ w0.heap.size wc.heap.size _ (Nat.le_refl _) HXC.out).mono ?_; rintro e wd ⟨u, rfl, hu, hb⟩; have HUD := Lib.hid (hu.more (HBC.out.size) (Nat.le_refl _)); have HBD := Lib.hid (HBC.out.trans (hb.mono HBC.out.size)); clear hu hb)
        | fail)
      all_goals go_wp2_with fail
      all_goals go_meet
      all_goals exact ⟨_, _, rfl, rfl, rfl, HUD.out, HBD.out⟩
    obtain ⟨u, w2, rfl, rfl, rfl, hu, hb⟩ := hcut
    have HB2 := Lib.hid hb
    have z12 := hb.size
    have HU2 := Lib.hid hu
    clear hu hb
    go_wp2_with fail
    refine (toSlots_any _ qs 0 w0.heap.size false _ hl HB2.out.size (HV.out.below HB2.out (Nat.le_refl _))).mono ?_
    rintro e w3 ⟨rfl, hrow, hb⟩
    have HX3 := Lib.hid (hrow.own hl)
    have HU3 := Lib.hid (HU2.out.below hb (Nat.le_refl _))
    have HB3 := Lib.hid (HB2.out.trans (hb.mono HB2.out.size))
    have z23 := hb.size
    clear hrow hb
    obtain ⟨k0, k1⟩ := HKB.out _ HB3.out
    go_wp2_with fail
    refine (toSlot_any x _).mono ?_
    rintro e w3 ⟨rfl, hb⟩
    have HX3 := Lib.hid ((HX3.out.below hb (Nat.le_refl _)).more (Nat.le_refl _) hb.size)
    have HU3 := Lib.hid (HU3.out.below hb z23)
    have z23 := Nat.le_trans z23 hb.size
    have HB3 := Lib.hid (HB3.out.trans (hb.mono HB3.out.size))
    clear hb k0 k1
    go_wp2_with fail
    refine (HIM.out _ w2.heap.size w3.heap.size _ (Nat.le_refl _) HX3.out).mono ?_
    rintro e w4 ⟨g, rfl, hg, hb⟩
    have HG4 := Lib.hid hg
    have HX4 := Lib.hid (HX3.out.below hb (Nat.le_refl _))
    have HU4 := Lib.hid (HU3.out.below hb z23)
    have HB4 := Lib.hid (HB3.out.trans (hb.mono HB3.out.size))
    have z34 := hb.size
    clear hg hb
    go_wp2_with fail
    refine (eqSlots_any _ _ w3.heap.size w4.heap.size w0.heap.size w2.heap.size true true rs _ (by have := HRL.out; omega) (Nat.le_refl _) (by omega) HG4.out HU4.out).mono ?_
    rintro e w5 ⟨rfl, hb⟩
    have HG5 := Lib.hid (HG4.out.below hb (Nat.le_refl _))
    have HX5 := Lib.hid (HX4.out.below hb z34)
    have HU5 := Lib.hid (HU4.out.below hb (by omega))
    have HB5 := Lib.hid (HB4.out.trans (hb.mono HB4.out.size))
    have z45 := hb.size
    clear hb
    go_wp2_with fail
    refine (toSlots_any _ qs 0 w0.heap.size false _ hl HB5.out.size (HV.out.below HB5.out (Nat.le_refl _))).mono ?_
    rintro e w6 ⟨rfl, hrow, hb⟩
    have HY6 := Lib.hid (hrow.own hl)
    have HG6 := Lib.hid (HG5.out.below hb z45)
    have HX6 := Lib.hid (HX5.out.below hb (by omega))
    have HU6 := Lib.hid (HU5.out.below hb (by omega))
    have HB6 := Lib.hid (HB5.out.trans (hb.mono HB5.out.size))
    have z56 := hb.size
    clear hrow hb
    go_wp2_with fail
    refine (eqSlots_any _ _ w2.heap.size w3.heap.size w5.heap.size w6.heap.size true true qs _ hl (by omega) (Nat.le_refl _) HX6.out HY6.out).mono ?_
    rintro e w7 ⟨rfl, hb⟩
    have HG7 := Lib.hid (HG6.out.below hb (by omega))
    have HX7 := Lib.hid (HX6.out.below hb (by omega))
    have HU7 := Lib.hid (HU6.out.below hb (by omega))
    have HB7 := Lib.hid (HB6.out.trans (hb.mono HB6.out.size))
    have z67 := hb.size
    clear hb
    go_wp2_with fail
    refine (mark_any _ qs w2.heap.size w3.heap.size 1 _ hl (by omega) (by decide) (by decide) HX7.out).mono ?_
    rintro e w8 ⟨rfl, _, hb⟩
    have HG8 := Lib.hid (HG7.out.out hb (by omega) (by omega))
    have HU8 := Lib.hid (HU7.out.out hb (by omega) (by omega))
    have HB8 := Lib.hid (HB7.out.trans (hb.below (by omega) |>.mono (show w0.heap.size ≤ w2.heap.size by omega)))
    have z78 := hb.b0.size
    clear hb
    have hk : ¬ (1 + 2 * (qs.length : Int)) < 0 := by omega
    have hk2 : decide ((1 + 2 * (qs.length : Int)) < 0) = false := decide_eq_false hk
    go_wp2_with fail
    refine (eqSlots_any _ _ w3.heap.size w4.heap.size w0.heap.size w2.heap.size true true rs _ (by have := HRL.out; omega) (by omega) (by omega) HG8.out HU8.out).mono ?_
    rintro e w9 ⟨rfl, hb⟩
    have HG9 := Lib.hid (HG8.out.below hb (by omega))
    have HU9 := Lib.hid (HU8.out.below hb (by omega))
    have HB9 := Lib.hid (HB8.out.trans (hb.mono HB8.out.size))
    have z89 := hb.size
    clear hb
    go_wp2_with fail
    refine (mark_any _ rs w3.heap.size w4.heap.size 1 _ (by have := HRL.out; omega) (by omega) (by decide) (by decide) HG9.out).mono ?_
    rintro e w10 ⟨rfl, hm, hb⟩
    have HM10 := Lib.hid hm
    have HU10 := Lib.hid (HU9.out.out hb (by omega) (by omega))
    have HB10 := Lib.hid (HB9.out.trans (hb.below (by omega) |>.mono (show w0.heap.size ≤ w3.heap.size by omega)))
    have z910 := hb.b0.size
    clear hb hm
    go_wp2_with fail
    refine (held_any _ rs.length w3.heap.size w4.heap.size 1 _ (by have := HRL.out; omega) (by omega) (by decide) (by decide) HM10.out).mono ?_
    rintro e w11 ⟨rfl, rfl⟩
    have hn : ¬ (1 + 2 * (rs.length : Int)) < 0 := by omega
    have hne : ((1 + 2 * (rs.length : Int)) != (1 + 2 * (rs.length : Int))) = false := by simp
    go_upto_region 24 with fail
    go_cut [14, 15] (fun av cv wx => ∃ (u : Value) (wz : World), u = av ∧ cv = .int .i64 rc ∧ wz = wx ∧ SlsIn wz w10.heap.size wz.heap.size true u rs ∧ Below w10.heap.size w10 wz)
    case first =>
      obtain ⟨k0, k1⟩ := HKB.out _ HB10.out
      go_region_with (first
        | (go_at_call 12; refine (toSlots_any _ qs 0 w0.heap.size false _ hl (Nat.le_trans HB10.out.size HTB.out.size) ((HV.out.below HB10.out (Nat.le_refl _)).below HTB.out HB10.out.size)).mono ?_; rintro e wc ⟨rfl, hrow, hb⟩; have HXC := Lib.hid ((hrow.own hl).more HTB.out.size (Nat.le_refl _)); have HBC := Lib.hid (HTB.out.trans (hb.mono HTB.out.size)); clear hrow hb)
        | (go_at_call 12; refine (toSlots_any _ qs 0 w0.heap.size false w10.drew hl HB10.out.size (SlsIn.drew (HV.out.below HB10.out (Nat.le_refl _)))).mono ?_; rintro e wa ⟨rfl, hrow, hb⟩; have HXA := Lib.hid (hrow.own hl); have HBA : Hid (Below w10.heap.size w10 wa) := Lib.hid ((Below.refl _ _).drew.trans hb); obtain ⟨k0, k1⟩ := HKB.out _ (HB10.out.trans (HBA.out.mono HB10.out.size)); clear hrow hb)
        | (go_at_call 16; refine (toSlot_any x _).mono ?_; rintro e wc ⟨rfl, hb⟩; have HXC := Lib.hid ((HXA.out.below hb (Nat.le_refl _)).more (Nat.le_refl _) hb.size); have HBC := Lib.hid (HBA.out.trans (hb.mono HBA.out.size)); clear hb)
        | (go_at_call 16; refine (toSlot_any x _).mono ?_; rintro e wt ⟨rfl, hb⟩; have HTB : Hid (Below w10.heap.size w10 wt) := Lib.hid ((Below.refl _ _).drew.trans hb); clear hb)
        | (go_at_call 17; refine (HIM.out _ w10.heap.size wc.heap.size _ (Nat.le_refl _) HXC.out).mono ?_; rintro e wd ⟨u, rfl, hu, hb⟩; have HUD := Lib.hid (hu.more (HBC.out.size) (Nat.le_refl _)); have HBD := Lib.hid (HBC.out.trans (hb.mono HBC.out.size)); clear hu hb)
        | fail)
      all_goals go_wp2_with fail
      all_goals go_meet
      all_goals exact ⟨_, _, rfl, rfl, rfl, HUD.out, HBD.out⟩
    obtain ⟨h, w13, rfl, rfl, rfl, hh, hb⟩ := hcut
    have HH13 := Lib.hid hh
    have HM13 := Lib.hid (HM10.out.below hb (by omega))
    have HU13 := Lib.hid (HU10.out.below hb (by omega))
    have HB13 := Lib.hid (HB10.out.trans (hb.mono HB10.out.size))
    have z1013 := hb.size
    clear hh hb
    go_wp2_with fail
    refine (eqSlots_any _ _ w10.heap.size w13.heap.size w0.heap.size w2.heap.size true true rs _ (by have := HRL.out; omega) (Nat.le_refl _) (by omega) HH13.out HU13.out).mono ?_
    rintro e w14 ⟨rfl, hb⟩
    have HM14 := Lib.hid (HM13.out.below hb (by omega))
    have HB14 := Lib.hid (HB13.out.trans (hb.mono HB13.out.size))
    have z1314 := hb.size
    clear hb
    go_wp2_with fail
    refine (held_any _ rs.length w3.heap.size w4.heap.size 1 _ (by have := HRL.out; omega) (by omega) (by decide) (by decide) HM14.out).mono ?_
    rintro e w15 ⟨rfl, rfl⟩
    go_wp2_with fail
    go_ret
    exact ⟨rfl, HBB.out.trans (HB14.out.mono HBB.out.size)⟩
  · go_enter Try.func4, Try.ntmps4
    go_wp2_with fail
    refine (szSlots_any _ qs 1048576 0 w0.heap.size false _ (Nat.le_refl _) HV.out).mono ?_
    rintro e w1 ⟨rfl, r, rfl, _, hr⟩
    obtain rfl := hr (by omega)
    clear hr
    go_wp2_with fail
    go_ret
    exact ⟨rfl, HBB.out⟩
end Go.Proofs.Yteaapglkomlnhaa
