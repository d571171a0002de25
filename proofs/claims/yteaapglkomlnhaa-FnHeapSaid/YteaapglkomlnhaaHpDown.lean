/- A slot that sinks, in the model. No condition of its own. -/
import Derived.Test.YteaapglkomlnhaaHpUp
namespace Go.Proofs.Yteaapglkomlnhaa
open Go.ChangeShapes Go.WideShapes Go.ChangeAt Go.WideMaps Go.WideElems Go.RowKit

def DnRel (w : World) (g n : Nat) (qs : List Sl) (i : Nat) (v : Value) (wr : World) : Prop :=
  ∃ (j : Nat) (rs : List Sl), v = .int .i64 j ∧ j < n ∧ rs.length = n ∧ downL rs j = downL qs i ∧ RowSl wr g rs ∧ ButB g w wr
set_option maxHeartbeats 2000000 in
set_option maxRecDepth 100000 in
theorem specDown_any (g cap i n : Nat) (qs : List Sl) (w : World) (hn : qs.length = n) (hl : n ≤ 1048576) (hi : i < n) (hr : RowSl w g qs) : Calls Try.prog 67 #[.slice (some ⟨g, 0, none⟩) n cap, .int .i64 i] w fun e w' => e = .returned (.tuple #[]) ∧ RowSl w' g (downL qs i) ∧ ButB g w w' := by
  have HR := Lib.hid hr
  have HN := Lib.hid hn
  clear hr hn
  go_enter Try.func67, Try.ntmps67
  go_wp2_with fail
  go_loopw [1, 4] (fun v _ wr => DnRel w g n qs i v wr) (fun v _ _ => n - (intOf v).toNat)
  case atStart => exact ⟨i, qs, rfl, hi, HN.out, rfl, HR.out, ButB.refl _ _⟩
  case round =>
    obtain ⟨j, rs, rfl, hjn, hrn, hup, hr, hb⟩ := hrel
    have HR2 := Lib.hid hr
    have HB := Lib.hid hb
    have HU := Lib.hid hup
    have HL := Lib.hid hrn
    by_cases h1 : 2 * j + 1 < n
    · obtain ⟨k1, hk1⟩ : ∃ k1, 2 * j + 1 = k1 := ⟨_, rfl⟩
      have hk1l : k1 < n := by omega
      have hk1j : j < k1 := by omega
      have ik1 : 2 * (j : Int) + 1 = (k1 : Int) := by omega
      have sk1 : (k1 : Int) < n := by omega
      obtain ⟨a, ha⟩ : ∃ a, rs[j]! = a := ⟨_, rfl⟩
      obtain ⟨b, hb1⟩ : ∃ b, rs[k1]! = b := ⟨_, rfl⟩
      have HA := Lib.hid ha
      have HBB := Lib.hid hb1
      obtain ⟨c0, c1, _, _⟩ := hr.cells (t := j) (by omega)
      obtain ⟨d0, d1, _, _⟩ := hr.cells (t := k1) (by omega)
      rw [ha] at c0 c1
      rw [hb1] at d0 d1
      have HK1 := Lib.hid hk1
      have s0 : (0 : Int) ≤ (j : Int) := by omega
      have s1 : (j : Int) < n := by omega
      have t0 : (0 : Int) ≤ (k1 : Int) := by omega
      have gw1 : IntKind.i64.wrap ((k1 : Int) + 1) = (k1 : Int) + 1 := by rw [IntKind.wrap_i64]; omega
      by_cases h2 : 2 * j + 2 < n
      · obtain ⟨k2, hk2⟩ : ∃ k2, 2 * j + 2 = k2 := ⟨_, rfl⟩
        have hk2l : k2 < n := by omega
        have hk2j : j < k2 := by omega
        have ik2 : (k1 : Int) + 1 = (k2 : Int) := by omega
        have gk2 : decide ((k2 : Int) < (n : Int)) = true := decide_eq_true (by omega)
        have sk2 : (k2 : Int) < n := by omega
        have gw2 : IntKind.i64.wrap (k2 : Int) = (k2 : Int) := by rw [IntKind.wrap_i64]; omega
        obtain ⟨c, hc⟩ : ∃ c, rs[k2]! = c := ⟨_, rfl⟩
        have HC := Lib.hid hc
        obtain ⟨e0, e1, _, _⟩ := hr.cells (t := k2) (by omega)
        rw [hc] at e0 e1
        have HK2 := Lib.hid hk2
        have t2 : (0 : Int) ≤ (k2 : Int) := by omega
        have hN : Nonempty (BCl wr) := BCl.full wr
        have q0x := BCl.cell c0
        have q1x := BCl.cell c1
        have q2x := BCl.cell d0
        have q3x := BCl.cell d1
        have q4x := BCl.cell e0
        have q5x := BCl.cell e1
        clear ha hb1 hc hr hb hup hrn c0 c1 d0 d1 e0 e1 hk1 hk2
        cases r2 : ltS c b with
        | true =>
          have HF : Hid (famL rs j = if ltS c a = true then k2 else j) := Lib.hid (by
            have := famL_model (qs := rs) (i := j) (k := k2) (by have := HL.out; have := HK1.out; omega) (by have := HK2.out; have := HK1.out; have := HL.out; rw [if_pos ⟨by omega, by rw [HK2.out, HK1.out, HC.out, HBB.out]; exact r2⟩]; exact HK2.out.symm)
            rw [HC.out, HA.out] at this
            exact this)
          go_upto_region 2 with fail
          refine wp_region_below (fun w' => ∃ i : BCl wr, w' = i.w) (by kernel_rfl) (by kernel_rfl) (BCl.start wr) ?_
          repeat (go_big_quiet_step (first | (go_at_call 54; rename_i i; with_reducible refine (less_any c b i.w).mono ?_; rw [r2]; intro e w' h; exact ⟨h.1, i.next h.2⟩)))
          refine wpQuiet_nil ?_
          intro _ hw'
          obtain ⟨z, rfl⟩ := hw'
          have HR3 := Lib.hid (HR2.out.below z.below)
          have HB3 := Lib.hid (HB.out.trans (ButB.of_below z.below))
          obtain ⟨w2, hw2⟩ : ∃ w2, z.w = w2 := ⟨_, rfl⟩
          rw [hw2] at HR3 HB3 ⊢
          clear q0x q1x q2x q3x q4x q5x hN
          clear hw2 z
          obtain ⟨c0, c1, _, _⟩ := HR3.out.cells (t := j) (by have := HL.out; omega)
          obtain ⟨d0, d1, _, _⟩ := HR3.out.cells (t := k2) (by have := HL.out; omega)
          rw [HA.out] at c0 c1
          rw [HC.out] at d0 d1
          have hN : Nonempty (BCl w2) := BCl.full w2
          have q0x := BCl.cell c0
          have q1x := BCl.cell c1
          have q2x := BCl.cell d0
          have q3x := BCl.cell d1
          clear c0 c1 d0 d1
          cases r3 : ltS c a with
          | true =>
            have HGO : Hid (downL rs j = downL (swS rs j k2) k2) := Lib.hid (downL_go (by rw [HF.out, if_pos r3]) (by omega))
            go_upto_region 4 with fail
            refine wp_region_below (fun w' => ∃ i : BCl w2, w' = i.w) (by kernel_rfl) (by kernel_rfl) (BCl.start w2) ?_
            repeat (go_big_quiet_step (first | (go_at_call 54; rename_i i; with_reducible refine (less_any c a i.w).mono ?_; rw [r3]; intro e w' h; exact ⟨h.1, i.next h.2⟩)))
            refine wpQuiet_nil ?_
            intro _ hw'
            obtain ⟨z, rfl⟩ := hw'
            clear q0x q1x q2x q3x hN
            have HR4 := Lib.hid (HR3.out.below z.below)
            have HB4 := Lib.hid (HB3.out.trans (ButB.of_below z.below))
            obtain ⟨w3, hw3⟩ : ∃ w3, z.w = w3 := ⟨_, rfl⟩
            rw [hw3] at HR4 HB4 ⊢
            clear hw3 z
            go_wp2_with fail
            refine (swap_any g cap j k2 n rs w3 HL.out hjn (by omega) (by omega) HR4.out).mono ?_
            rintro e w4 ⟨rfl, hr, hb⟩
            have HR5 := Lib.hid hr
            have HB5 := Lib.hid (HB4.out.trans hb)
            clear hr hb
            go_wp2_with fail
            go_roundw
            case rel => exact ⟨k2, swS rs j k2, rfl, by omega, by rw [swS_length]; exact HL.out, HGO.out.symm.trans HU.out, HR5.out, HB5.out⟩
            case measure => simp [intOf]; omega
          | false =>
            have HST : Hid (downL qs i = rs) := Lib.hid (by
              rw [← HU.out]
              exact downL_stop (by rw [HF.out, if_neg (by rw [r3]; exact Bool.false_ne_true)]))
            go_upto_region 4 with fail
            refine wp_region_below (fun w' => ∃ i : BCl w2, w' = i.w) (by kernel_rfl) (by kernel_rfl) (BCl.start w2) ?_
            repeat (go_big_quiet_step (first | (go_at_call 54; rename_i i; with_reducible refine (less_any c a i.w).mono ?_; rw [r3]; intro e w' h; exact ⟨h.1, i.next h.2⟩)))
            refine wpQuiet_nil ?_
            intro _ hw'
            obtain ⟨z, rfl⟩ := hw'
            clear q0x q1x q2x q3x hN
            have HR4 := Lib.hid (HR3.out.below z.below)
            have HB4 := Lib.hid (HB3.out.trans (ButB.of_below z.below))
            go_wp2_with fail
            refine bodyPost_ret (results_none rfl _ _ _) rfl ?_
            rw [HST.out]
            exact ⟨rfl, HR4.out, HB4.out⟩
        | false =>
          have HF : Hid (famL rs j = if ltS b a = true then k1 else j) := Lib.hid (by
            have := famL_model (qs := rs) (i := j) (k := k1) (by have := HL.out; have := HK1.out; omega) (by rw [if_neg (by rw [HK2.out, HK1.out, HC.out, HBB.out, r2]; simp)]; exact HK1.out.symm)
            rw [HBB.out, HA.out] at this
            exact this)
          go_upto_region 2 with fail
          refine wp_region_below (fun w' => ∃ i : BCl wr, w' = i.w) (by kernel_rfl) (by kernel_rfl) (BCl.start wr) ?_
          repeat (go_big_quiet_step (first | (go_at_call 54; rename_i i; with_reducible refine (less_any c b i.w).mono ?_; rw [r2]; intro e w' h; exact ⟨h.1, i.next h.2⟩)))
          refine wpQuiet_nil ?_
          intro _ hw'
          obtain ⟨z, rfl⟩ := hw'
          have HR3 := Lib.hid (HR2.out.below z.below)
          have HB3 := Lib.hid (HB.out.trans (ButB.of_below z.below))
          obtain ⟨w2, hw2⟩ : ∃ w2, z.w = w2 := ⟨_, rfl⟩
          rw [hw2] at HR3 HB3 ⊢
          clear q0x q1x q2x q3x q4x q5x hN
          clear hw2 z
          obtain ⟨c0, c1, _, _⟩ := HR3.out.cells (t := j) (by have := HL.out; omega)
          obtain ⟨d0, d1, _, _⟩ := HR3.out.cells (t := k1) (by have := HL.out; omega)
          rw [HA.out] at c0 c1
          rw [HBB.out] at d0 d1
          have hN : Nonempty (BCl w2) := BCl.full w2
          have q0x := BCl.cell c0
          have q1x := BCl.cell c1
          have q2x := BCl.cell d0
          have q3x := BCl.cell d1
          clear c0 c1 d0 d1
          cases r3 : ltS b a with
          | true =>
            have HGO : Hid (downL rs j = downL (swS rs j k1) k1) := Lib.hid (downL_go (by rw [HF.out, if_pos r3]) (by omega))
            go_upto_region 4 with fail
            refine wp_region_below (fun w' => ∃ i : BCl w2, w' = i.w) (by kernel_rfl) (by kernel_rfl) (BCl.start w2) ?_
            repeat (go_big_quiet_step (first | (go_at_call 54; rename_i i; with_reducible refine (less_any b a i.w).mono ?_; rw [r3]; intro e w' h; exact ⟨h.1, i.next h.2⟩)))
            refine wpQuiet_nil ?_
            intro _ hw'
            obtain ⟨z, rfl⟩ := hw'
            clear q0x q1x q2x q3x hN
            have HR4 := Lib.hid (HR3.out.below z.below)
            have HB4 := Lib.hid (HB3.out.trans (ButB.of_below z.below))
            obtain ⟨w3, hw3⟩ : ∃ w3, z.w = w3 := ⟨_, rfl⟩
            rw [hw3] at HR4 HB4 ⊢
            clear hw3 z
            go_wp2_with fail
            refine (swap_any g cap j k1 n rs w3 HL.out hjn (by omega) (by omega) HR4.out).mono ?_
            rintro e w4 ⟨rfl, hr, hb⟩
            have HR5 := Lib.hid hr
            have HB5 := Lib.hid (HB4.out.trans hb)
            clear hr hb
            go_wp2_with fail
            go_roundw
            case rel => exact ⟨k1, swS rs j k1, rfl, by omega, by rw [swS_length]; exact HL.out, HGO.out.symm.trans HU.out, HR5.out, HB5.out⟩
            case measure => simp [intOf]; omega
          | false =>
            have HST : Hid (downL qs i = rs) := Lib.hid (by
              rw [← HU.out]
              exact downL_stop (by rw [HF.out, if_neg (by rw [r3]; exact Bool.false_ne_true)]))
            go_upto_region 4 with fail
            refine wp_region_below (fun w' => ∃ i : BCl w2, w' = i.w) (by kernel_rfl) (by kernel_rfl) (BCl.start w2) ?_
            repeat (go_big_quiet_step (first | (go_at_call 54; rename_i i; with_reducible refine (less_any b a i.w).mono ?_; rw [r3]; intro e w' h; exact ⟨h.1, i.next h.2⟩)))
            refine wpQuiet_nil ?_
            intro _ hw'
            obtain ⟨z, rfl⟩ := hw'
            clear q0x q1x q2x q3x hN
            have HR4 := Lib.hid (HR3.out.below z.below)
            have HB4 := Lib.hid (HB3.out.trans (ButB.of_below z.below))
            go_wp2_with fail
            refine bodyPost_ret (results_none rfl _ _ _) rfl ?_
            rw [HST.out]
            exact ⟨rfl, HR4.out, HB4.out⟩
      · have ik2 : ¬ (k1 : Int) + 1 < n := by omega
        have gk2 : decide ((k1 : Int) + 1 < (n : Int)) = false := decide_eq_false ik2
        have HNO : Hid (¬ 2 * j + 2 < n) := Lib.hid h2
        have hN : Nonempty (BCl wr) := BCl.full wr
        have q0x := BCl.cell c0
        have q1x := BCl.cell c1
        have q2x := BCl.cell d0
        have q3x := BCl.cell d1
        clear ha hb1 hr hb hup hrn c0 c1 d0 d1 hk1 h2
        have HF : Hid (famL rs j = if ltS b a = true then k1 else j) := Lib.hid (by
          have := famL_model (qs := rs) (i := j) (k := k1) (by have := HL.out; have := HK1.out; omega) (by rw [if_neg (fun h => HNO.out (by have := h.1; have := HL.out; omega))]; exact HK1.out.symm)
          rw [HBB.out, HA.out] at this
          exact this)
        go_upto_region 2 with fail
        refine wp_region_below (fun w' => ∃ i : BCl wr, w' = i.w) (by kernel_rfl) (by kernel_rfl) (BCl.start wr) ?_
        repeat (go_big_quiet_step (first | fail))
        refine wpQuiet_nil ?_
        intro _ hw'
        obtain ⟨z, rfl⟩ := hw'
        have HR3 := Lib.hid (HR2.out.below z.below)
        have HB3 := Lib.hid (HB.out.trans (ButB.of_below z.below))
        obtain ⟨w2, hw2⟩ : ∃ w2, z.w = w2 := ⟨_, rfl⟩
        rw [hw2] at HR3 HB3 ⊢
        clear q0x q1x q2x q3x hN
        clear hw2 z
        obtain ⟨c0, c1, _, _⟩ := HR3.out.cells (t := j) (by have := HL.out; omega)
        obtain ⟨d0, d1, _, _⟩ := HR3.out.cells (t := k1) (by have := HL.out; omega)
        rw [HA.out] at c0 c1
        rw [HBB.out] at d0 d1
        have hN : Nonempty (BCl w2) := BCl.full w2
        have q0x := BCl.cell c0
        have q1x := BCl.cell c1
        have q2x := BCl.cell d0
        have q3x := BCl.cell d1
        clear c0 c1 d0 d1
        cases r3 : ltS b a with
        | true =>
          have HGO : Hid (downL rs j = downL (swS rs j k1) k1) := Lib.hid (downL_go (by rw [HF.out, if_pos r3]) (by omega))
          go_upto_region 4 with fail
          refine wp_region_below (fun w' => ∃ i : BCl w2, w' = i.w) (by kernel_rfl) (by kernel_rfl) (BCl.start w2) ?_
          repeat (go_big_quiet_step (first | (go_at_call 54; rename_i i; with_reducible refine (less_any b a i.w).mono ?_; rw [r3]; intro e w' h; exact ⟨h.1, i.next h.2⟩)))
          refine wpQuiet_nil ?_
          intro _ hw'
          obtain ⟨z, rfl⟩ := hw'
          clear q0x q1x q2x q3x hN
          have HR4 := Lib.hid (HR3.out.below z.below)
          have HB4 := Lib.hid (HB3.out.trans (ButB.of_below z.below))
          obtain ⟨w3, hw3⟩ : ∃ w3, z.w = w3 := ⟨_, rfl⟩
          rw [hw3] at HR4 HB4 ⊢
          clear hw3 z
          go_wp2_with fail
          refine (swap_any g cap j k1 n rs w3 HL.out hjn (by omega) (by omega) HR4.out).mono ?_
          rintro e w4 ⟨rfl, hr, hb⟩
          have HR5 := Lib.hid hr
          have HB5 := Lib.hid (HB4.out.trans hb)
          clear hr hb
          go_wp2_with fail
          go_roundw
          case rel => exact ⟨k1, swS rs j k1, rfl, by omega, by rw [swS_length]; exact HL.out, HGO.out.symm.trans HU.out, HR5.out, HB5.out⟩
          case measure => simp [intOf]; omega
        | false =>
          have HST : Hid (downL qs i = rs) := Lib.hid (by
            rw [← HU.out]
            exact downL_stop (by rw [HF.out, if_neg (by rw [r3]; exact Bool.false_ne_true)]))
          go_upto_region 4 with fail
          refine wp_region_below (fun w' => ∃ i : BCl w2, w' = i.w) (by kernel_rfl) (by kernel_rfl) (BCl.start w2) ?_
          repeat (go_big_quiet_step (first | (go_at_call 54; rename_i i; with_reducible refine (less_any b a i.w).mono ?_; rw [r3]; intro e w' h; exact ⟨h.1, i.next h.2⟩)))
          refine wpQuiet_nil ?_
          intro _ hw'
          obtain ⟨z, rfl⟩ := hw'
          clear q0x q1x q2x q3x hN
          have HR4 := Lib.hid (HR3.out.below z.below)
          have HB4 := Lib.hid (HB3.out.trans (ButB.of_below z.below))
          go_wp2_with fail
          refine bodyPost_ret (results_none rfl _ _ _) rfl ?_
          rw [HST.out]
          exact ⟨rfl, HR4.out, HB4.out⟩
    · have HST : Hid (downL qs i = rs) := Lib.hid (by
        rw [← hup]
        refine downL_stop ?_
        rcases famL_in rs j with h | ⟨h, h'⟩
        · exact h
        · unfold famL
          rw [if_neg (fun h => h1 (by omega)), if_neg (fun h => h1 (by omega))])
      have s1 : ¬ 2 * (j : Int) + 1 < n := by omega
      clear hr hb hup hrn
      go_wp2_with fail
      go_end0
      rw [HST.out]
      exact ⟨rfl, HR2.out, HB.out⟩
end Go.Proofs.Yteaapglkomlnhaa
