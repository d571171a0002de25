/- Up and down, in the program. No condition of its own. -/
import Derived.Test.YteaapglkomlnhaaHpTake
import Derived.Test.YteaapglkomlnhaaHpImpl
import Derived.BigRegion
namespace Go.Proofs.Yteaapglkomlnhaa
open Go.ChangeShapes Go.WideShapes Go.ChangeAt Go.WideMaps Go.WideElems Go.RowKit

set_option maxHeartbeats 4000000 in
set_option maxRecDepth 100000 in
theorem implUp_any (g cap i n : Nat) (qs : List Sl) (w : World) (hn : qs.length = n) (hl : n ≤ 1048576) (hi : i < n) (hr : RowSl w g qs) : Calls Try.prog 66 #[.slice (some ⟨g, 0, none⟩) n cap, .int .i64 i] w fun e w' => e = .returned (.int .i64 (upL qs i).2) ∧ RowSl w' g (upL qs i).1 ∧ ButB g w w' := by
  have HR := Lib.hid hr
  have HN := Lib.hid hn
  clear hr hn
  go_enter Try.func66, Try.ntmps66
  go_wp2_with fail
  go_loopw [1] (fun v wr => UpRel w g n qs i v wr) (fun v _ => (intOf v).toNat)
  case atStart => exact ⟨i, qs, rfl, hi, HN.out, rfl, HR.out, ButB.refl _ _⟩
  case round =>
    obtain ⟨j, rs, rfl, hjn, hrn, hup, hr, hb⟩ := hrel
    have HR2 := Lib.hid hr
    have HB := Lib.hid hb
    have HU := Lib.hid hup
    have HL := Lib.hid hrn
    by_cases h0 : 0 < j
    · obtain ⟨pn, hpn⟩ : ∃ pn, (j - 1) / 2 = pn := ⟨_, rfl⟩
      obtain ⟨q, hq⟩ : ∃ q, rs[j]! = q := ⟨_, rfl⟩
      obtain ⟨p, hp⟩ : ∃ p, rs[pn]! = p := ⟨_, rfl⟩
      obtain ⟨c0, c1, _, _⟩ := hr.cells (t := j) (by omega)
      obtain ⟨d0, d1, _, _⟩ := hr.cells (t := pn) (by omega)
      rw [hq] at c0 c1
      rw [hp] at d0 d1
      have HQ := Lib.hid hq
      have HP : Hid (rs[(j - 1) / 2]! = p) := Lib.hid (by rw [hpn]; exact hp)
      have HPN := Lib.hid hpn
      have hN : Nonempty (BCl wr) := BCl.full wr
      have q0x := BCl.cell c0
      have q1x := BCl.cell c1
      have q2x := BCl.cell d0
      have q3x := BCl.cell d1
      have hpl : pn < n := by omega
      have hpj : pn < j := by omega
      have gk : decide ((j : Int) > 0) = true := decide_eq_true (by omega)
      have gq2 : ((j : Int) - 1).tdiv 2 = (pn : Int) := by rw [Int.tdiv_eq_ediv_of_nonneg (by omega)]; omega
      have gw : IntKind.i64.wrap ((j : Int) - 1) = (j : Int) - 1 := by rw [IntKind.wrap_i64]; omega
      have gw2 : IntKind.i64.wrap (pn : Int) = (pn : Int) := by rw [IntKind.wrap_i64]; omega
      have gp0 : (0 : Int) ≤ (pn : Int) := by omega
      have gp1 : (pn : Int) < n := by omega
      have s0 : (0 : Int) ≤ (j : Int) := by omega
      have s1 : (j : Int) < n := by omega
      clear hq hp hpn hr hb hup hrn c0 c1 d0 d1
      cases r4 : ltS q p with
      | true =>
        have HGO : Hid (upL rs j = upL (swS rs j pn) pn) := Lib.hid (by
          have := upL_go h0 (by rw [HQ.out, HP.out]; exact r4)
          rw [HPN.out] at this
          exact this)
        go_upto_region 1 with fail
        refine wp_region_below (fun w' => ∃ i : BCl wr, w' = i.w) (by kernel_rfl) (by kernel_rfl) (BCl.start wr) ?_
        repeat (go_big_quiet_step (first | (go_at_call 62; rename_i i; with_reducible refine (parent_any j (by omega) (by omega) i.w).mono ?_; rw [HPN.out]; intro e w' h; exact ⟨h.1, i.same h.2⟩)))
        go_big_quiet_want
        refine quiet_prec (.tmp 12) (.tmp 17) _ q p _ rfl rfl rfl r4 bcl_next ?_
        go_big_quiet_on
        simp only [Act.put, List.setIfInBounds_toArray, List.set_cons_succ, List.set_cons_zero]
        repeat (go_big_quiet_step (first | fail))
        refine wpQuiet_nil ?_
        intro _ hw'
        obtain ⟨i, rfl⟩ := hw'
        clear q0x q1x q2x q3x hN
        have HR3 := Lib.hid (HR2.out.below i.below)
        have HB3 := Lib.hid (HB.out.trans (ButB.of_below i.below))
        obtain ⟨w2, hw2⟩ : ∃ w2, i.w = w2 := ⟨_, rfl⟩
        rw [hw2] at HR3 HB3 ⊢
        clear hw2 i
        have HS := HR3.out.sw (i := j) (k := pn) (by rw [HL.out]; exact hjn) (by rw [HL.out]; exact hpl)
        rw [HQ.out] at HS
        have hpq : rs[pn]! = p := by rw [← HP.out, HPN.out]
        rw [hpq] at HS
        obtain ⟨c0, c1, f0, f1⟩ := HR3.out.cells (t := j) (by rw [HL.out]; exact hjn)
        obtain ⟨d0, d1, g0, g1⟩ := HR3.out.cells (t := pn) (by rw [HL.out]; exact hpl)
        rw [HQ.out] at c0 c1
        rw [hpq] at d0 d1
        have HR4 := Lib.hid HS
        have HB4 := Lib.hid ((HB3.out.put (j * 2) p).put (pn * 2) q)
        clear HS hpq
        have n1 : j * 2 ≠ pn * 2 := by omega
        have n2 : j * 2 ≠ pn * 2 + 1 := by omega
        have n3 : j * 2 + 1 ≠ pn * 2 := by omega
        have n4 : j * 2 + 1 ≠ pn * 2 + 1 := by omega
        have HC : Hid (∀ w, Calls Try.prog 62 #[.int .i64 (j : Int)] w fun e w' => e = .returned (.int .i64 (pn : Int)) ∧ w = w') := Lib.hid fun w => by
          have := parent_any j (by omega) (by omega) w
          rw [HPN.out] at this
          exact this
        have gp2 : (j : Int) ≠ (pn : Int) := by omega
        go_wp2_with fail
        go_region_with (go_at_call 62; refine (HC.out _).mono ?_; rintro e w' ⟨rfl, rfl⟩)
        all_goals go_wp2_with (go_at_call 62; refine (HC.out _).mono ?_; rintro e w' ⟨rfl, rfl⟩)
        all_goals go_roundw
        all_goals first
          | exact ⟨pn, swS rs j pn, rfl, hpl, by rw [swS_length]; exact HL.out, HGO.out.symm.trans HU.out, HR4.out.drew, HB4.out.drew⟩
          | (simp [intOf]; omega)
      | false =>
        have HST : Hid (upL qs i = (rs, j)) := Lib.hid (by
          rw [← HU.out]
          exact upL_stop (Or.inr (by rw [HQ.out, HP.out]; exact r4)))
        go_upto_region 1 with fail
        refine wp_region_below (fun w' => ∃ i : BCl wr, w' = i.w) (by kernel_rfl) (by kernel_rfl) (BCl.start wr) ?_
        repeat (go_big_quiet_step (first | (go_at_call 62; rename_i i; with_reducible refine (parent_any j (by omega) (by omega) i.w).mono ?_; rw [HPN.out]; intro e w' h; exact ⟨h.1, i.same h.2⟩)))
        go_big_quiet_want
        refine quiet_prec (.tmp 12) (.tmp 17) _ q p _ rfl rfl rfl r4 bcl_next ?_
        go_big_quiet_on
        simp only [Act.put, List.setIfInBounds_toArray, List.set_cons_succ, List.set_cons_zero]
        repeat (go_big_quiet_step (first | fail))
        refine wpQuiet_nil ?_
        intro _ hw'
        obtain ⟨b, rfl⟩ := hw'
        clear q0x q1x q2x q3x hN
        have HR3 := Lib.hid (HR2.out.below b.below)
        have HB3 := Lib.hid (HB.out.trans (ButB.of_below b.below))
        go_wp2_with fail
        go_ret
        rw [HST.out]
        exact ⟨rfl, HR3.out, HB3.out⟩
    · have gk : decide ((j : Int) > 0) = false := decide_eq_false (by omega)
      have HST : Hid (upL qs i = (rs, j)) := Lib.hid (by
        rw [← hup]
        exact upL_stop (Or.inl (by omega)))
      have hN : Nonempty (BCl wr) := BCl.full wr
      clear hr hb hup hrn
      go_upto_region 1 with fail
      refine wp_region_below (fun w' => ∃ i : BCl wr, w' = i.w) (by kernel_rfl) (by kernel_rfl) (BCl.start wr) ?_
      repeat (go_big_quiet_step (first | fail))
      refine wpQuiet_nil ?_
      intro _ hw'
      obtain ⟨b, rfl⟩ := hw'
      have HR3 := Lib.hid (HR2.out.below b.below)
      have HB3 := Lib.hid (HB.out.trans (ButB.of_below b.below))
      go_wp2_with fail
      go_ret
      rw [HST.out]
      exact ⟨rfl, HR3.out, HB3.out⟩
end Go.Proofs.Yteaapglkomlnhaa
