/- HeapOK of the model: what it answers. No condition of its own. -/
import Derived.Test.YteaapglkomlnhaaHpEq
namespace Go.Proofs.Yteaapglkomlnhaa
open Go.ChangeShapes Go.WideShapes Go.ChangeAt Go.WideMaps Go.WideElems Go.RowKit

theorem okAt_no {qs : List Sl} {j : Nat} (hj : j < qs.length) (h : ¬ okAt qs j) : hpB qs = false := hpB_no fun g => h (g.2 j hj)
set_option maxHeartbeats 4000000 in
set_option maxRecDepth 100000 in
theorem spec08_any (v : Value) (qs : List Sl) (A B : Nat) (z : Bool) (w : World) (hl : qs.length ≤ 1048576) (hBw : B ≤ w.heap.size) (hv : SlsIn w A B z v qs) : Calls Try.prog 37 #[v] w fun e w' => e = .returned (.bool (hpB qs)) ∧ Below w.heap.size w w' := by
  obtain ⟨ans, hans⟩ : ∃ ans, hpB qs = ans := ⟨_, rfl⟩
  rw [hans]
  have HA := Lib.hid hans
  have HV := Lib.hid hv
  clear hans
  obtain ⟨a, cap, rfl, hle, hcm, hx⟩ := hv
  have HX := Lib.hid hx
  clear hx hle hcm
  by_cases h16 : qs.length ≤ 16
  · have s16 : ¬ (qs.length : Int) > 16 := by omega
    go_enter Try.func37, Try.ntmps37
    go_wp2
    go_loopw [3] (fun i wr => ∃ k : Nat, k ≤ qs.length ∧ i = .int .i64 k ∧ (∀ m, m < k → okAt qs m) ∧ Below w.heap.size w wr) (fun i _ => qs.length - (intOf i).toNat)
    case atStart => exact ⟨0, Nat.zero_le _, rfl, fun m h => by omega, Below.refl _ _⟩
    case round =>
      obtain ⟨k, hk, rfl, hup, hb⟩ := hrel
      have HB := Lib.hid hb
      have HU := Lib.hid hup
      clear hb hup
      by_cases hlt : k < qs.length
      · obtain ⟨g, off, rfl, _, hg, hcl⟩ := HX.out (by omega)
        obtain ⟨q, hq⟩ : ∃ q : Sl, qs[k] = q := ⟨_, rfl⟩
        have h1 := (hcl k hlt).1.below HB.out (by omega)
        rw [hq] at h1
        have HQ : Hid (qs[k]! = q) := Lib.hid (by rw [getElem!_pos qs k hlt]; exact hq)
        obtain ⟨c0, c1⟩ := h1
        have s1 : (k : Int) < qs.length := by omega
        have s0 : (0 : Int) ≤ (k : Int) := by omega
        have hN : Nonempty (BCl wr) := BCl.full wr
        have q0x := BCl.cell c0
        have q1x := BCl.cell c1
        have HV2 : Hid (∀ i : BCl wr, SlsIn i.w A B z (.slice (some ⟨g, off, none⟩) qs.length cap) qs) := Lib.hid fun i => (HV.out.below HB.out hBw).below i.below (Nat.le_trans hBw HB.out.size)
        clear hq c0 c1
        cases r1 : inRange q.i 1 1000000000000 with
        | false =>
          have HE : Hid (ans = false) := Lib.hid (by rw [← HA.out]; exact okAt_no hlt fun h => by have := h.1; rw [HQ.out, r1] at this; exact Bool.noConfusion this)
          clear hcl
          go_upto_region 6 with fail
          refine wp_region_below (fun w' => ∃ i : BCl wr, w' = i.w) (by kernel_rfl) (by kernel_rfl) (BCl.start wr) ?_
          repeat (go_big_quiet_step (first | (go_at_call 53; rename_i i; with_reducible refine (within_any q.i 1 1000000000000 i.w).mono ?_; rw [r1]; intro e w' h; exact ⟨h.1, i.same h.2⟩)))
          refine wpQuiet_nil ?_
          intro _ hw'
          obtain ⟨i, rfl⟩ := hw'
          clear q0x q1x hN
          go_wp2_with fail
          go_ret
          exact ⟨bool_end HE.out.symm, HB.out.trans (i.below.mono HB.out.size)⟩
        | true =>
          cases r2 : inRange q.k 0 2000000000000 with
          | false =>
            have HE : Hid (ans = false) := Lib.hid (by rw [← HA.out]; exact okAt_no hlt fun h => by have := h.2.1; rw [HQ.out, r2] at this; exact Bool.noConfusion this)
            clear hcl
            go_upto_region 6 with fail
            refine wp_region_below (fun w' => ∃ i : BCl wr, w' = i.w) (by kernel_rfl) (by kernel_rfl) (BCl.start wr) ?_
            repeat (go_big_quiet_step (first | (go_at_call 53; rename_i i; with_reducible refine (within_any q.i 1 1000000000000 i.w).mono ?_; rw [r1]; intro e w' h; exact ⟨h.1, i.same h.2⟩) | (go_at_call 53; rename_i i; with_reducible refine (within_any q.k 0 2000000000000 i.w).mono ?_; rw [r2]; intro e w' h; exact ⟨h.1, i.same h.2⟩)))
            refine wpQuiet_nil ?_
            intro _ hw'
            obtain ⟨i, rfl⟩ := hw'
            clear hN
            go_wp2_with fail
            go_ret
            exact ⟨bool_end HE.out.symm, HB.out.trans (i.below.mono HB.out.size)⟩
          | true =>
            obtain ⟨ra, hra⟩ : ∃ ra, atS qs q.i = ra := ⟨_, rfl⟩
            have HRA := Lib.hid hra
            clear hra
            by_cases e3 : ra = (k : Int)
            · subst e3
              have ne3 : ((k : Int) != (k : Int)) = false := by simp
              by_cases h0 : 0 < k
              · obtain ⟨pn, hpn⟩ : ∃ pn, (k - 1) / 2 = pn := ⟨_, rfl⟩
                have hpl : pn < qs.length := by omega
                obtain ⟨p, hp⟩ : ∃ p : Sl, qs[pn] = p := ⟨_, rfl⟩
                have h2 := (hcl pn hpl).1.below HB.out (by omega)
                rw [hp] at h2
                have HP : Hid (qs[(k - 1) / 2]! = p) := Lib.hid (by rw [hpn, getElem!_pos qs pn hpl]; exact hp)
                obtain ⟨d0, d1⟩ := h2
                have q2x := BCl.cell d0
                have q3x := BCl.cell d1
                have gk : decide ((k : Int) > 0) = true := decide_eq_true (by omega)
                have gq2 : ((k : Int) - 1).tdiv 2 = (pn : Int) := by rw [Int.tdiv_eq_ediv_of_nonneg (by omega)]; omega
                have gw : IntKind.i64.wrap ((k : Int) - 1) = (k : Int) - 1 := by rw [IntKind.wrap_i64]; omega
                have gw2 : IntKind.i64.wrap (pn : Int) = (pn : Int) := by rw [IntKind.wrap_i64]; omega
                have gp0 : (0 : Int) ≤ (pn : Int) := by omega
                have gp1 : (pn : Int) < qs.length := by omega
                clear hcl hp hpn d0 d1
                cases r4 : ltS q p with
                | true =>
                  have HE : Hid (ans = false) := Lib.hid (by rw [← HA.out]; exact okAt_no hlt fun h => by have := h.2.2.2 h0; rw [HQ.out, HP.out, r4] at this; exact Bool.noConfusion this)
                  go_upto_region 6 with fail
                  refine wp_region_below (fun w' => ∃ i : BCl wr, w' = i.w) (by kernel_rfl) (by kernel_rfl) (BCl.start wr) ?_
                  repeat (go_big_quiet_step (first | (go_at_call 53; rename_i i; with_reducible refine (within_any q.i 1 1000000000000 i.w).mono ?_; rw [r1]; intro e w' h; exact ⟨h.1, i.same h.2⟩) | (go_at_call 53; rename_i i; with_reducible refine (within_any q.k 0 2000000000000 i.w).mono ?_; rw [r2]; intro e w' h; exact ⟨h.1, i.same h.2⟩) | (go_at_call 43; rename_i i; with_reducible refine (specAt_any _ qs A B z q.i i.w hl (HV2.out i)).mono ?_; rw [HRA.out]; intro e w' h; exact ⟨h.1, i.same h.2⟩) | (go_at_call 54; rename_i i; with_reducible refine (less_any q p i.w).mono ?_; rw [r4]; intro e w' h; exact ⟨h.1, i.next h.2⟩)))
                  refine wpQuiet_nil ?_
                  intro _ hw'
                  obtain ⟨i, rfl⟩ := hw'
                  clear hN
                  go_wp2_with fail
                  go_ret
                  exact ⟨bool_end HE.out.symm, HB.out.trans (i.below.mono HB.out.size)⟩
                | false =>
                  have HOK : Hid (okAt qs k) := Lib.hid ⟨by rw [HQ.out]; exact r1, by rw [HQ.out]; exact r2, by rw [HQ.out]; exact HRA.out, fun _ => by rw [HQ.out, HP.out]; exact r4⟩
                  go_upto_region 6 with fail
                  refine wp_region_below (fun w' => ∃ i : BCl wr, w' = i.w) (by kernel_rfl) (by kernel_rfl) (BCl.start wr) ?_
                  repeat (go_big_quiet_step (first | (go_at_call 53; rename_i i; with_reducible refine (within_any q.i 1 1000000000000 i.w).mono ?_; rw [r1]; intro e w' h; exact ⟨h.1, i.same h.2⟩) | (go_at_call 53; rename_i i; with_reducible refine (within_any q.k 0 2000000000000 i.w).mono ?_; rw [r2]; intro e w' h; exact ⟨h.1, i.same h.2⟩) | (go_at_call 43; rename_i i; with_reducible refine (specAt_any _ qs A B z q.i i.w hl (HV2.out i)).mono ?_; rw [HRA.out]; intro e w' h; exact ⟨h.1, i.same h.2⟩) | (go_at_call 54; rename_i i; with_reducible refine (less_any q p i.w).mono ?_; rw [r4]; intro e w' h; exact ⟨h.1, i.next h.2⟩)))
                  refine wpQuiet_nil ?_
                  intro _ hw'
                  obtain ⟨i, rfl⟩ := hw'
                  clear hN
                  go_wp2_with fail
                  go_roundw
                  case rel =>
                    refine ⟨k + 1, by omega, by go_num, fun m hm => ?_, HB.out.trans (i.below.mono HB.out.size)⟩
                    by_cases e : m = k
                    · rw [e]
                      exact HOK.out
                    · exact HU.out m (by omega)
                  case measure => simp [intOf]; omega
              · have gk : decide ((k : Int) > 0) = false := decide_eq_false (by omega)
                have HOK : Hid (okAt qs k) := Lib.hid ⟨by rw [HQ.out]; exact r1, by rw [HQ.out]; exact r2, by rw [HQ.out]; exact HRA.out, fun h => absurd h h0⟩
                clear hcl
                go_upto_region 6 with fail
                refine wp_region_below (fun w' => ∃ i : BCl wr, w' = i.w) (by kernel_rfl) (by kernel_rfl) (BCl.start wr) ?_
                repeat (go_big_quiet_step (first | (go_at_call 53; rename_i i; with_reducible refine (within_any q.i 1 1000000000000 i.w).mono ?_; rw [r1]; intro e w' h; exact ⟨h.1, i.same h.2⟩) | (go_at_call 53; rename_i i; with_reducible refine (within_any q.k 0 2000000000000 i.w).mono ?_; rw [r2]; intro e w' h; exact ⟨h.1, i.same h.2⟩) | (go_at_call 43; rename_i i; with_reducible refine (specAt_any _ qs A B z q.i i.w hl (HV2.out i)).mono ?_; rw [HRA.out]; intro e w' h; exact ⟨h.1, i.same h.2⟩)))
                refine wpQuiet_nil ?_
                intro _ hw'
                obtain ⟨i, rfl⟩ := hw'
                clear hN
                go_wp2_with fail
                go_roundw
                case rel =>
                  refine ⟨k + 1, by omega, by go_num, fun m hm => ?_, HB.out.trans (i.below.mono HB.out.size)⟩
                  by_cases e : m = k
                  · rw [e]
                    exact HOK.out
                  · exact HU.out m (by omega)
                case measure => simp [intOf]; omega
            · have ne3 : (ra != (k : Int)) = true := by simpa using e3
              have HE : Hid (ans = false) := Lib.hid (by rw [← HA.out]; exact okAt_no hlt fun h => by have := h.2.2.1; rw [HQ.out, HRA.out] at this; exact e3 this)
              clear hcl e3
              go_upto_region 6 with fail
              refine wp_region_below (fun w' => ∃ i : BCl wr, w' = i.w) (by kernel_rfl) (by kernel_rfl) (BCl.start wr) ?_
              repeat (go_big_quiet_step (first | (go_at_call 53; rename_i i; with_reducible refine (within_any q.i 1 1000000000000 i.w).mono ?_; rw [r1]; intro e w' h; exact ⟨h.1, i.same h.2⟩) | (go_at_call 53; rename_i i; with_reducible refine (within_any q.k 0 2000000000000 i.w).mono ?_; rw [r2]; intro e w' h; exact ⟨h.1, i.same h.2⟩) | (go_at_call 43; rename_i i; with_reducible refine (specAt_any _ qs A B z q.i i.w hl (HV2.out i)).mono ?_; rw [HRA.out]; intro e w' h; exact ⟨h.1, i.same h.2⟩)))
              refine wpQuiet_nil ?_
              intro _ hw'
              obtain ⟨i, rfl⟩ := hw'
              clear hN
              go_wp2_with fail
              go_ret
              exact ⟨bool_end HE.out.symm, HB.out.trans (i.below.mono HB.out.size)⟩
      · obtain rfl : k = qs.length := by omega
        have HE : Hid (ans = true) := Lib.hid (by rw [← HA.out]; exact hpB_iff.2 ⟨h16, HU.out⟩)
        go_wp2_with fail
        go_ret
        exact ⟨bool_end HE.out.symm, HB.out⟩
  · have HE : Hid (ans = false) := Lib.hid (by rw [← HA.out]; exact hpB_no fun h => h16 h.1)
    have s16 : (qs.length : Int) > 16 := by omega
    go_enter Try.func37, Try.ntmps37
    go_wp2
    go_ret
    exact ⟨bool_end HE.out.symm, Below.refl _ _⟩
end Go.Proofs.Yteaapglkomlnhaa
