/- Slots compared: the law's helper; which comes ahead, in the model. No condition of its own. -/
import Derived.Test.YteaapglkomlnhaaHpTo
namespace Go.Proofs.Yteaapglkomlnhaa
open Go.ChangeShapes Go.WideShapes Go.ChangeAt Go.WideMaps Go.WideElems Go.RowKit

theorem eqSlot_any (q : Sl) (w : World) : Calls Try.prog 22 #[.agg #[.int .i64 q.k, .int .i64 q.i], .agg #[.int .i64 q.k, .int .i64 q.i]] w fun e w' => e = .returned (.bool true) ∧ Below w.heap.size w w' := by
  have h1 : (q.k != q.k) = false := by simp
  have h2 : (q.i != q.i) = false := by simp
  go_enter Try.func22, Try.ntmps22
  go_wp2_with fail
  go_ret
  exact ⟨rfl, ((Below.refl _ _).alloc (Nat.le_refl _) _).alloc (by simp) _⟩
set_option maxHeartbeats 2000000 in
set_option maxRecDepth 100000 in
theorem eqSlots_any (u v : Value) (A B A2 B2 : Nat) (z z2 : Bool) (qs : List Sl) (w : World) (hl : qs.length ≤ 1048576) (hB : B ≤ w.heap.size) (hB2 : B2 ≤ w.heap.size) (hu : SlsIn w A B z u qs) (hv : SlsIn w A2 B2 z2 v qs) : Calls Try.prog 14 #[u, v] w fun e w' => e = .returned (.bool true) ∧ Below w.heap.size w w' := by
  obtain ⟨a, cap, rfl, _, _, hx⟩ := hu
  obtain ⟨a2, cap2, rfl, _, _, hx2⟩ := hv
  have HX := Lib.hid hx
  have HX2 := Lib.hid hx2
  clear hx hx2
  have hne : ((qs.length : Int) != (qs.length : Int)) = false := by simp
  go_enter Try.func14, Try.ntmps14
  go_wp2_with fail
  go_loopw [5] (fun i wr => ∃ k : Nat, k ≤ qs.length ∧ i = .int .i64 k ∧ Below w.heap.size w wr) (fun i _ => qs.length - (intOf i).toNat)
  case atStart => exact ⟨0, Nat.zero_le _, rfl, Below.refl _ _⟩
  case round =>
    obtain ⟨k, hk, rfl, hb⟩ := hrel
    have HB := Lib.hid hb
    clear hb
    by_cases hlt : k < qs.length
    · obtain ⟨g, off, rfl, _, hg, hcl⟩ := HX.out (by omega)
      obtain ⟨g2, off2, rfl, _, hg2, hcl2⟩ := HX2.out (by omega)
      obtain ⟨q, hq⟩ : ∃ q : Sl, qs[k] = q := ⟨_, rfl⟩
      have h1 := (hcl k hlt).1.below HB.out (by omega)
      have h2 := (hcl2 k hlt).1.below HB.out (by omega)
      rw [hq] at h1 h2
      obtain ⟨c0, c1⟩ := h1
      obtain ⟨d0, d1⟩ := h2
      have s1 : (k : Int) < qs.length := by omega
      have s0 : (0 : Int) ≤ (k : Int) := by omega
      have hN : Nonempty (BCl wr) := BCl.full wr
      have q0x := BCl.cell c0
      have q1x := BCl.cell c1
      have r0x := BCl.cell d0
      have r1x := BCl.cell d1
      clear hcl hcl2 hq c0 c1 d0 d1
      go_upto_region 6 with fail
      refine wp_region_below (fun w' => ∃ i : BCl wr, w' = i.w) (by kernel_rfl) (by kernel_rfl) (BCl.start wr) ?_
      repeat (go_big_quiet_step (first | (go_at_call 22; rename_i i; with_reducible refine (eqSlot_any q i.w).mono ?_; intro e w' h; exact ⟨h.1, i.next h.2⟩)))
      refine wpQuiet_nil ?_
      intro _ hw'
      obtain ⟨i, rfl⟩ := hw'
      clear q0x q1x r0x r1x hN
      go_wp2_with fail
      go_roundw
      case rel => exact ⟨k + 1, by omega, by go_num, HB.out.trans (i.below.mono HB.out.size)⟩
      case measure => simp [intOf]; omega
    · obtain rfl : k = qs.length := by omega
      go_wp2_with fail
      go_ret
      exact ⟨rfl, HB.out⟩
theorem less_any (a b : Sl) (w : World) : Calls Try.prog 54 #[.agg #[.int .i64 a.k, .int .i64 a.i], .agg #[.int .i64 b.k, .int .i64 b.i]] w fun e w' => e = .returned (.bool (ltS a b)) ∧ Below w.heap.size w w' := by
  obtain ⟨x, hx⟩ : ∃ x, ltS a b = x := ⟨_, rfl⟩
  rw [hx]
  have HX := Lib.hid hx
  clear hx
  by_cases h1 : a.k < b.k
  · have HE : Hid (x = true) := Lib.hid (by rw [← HX.out, ltS_iff]; exact Or.inl h1)
    go_enter Try.func54, Try.ntmps54
    go_wp2_with fail
    go_ret
    exact ⟨bool_end HE.out.symm, ((Below.refl _ _).alloc (Nat.le_refl _) _).alloc (by simp) _⟩
  · by_cases h2 : a.k = b.k
    · have e2 : (a.k == b.k) = true := by simp [h2]
      by_cases h3 : a.i < b.i
      · have HE : Hid (x = true) := Lib.hid (by rw [← HX.out, ltS_iff]; exact Or.inr ⟨h2, h3⟩)
        clear h2
        go_enter Try.func54, Try.ntmps54
        go_wp2_with fail
        go_ret
        exact ⟨bool_end HE.out.symm, ((Below.refl _ _).alloc (Nat.le_refl _) _).alloc (by simp) _⟩
      · have HE : Hid (x = false) := Lib.hid (by rw [← HX.out, ltS_not]; omega)
        clear h2
        go_enter Try.func54, Try.ntmps54
        go_wp2_with fail
        go_ret
        exact ⟨bool_end HE.out.symm, ((Below.refl _ _).alloc (Nat.le_refl _) _).alloc (by simp) _⟩
    · have e2 : (a.k == b.k) = false := by simp [h2]
      have HE : Hid (x = false) := Lib.hid (by rw [← HX.out, ltS_not]; omega)
      clear h2
      go_enter Try.func54, Try.ntmps54
      go_wp2_with fail
      go_ret
      exact ⟨bool_end HE.out.symm, ((Below.refl _ _).alloc (Nat.le_refl _) _).alloc (by simp) _⟩
set_option maxHeartbeats 2000000 in
set_option maxRecDepth 100000 in
theorem specAt_any (v : Value) (qs : List Sl) (A B : Nat) (z : Bool) (id : Int) (w : World) (hl : qs.length ≤ 1048576) (hv : SlsIn w A B z v qs) : Calls Try.prog 43 #[v, .int .i64 id] w fun e w' => e = .returned (.int .i64 (atS qs id)) ∧ w = w' := by
  obtain ⟨a, cap, rfl, _, _, hx⟩ := hv
  have HX := Lib.hid hx
  clear hx
  go_enter Try.func43, Try.ntmps43
  go_wp2
  go_loopw [5] (fun i wr => ∃ k : Nat, k ≤ qs.length ∧ i = .int .i64 k ∧ w = wr ∧ ∀ m, m < k → qs[m]!.i ≠ id) (fun i _ => qs.length - (intOf i).toNat)
  case atStart => exact ⟨0, Nat.zero_le _, rfl, rfl, fun m h => by omega⟩
  case round =>
    obtain ⟨k, hk, rfl, rfl, hb⟩ := hrel
    have HB := Lib.hid hb
    clear hb
    by_cases hlt : k < qs.length
    · obtain ⟨g, off, rfl, _, hg, hcl⟩ := HX.out (by omega)
      obtain ⟨q, hq⟩ : ∃ q : Sl, qs[k] = q := ⟨_, rfl⟩
      obtain ⟨h1, _⟩ := hcl k hlt
      rw [hq] at h1
      obtain ⟨c0, c1⟩ := h1
      have HQ : Hid (qs[k]! = q) := Lib.hid (by rw [getElem!_pos qs k hlt]; exact hq)
      have s1 : (k : Int) < qs.length := by omega
      clear hcl hq
      cases he : (q.i == id) with
      | true =>
        have HE : Hid (atS qs id = k) := Lib.hid (atS_some hlt (by rw [HQ.out]; simpa using he) HB.out)
        go_wp2_with fail
        go_ret
        exact ⟨by rw [HE.out]; rfl, rfl⟩
      | false =>
        have HN : Hid (q.i ≠ id) := Lib.hid (by simpa using he)
        go_wp2_with fail
        go_roundw
        case rel =>
          refine ⟨k + 1, by omega, by go_num, by trivial, fun m hm => ?_⟩
          by_cases e : m = k
          · rw [e, HQ.out]
            exact HN.out
          · exact HB.out m (by omega)
        case measure => simp [intOf]; omega
    · obtain rfl : k = qs.length := by omega
      have HE : Hid (atS qs id = -1) := Lib.hid (atS_none HB.out)
      go_wp2_with fail
      go_ret
      exact ⟨by rw [HE.out]; rfl, rfl⟩
end Go.Proofs.Yteaapglkomlnhaa
