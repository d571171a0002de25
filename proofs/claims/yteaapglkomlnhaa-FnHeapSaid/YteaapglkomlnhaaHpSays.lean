/- The law of heaps' helpers: sameSlots, sameInts, has. No condition of its own. -/
import Derived.Test.YteaapglkomlnhaaHpInt
import Derived.Test.YteaapglkomlnhaaHpEq
namespace Go.Proofs.Yteaapglkomlnhaa
open Go.ChangeShapes Go.WideShapes Go.ChangeAt Go.WideMaps Go.WideElems Go.RowKit

set_option maxRecDepth 100000 in
theorem sameInts_any (u v : Value) (A B A2 B2 : Nat) (z z2 : Bool) (zs : List Int) (w : World) (hl : zs.length ≤ 1048576) (hB : B ≤ w.heap.size) (hB2 : B2 ≤ w.heap.size) (hu : NmIn w A B z u zs) (hv : NmIn w A2 B2 z2 v zs) : Calls Try.prog 35 #[u, v] w fun e w' => e = .returned (.bool true) ∧ Below w.heap.size w w' := by
  obtain ⟨a, cap, rfl, _, _, hx⟩ := hu
  obtain ⟨a2, cap2, rfl, _, _, hx2⟩ := hv
  have HX := Lib.hid hx
  have HX2 := Lib.hid hx2
  clear hx hx2
  have hne : ((zs.length : Int) != (zs.length : Int)) = false := by simp
  go_enter Try.func35, Try.ntmps35
  go_wp2_with fail
  go_loopw [5] (fun i wr => ∃ k : Nat, k ≤ zs.length ∧ i = .int .i64 k ∧ Below w.heap.size w wr) (fun i _ => zs.length - (intOf i).toNat)
  case atStart => exact ⟨0, Nat.zero_le _, rfl, Below.refl _ _⟩
  case round =>
    obtain ⟨k, hk, rfl, hb⟩ := hrel
    have HB := Lib.hid hb
    clear hb
    by_cases hlt : k < zs.length
    · obtain ⟨g, off, rfl, _, hg, hcl⟩ := HX.out (by omega)
      obtain ⟨g2, off2, rfl, _, hg2, hcl2⟩ := HX2.out (by omega)
      obtain ⟨q, hq⟩ : ∃ q, zs[k] = q := ⟨_, rfl⟩
      have c1 := (HB.out.cell (p := ⟨g, off + k, none⟩) (by show g < _; omega)).trans (hcl k hlt).1
      have c2 := (HB.out.cell (p := ⟨g2, off2 + k, none⟩) (by show g2 < _; omega)).trans (hcl2 k hlt).1
      rw [hq] at c1 c2
      have s1 : (k : Int) < zs.length := by omega
      have s0 : (0 : Int) ≤ (k : Int) := by omega
      have nq : (q != q) = false := by simp
      clear hcl hcl2 hq
      go_wp2_with fail
      go_region
      all_goals go_wp2_with fail
      all_goals go_roundw
      case rel => exact ⟨k + 1, by omega, by go_num, HB.out.drew⟩
      case measure => simp [intOf]; omega
    · obtain rfl : k = zs.length := by omega
      go_wp2_with fail
      go_ret
      exact ⟨rfl, HB.out⟩
set_option maxRecDepth 100000 in
theorem sameSlots_any (u v : Value) (A B A2 B2 : Nat) (z z2 : Bool) (qs : List Sl) (w : World) (hl : qs.length ≤ 1048576) (hB : B ≤ w.heap.size) (hB2 : B2 ≤ w.heap.size) (hu : SlsIn w A B z u qs) (hv : SlsIn w A2 B2 z2 v qs) : Calls Try.prog 34 #[u, v] w fun e w' => e = .returned (.bool true) ∧ Below w.heap.size w w' := by
  obtain ⟨a, cap, rfl, _, _, hx⟩ := hu
  obtain ⟨a2, cap2, rfl, _, _, hx2⟩ := hv
  have HX := Lib.hid hx
  have HX2 := Lib.hid hx2
  clear hx hx2
  have hne : ((qs.length : Int) != (qs.length : Int)) = false := by simp
  go_enter Try.func34, Try.ntmps34
  go_wp2_with fail
  go_loopw [5] (fun i wr => ∃ k : Nat, k ≤ qs.length ∧ i = .int .i64 k ∧ Below w.heap.size w wr) (fun i _ => qs.length - (intOf i).toNat)
  case atStart => exact ⟨0, Nat.zero_le _, rfl, Below.refl _ _⟩
  case round =>
    obtain ⟨k, hk, rfl, hb⟩ := hrel
    have HB := Lib.hid hb
    clear hb
    by_cases hlt : k < qs.length
    · obtain ⟨g, off, rfl, _, hg, hcl⟩ := HX.out (by omega)
      obtain ⟨g2, off2, rfl, _, hg2, hcl2⟩ := HX2.out (by omega)
      obtain ⟨q, hq⟩ : ∃ q : Sl, qs[k] = q := ⟨_, rfl⟩
      have h1 := (hcl k hlt).1.below HB.out (by omega)
      have h2 := (hcl2 k hlt).1.below HB.out (by omega)
      rw [hq] at h1 h2
      obtain ⟨c0, c1⟩ := h1
      obtain ⟨d0, d1⟩ := h2
      have s1 : (k : Int) < qs.length := by omega
      have s0 : (0 : Int) ≤ (k : Int) := by omega
      have nk : (q.k == q.k) = true := by simp
      have ni : (q.i == q.i) = true := by simp
      clear hcl hcl2 hq
      go_wp2_with fail
      go_region
      all_goals go_wp2_with fail
      all_goals go_roundw
      case rel => exact ⟨k + 1, by omega, by go_num, HB.out.drew⟩
      case measure => simp [intOf]; omega
    · obtain rfl : k = qs.length := by omega
      go_wp2_with fail
      go_ret
      exact ⟨rfl, HB.out⟩
set_option maxRecDepth 100000 in
theorem has_any (u : Value) (A B : Nat) (z : Bool) (zs : List Int) (n : Int) (w : World) (hl : zs.length ≤ 1048576) (hB : B ≤ w.heap.size) (hu : NmIn w A B z u zs) : Calls Try.prog 36 #[u, .int .i64 n] w fun e w' => e = .returned (.bool (decide (n ∈ zs))) ∧ Below w.heap.size w w' := by
  obtain ⟨a, cap, rfl, _, _, hx⟩ := hu
  have HX := Lib.hid hx
  clear hx
  go_enter Try.func36, Try.ntmps36
  go_wp2_with fail
  go_loopw [5] (fun i wr => ∃ k : Nat, k ≤ zs.length ∧ i = .int .i64 k ∧ Below w.heap.size w wr ∧ ∀ m, m < k → zs[m]! ≠ n) (fun i _ => zs.length - (intOf i).toNat)
  case atStart => exact ⟨0, Nat.zero_le _, rfl, Below.refl _ _, fun m h => by omega⟩
  case round =>
    obtain ⟨k, hk, rfl, hb, hno⟩ := hrel
    have HB := Lib.hid hb
    have HN := Lib.hid hno
    clear hb hno
    by_cases hlt : k < zs.length
    · obtain ⟨g, off, rfl, _, hg, hcl⟩ := HX.out (by omega)
      obtain ⟨q, hq⟩ : ∃ q, zs[k] = q := ⟨_, rfl⟩
      have c1 := (HB.out.cell (p := ⟨g, off + k, none⟩) (by show g < _; omega)).trans (hcl k hlt).1
      rw [hq] at c1
      have HQ := Lib.hid hq
      have s1 : (k : Int) < zs.length := by omega
      have s0 : (0 : Int) ≤ (k : Int) := by omega
      clear hcl hq
      cases he : (q == n) with
      | true =>
        have HD : Hid (decide (n ∈ zs) = true) := Lib.hid (decide_eq_true (by
          have : q = n := by simpa using he
          rw [← this, ← HQ.out]
          exact List.getElem_mem hlt))
        go_wp2_with fail
        go_ret
        rw [HD.out]
        exact ⟨rfl, HB.out⟩
      | false =>
        have HE : Hid (zs[k]! ≠ n) := Lib.hid (by
          rw [getElem!_pos zs k hlt, HQ.out]
          simpa using he)
        go_wp2_with fail
        go_roundw
        case rel => exact ⟨k + 1, by omega, by go_num, HB.out, fun m hm => by
          by_cases h : m = k
          · rw [h]
            exact HE.out
          · exact HN.out m (by omega)⟩
        case measure => simp [intOf]; omega
    · obtain rfl : k = zs.length := by omega
      have HD : Hid (decide (n ∈ zs) = false) := Lib.hid (decide_eq_false (by
        intro h
        obtain ⟨j, hj, rfl⟩ := List.getElem_of_mem h
        exact HN.out j hj (getElem!_pos zs j hj)))
      go_wp2_with fail
      go_ret
      rw [HD.out]
      exact ⟨rfl, HB.out⟩
end Go.Proofs.Yteaapglkomlnhaa
