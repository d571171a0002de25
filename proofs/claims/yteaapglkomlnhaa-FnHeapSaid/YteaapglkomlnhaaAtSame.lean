/- The choice out of bytes is the same in every later world. No condition of its own. -/
import Derived.Test.YteaapglkomlnhaaDraws
namespace Go.Proofs.Yteaapglkomlnhaa
open Go.ChangeShapes Go.WideShapes Go.ChangeAt Go.WideMaps Go.WideElems Go.RowKit

theorem drewN_below (w : World) (q : Nat) : Below w.heap.size w (w.drewN q) := ⟨rfl, rfl, rfl, Nat.le_refl _, fun _ _ => rfl⟩
theorem at_same (v : Value) (len i n : Nat) (W : World) (hn : 2 ≤ n) (hn2 : n ≤ 1000000) (hi : i ≤ 1000000) (h : CodeIn W v len) : ∃ r : Nat, r < n ∧ ∀ w, Below W.heap.size W w → Calls Try.prog 33 #[v, .int .i64 i, .int .i64 n] w fun e w' => e = .returned (.int .i64 (r : Int)) ∧ Below w.heap.size w w' := by
  obtain ⟨hl, a, cap, rfl, hcells⟩ := h
  by_cases h0 : 0 < len
  · obtain ⟨cb, off, rfl, hlt, hz⟩ := hcells h0
    have hm1 := Nat.mod_lt i h0
    have hm2 := Nat.mod_lt (i + 1) h0
    obtain ⟨z, hz0, hz1, hc1⟩ := hz (i % len) hm1
    obtain ⟨y, hy0, hy1, hc2⟩ := hz ((i + 1) % len) hm2
    clear hz hcells
    have hd := Nat.div_le_self i len
    obtain ⟨p, hp⟩ : ∃ p, p = i % len := ⟨_, rfl⟩
    obtain ⟨p2, hp2⟩ : ∃ p2, p2 = (i + 1) % len := ⟨_, rfl⟩
    obtain ⟨d, hdd⟩ : ∃ d, d = i / len := ⟨_, rfl⟩
    rw [← hp] at hm1 hc1
    rw [← hp2] at hm2 hc2
    rw [← hdd] at hd
    have n0 : ¬ (len : Int) = 0 := by omega
    have n1 : ¬ (n : Int) = 0 := by omega
    have g1 : (0 : Int) ≤ p ∧ (p : Int) < len := by omega
    have g2 : (0 : Int) ≤ p2 ∧ (p2 : Int) < len := by omega
    have s0 : IntKind.i64.wrap ((i : Int) + 1) = (i : Int) + 1 := IntWalk.i64_in _ (by omega)
    have s1 : IntKind.i64.wrap (z * 31) = z * 31 := IntWalk.i64_in _ (by omega)
    have s2 : IntKind.i64.wrap (z * 31 + y) = z * 31 + y := IntWalk.i64_in _ (by omega)
    have s3 : IntKind.i64.wrap (z * 31 + y + (d : Int)) = z * 31 + y + (d : Int) := IntWalk.i64_in _ (by omega)
    have sd : IntKind.i64.wrap (d : Int) = d := IntWalk.i64_in _ (by omega)
    have d1 : Op.intDiv .rem .i64 (i : Int) (len : Int) = pure (.int .i64 (p : Int)) := by rw [Op.intDiv, if_neg n0, hp]; rfl
    have d2 : Op.intDiv .rem .i64 ((i : Int) + 1) (len : Int) = pure (.int .i64 (p2 : Int)) := by rw [Op.intDiv, if_neg n0, hp2]; rfl
    have d3 : Op.intDiv .quo .i64 (i : Int) (len : Int) = pure (.int .i64 (d : Int)) := by
      rw [Op.intDiv, if_neg n0, show (i : Int).tdiv (len : Int) = ((i / len : Nat) : Int) from rfl, ← hdd]
      show pure (Value.int .i64 (IntKind.i64.wrap (d : Int))) = _
      rw [sd]
    have hpos : 0 ≤ z * 31 + y + (d : Int) := by omega
    have d4 : Op.intDiv .rem .i64 (z * 31 + y + (d : Int)) (n : Int) = pure (.int .i64 ((z * 31 + y + (d : Int)) % n)) := by
      rw [Op.intDiv, if_neg n1]
      show pure (Value.int .i64 ((z * 31 + y + (d : Int)).tmod n)) = _
      rw [IntWalk.rem_in _ _ hpos]
    have e1 : ((p : Nat) : Int).toNat = p := rfl
    have e2 : ((p2 : Nat) : Int).toNat = p2 := rfl
    have h1 := Int.emod_nonneg (z * 31 + y + (d : Int)) n1
    have h2 := Int.emod_lt_of_pos (z * 31 + y + (d : Int)) (show (0 : Int) < n by omega)
    have H1 := Lib.hid h1
    have H2 := Lib.hid h2
    obtain ⟨g11, g12⟩ := g1
    obtain ⟨g21, g22⟩ := g2
    have t1 : (i : Int).tmod (len : Int) = (p : Int) := by rw [hp]; rfl
    have t2 : ((i : Int) + 1).tmod (len : Int) = (p2 : Int) := by rw [hp2]; rfl
    have t3 : (i : Int).tdiv (len : Int) = (d : Int) := by rw [hdd]; rfl
    have t4 : (z * 31 + y + (d : Int)).tmod n = (z * 31 + y + (d : Int)) % n := IntWalk.rem_in _ _ hpos
    have n2 : ¬ len = 0 := by omega
    have n3 : ¬ n = 0 := by omega
    refine ⟨((z * 31 + y + (d : Int)) % n).toNat, by have := H1.out; have := H2.out; omega, fun w hb => ?_⟩
    have hc1 := (hb.cell (p := ⟨cb, off + p, none⟩) hlt).trans hc1
    have hc2 := (hb.cell (p := ⟨cb, off + p2, none⟩) hlt).trans hc2
    clear hb
    clear hp hp2 hdd h1 h2 d1 d2 d3 d4
    go_enter Try.func33, Try.ntmps33
    go_wp2
    go_quiet (fail)
    go_wp2
    go_ret
    exact ⟨by rw [Int.toNat_of_nonneg H1.out]; rfl, drewN_below _ _⟩
  · obtain rfl : len = 0 := by omega
    clear hcells
    have hz : (i : Int) * 7 % n = ((i * 7 % n : Nat) : Int) := rfl
    have HZ := Lib.hid hz
    clear hz
    refine ⟨i * 7 % n, Nat.mod_lt _ (by omega), fun w hb => ?_⟩
    clear hb
    go_enter Try.func33, Try.ntmps33
    go_wp2
    go_ret
    exact ⟨by rw [← HZ.out]; rfl, Below.refl _ _⟩
end Go.Proofs.Yteaapglkomlnhaa
