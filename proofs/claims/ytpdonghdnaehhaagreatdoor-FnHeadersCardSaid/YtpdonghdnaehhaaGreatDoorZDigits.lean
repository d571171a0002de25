/- The model's digits of a number of at most fourteen digits, with a stroke ahead of one below zero. No condition of its own. -/
import Derived.Test.YtpdonghdnaehhaaGreatDoorZSpecText
namespace Go.Proofs.YtpdonghdnaehhaaGreatDoor
open Go.ChangeShapes Go.WideShapes Go.ChangeAt Go.WideMaps Go.WideElems Go.RowKit

set_option maxHeartbeats 400000 in
set_option maxRecDepth 100000 in
theorem digits_far : ∀ (j k : Nat) (w : World), k < 10 ^ (j + 1) → j ≤ 13 → Calls Tryz.prog 163 #[.int .i64 k] w fun e w' => e = .returned (.string (digT k)) ∧ Below w.heap.size w w' := by
  intro j
  induction j with
  | zero =>
    intro k w hk _
    have hk9 : k ≤ 9 := by omega
    have hcv := one_new k hk9 (48 + (k : Int)) rfl
    have HE : Hid (dig1 k = digT k) := Lib.hid (by unfold dig1 digT; rw [Lib.decDigits, dif_pos (by omega)])
    go_enter Tryz.func163, Tryz.ntmps163
    go_wp2_with fail
    go_ret
    exact ⟨by rw [← HE.out]; rfl, (Below.refl _ _).alloc (Nat.le_refl _) _⟩
  | succ j ih =>
    intro k w hk hj
    have hpow : (10 : Nat) ^ (j + 1 + 1) ≤ 10 ^ 14 := Nat.pow_le_pow_right (by omega) (by omega)
    have hkk : k < 100000000000000 := by omega
    have hk10 : k / 10 < 10 ^ (j + 1) := by rw [Nat.pow_succ] at hk; omega
    clear hpow
    by_cases h : k < 10
    · have hk9 : k ≤ 9 := by omega
      have hcv := one_new k hk9 (48 + (k : Int)) rfl
      have HE : Hid (dig1 k = digT k) := Lib.hid (by unfold dig1 digT; rw [Lib.decDigits, dif_pos h])
      clear ih hk hk10
      go_enter Tryz.func163, Tryz.ntmps163
      go_wp2_with fail
      go_ret
      exact ⟨by rw [← HE.out]; rfl, (Below.refl _ _).alloc (Nat.le_refl _) _⟩
    · have hm9 : k % 10 ≤ 9 := by omega
      have hx : 48 + (k : Int) % 10 = 48 + ((k % 10 : Nat) : Int) := by omega
      have hcv := one_new (k % 10) hm9 (48 + (k : Int) % 10) hx
      have hcv2 := one_newd (k % 10) hm9 (48 + (k : Int) % 10) hx
      have m1 : 0 ≤ (k : Int) % 10 := by omega
      have m2 : (k : Int) % 10 ≤ 9 := by omega
      have hsz := digT_size j (k / 10) hk10
      have hadd := add_text (digT (k / 10)) (dig1 (k % 10)) (by show _ + 1 ≤ _; omega)
      rw [dig_step h] at hadd
      have IH : Hid (∀ W : World, Calls Tryz.prog 163 #[.int .i64 ((k : Int) / 10)] W fun e w' => e = .returned (.string (digT (k / 10))) ∧ Below W.heap.size W w') := Lib.hid fun W => by
        have := ih (k / 10) W hk10 (by omega)
        rw [show ((k / 10 : Nat) : Int) = (k : Int) / 10 by omega] at this
        exact this
      have t1 : Int.tdiv (k : Int) 10 = (k : Int) / 10 := Int.tdiv_eq_ediv_of_nonneg (by omega)
      have t2 : Int.tmod (k : Int) 10 = (k : Int) % 10 := Int.tmod_eq_emod_of_nonneg (by omega)
      have v1 : IntKind.i64.wrap ((k : Int) / 10) = (k : Int) / 10 := IntWalk.i64_in _ (by clear t1 t2; omega)
      have v2 : IntKind.i64.wrap ((k : Int) % 10) = (k : Int) % 10 := IntWalk.i64_in _ (by clear t1 t2 v1; omega)
      have v3 : IntKind.i64.wrap (48 + (k : Int) % 10) = 48 + (k : Int) % 10 := IntWalk.i64_in _ (by clear t1 t2 v1 v2; omega)
      have v4 : IntKind.u8.wrap (48 + (k : Int) % 10) = 48 + (k : Int) % 10 := by
        have := wrap8 ⟨k % 10, by clear t1 t2 v1 v2 v3; omega⟩
        rw [hx]
        exact this
      have HX := Lib.hid hx
      clear ih hk hk10 hsz hx
      go_enter Tryz.func163, Tryz.ntmps163
      go_wp2_with fail
      go_region_with (first | (go_at_call 163; refine (IH.out _).mono ?_; rintro e w' ⟨rfl, hb⟩; first | (have hcw : (convert 22 9 (.slice (some ⟨w.heap.size, 0, none⟩) 1 1)).run Tryz.prog w' = .ok (.string (dig1 (k % 10))) w' := one_keep (k % 10) hm9 (48 + (k : Int) % 10) HX.out hb) | (have hcw : (convert 22 9 (.slice (some ⟨w.heap.size, 0, none⟩) 1 1)).run Tryz.prog w' = .ok (.string (dig1 (k % 10))) w' := one_keep2 (k % 10) hm9 (48 + (k : Int) % 10) HX.out hb) | skip))
      all_goals
        go_wp2_with fail
        go_ret
        first
          | exact ⟨rfl, d_step2 hb⟩
          | exact ⟨rfl, (d_step hb).alloc (d_step hb).size _⟩
          | exact ⟨rfl, ((d_step hb).alloc (d_step hb).size _).drew⟩
theorem digits_itoa (a : Int) (w : World) (h1 : -1000000000000 ≤ a) (h2 : a ≤ 1000000000000) : Calls Tryz.prog 163 #[.int .i64 a] w fun e w' => e = .returned (.string ⟨(Lib.itoa a).toArray⟩) ∧ Below w.heap.size w w' := by
  by_cases h : a < 0
  · obtain ⟨k, rfl⟩ : ∃ k : Nat, a = -(k : Int) := ⟨a.natAbs, by omega⟩
    have hd : ∀ W : World, Calls Tryz.prog 163 #[.int .i64 k] W fun e w' => e = .returned (.string (digT k)) ∧ Below W.heap.size W w' := fun W => digits_far 12 k W (by omega) (by omega)
    have HD := Lib.hid hd
    have hz := digT_size 12 k (by omega)
    have ha := add_text ⟨#[45]⟩ (digT k) (by show 1 + _ ≤ _; omega)
    have HE : Hid ((⟨#[45]⟩ ++ digT k : ByteArray) = ⟨(Lib.itoa (-(k : Int))).toArray⟩) := Lib.hid (by
      apply bytes_inj
      unfold digT Lib.itoa
      rw [if_pos h]
      simp)
    clear hd hz
    go_enter Tryz.func163, Tryz.ntmps163
    go_wp2_with fail
    refine (HD.out _).mono ?_
    rintro e w1 ⟨rfl, hb⟩
    have HB := Lib.hid hb
    clear hb
    go_wp2_with fail
    go_ret
    exact ⟨by rw [← HE.out]; rfl, HB.out⟩
  · obtain ⟨k, rfl⟩ : ∃ k : Nat, a = k := ⟨a.toNat, by omega⟩
    refine (digits_far 12 k w (by omega) (by omega)).mono ?_
    rintro e w' ⟨rfl, hb⟩
    refine ⟨?_, hb⟩
    unfold digT Lib.itoa
    rw [if_neg (by omega)]
    rfl
end Go.Proofs.YtpdonghdnaehhaaGreatDoor
