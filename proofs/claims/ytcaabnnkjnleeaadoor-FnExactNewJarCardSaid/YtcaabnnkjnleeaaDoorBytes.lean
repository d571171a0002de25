/- Plain facts on bytes, and what a range over a string meets: no program is named here. No condition. -/
import Derived.Laws.RangeAny
import Derived.WideShapes
namespace Go.Proofs.YtcaabnnkjnleeaaDoor
open Go.WideShapes

/-- A byte of 128 or more opens a form all of whose bytes are of 128 or more. -/
theorem decode_skip (s : ByteArray) (pos : Nat) (h : pos < s.size) (ha : 128 ≤ (s[pos]'h).toNat) :
    pos + (Utf8.decode s pos).2 ≤ s.size ∧ ∀ j (hj : j < s.size), pos ≤ j → j < pos + (Utf8.decode s pos).2 → 128 ≤ (s[j]'hj).toNat := by
  have hn : ¬ (s[pos]'h).toNat < 128 := by omega
  have get : ∀ k (hk : pos + k < s.size), s.get! (pos + k) = s[pos + k]'hk := fun k hk => get_at s (pos + k) hk
  have one : ∀ j (hj : j < s.size), pos ≤ j → j < pos + 1 → 128 ≤ (s[j]'hj).toNat := fun j hj h1 h2 => by
    obtain rfl : j = pos := by omega
    exact ha
  have cont : ∀ k, (decide (pos + k < s.size) && (s.get! (pos + k)).toNat / 64 == 2) = true → ∃ hk : pos + k < s.size, 128 ≤ (s[pos + k]'hk).toNat := fun k hk => by
    simp only [Bool.and_eq_true, decide_eq_true_eq, beq_iff_eq] at hk
    refine ⟨hk.1, ?_⟩
    rw [← get k hk.1]
    omega
  have span : ∀ n, (∀ k, k < n → ∃ hk : pos + k < s.size, 128 ≤ (s[pos + k]'hk).toNat) → ∀ j (hj : j < s.size), pos ≤ j → j < pos + n → 128 ≤ (s[j]'hj).toNat := fun n hall j hj h1 h2 => by
    obtain ⟨k, rfl⟩ := Nat.exists_eq_add_of_le h1
    exact (hall k (by omega)).2
  simp only [Utf8.decode, get_at s pos h, hn, if_false]
  split
  · rename_i hc
    simp only [Bool.and_eq_true] at hc
    obtain ⟨h1, c1⟩ := cont 1 (by simpa using hc.2)
    split
    · exact ⟨by omega, span 2 fun k hk => by
        rcases k with _ | _ | k
        · exact ⟨h, ha⟩
        · exact ⟨h1, c1⟩
        · omega⟩
    · exact ⟨by omega, one⟩
  · split
    · rename_i hc
      simp only [Bool.and_eq_true] at hc
      obtain ⟨h1, c1⟩ := cont 1 (by simpa using hc.1.2)
      obtain ⟨h2, c2⟩ := cont 2 (by simpa using hc.2)
      split
      · exact ⟨by omega, span 3 fun k hk => by
          rcases k with _ | _ | _ | k
          · exact ⟨h, ha⟩
          · exact ⟨h1, c1⟩
          · exact ⟨h2, c2⟩
          · omega⟩
      · exact ⟨by omega, one⟩
    · split
      · rename_i hc
        simp only [Bool.and_eq_true] at hc
        obtain ⟨h1, c1⟩ := cont 1 (by simpa using hc.1.1.2)
        obtain ⟨h2, c2⟩ := cont 2 (by simpa using hc.1.2)
        obtain ⟨h3, c3⟩ := cont 3 (by simpa using hc.2)
        split
        · exact ⟨by omega, span 4 fun k hk => by
            rcases k with _ | _ | _ | _ | k
            · exact ⟨h, ha⟩
            · exact ⟨h1, c1⟩
            · exact ⟨h2, c2⟩
            · exact ⟨h3, c3⟩
            · omega⟩
        · exact ⟨by omega, one⟩
      · exact ⟨by omega, one⟩

/-- All bytes before place pos pass the test p. -/
def Upto (s : ByteArray) (p : UInt8 → Bool) (pos : Nat) : Prop := ∀ j (hj : j < s.size), j < pos → p (s[j]'hj) = true

theorem upto_zero (s : ByteArray) (p : UInt8 → Bool) : Upto s p 0 := fun _ _ h => by omega
theorem upto_succ {s : ByteArray} {p : UInt8 → Bool} {k : Nat} (h : Upto s p k) (hk : k < s.size) (hp : p (s[k]'hk) = true) : Upto s p (k + 1) := fun j hj h2 => by
  by_cases e : j = k
  · subst e
    exact hp
  · exact h j hj (by omega)
/-- All bytes of the text pass the test. -/
def allB (s : ByteArray) (p : UInt8 → Bool) : Bool := s.data.toList.all p
theorem all_of_upto {s : ByteArray} {p : UInt8 → Bool} {k : Nat} (h : Upto s p k) (hk : s.size ≤ k) : allB s p = true := by
  unfold allB
  rw [List.all_eq_true]
  intro x hx
  obtain ⟨j, hj, rfl⟩ := List.mem_iff_getElem.1 hx
  exact h j (by simpa using hj) (by have : j < s.size := by simpa using hj
                                    omega)
theorem all_false_at {s : ByteArray} {p : UInt8 → Bool} {k : Nat} (hk : k < s.size) (hp : p (s[k]'hk) = false) : allB s p = false := by
  unfold allB
  rw [List.all_eq_false]
  exact ⟨s[k], List.getElem_mem (l := s.data.toList) (n := k) (by simpa using hk), by simp [hp]⟩
/-- One step of a range: an ASCII byte, or a form of bytes of 128 and more, which pass the test. -/
theorem upto_step {s : ByteArray} {p : UInt8 → Bool} {pos : Nat} (h : Upto s p pos) (hp : pos < s.size) (hi : ∀ b : UInt8, 128 ≤ b.toNat → p b = true) (hl : (s[pos]'hp).toNat < 128 → p (s[pos]'hp) = true) :
    Upto s p (pos + (Utf8.decode s pos).2) ∧ pos + (Utf8.decode s pos).2 ≤ s.size := by
  by_cases ha : (s[pos]'hp).toNat < 128
  · rw [decode_ascii s pos hp ha]
    exact ⟨upto_succ h hp (hl ha), hp⟩
  · obtain ⟨h1, h2⟩ := decode_skip s pos hp (by omega)
    refine ⟨fun j hj h3 => ?_, h1⟩
    by_cases e : j < pos
    · exact h j hj e
    · exact hi _ (h2 j hj (by omega) h3)
/-- The rune that a range hands over: the byte, if it is ASCII; else 128 or more, as the byte is. -/
theorem rune_cases (s : ByteArray) (pos : Nat) (h : pos < s.size) : ((s[pos]'h).toNat < 128 ∧ (Utf8.decode s pos).1 = (s[pos]'h).toNat) ∨ (128 ≤ (s[pos]'h).toNat ∧ 128 ≤ (Utf8.decode s pos).1) := by
  by_cases ha : (s[pos]'h).toNat < 128
  · exact .inl ⟨ha, by rw [decode_ascii s pos h ha]⟩
  · exact .inr ⟨by omega, (decode_high s pos h (by omega)).1⟩
theorem width_pos (s : ByteArray) (pos : Nat) (h : pos < s.size) : 1 ≤ (Utf8.decode s pos).2 := by
  by_cases ha : (s[pos]'h).toNat < 128
  · rw [decode_ascii s pos h ha]
    exact Nat.le_refl _
  · exact (decode_high s pos h (by omega)).2
theorem decode_max (s : ByteArray) (pos : Nat) : (Utf8.decode s pos).1 ≤ 1114111 := by
  have hb : ∀ k, (s.get! (pos + k)).toNat < 256 := fun k => (s.get! (pos + k)).toNat_lt
  have h0 := hb 0; have h1 := hb 1; have h2 := hb 2; have h3 := hb 3
  simp only [Utf8.decode]
  repeat' split
  all_goals simp_all [Utf8.runeError, Utf8.valid]
  all_goals omega
end Go.Proofs.YtcaabnnkjnleeaaDoor
