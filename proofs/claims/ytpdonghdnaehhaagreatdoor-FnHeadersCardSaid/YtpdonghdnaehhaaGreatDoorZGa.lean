/- Plain facts on bytes, and what a range over a string meets: no program is named here. No condition. -/
import Derived.Laws.RangeAny
import Derived.WideShapes
namespace Go.Proofs.YtpdonghdnaehhaaGreatDoor
open Go.WideShapes

/-- A byte of 128 or more opens a form all of whose bytes are of 128 or more. -/
theorem decode_skip (s : ByteArray) (pos : Nat) (h : pos < s.size) (ha : 128 ≤ (s[pos]'h).toNat) :
    pos + (Utf8.decode s pos).2 ≤ s.size ∧ ∀ j (hj : j < s.size), pos ≤ j → j < pos + (Utf8.decode s pos).2 → 128 ≤ (s[j]'hj).toNat := by
  have hn : ¬ (s[pos]'h).toNat < 128 := by omega
  have get : ∀ k (hk : pos + k < s.size), s.get! (pos + k) = s[pos + k]'hk := fun k hk => get_at s (pos + k) hk
  have one : ∀ j (hj : j < s.size), pos ≤ j → j < pos + 1 → 128 ≤ (s[j]'hj).toNat := fun j hj h1 h2 => by
    obtain rfl : j = pos := by omega
    exact ha
  have cont : ∀ k, (decide (pos + k < s.size) && (s.get! (pos + k)).toNat / 64 == 2) = true → ∃ hk : pos + k < s.size, 128 ≤ (s[pos + k]'hk).toNat := fun k hk => by
    simp only [Bool.and_eq_true, decide_eq_true_eq, beq_iff_eq] at hk
    refine ⟨hk.1, ?_⟩
    rw [← get k hk.1]
    omega
  have span : ∀ n, (∀ k, k < n → ∃ hk : pos + k < s.size, 128 ≤ (s[pos + k]'hk).toNat) → ∀ j (hj : j < s.size), pos ≤ j → j < pos + n → 128 ≤ (s[j]'hj).toNat := fun n hall j hj h1 h2 => by
    obtain ⟨k, rfl⟩ := Nat.exists_eq_add_of_le h1
    exact (hall k (by omega)).2
  simp only [Utf8.decode, get_at s pos h, hn, if_false]
  split
  · rename_i hc
    simp only [Bool.and_eq_true] at hc
    obtain ⟨h1, c1⟩ := cont 1 (by simpa using hc.2)
    split
    · exact ⟨by omega, span 2 fun k hk => by
        rcases k with _ | _ | k
        · exact ⟨h, ha⟩
        · exact ⟨h1, c1⟩
        · omega⟩
    · exact ⟨by omega, one⟩
  · split
    · rename_i hc
      simp only [Bool.and_eq_true] at hc
      obtain ⟨h1, c1⟩ := cont 1 (by simpa using hc.1.2)
      obtain ⟨h2, c2⟩ := cont 2 (by simpa using hc.2)
      split
      · exact ⟨by omega, span 3 fun k hk => by
          rcases k with _ | _ | _ | k
          · exact ⟨h, ha⟩
          · exact ⟨h1, c1⟩
          · exact ⟨h2, c2⟩
          · omega⟩
      · exact ⟨by omega, one⟩
    · split
      · rename_i hc
        simp only [Bool.and_eq_true] at hc
        obtain ⟨h1, c1⟩ := cont 1 (by simpa using hc.1.1.2)
        obtain ⟨h2, c2⟩ := cont 2 (by simpa using hc.1.2)
        obtain ⟨h3, c3⟩ := cont 3 (by simpa using hc.2)
        split
        · exact ⟨by omega, span 4 fun k hk => by
            rcases k with _ | _ | _ | _ | k
            · exact ⟨h, ha⟩
            · exact ⟨h1, c1⟩
            · exact ⟨h2, c2⟩
            · exact ⟨h3, c3⟩
            · omega⟩
        · exact ⟨by omega, one⟩
      · exact ⟨by omega, one⟩

/-- All bytes before place pos pass the test p. -/
def Upto (s : ByteArray) (p : UInt8 → Bool) (pos : Nat) : Prop := ∀ j (hj : j < s.size), j < pos → p (s[j]'hj) = true

theorem upto_zero (s : ByteArray) (p : UInt8 → Bool) : Upto s p 0 := fun _ _ h => by omega
theorem upto_succ {s : ByteArray} {p : UInt8 → Bool} {k : Nat} (h : Upto s p k) (hk : k < s.size) (hp : p (s[k]'hk) = true) : Upto s p (k + 1) := fun j hj h2 => by
  by_cases e : j = k
  · subst e
    exact hp
  · exact h j hj (by omega)
/-- All bytes of the text pass the test. -/
def allB (s : ByteArray) (p : UInt8 → Bool) : Bool := s.data.toList.all p
theorem all_of_upto {s : ByteArray} {p : UInt8 → Bool} {k : Nat} (h : Upto s p k) (hk : s.size ≤ k) : allB s p = true := by
  unfold allB
  rw [List.all_eq_true]
  intro x hx
  obtain ⟨j, hj, rfl⟩ := List.mem_iff_getElem.1 hx
  exact h j (by simpa using hj) (by have : j < s.size := by simpa using hj
                                    omega)
theorem all_false_at {s : ByteArray} {p : UInt8 → Bool} {k : Nat} (hk : k < s.size) (hp : p (s[k]'hk) = false) : allB s p = false := by
  unfold allB
  rw [List.all_eq_false]
  exact ⟨s[k], List.getElem_mem (l := s.data.toList) (n := k) (by simpa using hk), by simp [hp]⟩
/-- One step of a range: an ASCII byte, or a form of bytes of 128 and more, which pass the test. -/
theorem upto_step {s : ByteArray} {p : UInt8 → Bool} {pos : Nat} (h : Upto s p pos) (hp : pos < s.size) (hi : ∀ b : UInt8, 128 ≤ b.toNat → p b = true) (hl : (s[pos]'hp).toNat < 128 → p (s[pos]'hp) = true) :
    Upto s p (pos + (Utf8.decode s pos).2) ∧ pos + (Utf8.decode s pos).2 ≤ s.size := by
  by_cases ha : (s[pos]'hp).toNat < 128
  · rw [decode_ascii s pos hp ha]
    exact ⟨upto_succ h hp (hl ha), hp⟩
  · obtain ⟨h1, h2⟩ := decode_skip s pos hp (by omega)
    refine ⟨fun j hj h3 => ?_, h1⟩
    by_cases e : j < pos
    · exact h j hj e
    · exact hi _ (h2 j hj (by omega) h3)
/-- The rune that a range hands over: the byte, if it is ASCII; else 128 or more, as the byte is. -/
theorem rune_cases (s : ByteArray) (pos : Nat) (h : pos < s.size) : ((s[pos]'h).toNat < 128 ∧ (Utf8.decode s pos).1 = (s[pos]'h).toNat) ∨ (128 ≤ (s[pos]'h).toNat ∧ 128 ≤ (Utf8.decode s pos).1) := by
  by_cases ha : (s[pos]'h).toNat < 128
  · exact .inl ⟨ha, by rw [decode_ascii s pos h ha]⟩
  · exact .inr ⟨by omega, (decode_high s pos h (by omega)).1⟩
theorem width_pos (s : ByteArray) (pos : Nat) (h : pos < s.size) : 1 ≤ (Utf8.decode s pos).2 := by
  by_cases ha : (s[pos]'h).toNat < 128
  · rw [decode_ascii s pos h ha]
    exact Nat.le_refl _
  · exact (decode_high s pos h (by omega)).2
theorem decode_max (s : ByteArray) (pos : Nat) : (Utf8.decode s pos).1 ≤ 1114111 := by
  have hb : ∀ k, (s.get! (pos + k)).toNat < 256 := fun k => (s.get! (pos + k)).toNat_lt
  have h0 := hb 0; have h1 := hb 1; have h2 := hb 2; have h3 := hb 3
  simp only [Utf8.decode]
  repeat' split
  all_goals simp_all [Utf8.runeError, Utf8.valid]
  all_goals omega
end Go.Proofs.YtpdonghdnaehhaaGreatDoor

namespace Go.Proofs.YtpdonghdnaehhaaGreatDoor
open Go.WideShapes

structure Dt where
  y : Int
  m : Int
  d : Int
  h : Int
  n : Int
  s : Int
/-- A year of 366 days. -/
def leapB (y : Int) : Bool := decide (y % 4 = 0 ∧ (y % 100 ≠ 0 ∨ y % 400 = 0))
def mdays (y m : Int) : Int := if m = 4 ∨ m = 6 ∨ m = 9 ∨ m = 11 then 30 else if m = 2 then (if leapB y then 29 else 28) else 31
def ymB (y m : Int) : Bool := decide (1601 ≤ y ∧ y ≤ 9999 ∧ 1 ≤ m ∧ m ≤ 12)
def clockB (h n s : Int) : Bool := decide (0 ≤ h ∧ h ≤ 23 ∧ 0 ≤ n ∧ n ≤ 59 ∧ 0 ≤ s ∧ s ≤ 59)
def okB (a : Dt) : Bool := decide ((1601 ≤ a.y ∧ a.y ≤ 9999) ∧ (1 ≤ a.m ∧ a.m ≤ 12) ∧ (1 ≤ a.d ∧ a.d ≤ mdays a.y a.m) ∧ (0 ≤ a.h ∧ a.h ≤ 23) ∧ (0 ≤ a.n ∧ a.n ≤ 59) ∧ (0 ≤ a.s ∧ a.s ≤ 59))
theorem ok_iff (a : Dt) : okB a = true ↔ ((1601 ≤ a.y ∧ a.y ≤ 9999) ∧ (1 ≤ a.m ∧ a.m ≤ 12) ∧ (1 ≤ a.d ∧ a.d ≤ mdays a.y a.m) ∧ (0 ≤ a.h ∧ a.h ≤ 23) ∧ (0 ≤ a.n ∧ a.n ≤ 59) ∧ (0 ≤ a.s ∧ a.s ≤ 59)) := by simp only [okB, decide_eq_true_eq]
theorem mdays_le (y m : Int) : 28 ≤ mdays y m ∧ mdays y m ≤ 31 := by
  unfold mdays
  repeat' split
  all_goals omega
/-- The days from the beginning of 1601 to the beginning of a year. -/
def before (y : Int) : Int := 365 * (y - 1601) + (y - 1601) / 4 - (y - 1601) / 100 + (y - 1601) / 400
theorem before_step (y : Int) : before (y + 1) = before y + (if leapB y then 366 else 365) := by
  unfold before leapB
  by_cases h4 : y % 4 = 0 <;> by_cases h1 : y % 100 = 0 <;> by_cases h2 : y % 400 = 0 <;> simp only [h4, h1, h2, ne_eq, not_true_eq_false, not_false_eq_true, true_and, false_and, and_true, or_false, or_true, or_self, decide_true, decide_false, if_true, if_false, Bool.false_eq_true] <;> omega
theorem before_lt (y : Int) : before y < before (y + 1) := by
  rw [before_step]
  split <;> omega
theorem before_mono {a b : Int} (h : a ≤ b) : before a ≤ before b := by unfold before; omega
theorem before_inj {a b n : Int} (h1 : before a ≤ n) (h2 : n < before (a + 1)) (h3 : before b ≤ n) (h4 : n < before (b + 1)) : a = b := by
  have key : ¬ a < b := fun h => by
    have := before_mono (show a + 1 ≤ b by omega)
    omega
  have key2 : ¬ b < a := fun h => by
    have := before_mono (show b + 1 ≤ a by omega)
    omega
  omega
/-- The days of the first k months of a year. -/
def msum (y : Int) : Nat → Int
  | 0 => 0
  | k + 1 => msum y k + mdays y (k + 1 : Nat)
theorem msum_step (y : Int) (k : Nat) : msum y (k + 1) = msum y k + mdays y (k + 1 : Nat) := rfl
theorem msum_all (y : Int) : msum y 12 = if leapB y then 366 else 365 := by
  simp only [msum, mdays]
  cases leapB y <;> decide
theorem msum_lt (y : Int) (k : Nat) : msum y k < msum y (k + 1) := by
  have := mdays_le y (k + 1 : Nat)
  rw [msum_step]
  omega
theorem msum_mono (y : Int) {a b : Nat} (h : a ≤ b) : msum y a ≤ msum y b := by
  induction h with
  | refl => exact Int.le_refl _
  | step _ ih => exact Int.le_trans ih (Int.le_of_lt (msum_lt y _))
theorem msum_nonneg (y : Int) (k : Nat) : 0 ≤ msum y k := msum_mono y (Nat.zero_le k)
theorem msum_le (y : Int) (k : Nat) : msum y k ≤ 31 * k := by
  induction k with
  | zero => exact Int.le_refl 0
  | succ k ih =>
    have := mdays_le y (k + 1 : Nat)
    rw [msum_step]
    omega
theorem msum_inj (y : Int) {a b : Nat} {n : Int} (h1 : msum y a ≤ n) (h2 : n < msum y (a + 1)) (h3 : msum y b ≤ n) (h4 : n < msum y (b + 1)) : a = b := by
  have key : ¬ a < b := fun h => by
    have := msum_mono y (show a + 1 ≤ b by omega)
    omega
  have key2 : ¬ b < a := fun h => by
    have := msum_mono y (show b + 1 ≤ a by omega)
    omega
  omega
/-- The day n, counted from the first of 1601 on, is the one of that year, month (one more than m) and day. -/
def IsDay (n y : Int) (m : Nat) (d : Int) : Prop :=
  1601 ≤ y ∧ before y ≤ n ∧ n < before (y + 1) ∧ m ≤ 11 ∧ msum y m ≤ n - before y ∧ n - before y < msum y (m + 1) ∧ d = n - before y - msum y m + 1
theorem IsDay.uniq {n y y' d d' : Int} {m m' : Nat} (h : IsDay n y m d) (k : IsDay n y' m' d') : y = y' ∧ m = m' ∧ d = d' := by
  obtain ⟨_, a1, a2, _, a3, a4, a5⟩ := h
  obtain ⟨_, b1, b2, _, b3, b4, b5⟩ := k
  obtain rfl := before_inj a1 a2 b1 b2
  obtain rfl := msum_inj y a3 a4 b3 b4
  exact ⟨rfl, rfl, a5.trans b5.symm⟩
/-- The number of a date's day. -/
def dayN (a : Dt) : Int := before a.y + msum a.y (a.m.toNat - 1) + a.d - 1
def secsN (a : Dt) : Int := 86400 * (dayN a - 134774) + 3600 * a.h + 60 * a.n + a.s
theorem IsDay.of_ok {a : Dt} (h : okB a = true) : IsDay (dayN a) a.y (a.m.toNat - 1) a.d := by
  obtain ⟨⟨h1, h2⟩, ⟨h3, h4⟩, ⟨h5, h6⟩, _⟩ := (ok_iff a).1 h
  have hm : ((a.m.toNat - 1 + 1 : Nat) : Int) = a.m := by omega
  have hs := msum_step a.y (a.m.toNat - 1)
  rw [hm] at hs
  have h0 := msum_nonneg a.y (a.m.toNat - 1)
  have hy := msum_mono a.y (show a.m.toNat - 1 + 1 ≤ 12 by omega)
  rw [msum_all] at hy
  have hb := before_step a.y
  unfold dayN
  exact ⟨h1, by omega, by omega, by omega, by omega, by omega, by omega⟩
theorem IsDay.num {n y d : Int} {m : Nat} (h : IsDay n y m d) (a : Dt) (hy : a.y = y) (hm : a.m = (m : Int) + 1) (hd : a.d = d) : dayN a = n := by
  obtain ⟨_, _, _, _, _, _, rfl⟩ := h
  unfold dayN
  rw [hy, hm, hd, show ((m : Int) + 1).toNat - 1 = m by omega]
  omega
theorem IsDay.ok {n y d : Int} {m : Nat} (h : IsDay n y m d) (hn : n ≤ 3067670) {a : Dt} (hy : a.y = y) (hm : a.m = (m : Int) + 1) (hd : a.d = d) (h1 : 0 ≤ a.h ∧ a.h ≤ 23) (h2 : 0 ≤ a.n ∧ a.n ≤ 59) (h3 : 0 ≤ a.s ∧ a.s ≤ 59) : okB a = true := by
  obtain ⟨a1, a2, a3, a4, a5, a6, a7⟩ := h
  have hlt : ¬ 10000 ≤ y := fun hh => by
    have := before_mono hh
    have e : before 10000 = 3067671 := by decide
    omega
  rw [msum_step] at a6
  have e : ((m + 1 : Nat) : Int) = a.m := by omega
  rw [e] at a6
  refine (ok_iff a).2 ⟨⟨by omega, by omega⟩, ⟨by omega, by omega⟩, ⟨by omega, ?_⟩, h1, h2, h3⟩
  rw [hy]
  omega
/-- A valid date's day lies between the first and the last one. -/
theorem dayN_range {a : Dt} (h : okB a = true) : 0 ≤ dayN a ∧ dayN a ≤ 3067670 := by
  obtain ⟨a1, a2, a3, _⟩ := IsDay.of_ok h
  obtain ⟨⟨h1, h2⟩, _⟩ := (ok_iff a).1 h
  have l := before_mono h1
  have u := before_mono (show a.y + 1 ≤ 10000 by omega)
  have e1 : before 1601 = 0 := by decide
  have e2 : before 10000 = 3067671 := by decide
  omega
theorem secsN_range {a : Dt} (h : okB a = true) : -11644473600 ≤ secsN a ∧ secsN a ≤ 253402300799 := by
  have := dayN_range h
  obtain ⟨_, _, _, ⟨h1, h2⟩, ⟨h3, h4⟩, ⟨h5, h6⟩⟩ := (ok_iff a).1 h
  unfold secsN
  omega
/-- The date of a number of seconds from the first day on. -/
def IsDate (n : Int) (a : Dt) : Prop := ∃ m : Nat, IsDay (n / 86400) a.y m a.d ∧ a.m = (m : Int) + 1 ∧ a.h = n % 86400 / 3600 ∧ a.n = n % 86400 / 60 % 60 ∧ a.s = n % 86400 % 60
theorem IsDate.uniq {n : Int} {a b : Dt} (h : IsDate n a) (k : IsDate n b) : a = b := by
  obtain ⟨m, h1, h2, h3, h4, h5⟩ := h
  obtain ⟨m', k1, k2, k3, k4, k5⟩ := k
  obtain ⟨e1, rfl, e3⟩ := h1.uniq k1
  obtain ⟨y, mm, d, h, n, s⟩ := a
  obtain ⟨y', mm', d', h', n', s'⟩ := b
  simp only at *
  subst e1 e3 h2 k2 h3 k3 h4 k4 h5 k5
  rfl
theorem IsDate.ok {n : Int} {a : Dt} (h : IsDate n a) (h0 : n ≤ 265046774399) : okB a = true := by
  obtain ⟨m, h1, h2, h3, h4, h5⟩ := h
  exact h1.ok (by omega) rfl h2 rfl ⟨by omega, by omega⟩ ⟨by omega, by omega⟩ ⟨by omega, by omega⟩
theorem IsDate.secs {n : Int} {a : Dt} (h : IsDate n a) : secsN a = n - 11644473600 := by
  obtain ⟨m, h1, h2, h3, h4, h5⟩ := h
  have := h1.num a rfl h2 rfl
  unfold secsN
  omega
theorem IsDate.of_ok {a : Dt} (h : okB a = true) : IsDate (secsN a + 11644473600) a := by
  have hd := IsDay.of_ok h
  obtain ⟨_, ⟨g1, g2⟩, _, ⟨h1, h2⟩, ⟨h3, h4⟩, ⟨h5, h6⟩⟩ := (ok_iff a).1 h
  have e : (secsN a + 11644473600) / 86400 = dayN a := by unfold secsN; omega
  have e2 : (secsN a + 11644473600) % 86400 = 3600 * a.h + 60 * a.n + a.s := by unfold secsN; omega
  refine ⟨a.m.toNat - 1, by rw [e]; exact hd, by omega, ?_, ?_, ?_⟩ <;> rw [e2] <;> omega
def weekN (a : Dt) : Int := (dayN a + 1) % 7
end Go.Proofs.YtpdonghdnaehhaaGreatDoor
