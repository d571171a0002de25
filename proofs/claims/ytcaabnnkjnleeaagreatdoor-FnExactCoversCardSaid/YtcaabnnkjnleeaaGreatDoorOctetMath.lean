/- Plain facts on numerals: which texts are those of the numbers up to 255, said as the model says it and as the program does. No program is named here. No condition. -/
import Derived.Test.YtcaabnnkjnleeaaGreatDoorBytes
import Derived.Lib.SplitLaws
import Derived.Lib.AtoiAll
import Derived.Lib.ItoaNum
namespace Go.Proofs.YtcaabnnkjnleeaaGreatDoor
open Go.WideShapes

theorem rev_ind {P : List UInt8 → Prop} (h0 : P []) (h1 : ∀ l b, P l → P (l ++ [b])) (l : List UInt8) : P l := by
  have key : ∀ m : List UInt8, P m.reverse := by
    intro m
    induction m with
    | nil => exact h0
    | cons b m ih =>
      rw [List.reverse_cons]
      exact h1 _ _ ih
  have := key l.reverse
  rwa [List.reverse_reverse] at this
def dB (b : UInt8) : Bool := decide (48 ≤ b.toNat ∧ b.toNat ≤ 57)
theorem dB_iff (b : UInt8) : dB b = true ↔ 48 ≤ b.toNat ∧ b.toNat ≤ 57 := by simp [dB]
/-- The number that digits spell. -/
def valL (l : List UInt8) : Nat := l.foldl (fun n b => n * 10 + (b.toNat - 48)) 0
theorem valL_snoc (l : List UInt8) (b : UInt8) : valL (l ++ [b]) = valL l * 10 + (b.toNat - 48) := by simp [valL]
theorem valL_lt : ∀ (l : List UInt8), l.all dB = true → valL l < 10 ^ l.length := by
  intro l
  induction l using rev_ind with
  | h0 => intro _; simp [valL]
  | h1 l b ih =>
    intro h
    rw [List.all_append, Bool.and_eq_true] at h
    have hb : 48 ≤ b.toNat ∧ b.toNat ≤ 57 := (dB_iff b).1 (by simpa using h.2)
    have := ih h.1
    rw [valL_snoc, List.length_append, List.length_singleton, Nat.pow_succ]
    omega
/-- A numeral without a needless digit ahead. -/
def canonL (l : List UInt8) : Bool := l.all dB && !l.isEmpty && (l.head? != some 48 || decide (l.length = 1))
theorem canon_dec : ∀ (l : List UInt8), l.all dB = true → l ≠ [] → l.head? ≠ some 48 → 1 ≤ valL l ∧ Lib.decDigits (valL l) = l := by
  intro l
  induction l using rev_ind with
  | h0 => intro _ h; exact absurd rfl h
  | h1 l b ih =>
    intro h _ hh
    rw [List.all_append, Bool.and_eq_true] at h
    have hb : 48 ≤ b.toNat ∧ b.toNat ≤ 57 := (dB_iff b).1 (by simpa using h.2)
    rw [valL_snoc]
    by_cases hl : l = []
    · subst hl
      have hne : b ≠ 48 := by simpa using hh
      have hn : b.toNat ≠ 48 := fun e => hne (UInt8.toNat_inj.1 (by show b.toNat = 48; exact e))
      have e0 : valL [] = 0 := rfl
      rw [e0]
      refine ⟨by omega, ?_⟩
      rw [Lib.decDigits_one (by omega)]
      simp
      apply UInt8.toNat_inj.1
      simp
      omega
    · obtain ⟨h1, h2⟩ := ih h.1 hl (by
        cases l with
        | nil => exact absurd rfl hl
        | cons x l => simpa using hh)
      refine ⟨by omega, ?_⟩
      rw [Lib.decDigits, dif_neg (by omega), show (valL l * 10 + (b.toNat - 48)) / 10 = valL l by omega, show (valL l * 10 + (b.toNat - 48)) % 10 = b.toNat - 48 by omega, h2]
      congr 2
      apply UInt8.toNat_inj.1
      simp
      omega
theorem canon_eq {l : List UInt8} (h : canonL l = true) : Lib.decDigits (valL l) = l := by
  simp only [canonL, Bool.and_eq_true] at h
  obtain ⟨⟨h1, h2⟩, h3⟩ := h
  have hne : l ≠ [] := by intro e; rw [e] at h2; cases h2
  by_cases hh : l.head? = some 48
  · rw [hh] at h3
    have hl : l.length = 1 := by simpa using h3
    match l, hl with
    | [b], _ =>
      have : b = 48 := by simpa using hh
      subst this
      decide +kernel
  · exact (canon_dec l h1 hne hh).2
/-- The model's test: a numeral of at most 18 digits, of a number up to 255. -/
def octB (l : List UInt8) : Bool := canonL l && decide (l.length ≤ 18) && decide (valL l ≤ 255)
/-- The program's test: what strconv.Atoi reads, held against what strconv.Itoa prints. -/
def octP (l : List UInt8) : Bool := match Lib.atoiAll l with
  | .ok v => decide (0 ≤ v) && decide (v ≤ 255) && (Lib.itoa v == l)
  | _ => false
theorem parse_digits : ∀ (l : List UInt8) (acc : Nat), l.all dB = true → (acc + 1) * 10 ^ l.length ≤ 10 ^ 18 → Lib.parseUint10 acc l = .ok (l.foldl (fun n b => n * 10 + (b.toNat - 48)) acc)
  | [], acc, _, _ => rfl
  | b :: l, acc, h, hb => by
    rw [List.all_cons, Bool.and_eq_true] at h
    have h1 := (dB_iff b).1 h.1
    rw [List.length_cons, Nat.pow_succ] at hb
    have hp : 1 ≤ 10 ^ l.length := Nat.one_le_pow _ _ (by decide)
    have hx : (acc + 1) * 10 * 10 ^ l.length ≤ 10 ^ 18 := by
      rw [Nat.mul_assoc, Nat.mul_comm 10]
      exact hb
    have hy : (acc + 1) * 10 ≤ (acc + 1) * 10 * 10 ^ l.length := Nat.le_mul_of_pos_right _ hp
    have hz : (acc + 1) * 10 ≤ 10 ^ 18 := Nat.le_trans hy hx
    rw [Lib.parseUint10, if_pos h1, if_neg (by omega), if_neg (by omega), List.foldl_cons]
    refine parse_digits l _ h.2 (Nat.le_trans (Nat.mul_le_mul_right _ ?_) hx)
    omega
theorem atoi_canon {l : List UInt8} (h : canonL l = true) (h18 : l.length ≤ 17) : Lib.atoiAll l = .ok (valL l) := by
  simp only [canonL, Bool.and_eq_true] at h
  obtain ⟨⟨h1, h2⟩, _⟩ := h
  match l, h1, h2 with
  | c :: r, h1, _ =>
    have hc := (dB_iff c).1 (by rw [List.all_cons, Bool.and_eq_true] at h1; exact h1.1)
    have hlt := valL_lt _ h1
    have hpow : 10 ^ (c :: r).length ≤ 10 ^ 17 := Nat.pow_le_pow_right (by decide) h18
    have hp : Lib.parseUint10 0 (c :: r) = .ok (valL (c :: r)) := parse_digits (c :: r) 0 h1 (by rw [Nat.zero_add, Nat.one_mul]; exact Nat.le_trans hpow (by decide))
    have hn : ¬ (c.toNat = 43 ∨ c.toNat = 45) := by omega
    have hn2 : ¬ c.toNat = 45 := by omega
    have hv : valL (c :: r) < 10 ^ 17 := Nat.lt_of_lt_of_le hlt hpow
    have hm : Lib.parseMag (c :: r) = .ok (valL (c :: r)) := by rw [Lib.parseMag, if_neg (by simp)]; exact hp
    unfold Lib.atoiAll
    simp only [if_neg hn, hm]
    rw [if_neg (by omega), if_neg (by omega), if_neg hn2]
/-- The numerals up to 255, one by one. -/
def dec3 (n : Nat) : List UInt8 := if n < 10 then [UInt8.ofNat (48 + n)] else if n < 100 then [UInt8.ofNat (48 + n / 10), UInt8.ofNat (48 + n % 10)] else [UInt8.ofNat (48 + n / 100), UInt8.ofNat (48 + n / 10 % 10), UInt8.ofNat (48 + n % 10)]
theorem dec3_eq {n : Nat} (h : n < 1000) : Lib.decDigits n = dec3 n := by
  unfold dec3
  split
  · exact Lib.decDigits_one (by assumption)
  · split
    · exact Lib.decDigits_two (by omega) (by assumption)
    · rw [Lib.decDigits, dif_neg (by omega), Lib.decDigits_two (by omega) (by omega)]
      simp [Nat.div_div_eq_div_mul]
theorem octB_small : ∀ n : Fin 256, octB (dec3 n.1) = true := by decide +kernel
theorem oct_same (l : List UInt8) : octP l = octB l := by
  cases hB : octB l with
  | true =>
    have h := hB
    simp only [octB, Bool.and_eq_true, decide_eq_true_eq] at h
    obtain ⟨⟨hc, h18⟩, hv⟩ := h
    have he := canon_eq hc
    have h3 : l.length ≤ 17 := by
      rw [← he, dec3_eq (by omega)]
      unfold dec3
      split
      · simp
      · split <;> simp
    rw [octP, atoi_canon hc h3]
    have hi : Lib.itoa (valL l : Int) = l := by
      rw [Lib.itoa, if_neg (by omega), Int.toNat_natCast, he]
    simp [hi]
    omega
  | false =>
    cases hP : octP l with
    | false => rfl
    | true =>
      unfold octP at hP
      cases ha : Lib.atoiAll l
      · rename_i v
        rw [ha] at hP
        simp only [Bool.and_eq_true, decide_eq_true_eq, beq_iff_eq] at hP
        obtain ⟨⟨h0, h1⟩, h2⟩ := hP
        obtain ⟨n, rfl⟩ := Int.eq_ofNat_of_zero_le h0
        rw [Lib.itoa, if_neg (by omega), Int.toNat_natCast, dec3_eq (by omega)] at h2
        have := octB_small ⟨n, by omega⟩
        rw [h2, hB] at this
        cases this
      · rw [ha] at hP; cases hP
      · rw [ha] at hP; cases hP
end Go.Proofs.YtcaabnnkjnleeaaGreatDoor
