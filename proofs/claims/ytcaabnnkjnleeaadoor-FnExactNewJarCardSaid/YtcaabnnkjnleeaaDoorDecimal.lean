/- Decimal of the program and of the model: what they answer; the law's walk. No condition of its own. -/
import Derived.Test.YtcaabnnkjnleeaaDoorClasses
namespace Go.Proofs.YtcaabnnkjnleeaaDoor
open Go.ChangeShapes Go.WideShapes Go.ChangeAt Go.WideMaps Go.WideElems Go.RowKit

/-- The number that digits are, as far as the greatest one. -/
def acc (l : List UInt8) : Int := l.foldl (fun n b => min (10 * n + ((b.toNat : Int) - 48)) 1000000000000) 0
theorem acc_snoc (l : List UInt8) (b : UInt8) : acc (l ++ [b]) = min (10 * acc l + ((b.toNat : Int) - 48)) 1000000000000 := by simp [acc]
theorem take_snoc (s : ByteArray) (k : Nat) (h : k < s.size) : s.data.toList.take (k + 1) = s.data.toList.take k ++ [s[k]] := by
  rw [List.take_succ_eq_append_getElem (by simpa using h)]
  rfl
theorem digit_iff (b : UInt8) : digitB b = true ↔ 48 ≤ b.toNat ∧ b.toNat ≤ 57 := by simp [digitB]
theorem digit_cls (b : UInt8) : digitB b = (cls b.toNat == 4) := by
  have h : ∀ n : Fin 256, digitB (UInt8.ofNat n) = (cls n == 4) := by decide +kernel
  have := h ⟨b.toNat, b.toNat_lt⟩
  simpa using this
theorem acc_step {s : ByteArray} {k : Nat} (hk : k < s.size) {a : Int} (ha : a = acc (s.data.toList.take k)) (h0 : 0 ≤ a) (h1 : a ≤ 1000000000000) (hd : digitB (s[k]'hk) = true) :
    (if (1000000000000 : Int) < 10 * a + (s[k]'hk).toNat - 48 then (1000000000000 : Int) else 10 * a + (s[k]'hk).toNat - 48) = acc (s.data.toList.take (k + 1)) ∧ 0 ≤ acc (s.data.toList.take (k + 1)) ∧ acc (s.data.toList.take (k + 1)) ≤ 1000000000000 := by
  rw [take_snoc s k hk, acc_snoc, ← ha]
  have := (digit_iff _).1 hd
  rw [Int.min_def]
  split <;> split <;> omega

/-- A stroke stands ahead. -/
def negB (t : ByteArray) : Bool := t.data.toList.head? == some 45
def restB (t : ByteArray) : ByteArray := if negB t then t.extract 1 t.size else t
def sgnB (t : ByteArray) : Int := if negB t then -1 else 1
theorem neg_true {t : ByteArray} (h : negB t = true) : ∃ h0 : 0 < t.size, (((t[0]'h0).toNat : Int) == 45) = true ∧ t.toList.isEmpty = false ∧ ((t.extract 0 1).toList == [45]) = true ∧ (!(t.extract 0 1).toList == [45]) = false ∧ restB t = t.extract 1 t.size ∧ sgnB t = -1 := by
  obtain ⟨⟨l⟩⟩ := t
  cases l with
  | nil => exact absurd h (by decide)
  | cons b l =>
    have hb : b = 45 := by simpa [negB] using h
    subst hb
    have e : ((ByteArray.mk ⟨45 :: l⟩).extract 0 1).toList = [45] := by
      rw [ByteArray.toList_eq]
      simp
    refine ⟨by show 0 < (45 :: l).length; simp, rfl, ?_, by rw [e]; rfl, by rw [e]; rfl, if_pos h, if_pos h⟩
    rw [ByteArray.toList_eq]
    rfl
theorem neg_false {t : ByteArray} (h : negB t = false) : restB t = t ∧ sgnB t = 1 ∧ (∀ h0 : 0 < t.size, (((t[0]'h0).toNat : Int) == 45) = false) ∧ (0 < t.size → ((t.extract 0 1).toList == [45]) = false ∧ (!(t.extract 0 1).toList == [45]) = true) := by
  have hne : ¬ negB t = true := by simp [h]
  obtain ⟨⟨l⟩⟩ := t
  refine ⟨if_neg hne, if_neg hne, ?_, ?_⟩
  · cases l with
    | nil => intro h0; exact absurd h0 (by show ¬ 0 < ([] : List UInt8).length; simp)
    | cons b l =>
      intro h0
      have hb : ¬ b = 45 := by simpa [negB] using h
      show (((b.toNat : Nat) : Int) == 45) = false
      rw [beq_eq_false_iff_ne]
      intro e
      exact hb (UInt8.toNat_inj.1 (by show b.toNat = 45; omega))
  · cases l with
    | nil => intro h0; exact absurd h0 (by show ¬ 0 < ([] : List UInt8).length; simp)
    | cons b l =>
      intro _
      have hb : ¬ b = 45 := by simpa [negB] using h
      have e : ((ByteArray.mk ⟨b :: l⟩).extract 0 1).toList = [b] := by
        rw [ByteArray.toList_eq]
        simp
      rw [e]
      simp [hb]
/-- What the model's l01Decimal answers, and Decimal. -/
def decAll (t : ByteArray) : Bool := allB (restB t) digitB
def decN (t : ByteArray) : Int := if decAll t then sgnB t * acc (restB t).data.toList else 0
def decOK (t : ByteArray) : Bool := decAll t && decide (0 < (restB t).size)
theorem num_end {a b : Int} (h : a = b) : Value.int .i64 a = .int .i64 b := by rw [h]
theorem pair_end {a b : Int} {p q : Bool} (h : a = b) (h' : p = q) : Ending.returned (.tuple #[.int .i64 a, .bool p]) = .returned (.tuple #[.int .i64 b, .bool q]) := by rw [h, h']
theorem ints_end {a b p q : Int} (h : a = b) (h' : p = q) : Ending.returned (.tuple #[.int .i64 a, .int .i64 p]) = .returned (.tuple #[.int .i64 b, .int .i64 q]) := by rw [h, h']

/-- What Decimal answers. -/
def dN (t : ByteArray) : Int := if t.size ≤ 65536 ∧ decOK t = true then decN t else 0
def dC (t : ByteArray) : Int := if t.size ≤ 65536 then (if decOK t = true then 0 else 3) else 2
def DecRel (w : World) (u : ByteArray) (n : Value) (wr : World) : Prop := ∃ (pos : Nat) (a : Int), pos ≤ u.size ∧ wr = w.iter u pos ∧ Upto u digitB pos ∧ n = .int .i64 a ∧ a = acc (u.data.toList.take pos) ∧ 0 ≤ a ∧ a ≤ 1000000000000
/-- What strings.CutPrefix answers at a stroke. -/
theorem stroke_any (t : ByteArray) (w : World) (hs : t.size ≤ maxLen) : Calls Tryd.prog 125 #[.string t, .string ⟨#[45]⟩] w fun e w' => e = .returned (.tuple #[.string (restB t), .bool (negB t)]) ∧ w = w' := by
  unfold maxLen at hs
  cases hn : negB t with
  | true =>
    obtain ⟨h0, _, _, _, f5, hu, _⟩ := neg_true hn
    rw [hu]
    clear hu hn
    go_enter Tryd.func125, Tryd.ntmps125
    go_wp2
    go_ret2
    exact ⟨rfl, rfl⟩
  | false =>
    obtain ⟨hu, _, _, hf⟩ := neg_false hn
    rw [hu]
    clear hu hn
    by_cases h0 : 0 < t.size
    · have f5 := (hf h0).2
      clear hf
      go_enter Tryd.func125, Tryd.ntmps125
      go_wp2
      go_ret2
      exact ⟨rfl, rfl⟩
    · clear hf
      go_enter Tryd.func125, Tryd.ntmps125
      go_wp2
      go_ret2
      exact ⟨rfl, rfl⟩
theorem rest_size (t : ByteArray) : (restB t).size ≤ t.size := by
  unfold restB
  split
  · simp
  · exact Nat.le_refl _
theorem sgn_true {t : ByteArray} (h : negB t = true) : sgnB t = -1 := if_pos h
theorem sgn_false {t : ByteArray} (h : negB t = false) : sgnB t = 1 := if_neg (by simp [h])
theorem empty_size {u : ByteArray} (h : u.toList.isEmpty = true) : u.size = 0 := by
  rw [ByteArray.toList_eq, List.isEmpty_iff] at h
  have := congrArg List.length h
  simpa using this
theorem some_size {u : ByteArray} (h : u.toList.isEmpty = false) : 0 < u.size := by
  rw [ByteArray.toList_eq] at h
  rcases Nat.eq_zero_or_pos u.size with h0 | h0
  · have : u.data.toList = [] := List.eq_nil_of_length_eq_zero (by simpa using h0)
    rw [this] at h
    cases h
  · exact h0
end Go.Proofs.YtcaabnnkjnleeaaDoor
