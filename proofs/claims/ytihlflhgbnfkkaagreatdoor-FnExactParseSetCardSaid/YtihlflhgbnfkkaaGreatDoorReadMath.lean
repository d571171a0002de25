/- Plain facts on the parts of a date's text: the numbers, times and months that begin a token, and which part a token becomes. No program is named here. No condition. -/
import Derived.Test.YtihlflhgbnfkkaaGreatDoorTokMath
import Derived.Test.YtihlflhgbnfkkaaGreatDoorDateMath
import Derived.Test.YtihlflhgbnfkkaaGreatDoorHostMath
namespace Go.Proofs.YtihlflhgbnfkkaaGreatDoor
open Go.WideShapes

def digB (b : UInt8) : Bool := decide (48 ≤ b.toNat ∧ b.toNat ≤ 57)
theorem dig_iff (b : UInt8) : digB b = true ↔ 48 ≤ b.toNat ∧ b.toNat ≤ 57 := by simp only [digB, decide_eq_true_eq]
/-- How many digits a text begins with, and the number that digits are. -/
def digN (l : List UInt8) : Nat := (l.takeWhile digB).length
def val (l : List UInt8) : Int := l.foldl (fun n b => 10 * n + ((b.toNat : Int) - 48)) 0
theorem val_snoc (l : List UInt8) (b : UInt8) : val (l ++ [b]) = 10 * val l + ((b.toNat : Int) - 48) := by simp [val]
theorem digN_le (l : List UInt8) : digN l ≤ l.length := (List.takeWhile_sublist _).length_le
theorem take_front {l a b : List UInt8} (h : a ++ b = l) : l.take a.length = a ∧ l.drop a.length = b := by
  subst h
  simp
theorem digN_take (l : List UInt8) : l.take (digN l) = l.takeWhile digB := (take_front List.takeWhile_append_dropWhile).1
theorem digN_drop (l : List UInt8) : l.drop (digN l) = l.dropWhile digB := (take_front List.takeWhile_append_dropWhile).2
theorem digN_all (l : List UInt8) : ∀ b ∈ l.take (digN l), digB b = true := by
  rw [digN_take]
  intro b hb
  exact List.all_eq_true.1 (List.all_takeWhile) b hb
theorem digN_of {u r : List UInt8} (h : ∀ b ∈ u, digB b = true) (hr : ∀ b, r.head? = some b → digB b = false) : digN (u ++ r) = u.length := by
  unfold digN
  rw [List.takeWhile_append_of_pos h]
  cases r with
  | nil => simp
  | cons b r => simp [hr b rfl]
theorem val_bound : ∀ (k : Nat) (l : List UInt8), l.length = k → (∀ b ∈ l, digB b = true) → 0 ≤ val l ∧ val l < 10 ^ k
  | 0, l, hl, _ => by
    obtain rfl := List.eq_nil_of_length_eq_zero hl
    exact ⟨by decide, by decide⟩
  | k + 1, l, hl, h => by
    obtain ⟨m, b, rfl⟩ : ∃ m b, l = m ++ [b] := by
      refine ⟨l.dropLast, l.getLast (by intro e; subst e; simp at hl), (List.dropLast_concat_getLast _).symm⟩
    have ih := val_bound k m (by simp at hl; omega) (fun x hx => h x (by simp [hx]))
    have hb := (dig_iff b).1 (h b (by simp))
    rw [val_snoc, Int.pow_succ]
    omega
/-- From lo to hi digits at the beginning, and what is behind them. -/
def leadL (lo hi : Nat) (l : List UInt8) : Option (Int × List UInt8) := if lo ≤ digN l ∧ digN l ≤ hi then some (val (l.take (digN l)), l.drop (digN l)) else none
/-- Three such numbers with colons between. -/
def timeL (l : List UInt8) : Option (Int × Int × Int) :=
  match leadL 1 2 l with
  | some (h, 58 :: r) =>
    (match leadL 1 2 r with
     | some (n, 58 :: q) => (match leadL 1 2 q with | some (s, _) => some (h, n, s) | none => none)
     | _ => none)
  | _ => none
theorem lead_some {lo hi : Nat} {l r : List UInt8} {n : Int} (h : leadL lo hi l = some (n, r)) : lo ≤ digN l ∧ digN l ≤ hi ∧ n = val (l.take (digN l)) ∧ r = l.drop (digN l) := by
  unfold leadL at h
  split at h
  · rename_i hh
    simp only [Option.some.injEq, Prod.mk.injEq] at h
    exact ⟨hh.1, hh.2, h.1.symm, h.2.symm⟩
  · cases h
theorem lead_none {lo hi : Nat} {l : List UInt8} (h : leadL lo hi l = none) : ¬ (lo ≤ digN l ∧ digN l ≤ hi) := by
  unfold leadL at h
  split at h
  · cases h
  · assumption
theorem lead_len {lo hi : Nat} {l r : List UInt8} {n : Int} (h : leadL lo hi l = some (n, r)) : r.length ≤ l.length := by
  obtain ⟨_, _, _, rfl⟩ := lead_some h
  simp
theorem lead_num {lo hi : Nat} {l r : List UInt8} {n : Int} (h : leadL lo hi l = some (n, r)) (h4 : hi ≤ 4) : 0 ≤ n ∧ n ≤ 9999 := by
  obtain ⟨_, h2, rfl, _⟩ := lead_some h
  have hk := digN_le l
  obtain ⟨b1, b2⟩ := val_bound (digN l) (l.take (digN l)) (by simp; omega) (digN_all l)
  have : (10 : Int) ^ digN l ≤ 10 ^ 4 := by
    have : (10 : Nat) ^ digN l ≤ 10 ^ 4 := Nat.pow_le_pow_right (by omega) (by omega)
    exact_mod_cast this
  exact ⟨b1, by have e : (10 : Int) ^ 4 = 10000 := by decide
                omega⟩
theorem lead_head {lo hi : Nat} {l r : List UInt8} {n : Int} (h : leadL lo hi l = some (n, r)) : ∀ b, r.head? = some b → digB b = false := by
  obtain ⟨_, _, _, rfl⟩ := lead_some h
  intro b hb
  rw [digN_drop] at hb
  have := List.head?_dropWhile_not digB l
  rw [hb] at this
  simpa using this
/-- A text cut at its first k colons. -/
def cutN (k : Nat) (l : List UInt8) : List (List UInt8) := Lib.splitK [58] 0 k l
theorem cutN_zero (l : List UInt8) : cutN 0 l = [l] := rfl
theorem cutN_none {l : List UInt8} (h : ∀ b ∈ l, b ≠ 58) (k : Nat) : cutN k l = [l] := by
  cases k with
  | zero => rfl
  | succ k =>
    have hi : ¬ l.findIdx (· == 58) < l.length := fun hh => by
      obtain ⟨e, _⟩ := find_split hh
      exact h 58 (by rw [e]; simp) rfl
    rw [cutN, Lib.splitK, index_one, if_neg hi]
    rfl
theorem cutN_hit {u r : List UInt8} (h : ∀ b ∈ u, b ≠ 58) (k : Nat) : cutN (k + 1) (u ++ 58 :: r) = u :: cutN k r := by
  have hf : (u ++ 58 :: r).findIdx (· == 58) = u.length := by
    rw [List.findIdx_append]
    have : ¬ u.findIdx (· == 58) < u.length := fun hh => by
      obtain ⟨e, _⟩ := find_split hh
      exact h 58 (by rw [e]; simp) rfl
    rw [if_neg this]
    simp [List.findIdx_cons]
  have hi : Lib.index (u ++ 58 :: r) [58] = (u.length : Int) := by
    rw [index_one, if_pos (by rw [hf]; simp), hf]
  rw [cutN, Lib.splitK, hi, if_neg (by intro hh; have := beq_iff_eq.1 hh; omega)]
  simp [cutN]
theorem split58 (l : List UInt8) : (∀ b ∈ l, b ≠ 58) ∨ ∃ u r, l = u ++ 58 :: r ∧ ∀ b ∈ u, b ≠ 58 := by
  by_cases h : l.findIdx (· == 58) < l.length
  · obtain ⟨e, hne⟩ := find_split h
    exact .inr ⟨_, _, e, hne⟩
  · exact .inl (find_none h)
/-- More cuts than bytes are no more cuts. -/
theorem cutN_min : ∀ (k : Nat) (l : List UInt8), cutN (min k l.length) l = cutN k l
  | 0, l => by simp
  | k + 1, l => by
    rcases split58 l with h | ⟨u, r, rfl, h⟩
    · rw [cutN_none h, cutN_none h]
    · rw [show min (k + 1) (u ++ 58 :: r).length = min k (u.length + r.length) + 1 by simp; omega, cutN_hit h, cutN_hit h]
      congr 1
      by_cases hk : k ≤ r.length
      · rw [Nat.min_eq_left (by omega)]
      · rw [← cutN_min k r, ← cutN_min (min k (u.length + r.length)) r]
        congr 1
        omega
theorem cutN_len : ∀ (k : Nat) (l : List UInt8), (cutN k l).length ≤ k + 1
  | 0, l => Nat.le_refl _
  | k + 1, l => by
    rcases split58 l with h | ⟨u, r, rfl, h⟩
    · rw [cutN_none h]; simp
    · rw [cutN_hit h]
      have := cutN_len k r
      simp
      omega
theorem cutN_pos (k : Nat) (l : List UInt8) : 1 ≤ (cutN k l).length := by
  cases k with
  | zero => exact Nat.le_refl _
  | succ k =>
    rcases split58 l with h | ⟨u, r, rfl, h⟩
    · rw [cutN_none h]; simp
    · rw [cutN_hit h]; simp
theorem cutN_size : ∀ (k : Nat) (l : List UInt8), ∀ u ∈ cutN k l, u.length ≤ l.length
  | 0, l, u, h => by
    rw [cutN_zero] at h
    simp at h
    rw [h]
    exact Nat.le_refl _
  | k + 1, l, x, hx => by
    rcases split58 l with h | ⟨u, r, rfl, h⟩
    · rw [cutN_none h] at hx
      simp at hx
      rw [hx]
      exact Nat.le_refl _
    · rw [cutN_hit h] at hx
      rcases List.mem_cons.1 hx with rfl | hx
      · simp
      · have := cutN_size k r x hx
        simp
        omega
theorem lead_colon {lo hi : Nat} {u r : List UInt8} : leadL lo hi (u ++ 58 :: r) = (leadL lo hi u).map fun x => (x.1, x.2 ++ 58 :: r) := by
  have hk : digN (u ++ 58 :: r) = digN u := by
    have h1 := digN_of (u := u.takeWhile digB) (r := u.dropWhile digB ++ 58 :: r) (fun b hb => List.all_eq_true.1 List.all_takeWhile b hb) (fun b hb => by
      cases hd : u.dropWhile digB with
      | nil => rw [hd] at hb; simp at hb; subst hb; decide
      | cons c t =>
        rw [hd] at hb
        simp at hb
        subst hb
        have := List.head?_dropWhile_not digB u
        rw [hd] at this
        simpa using this)
    rw [← List.append_assoc, List.takeWhile_append_dropWhile] at h1
    exact h1
  have hle := digN_le u
  unfold leadL
  rw [hk]
  split
  · rw [List.take_append_of_le_length hle, List.drop_append_of_le_length hle]
    rfl
  · rfl
/-- The whole of a text is such a number. -/
def fullL (l : List UInt8) : Option Int := match leadL 1 2 l with | some (n, []) => some n | _ => none
def time3 (a b c : List UInt8) : Option (Int × Int × Int) :=
  match fullL a with
  | some h => (match fullL b with | some n => (match leadL 1 2 c with | some (s, _) => some (h, n, s) | none => none) | none => none)
  | none => none
theorem lead_rest_mem {lo hi : Nat} {l r : List UInt8} {n : Int} (h : leadL lo hi l = some (n, r)) : ∀ b ∈ r, b ∈ l := by
  obtain ⟨_, _, _, rfl⟩ := lead_some h
  intro b hb
  exact List.mem_of_mem_drop hb
/-- What a number and a colon behind it are, said of what lies before the first colon. -/
theorem lead_then {α : Type} {u r : List UInt8} (hu : ∀ b ∈ u, b ≠ 58) (f : Int → List UInt8 → Option α) :
    (match leadL 1 2 (u ++ 58 :: r) with | some (h, 58 :: q) => f h q | _ => none) = (match fullL u with | some h => f h r | none => none) := by
  rw [lead_colon]
  unfold fullL
  cases hl : leadL 1 2 u with
  | none => rfl
  | some x =>
    obtain ⟨n, q⟩ := x
    cases q with
    | nil => rfl
    | cons b q =>
      have hb : b ≠ 58 := hu b (lead_rest_mem hl b (by simp))
      simp only [Option.map_some, List.cons_append]
      split
      · rename_i heq
        simp at heq
        exact absurd heq.2.1 hb
      · rfl
theorem lead_no {α : Type} {u : List UInt8} (hu : ∀ b ∈ u, b ≠ 58) (f : Int → List UInt8 → Option α) : (match leadL 1 2 u with | some (h, 58 :: q) => f h q | _ => none) = none := by
  split
  · rename_i heq
    exact absurd rfl (hu 58 (lead_rest_mem heq 58 (by simp)))
  · rfl
def timeF (p : List (List UInt8)) : Option (Int × Int × Int) :=
  match p with
  | [a, b, c] => time3 a b c
  | _ => none
/-- The time of a token, by its parts between the first two colons. -/
theorem time_cut (l : List UInt8) : timeL l = timeF (cutN 2 l) := by
  rcases split58 l with h | ⟨u, r, rfl, h⟩
  · rw [cutN_none h, timeL, lead_no h]
    rfl
  · rw [cutN_hit h, timeL, lead_then h]
    rcases split58 r with h2 | ⟨v, q, rfl, h2⟩
    · rw [cutN_none h2]
      show _ = none
      cases fullL u with
      | none => rfl
      | some x => exact lead_no h2 _
    · rw [cutN_hit h2, cutN_zero]
      show _ = time3 u v q
      unfold time3
      cases fullL u with
      | none => rfl
      | some x => exact lead_then h2 _
end Go.Proofs.YtihlflhgbnfkkaaGreatDoor
