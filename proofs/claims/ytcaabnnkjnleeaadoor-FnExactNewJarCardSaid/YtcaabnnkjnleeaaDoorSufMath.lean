/- Plain facts on rules, suffixes and parties: lists of bytes alone. No program is named here. No condition. -/
import Derived.Test.YtcaabnnkjnleeaaDoorJoin
namespace Go.Proofs.YtcaabnnkjnleeaaDoor
open Go.WideShapes

/-- A text of these bytes. -/
def tOf (l : List UInt8) : ByteArray := ⟨l.toArray⟩
theorem tOf_data (l : List UInt8) : (tOf l).data.toList = l := by simp [tOf]
theorem tOf_of (s : ByteArray) : tOf s.data.toList = s := bytes_inj (by simp [tOf])
theorem tOf_inj {a b : List UInt8} (h : tOf a = tOf b) : a = b := by
  have := congrArg (fun s : ByteArray => s.data.toList) h
  simpa [tOf] using this
theorem tOf_size (l : List UInt8) : (tOf l).size = l.length := by simp [tOf, ByteArray.size]
def wildL (t : List UInt8) : Bool := [42, 46].isPrefixOf t
def excL (t : List UInt8) : Bool := [33].isPrefixOf t
def bareL (t : List UInt8) : List UInt8 := if wildL t then t.drop 2 else if excL t then t.drop 1 else t
theorem wild_exc {t : List UInt8} (h : wildL t = true) : excL t = false := by
  unfold wildL at h
  unfold excL
  cases t with
  | nil => rfl
  | cons b r =>
    simp only [List.isPrefixOf, Bool.and_eq_true, beq_iff_eq] at h
    rw [← h.1]
    rfl
theorem bare_le (t : List UInt8) : (bareL t).length ≤ t.length := by
  unfold bareL
  split
  · rw [List.length_drop]; omega
  · split
    · rw [List.length_drop]; omega
    · exact Nat.le_refl _
def ruleL (t : List UInt8) : Bool := hostB (tOf (bareL t))
theorem rule_size {t : List UInt8} (h : ruleL t = true) : t.length ≤ 42 ∧ 1 ≤ t.length := by
  have h1 := host_size h
  rw [tOf_size] at h1
  have h2 := bare_le t
  refine ⟨?_, by omega⟩
  have h3 : t.length ≤ (bareL t).length + 2 := by
    unfold bareL
    split
    · rw [List.length_drop]; omega
    · split
      · rw [List.length_drop]; omega
      · omega
  omega
/-- The text at j is none of those ahead of it. -/
def newAt (ps : List (List UInt8)) (j : Nat) : Bool := !(ps.take j).contains (ps.getD j [])
def diffL (ps : List (List UInt8)) : Bool := (List.range ps.length).all (newAt ps)
theorem diff_all {ps : List (List UInt8)} {k : Nat} (h : ∀ j, j < k → newAt ps j = true) (hk : ps.length ≤ k) : diffL ps = true := by
  rw [diffL, List.all_eq_true]
  intro j hj
  exact h j (by have := List.mem_range.1 hj; omega)
theorem diff_bad {ps : List (List UInt8)} {k : Nat} (hk : k < ps.length) (h : newAt ps k = false) : diffL ps = false := by
  rw [diffL, List.all_eq_false]
  exact ⟨k, List.mem_range.2 hk, by simp [h]⟩
/-- A list of rules: at most eight, all different, each a rule. -/
def rulesL (ps : List (List UInt8)) : Bool := decide (ps.length ≤ 8) && (ps.all ruleL && diffL ps)
/-- How many labels a rule has that is of a host. -/
def labN (l : List UInt8) : Nat := (cutL 46 l).length
def sizeL (t : List UInt8) : Int := if wildL t then (labN (bareL t) : Int) + 1 else if excL t then (labN (bareL t) : Int) - 1 else labN (bareL t)
theorem lab_pos (l : List UInt8) : 1 ≤ labN l := cutL_pos _ _
theorem rule_labs {t : List UInt8} (h : ruleL t = true) : labN (bareL t) ≤ 6 := by
  have := (parts_of h).1
  rw [tOf_data] at this
  exact this
theorem size_in {t : List UInt8} (h : ruleL t = true) : 0 ≤ sizeL t ∧ sizeL t ≤ 7 := by
  have h1 := rule_labs h
  have h2 := lab_pos (bareL t)
  unfold sizeL
  split
  · omega
  · split <;> omega
/-- The number of labels of a host's suffix, by the rules that are left and the best so far; app tells which apply. -/
def sufN (app : List UInt8 → Bool) : List (List UInt8) → Int → Int
  | [], b => b
  | t :: ts, b => if app t then (if excL t then max (sizeL t) 1 else sufN app ts (max b (sizeL t))) else sufN app ts b
theorem suf_in {app : List UInt8 → Bool} : ∀ {ps : List (List UInt8)} {b : Int}, ps.all ruleL = true → 1 ≤ b → b ≤ 7 → 1 ≤ sufN app ps b ∧ sufN app ps b ≤ 7
  | [], b, _, h1, h2 => ⟨h1, h2⟩
  | t :: ts, b, h, h1, h2 => by
    simp only [List.all_cons, Bool.and_eq_true] at h
    have h3 := size_in h.1
    unfold sufN
    split
    · split
      · omega
      · exact suf_in h.2 (by omega) (by omega)
    · exact suf_in h.2 h1 h2
/-- The end of a host of so many labels; all of it if it has no more. -/
def tailB (s : ByteArray) (n : Nat) : ByteArray := endB s (labN s.data.toList - n)
theorem tail_all {s : ByteArray} {n : Nat} (h : labN s.data.toList ≤ n) : tailB s n = s := by
  rw [tailB, show labN s.data.toList - n = 0 by omega, end_zero]
theorem tail_short {s : ByteArray} {n : Nat} (h0 : 0 < n) (h : n < labN s.data.toList) : (tailB s n).size < s.size := by
  unfold tailB
  exact end_size (by omega) (by unfold labN at h ⊢; omega)
theorem tail_ne {s : ByteArray} {n : Nat} (h0 : 0 < n) (h : n < labN s.data.toList) : tailB s n ≠ s := fun e => by
  have := tail_short h0 h
  rw [e] at this
  omega
theorem tail_size (s : ByteArray) (n : Nat) (h0 : 0 < n) : (tailB s n).size ≤ s.size := by
  by_cases h : n < labN s.data.toList
  · exact Nat.le_of_lt (tail_short h0 h)
  · rw [tail_all (by omega)]
    exact Nat.le_refl _
theorem cut_parts (c : UInt8) : ∀ (n : Nat) (l : List UInt8), l.length ≤ n → ∀ x ∈ cutL c l, ∀ b ∈ x, b ≠ c := by
  intro n
  induction n with
  | zero =>
    intro l hl x hx b hb
    have : l = [] := List.eq_nil_of_length_eq_zero (by omega)
    subst this
    rw [cutL_none (by simp)] at hx
    simp only [List.mem_singleton] at hx
    subst hx
    cases hb
  | succ n ih =>
    intro l hl x hx b hb
    by_cases h : l.findIdx (· == c) < l.length
    · obtain ⟨e, hne⟩ := find_split h
      have e2 := cutL_hit (r := l.drop (l.findIdx (· == c) + 1)) hne
      rw [← e] at e2
      rw [e2] at hx
      rcases List.mem_cons.1 hx with rfl | hx
      · exact hne b hb
      · exact ih _ (by rw [List.length_drop]; omega) x hx b hb
    · rw [cutL_none (find_none h)] at hx
      simp only [List.mem_singleton] at hx
      subst hx
      exact find_none h b hb
theorem tail_cut {s : ByteArray} {n : Nat} (h0 : 0 < n) : cutL 46 (tailB s n).data.toList = (cutL 46 s.data.toList).drop (labN s.data.toList - n) := by
  have hp : 1 ≤ (cutL 46 s.data.toList).length := cutL_pos _ _
  rw [tailB, endB_data, endL]
  refine cut_join _ ?_ (fun x hx => cut_parts 46 _ _ (Nat.le_refl _) x (List.mem_of_mem_drop hx))
  intro e
  have := congrArg List.length e
  rw [List.length_drop] at this
  unfold labN at this
  simp only [List.length_nil] at this
  omega
theorem tail_labs {s : ByteArray} {n : Nat} (h0 : 0 < n) : labN (tailB s n).data.toList = min n (labN s.data.toList) := by
  rw [labN, tail_cut h0, List.length_drop]
  unfold labN
  omega
/-- The party of a host whose suffix has n labels, as it is told by the suffix. -/
theorem party_is {s : ByteArray} {n : Nat} (h0 : 0 < n) : (if tailB s n = s then s else tailB s (labN (tailB s n).data.toList + 1)) = tailB s (n + 1) := by
  by_cases h : n < labN s.data.toList
  · rw [if_neg (tail_ne h0 h), tail_labs h0, Nat.min_eq_left (by omega)]
  · rw [if_pos (tail_all (by omega)), tail_all (by omega)]
end Go.Proofs.YtcaabnnkjnleeaaDoor
