/- Insertion from behind, plain. No condition. -/
import Derived.Test.YtpdonghdnaehhaaGreatDoorBase
namespace Go.Proofs.YtpdonghdnaehhaaGreatDoor

section
variable {α : Type} [Inhabited α] (lt : α → α → Bool)
/-- Where x comes to stand among the first k of l, coming from behind. -/
def posB (x : α) (l : List α) : Nat → Nat
  | 0 => 0
  | k + 1 => if lt x l[k]! then posB x l k else k + 1
def insB (x : α) (l : List α) : List α := l.take (posB lt x l l.length) ++ x :: l.drop (posB lt x l l.length)
def sortB (l : List α) : List α := l.foldl (fun acc x => insB lt x acc) []
theorem posB_le (x : α) (l : List α) : ∀ k, posB lt x l k ≤ k
  | 0 => Nat.le_refl _
  | k + 1 => by
    unfold posB
    split
    · have := posB_le x l k
      omega
    · exact Nat.le_refl _
theorem posB_stop {x : α} {l : List α} {j : Nat} (h : j = 0 ∨ lt x l[j - 1]! = false) : posB lt x l j = j := by
  cases j with
  | zero => rfl
  | succ j =>
    rcases h with h | h
    · omega
    · unfold posB
      rw [show j + 1 - 1 = j by omega] at h
      rw [h]
      simp
theorem posB_go {x : α} {l : List α} {j : Nat} (h0 : 0 < j) (h : lt x l[j - 1]! = true) : posB lt x l j = posB lt x l (j - 1) := by
  cases j with
  | zero => omega
  | succ j =>
    rw [show j + 1 - 1 = j by omega] at h ⊢
    show (if lt x l[j]! then _ else _) = _
    rw [if_pos h]
theorem posB_at (x : α) (l : List α) : ∀ k, (posB lt x l k = 0 ∨ lt x l[posB lt x l k - 1]! = false) ∧ (posB lt x l k < k → lt x l[posB lt x l k]! = true)
  | 0 => ⟨Or.inl rfl, fun h => absurd h (by unfold posB; omega)⟩
  | k + 1 => by
    have ih := posB_at x l k
    cases hb : lt x l[k]! with
    | true =>
      have e : posB lt x l (k + 1) = posB lt x l k := by
        show (if lt x l[k]! then _ else _) = _
        rw [if_pos hb]
      rw [e]
      refine ⟨ih.1, fun h => ?_⟩
      by_cases h2 : posB lt x l k < k
      · exact ih.2 h2
      · have := posB_le lt x l k
        rw [show posB lt x l k = k by omega]
        exact hb
    | false =>
      have e : posB lt x l (k + 1) = k + 1 := by
        show (if lt x l[k]! then _ else _) = _
        rw [if_neg (by rw [hb]; exact Bool.false_ne_true)]
      rw [e]
      exact ⟨Or.inr (by rw [show k + 1 - 1 = k by omega]; exact hb), fun h => by omega⟩
theorem insB_length (x : α) (l : List α) : (insB lt x l).length = l.length + 1 := by
  have := posB_le lt x l l.length
  unfold insB
  simp only [List.length_append, List.length_take, List.length_cons, List.length_drop]
  omega
theorem insB_mem {x y : α} {l : List α} (h : y ∈ insB lt x l) : y = x ∨ y ∈ l := by
  unfold insB at h
  rcases List.mem_append.1 h with h | h
  · exact Or.inr (List.mem_of_mem_take h)
  · rcases List.mem_cons.1 h with h | h
    · exact Or.inl h
    · exact Or.inr (List.mem_of_mem_drop h)
theorem sortB_snoc (l : List α) (x : α) : sortB lt (l ++ [x]) = insB lt x (sortB lt l) := by
  unfold sortB
  rw [List.foldl_append]
  rfl
theorem sortB_next {l : List α} {k : Nat} (h : k < l.length) : sortB lt (l.take (k + 1)) = insB lt l[k]! (sortB lt (l.take k)) := by
  rw [List.take_succ_eq_append_getElem h, sortB_snoc, getElem!_pos l k h]
theorem foldl_len (l acc : List α) : (l.foldl (fun acc x => insB lt x acc) acc).length = acc.length + l.length := by
  induction l generalizing acc with
  | nil => simp
  | cons x l ih =>
    rw [List.foldl_cons, ih, insB_length, List.length_cons]
    omega
theorem sortB_length (l : List α) : (sortB lt l).length = l.length := by
  unfold sortB
  rw [foldl_len]
  simp
theorem foldl_mem {y : α} (l acc : List α) (h : y ∈ l.foldl (fun acc x => insB lt x acc) acc) : y ∈ acc ∨ y ∈ l := by
  induction l generalizing acc with
  | nil => exact Or.inl h
  | cons x l ih =>
    rw [List.foldl_cons] at h
    rcases ih _ h with h | h
    · rcases insB_mem lt h with h | h
      · exact Or.inr (by simp [h])
      · exact Or.inl h
    · exact Or.inr (by simp [h])
theorem sortB_mem {y : α} {l : List α} (h : y ∈ sortB lt l) : y ∈ l := by
  rcases foldl_mem lt l [] h with h | h
  · cases h
  · exact h
/-- What stands at place t: of an insertion. -/
theorem insB_get (x : α) (l : List α) (t : Nat) (ht : t ≤ l.length) : (insB lt x l)[t]! = if t < posB lt x l l.length then l[t]! else if t = posB lt x l l.length then x else l[t - 1]! := by
  have hp := posB_le lt x l l.length
  have hl := insB_length lt x l
  rw [getElem!_pos _ t (by omega)]
  unfold insB
  by_cases h1 : t < posB lt x l l.length
  · rw [if_pos h1, List.getElem_append_left (by simp; omega), List.getElem_take, getElem!_pos l t (by omega)]
  · rw [if_neg h1]
    by_cases h2 : t = posB lt x l l.length
    · rw [if_pos h2, List.getElem_append_right (by simp; omega)]
      simp only [List.length_take]
      have : t - min (posB lt x l l.length) l.length = 0 := by omega
      simp [this]
    · rw [if_neg h2, List.getElem_append_right (by simp; omega), getElem!_pos l (t - 1) (by omega)]
      simp only [List.length_take]
      obtain ⟨d, hd⟩ : ∃ d, t - min (posB lt x l l.length) l.length = d + 1 := ⟨t - posB lt x l l.length - 1, by omega⟩
      simp only [hd, List.getElem_cons_succ, List.getElem_drop]
      congr 1
      omega
/-- Each before the next. -/
def AdjB (l : List α) : Prop := ∀ t, t + 1 < l.length → lt l[t]! l[t + 1]! = true
theorem insB_adj {x : α} {l : List α} (h : AdjB lt l) (ht : ∀ y ∈ l, lt x y = false → lt y x = true) : AdjB lt (insB lt x l) := by
  intro t hlt
  rw [insB_length] at hlt
  have hp := posB_le lt x l l.length
  obtain ⟨p1, p2⟩ := posB_at lt x l l.length
  rw [insB_get lt x l t (by omega), insB_get lt x l (t + 1) (by omega)]
  by_cases c1 : t + 1 < posB lt x l l.length
  · rw [if_pos (by omega), if_pos c1]
    exact h t (by omega)
  · by_cases c2 : t + 1 = posB lt x l l.length
    · rw [if_pos (by omega), if_neg c1, if_pos c2]
      rcases p1 with p1 | p1
      · omega
      · rw [← c2, show t + 1 - 1 = t by omega] at p1
        refine ht _ ?_ p1
        rw [getElem!_pos l t (by omega)]
        exact List.getElem_mem _
    · by_cases c3 : t = posB lt x l l.length
      · rw [if_neg (by omega), if_pos c3, if_neg c1, if_neg c2, show t + 1 - 1 = t by omega]
        have := p2 (by omega)
        rwa [← c3] at this
      · rw [if_neg (by omega), if_neg c3, if_neg c1, if_neg c2]
        have := h (t - 1) (by omega)
        rwa [show t - 1 + 1 = t by omega] at this
theorem sortB_adj {l : List α} (h : ∀ i k, i < k → k < l.length → lt l[k]! l[i]! = false → lt l[i]! l[k]! = true) : AdjB lt (sortB lt l) := by
  have go : ∀ k, k ≤ l.length → AdjB lt (sortB lt (l.take k)) := by
    intro k
    induction k with
    | zero => intro _ t ht; simp [sortB] at ht
    | succ k ih =>
      intro hk
      rw [sortB_next lt (show k < l.length by omega)]
      refine insB_adj lt (ih (by omega)) fun y hy hf => ?_
      obtain ⟨i, hi, rfl⟩ := List.mem_iff_getElem.1 (sortB_mem lt hy)
      rw [List.length_take] at hi
      rw [List.getElem_take] at hf ⊢
      rw [← getElem!_pos l i (by omega)] at hf ⊢
      exact h i k (by omega) (by omega) hf
  have := go l.length (Nat.le_refl _)
  rwa [List.take_length] at this
/-- A row while x, the i-th, wanders down: it stands at j. -/
def rowF (S l : List α) (x : α) (j t : Nat) : α := if t < j then S[t]! else if t = j then x else if t ≤ S.length then S[t - 1]! else l[t]!
/-- A row whose first i are in order. -/
def outF (l : List α) (i t : Nat) : α := if t < i then (sortB lt (l.take i))[t]! else l[t]!
theorem rowF_start {l : List α} {i : Nat} (h : i < l.length) (t : Nat) : rowF (sortB lt (l.take i)) l l[i]! i t = outF lt l i t := by
  have hs : (sortB lt (l.take i)).length = i := by rw [sortB_length, List.length_take]; omega
  unfold rowF outF
  by_cases h1 : t < i
  · rw [if_pos h1, if_pos h1]
  · rw [if_neg h1, if_neg h1]
    by_cases h2 : t = i
    · rw [if_pos h2, h2]
    · rw [if_neg h2, if_neg (by omega)]
theorem rowF_end {l : List α} {i j : Nat} (h : i < l.length) (hj : posB lt l[i]! (sortB lt (l.take i)) i = j) (t : Nat) : rowF (sortB lt (l.take i)) l l[i]! j t = outF lt l (i + 1) t := by
  have hs : (sortB lt (l.take i)).length = i := by rw [sortB_length, List.length_take]; omega
  have hji : j ≤ i := by rw [← hj]; exact posB_le _ _ _ _
  unfold rowF outF
  rw [sortB_next lt h, hs]
  by_cases h1 : t < i + 1
  · rw [if_pos h1, insB_get lt _ _ t (by omega), hs, hj]
    by_cases h2 : t < j
    · rw [if_pos h2, if_pos h2]
    · rw [if_neg h2, if_neg h2]
      by_cases h3 : t = j
      · rw [if_pos h3, if_pos h3]
      · rw [if_neg h3, if_neg h3, if_pos (by omega)]
  · rw [if_neg h1, if_neg (by omega), if_neg (by omega), if_neg (by omega)]
theorem rowF_swap (S l : List α) (x : α) {j : Nat} (h0 : 0 < j) (hj : j ≤ S.length) (t : Nat) : rowF S l x (j - 1) t = if t = j - 1 then rowF S l x j j else if t = j then rowF S l x j (j - 1) else rowF S l x j t := by
  unfold rowF
  by_cases h1 : t = j - 1
  · subst h1
    simp
  · rw [if_neg h1]
    by_cases h2 : t = j
    · subst h2
      rw [if_neg (by omega), if_neg h1, if_pos hj, if_pos rfl, if_pos (by omega)]
    · rw [if_neg h2, if_neg h1, if_neg h2]
      by_cases h3 : t < j
      · rw [if_pos (by omega), if_pos h3]
      · rw [if_neg (by omega), if_neg h3]
theorem outF_all (l : List α) (t : Nat) (h : t < l.length) : outF lt l l.length t = (sortB lt l)[t]! := by
  unfold outF
  rw [if_pos h, List.take_length]
theorem outF_one (l : List α) (t : Nat) (h : 0 < l.length) : outF lt l 1 t = l[t]! := by
  unfold outF
  by_cases h1 : t < 1
  · obtain rfl : t = 0 := by omega
    rw [if_pos (by omega), sortB_next lt h]
    rfl
  · rw [if_neg h1]
end
end Go.Proofs.YtpdonghdnaehhaaGreatDoor
