/- Heaps of slots, plain. No condition. -/
import Derived.Test.YtcaabnnkjnleeaaDoorWithin
namespace Go.Proofs.YtcaabnnkjnleeaaDoor

structure Sl where
  k : Int
  i : Int
instance : Inhabited Sl := ⟨⟨0, 0⟩⟩
theorem Sl.eq {a b : Sl} (h1 : a.k = b.k) (h2 : a.i = b.i) : a = b := by
  cases a
  cases b
  simp only at h1 h2
  rw [h1, h2]
def ltS (a b : Sl) : Bool := decide (a.k < b.k) || (decide (a.k = b.k) && decide (a.i < b.i))
theorem ltS_iff {a b : Sl} : ltS a b = true ↔ a.k < b.k ∨ a.k = b.k ∧ a.i < b.i := by
  unfold ltS
  simp
theorem ltS_not {a b : Sl} : ltS a b = false ↔ ¬ (a.k < b.k ∨ a.k = b.k ∧ a.i < b.i) := by
  rw [← ltS_iff]
  simp
def swS (qs : List Sl) (a b : Nat) : List Sl := (qs.set a qs[b]!).set b qs[a]!
theorem swS_length (qs : List Sl) (a b : Nat) : (swS qs a b).length = qs.length := by simp [swS]
theorem swS_get (qs : List Sl) (a b t : Nat) (ha : a < qs.length) (hb : b < qs.length) : (swS qs a b)[t]! = if t = b then qs[a]! else if t = a then qs[b]! else qs[t]! := by
  unfold swS
  by_cases h1 : t = b
  · subst h1
    rw [if_pos rfl, getElem!_pos _ t (by simp; exact hb)]
    simp
  · rw [if_neg h1]
    by_cases h2 : t = a
    · subst h2
      rw [if_pos rfl, getElem!_pos _ t (by simp; exact ha), List.getElem_set_ne (by omega)]
      simp
    · rw [if_neg h2]
      by_cases h3 : t < qs.length
      · rw [getElem!_pos _ t (by simp; exact h3), getElem!_pos _ t h3, List.getElem_set_ne (by omega), List.getElem_set_ne (by omega)]
      · rw [getElem!_neg _ t (by simp; omega), getElem!_neg _ t (by omega)]
/-- A slot that rises: where it comes to stand, and the list. -/
def upL (qs : List Sl) (i : Nat) : List Sl × Nat :=
  if _h : 0 < i ∧ ltS qs[i]! qs[(i - 1) / 2]! = true then upL (swS qs i ((i - 1) / 2)) ((i - 1) / 2) else (qs, i)
  termination_by i
  decreasing_by omega
theorem upL_go {qs : List Sl} {i : Nat} (h0 : 0 < i) (h : ltS qs[i]! qs[(i - 1) / 2]! = true) : upL qs i = upL (swS qs i ((i - 1) / 2)) ((i - 1) / 2) := by
  rw [upL, dif_pos ⟨h0, h⟩]
theorem upL_stop {qs : List Sl} {i : Nat} (h : i = 0 ∨ ltS qs[i]! qs[(i - 1) / 2]! = false) : upL qs i = (qs, i) := by
  rw [upL, dif_neg]
  rintro ⟨h1, h2⟩
  rcases h with h | h
  · omega
  · rw [h] at h2
    exact Bool.noConfusion h2
theorem upL_both (i : Nat) : ∀ qs : List Sl, (upL qs i).1.length = qs.length ∧ (upL qs i).2 ≤ i := by
  induction i using Nat.strongRecOn with
  | ind i ih =>
    intro qs
    by_cases h : 0 < i ∧ ltS qs[i]! qs[(i - 1) / 2]! = true
    · rw [upL_go h.1 h.2]
      have := ih ((i - 1) / 2) (by omega) (swS qs i ((i - 1) / 2))
      rw [swS_length] at this
      exact ⟨this.1, by omega⟩
    · rw [upL, dif_neg h]
      exact ⟨rfl, Nat.le_refl _⟩
/-- The first of a family. -/
def famL (qs : List Sl) (i : Nat) : Nat :=
  let b := if 2 * i + 1 < qs.length ∧ ltS qs[2 * i + 1]! qs[i]! = true then 2 * i + 1 else i
  if 2 * i + 2 < qs.length ∧ ltS qs[2 * i + 2]! qs[b]! = true then 2 * i + 2 else b
theorem famL_in (qs : List Sl) (i : Nat) : famL qs i = i ∨ (i < famL qs i ∧ famL qs i < qs.length) := by
  unfold famL
  by_cases g : 2 * i + 1 < qs.length ∧ ltS qs[2 * i + 1]! qs[i]! = true
  · simp only [if_pos g]
    by_cases g2 : 2 * i + 2 < qs.length ∧ ltS qs[2 * i + 2]! qs[2 * i + 1]! = true
    · rw [if_pos g2]
      exact Or.inr ⟨by omega, g2.1⟩
    · rw [if_neg g2]
      exact Or.inr ⟨by omega, g.1⟩
  · simp only [if_neg g]
    by_cases g2 : 2 * i + 2 < qs.length ∧ ltS qs[2 * i + 2]! qs[i]! = true
    · rw [if_pos g2]
      exact Or.inr ⟨by omega, g2.1⟩
    · rw [if_neg g2]
      exact Or.inl rfl
/-- A slot that sinks. -/
def downL (qs : List Sl) (i : Nat) : List Sl :=
  if _h : i < famL qs i then downL (swS qs i (famL qs i)) (famL qs i) else qs
  termination_by qs.length - i
  decreasing_by
    rw [swS_length]
    have := famL_in qs i
    omega
theorem downL_go {qs : List Sl} {i j : Nat} (hj : famL qs i = j) (h : i ≠ j) : downL qs i = downL (swS qs i j) j := by
  subst hj
  rw [downL, dif_pos (by have := famL_in qs i; omega)]
theorem downL_stop {qs : List Sl} {i : Nat} (h : famL qs i = i) : downL qs i = qs := by
  rw [downL, dif_neg (by omega)]
theorem downL_length (n : Nat) : ∀ (qs : List Sl) (i : Nat), qs.length - i = n → (downL qs i).length = qs.length := by
  induction n using Nat.strongRecOn with
  | ind n ih =>
    intro qs i hn
    rcases famL_in qs i with h | ⟨h1, h2⟩
    · rw [downL_stop h]
    · rw [downL_go rfl (by omega), ih ((swS qs i (famL qs i)).length - famL qs i) (by rw [swS_length]; omega) _ _ rfl, swS_length]
/-- The model's choice: the first of the two below; whether it comes ahead. -/
theorem famL_model {qs : List Sl} {i k : Nat} (h1 : 2 * i + 1 < qs.length) (hk : k = if 2 * i + 2 < qs.length ∧ ltS qs[2 * i + 2]! qs[2 * i + 1]! = true then 2 * i + 2 else 2 * i + 1) : famL qs i = if ltS qs[k]! qs[i]! = true then k else i := by
  have tr : ∀ a b c : Sl, ltS c b = true → ltS b a = true → ltS c a = true := by
    intro a b c h g
    rw [ltS_iff] at h g ⊢
    omega
  have un : ∀ a b c : Sl, ltS c b = false → ltS b a = false → ltS c a = false := by
    intro a b c h g
    rw [ltS_not] at h g ⊢
    omega
  have tr := tr qs[i]! qs[2 * i + 1]! qs[2 * i + 2]!
  have un := un qs[i]! qs[2 * i + 1]! qs[2 * i + 2]!
  subst hk
  unfold famL
  by_cases h2 : 2 * i + 2 < qs.length
  · cases g1 : ltS qs[2 * i + 1]! qs[i]! <;> cases g2 : ltS qs[2 * i + 2]! qs[2 * i + 1]!
    · simp only [h1, h2, g1, un g2 g1, and_false, Bool.false_eq_true, if_false]
    · simp only [h2, true_and, and_false, Bool.false_eq_true, if_false, if_true]
    · simp only [h1, h2, g1, g2, and_self, and_false, Bool.false_eq_true, if_false, if_true]
    · simp only [h1, h2, g2, tr g2 g1, and_self, if_true]
  · simp only [h1, h2, false_and, true_and, if_false]
/-- The list when the one at a place is taken. -/
def takeL (qs : List Sl) (i : Nat) : List Sl :=
  if i = qs.length - 1 then qs.take (qs.length - 1)
  else downL (upL ((qs.take (qs.length - 1)).set i qs[qs.length - 1]!) i).1 (upL ((qs.take (qs.length - 1)).set i qs[qs.length - 1]!) i).2
theorem takeL_length (qs : List Sl) (i : Nat) : (takeL qs i).length = qs.length - 1 := by
  unfold takeL
  split
  · simp
  · rw [downL_length _ _ _ rfl, (upL_both i _).1]
    simp
def pushL (qs : List Sl) (s : Sl) : List Sl := (upL (qs ++ [s]) qs.length).1
theorem pushL_length (qs : List Sl) (s : Sl) : (pushL qs s).length = qs.length + 1 := by
  unfold pushL
  rw [(upL_both _ _).1]
  simp
/-- All, one after the other. -/
def sortL (qs : List Sl) : List Sl :=
  if _h : qs = [] then [] else qs[0]! :: sortL (takeL qs 0)
  termination_by qs.length
  decreasing_by
    rw [takeL_length]
    have := List.length_pos_iff.2 _h
    omega
theorem sortL_nil : sortL [] = [] := by rw [sortL, dif_pos rfl]
theorem sortL_cons {qs : List Sl} (h : 0 < qs.length) : sortL qs = qs[0]! :: sortL (takeL qs 0) := by
  rw [sortL, dif_neg (List.length_pos_iff.1 h)]
theorem sortL_length (n : Nat) : ∀ qs : List Sl, qs.length = n → (sortL qs).length = n := by
  induction n with
  | zero =>
    intro qs h
    rw [List.length_eq_zero_iff.1 h, sortL_nil]
    rfl
  | succ n ih =>
    intro qs h
    rw [sortL_cons (by omega), List.length_cons, ih _ (by rw [takeL_length]; omega)]
/-- Those whose key is not above: what is left, their numbers. -/
def untilL (qs : List Sl) (key : Int) : List Sl × List Int :=
  if _h : qs = [] then ([], []) else if qs[0]!.k ≤ key then ((untilL (takeL qs 0) key).1, qs[0]!.i :: (untilL (takeL qs 0) key).2) else (qs, [])
  termination_by qs.length
  decreasing_by
    all_goals
      rw [takeL_length]
      have := List.length_pos_iff.2 _h
      omega
theorem untilL_nil (key : Int) : untilL [] key = ([], []) := by rw [untilL, dif_pos rfl]
theorem untilL_go {qs : List Sl} {key : Int} (h : 0 < qs.length) (hk : qs[0]!.k ≤ key) : untilL qs key = ((untilL (takeL qs 0) key).1, qs[0]!.i :: (untilL (takeL qs 0) key).2) := by
  rw [untilL, dif_neg (List.length_pos_iff.1 h), if_pos hk]
theorem untilL_stop {qs : List Sl} {key : Int} (h : 0 < qs.length) (hk : ¬ qs[0]!.k ≤ key) : untilL qs key = (qs, []) := by
  rw [untilL, dif_neg (List.length_pos_iff.1 h), if_neg hk]
theorem untilL_len (key : Int) (n : Nat) : ∀ qs : List Sl, qs.length = n → (untilL qs key).1.length ≤ n ∧ (untilL qs key).2.length ≤ n := by
  induction n with
  | zero =>
    intro qs h
    rw [List.length_eq_zero_iff.1 h, untilL_nil]
    exact ⟨Nat.le_refl _, Nat.le_refl _⟩
  | succ n ih =>
    intro qs h
    by_cases hk : qs[0]!.k ≤ key
    · rw [untilL_go (by omega) hk]
      have := ih (takeL qs 0) (by rw [takeL_length]; omega)
      simp only [List.length_cons]
      omega
    · rw [untilL_stop (by omega) hk]
      exact ⟨Nat.le_of_eq h, Nat.zero_le _⟩
/-- Where a number stands first; -1. -/
def atS (qs : List Sl) (id : Int) : Int :=
  match qs.findIdx? (fun s => decide (s.i = id)) with
  | some j => (j : Int)
  | none => -1
theorem atS_some {qs : List Sl} {id : Int} {j : Nat} (h : j < qs.length) (hj : qs[j]!.i = id) (hb : ∀ m, m < j → qs[m]!.i ≠ id) : atS qs id = j := by
  have : qs.findIdx? (fun s => decide (s.i = id)) = some j := by
    rw [List.findIdx?_eq_some_iff_getElem]
    refine ⟨h, ?_, fun m hm => ?_⟩
    · rw [getElem!_pos qs j h] at hj
      simp [hj]
    · have := hb m hm
      rw [getElem!_pos qs m (by omega)] at this
      simp [this]
  unfold atS
  rw [this]
theorem atS_none {qs : List Sl} {id : Int} (hb : ∀ m, m < qs.length → qs[m]!.i ≠ id) : atS qs id = -1 := by
  have : qs.findIdx? (fun s => decide (s.i = id)) = none := by
    rw [List.findIdx?_eq_none_iff]
    intro x hx
    obtain ⟨m, hm, rfl⟩ := List.mem_iff_getElem.1 hx
    have := hb m hm
    rw [getElem!_pos qs m hm] at this
    simp [this]
  unfold atS
  rw [this]
theorem atS_range (qs : List Sl) (id : Int) : atS qs id = -1 ∨ ∃ j : Nat, j < qs.length ∧ atS qs id = j := by
  unfold atS
  cases h : qs.findIdx? (fun s => decide (s.i = id)) with
  | none => exact Or.inl rfl
  | some j =>
    rw [List.findIdx?_eq_some_iff_getElem] at h
    exact Or.inr ⟨j, h.1, rfl⟩
/-- A slot stands well at its place. -/
def okAt (qs : List Sl) (j : Nat) : Prop := inRange qs[j]!.i 1 1000000000000 = true ∧ inRange qs[j]!.k 0 2000000000000 = true ∧ atS qs qs[j]!.i = j ∧ (0 < j → ltS qs[j]! qs[(j - 1) / 2]! = false)
instance (qs : List Sl) (j : Nat) : Decidable (okAt qs j) := by unfold okAt; infer_instance
def hpB (qs : List Sl) : Bool := decide (qs.length ≤ 16) && decide (∀ j, j < qs.length → okAt qs j)
theorem hpB_iff {qs : List Sl} : hpB qs = true ↔ qs.length ≤ 16 ∧ ∀ j, j < qs.length → okAt qs j := by
  unfold hpB
  rw [Bool.and_eq_true, decide_eq_true_eq, decide_eq_true_eq]
theorem hpB_no {qs : List Sl} (h : ¬ (qs.length ≤ 16 ∧ ∀ j, j < qs.length → okAt qs j)) : hpB qs = false := by
  cases e : hpB qs with
  | false => rfl
  | true => exact (h (hpB_iff.1 e)).elim
end Go.Proofs.YtcaabnnkjnleeaaDoor
