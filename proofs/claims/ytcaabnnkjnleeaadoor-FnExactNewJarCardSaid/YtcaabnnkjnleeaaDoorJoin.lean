/- Plain facts on hosts and their ends: a host is its labels with points between; what its ends are. No program is named here. No condition. -/
import Derived.Test.YtcaabnnkjnleeaaDoorHostMath
namespace Go.Proofs.YtcaabnnkjnleeaaDoor
open Go.WideShapes

def joinL : List (List UInt8) → List UInt8
  | [] => []
  | [x] => x
  | x :: y :: r => x ++ 46 :: joinL (y :: r)
theorem joinL_cons {x : List UInt8} {qs : List (List UInt8)} (h : qs ≠ []) : joinL (x :: qs) = x ++ 46 :: joinL qs := by
  cases qs with
  | nil => exact absurd rfl h
  | cons y r => rfl
theorem cut_ne (c : UInt8) (l : List UInt8) : cutL c l ≠ [] := by
  intro e
  have := cutL_pos c l
  rw [e] at this
  exact absurd this (by decide)
theorem join_cut : ∀ (n : Nat) (l : List UInt8), l.length ≤ n → joinL (cutL 46 l) = l := by
  intro n
  induction n with
  | zero =>
    intro l hl
    have : l = [] := List.eq_nil_of_length_eq_zero (by omega)
    subst this
    rfl
  | succ n ih =>
    intro l hl
    by_cases h : l.findIdx (· == 46) < l.length
    · obtain ⟨e, hne⟩ := find_split h
      have e2 := cutL_hit (r := l.drop (l.findIdx (· == 46) + 1)) hne
      rw [← e] at e2
      rw [e2, joinL_cons (cut_ne _ _), ih _ (by rw [List.length_drop]; omega)]
      exact e.symm
    · rw [cutL_none (find_none h)]
      rfl
theorem cut_join : ∀ (qs : List (List UInt8)), qs ≠ [] → (∀ x ∈ qs, ∀ b ∈ x, b ≠ 46) → cutL 46 (joinL qs) = qs
  | [], h, _ => absurd rfl h
  | [x], _, h => cutL_none (h x (by simp))
  | x :: y :: r, _, h => by
    rw [joinL_cons (by simp), cutL_hit (h x (by simp)), cut_join (y :: r) (by simp) (fun z hz => h z (by simp [hz]))]
/-- The end of a host from its k-th label on. -/
def endL (ps : List (List UInt8)) (k : Nat) : List UInt8 := joinL (ps.drop k)
theorem end_step {ps : List (List UInt8)} {k : Nat} (hk : k < ps.length) : endL ps k = ps[k] ++ (if k + 1 < ps.length then 46 :: endL ps (k + 1) else []) := by
  unfold endL
  rw [List.drop_eq_getElem_cons hk]
  by_cases h : k + 1 < ps.length
  · rw [if_pos h, joinL_cons]
    intro e
    have := congrArg List.length e
    rw [List.length_drop] at this
    simp at this
    omega
  · rw [if_neg h, List.drop_eq_nil_of_le (by omega)]
    simp [joinL]
theorem end_suffix : ∀ (ps : List (List UInt8)) (k : Nat), 0 < k → k < ps.length → (46 :: endL ps k) <:+ joinL ps
  | [], k, _, h => absurd h (by simp)
  | x :: qs, k, h0, h => by
    have hq : qs ≠ [] := by
      intro e
      subst e
      simp at h
      omega
    rw [joinL_cons hq]
    by_cases h1 : k = 1
    · subst h1
      exact List.suffix_append _ _
    · have h2 := end_suffix qs (k - 1) (by omega) (by simp at h; omega)
      have e : endL (x :: qs) k = endL qs (k - 1) := by
        unfold endL
        obtain ⟨j, rfl⟩ : ∃ j, k = j + 1 := ⟨k - 1, by omega⟩
        rfl
      rw [e]
      exact h2.trans ((List.suffix_cons 46 (joinL qs)).trans (List.suffix_append x (46 :: joinL qs)))
theorem good_bytes {x : List UInt8} (h : goodL x = true) : ∀ b ∈ x, labelB b = true := by
  rw [goodL, Bool.and_eq_true] at h
  exact List.all_eq_true.1 h.2
theorem label_ne {b : UInt8} (h : labelB b = true) : b ≠ 46 := by
  rintro rfl
  rw [label_point] at h
  cases h
theorem parts_of {s : ByteArray} (h : hostB s = true) : (cutL 46 s.data.toList).length ≤ 6 ∧ ∀ x ∈ cutL 46 s.data.toList, goodL x = true := by
  rw [hostB, hostN_eq, partsOK, Bool.and_eq_true, Bool.and_eq_true, decide_eq_true_eq, decide_eq_true_eq] at h
  exact ⟨h.2.1, List.all_eq_true.1 h.2.2⟩
def endB (s : ByteArray) (k : Nat) : ByteArray := ⟨(endL (cutL 46 s.data.toList) k).toArray⟩
theorem endB_data (s : ByteArray) (k : Nat) : (endB s k).data.toList = endL (cutL 46 s.data.toList) k := by simp [endB]
theorem end_zero (s : ByteArray) : endB s 0 = s := by
  apply bytes_inj
  rw [endB_data, endL, List.drop_zero]
  exact join_cut _ _ (Nat.le_refl _)
theorem end_size {s : ByteArray} {k : Nat} (h0 : 0 < k) (hk : k < (cutL 46 s.data.toList).length) : (endB s k).size < s.size := by
  have h := (end_suffix _ k h0 hk).length_le
  rw [join_cut _ _ (Nat.le_refl _), List.length_cons] at h
  have e : (endB s k).size = (endL (cutL 46 s.data.toList) k).length := by show (endL _ k).toArray.size = _; simp
  rw [e]
  simp at h
  omega
theorem end_host {s : ByteArray} {k : Nat} (h : hostB s = true) (hk : k < (cutL 46 s.data.toList).length) : hostB (endB s k) = true := by
  rcases Nat.eq_zero_or_pos k with rfl | h0
  · rw [end_zero]
    exact h
  · obtain ⟨h1, h2⟩ := parts_of h
    have hs := end_size h0 hk
    have h40 := (host_size h).2
    have hne : (cutL 46 s.data.toList).drop k ≠ [] := by
      intro e
      have := congrArg List.length e
      rw [List.length_drop] at this
      simp at this
      omega
    have hc : cutL 46 (endB s k).data.toList = (cutL 46 s.data.toList).drop k := by
      rw [endB_data, endL]
      exact cut_join _ hne (fun x hx b hb => label_ne (good_bytes (h2 x (List.mem_of_mem_drop hx)) b hb))
    rw [hostB, hostN_eq, hc, partsOK, decide_eq_true (by omega), decide_eq_true (by rw [List.length_drop]; omega)]
    rw [List.all_eq_true.2 (fun x hx => h2 x (List.mem_of_mem_drop hx))]
    rfl
theorem end_below {s : ByteArray} {k : Nat} (h0 : 0 < k) (hk : k < (cutL 46 s.data.toList).length) : (46 :: (endB s k).data.toList) <:+ s.data.toList := by
  have h := end_suffix _ k h0 hk
  rw [join_cut _ _ (Nat.le_refl _)] at h
  rw [endB_data]
  exact h
theorem host_bytes {s : ByteArray} (h : hostB s = true) : ∀ b ∈ s.data.toList, labelB b = true ∨ b = 46 := by
  have key : ∀ qs : List (List UInt8), (∀ x ∈ qs, goodL x = true) → ∀ b ∈ joinL qs, labelB b = true ∨ b = 46 := by
    intro qs
    induction qs with
    | nil => intro _ b hb; cases hb
    | cons x qs ih =>
      intro h b hb
      by_cases hq : qs = []
      · subst hq
        exact .inl (good_bytes (h x (by simp)) b hb)
      · rw [joinL_cons hq, List.mem_append, List.mem_cons] at hb
        rcases hb with hb | rfl | hb
        · exact .inl (good_bytes (h x (by simp)) b hb)
        · exact .inr rfl
        · exact ih (fun y hy => h y (by simp [hy])) b hb
  have := key _ (parts_of h).2
  rw [join_cut _ _ (Nat.le_refl _)] at this
  exact this
end Go.Proofs.YtcaabnnkjnleeaaDoor
