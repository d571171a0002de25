/- The mathematics of the law on suffixes: ends of hosts, the party of a party. No condition of its own. -/
import Derived.Test.YtihlflhgbnfkkaaGreatDoorSuffix
namespace Go.Proofs.YtihlflhgbnfkkaaGreatDoor
open Go.WideShapes

theorem cut_app : ∀ (n : Nat) (a r : List UInt8), a.length ≤ n → cutL 46 (a ++ 46 :: r) = cutL 46 a ++ cutL 46 r := by
  intro n
  induction n with
  | zero =>
    intro a r hl
    have : a = [] := List.eq_nil_of_length_eq_zero (by omega)
    subst this
    rw [cutL_hit (l := []) (by simp), cutL_none (l := []) (by simp)]
    rfl
  | succ n ih =>
    intro a r hl
    by_cases h : a.findIdx (· == 46) < a.length
    · obtain ⟨e, hne⟩ := find_split h
      have e2 : cutL 46 (a ++ 46 :: r) = a.take (a.findIdx (· == 46)) :: cutL 46 (a.drop (a.findIdx (· == 46) + 1) ++ 46 :: r) := by
        rw [← cutL_hit hne]
        congr 1
        conv => lhs; rw [e]
        simp
      have e3 : cutL 46 a = a.take (a.findIdx (· == 46)) :: cutL 46 (a.drop (a.findIdx (· == 46) + 1)) := by
        rw [← cutL_hit hne, ← e]
      rw [e2, e3, ih _ r (by rw [List.length_drop]; omega)]
      rfl
    · rw [cutL_hit (find_none h), cutL_none (find_none h)]
      rfl
theorem below_iff {h d : ByteArray} : belowB h d = true ↔ labN d.data.toList < labN h.data.toList ∧ d = tailB h (labN d.data.toList) := by
  rw [belowB, Lib.hasSuffix, List.isSuffixOf_iff_suffix]
  constructor
  · rintro ⟨pre, hp⟩
    have hc := cut_app pre.length pre d.data.toList (Nat.le_refl _)
    rw [hp] at hc
    have hl : labN h.data.toList = labN pre + labN d.data.toList := by
      unfold labN
      rw [hc, List.length_append]
    have h1 := lab_pos pre
    refine ⟨by omega, bytes_inj ?_⟩
    rw [tailB, endB_data, endL, hc, hl, show labN pre + labN d.data.toList - labN d.data.toList = (cutL 46 pre).length from Nat.add_sub_cancel _ _, List.drop_left, join_cut d.data.toList.length _ (Nat.le_refl _)]
  · rintro ⟨h1, h2⟩
    have h3 := lab_pos d.data.toList
    have h4 := end_below (s := h) (k := labN h.data.toList - labN d.data.toList) (by omega) (by unfold labN at *; omega)
    rw [h2]
    exact h4
theorem tail_tail {s : ByteArray} {m j : Nat} (h0 : 0 < j) (hj : j ≤ m) : tailB (tailB s m) j = tailB s j := by
  refine bytes_inj ?_
  rw [tailB, tail_labs (by omega), endB_data, tail_cut (by omega), tailB, endB_data, endL, endL, List.drop_drop]
  congr 2
  omega
theorem app_up {s : ByteArray} {m : Nat} {t : List UInt8} (h0 : 0 < m) (h : appL (tailB s m) t = true) : appL s t = true := by
  unfold appL appB at h ⊢
  have hr := lab_pos (tOf (bareL t)).data.toList
  rw [Bool.or_eq_true, Bool.and_eq_true, decide_eq_true_eq] at h ⊢
  rcases h with h | ⟨h, hw⟩
  · left
    obtain ⟨h1, h2⟩ := below_iff.1 h
    rw [tail_labs h0] at h1
    rw [tail_tail hr (by omega)] at h2
    exact below_iff.2 ⟨by omega, h2⟩
  · by_cases hm : m < labN s.data.toList
    · left
      have hl : labN (tOf (bareL t)).data.toList = m := by
        rw [← h, tail_labs h0]
        omega
      exact below_iff.2 ⟨by omega, by rw [hl, h]⟩
    · right
      rw [tail_all (by omega)] at h
      exact ⟨h, hw⟩
theorem app_down {s : ByteArray} {n : Nat} {t : List UInt8} (h : appL s t = true) (hz : sizeL t ≤ (n : Int)) : appL (tailB s (n + 1)) t = true := by
  have hd : labN (bareL t) = labN (tOf (bareL t)).data.toList := by rw [tOf_data]
  unfold sizeL at hz
  rw [hd] at hz
  unfold appL appB at h ⊢
  have hr := lab_pos (tOf (bareL t)).data.toList
  rw [Bool.or_eq_true, Bool.and_eq_true, decide_eq_true_eq] at h ⊢
  have key : belowB s (tOf (bareL t)) = true → labN (tOf (bareL t)).data.toList < n + 1 → belowB (tailB s (n + 1)) (tOf (bareL t)) = true := by
    intro hb hlt
    obtain ⟨h1, h2⟩ := below_iff.1 hb
    refine below_iff.2 ⟨?_, ?_⟩
    · rw [tail_labs (by omega)]
      omega
    · rw [tail_tail hr (by omega)]
      exact h2
  cases hw : wildL t with
  | true =>
    rw [hw] at hz h
    rw [if_pos rfl] at hz
    rcases h with h | ⟨_, h⟩
    · exact .inl (key h (by omega))
    · cases h
  | false =>
    have hle : labN (tOf (bareL t)).data.toList ≤ n + 1 := by
      rw [hw, if_neg Bool.false_ne_true] at hz
      split at hz <;> omega
    rcases h with h | ⟨h, _⟩
    · by_cases hlt : labN (tOf (bareL t)).data.toList < n + 1
      · exact .inl (key h hlt)
      · right
        have he : labN (tOf (bareL t)).data.toList = n + 1 := by omega
        obtain ⟨_, h2⟩ := below_iff.1 h
        rw [he] at h2
        exact ⟨h2.symm, rfl⟩
    · right
      rw [h] at *
      exact ⟨tail_all hle, rfl⟩
/-- Either the best so far counts, or an exception decides. -/
theorem suf_or {a : List UInt8 → Bool} : ∀ (ps : List (List UInt8)) (x : Int), x ≤ sufN a ps x ∨ ∀ y, sufN a ps y = sufN a ps x
  | [], x => .inl (Int.le_refl _)
  | t :: ts, x => by
    unfold sufN
    cases a t with
    | false => exact suf_or ts x
    | true =>
      cases excL t with
      | true => exact .inr fun _ => rfl
      | false =>
        rcases suf_or (a := a) ts (max x (sizeL t)) with h | h
        · left
          simp only [if_pos, Bool.false_eq_true, if_false]
          omega
        · right
          intro y
          simp only [if_pos, Bool.false_eq_true, if_false]
          exact h _
theorem suf_same {a b : List UInt8 → Bool} {n : Int} (h1 : ∀ t, b t = true → a t = true) (h2 : ∀ t, a t = true → sizeL t ≤ n → b t = true) : ∀ (ps : List (List UInt8)) (x : Int), sufN a ps x = n → sufN b ps x = n
  | [], x, h => h
  | t :: ts, x, h => by
    unfold sufN at h ⊢
    cases ha : a t with
    | false =>
      have hb : b t = false := by
        cases hb : b t with
        | false => rfl
        | true => have := h1 t hb; rw [ha] at this; cases this
      rw [ha, if_neg Bool.false_ne_true] at h
      rw [hb, if_neg Bool.false_ne_true]
      exact suf_same h1 h2 ts x h
    | true =>
      rw [ha, if_pos rfl] at h
      by_cases he : excL t = true
      · rw [if_pos he] at h
        rw [h2 t ha (by omega), if_pos rfl, if_pos he]
        exact h
      · rw [if_neg he] at h
        by_cases hs : sizeL t ≤ n
        · rw [h2 t ha hs, if_pos rfl, if_neg he]
          exact suf_same h1 h2 ts _ h
        · have hall : ∀ y, sufN a ts y = n := by
            rcases suf_or (a := a) ts (max x (sizeL t)) with h3 | h3
            · omega
            · intro y
              rw [h3 y, h]
          by_cases hb : b t = true
          · rw [if_pos hb, if_neg he]
            exact suf_same h1 h2 ts _ (hall _)
          · rw [if_neg hb]
            exact suf_same h1 h2 ts _ (hall _)
/-- A host that is no address and no suffix: its party. -/
theorem party_facts {ps : List (List UInt8)} {s : ByteArray} (hp : ps.all ruleL = true) (hs : hostB s = true) (ha : addrB s = false) (hi : isT ps s = false) :
    hostB (parT ps s) = true ∧ parT ps (parT ps s) = parT ps s ∧ isT ps (parT ps s) = false ∧ matchB s (parT ps s) = true := by
  obtain ⟨e1, h0, _⟩ := suf_nat (host := s) hp
  rw [isT, ha, Bool.not_false, Bool.and_true, decide_eq_false_iff_not, sufT] at hi
  obtain ⟨n, hn⟩ : ∃ n, sufN' ps s = n := ⟨_, rfl⟩
  rw [hn] at e1 h0 hi
  have hlt : n < labN s.data.toList := by
    by_cases h : n < labN s.data.toList
    · exact h
    · exact absurd (tail_all (by omega)) hi
  have hpe : parT ps s = tailB s (n + 1) := by rw [parT, hn]
  rw [hpe]
  have hl : labN (tailB s (n + 1)).data.toList = n + 1 := by
    rw [tail_labs (by omega)]
    omega
  have hh : hostB (tailB s (n + 1)) = true := by
    unfold tailB
    exact end_host hs (by unfold labN at *; omega)
  have hm : matchB s (tailB s (n + 1)) = true := by
    rw [matchB, hs, hh, Bool.true_and, Bool.true_and, matchL, Bool.or_eq_true, decide_eq_true_eq, ha, Bool.not_false, Bool.and_true]
    by_cases h : n + 1 < labN s.data.toList
    · exact .inr (below_iff.2 ⟨by omega, by rw [hl]⟩)
    · exact .inl (tail_all (by omega)).symm
  cases hq : addrB (tailB s (n + 1)) with
  | true =>
    have h4 : sufN' ps (tailB s (n + 1)) = 4 := by
      rw [sufN', sufI, hq, if_pos rfl]
      rfl
    have hl4 : labN (tailB s (n + 1)).data.toList = 4 := by
      rw [addrB, addrL, Bool.and_eq_true, decide_eq_true_eq] at hq
      exact hq.1
    refine ⟨hh, ?_, ?_, hm⟩
    · rw [parT, h4, tail_all (by omega)]
    · rw [isT, hq, Bool.not_true, Bool.and_false]
  | false =>
    have hsn : sufN (appL s) ps 1 = (n : Int) := by
      rw [← e1, sufI, ha, if_neg Bool.false_ne_true]
    have h5 : sufN (appL (tailB s (n + 1))) ps 1 = (n : Int) := suf_same (fun t => app_up (by omega)) (fun t => app_down) ps 1 hsn
    have h4 : sufN' ps (tailB s (n + 1)) = n := by
      rw [sufN', sufI, hq, if_neg Bool.false_ne_true, h5]
      rfl
    refine ⟨hh, ?_, ?_, hm⟩
    · rw [parT, h4, tail_all (by omega)]
    · rw [isT, hq, Bool.not_false, Bool.and_true, decide_eq_false_iff_not, sufT, h4]
      exact tail_ne h0 (by omega)
/-- The suffix of a host is that host or one that it matches. -/
theorem suffix_facts {ps : List (List UInt8)} {s : ByteArray} (hp : ps.all ruleL = true) (hs : hostB s = true) (hne : s ≠ sufT ps s) : matchB s (sufT ps s) = true := by
  obtain ⟨e1, h0, _⟩ := suf_nat (host := s) hp
  rw [sufT] at hne ⊢
  obtain ⟨n, hn⟩ : ∃ n, sufN' ps s = n := ⟨_, rfl⟩
  rw [hn] at e1 h0 hne ⊢
  have hlt : n < labN s.data.toList := by
    by_cases h : n < labN s.data.toList
    · exact h
    · exact absurd (tail_all (by omega)).symm hne
  have ha : addrB s = false := by
    cases hq : addrB s with
    | false => rfl
    | true =>
      have h4 : sufN' ps s = 4 := by
        rw [sufN', sufI, hq, if_pos rfl]
        rfl
      rw [addrB, addrL, Bool.and_eq_true, decide_eq_true_eq] at hq
      have hl4 : labN s.data.toList = 4 := hq.1
      omega
  have hh : hostB (tailB s n) = true := by
    unfold tailB
    exact end_host hs (by unfold labN at *; omega)
  rw [matchB, hs, hh, Bool.true_and, Bool.true_and, matchL, Bool.or_eq_true, ha, Bool.not_false, Bool.and_true]
  exact .inr (below_iff.2 ⟨by rw [tail_labs h0]; omega, by rw [tail_labs h0, Nat.min_eq_left (by omega)]⟩)
theorem hostL_of {s : ByteArray} (h : hostB s = true) : hostL s.data.toList = true := by rw [hostL, tOf_of, h]
theorem arg_zero {ps hs : List (List UInt8)} (h : rulesL ps = true) (hh : hs.all hostL = true) : argC ps hs = 0 := by
  have h1 := (rules_all h).1
  have h2 : hs.all shortL = true := by
    rw [List.all_eq_true] at hh ⊢
    intro x hx
    have h3 := hh x hx
    rw [hostL] at h3
    have h4 := (host_size h3).2
    rw [tOf_size] at h4
    rw [shortL, decide_eq_true_eq]
    omega
  rw [argC, if_pos ⟨by omega, h2⟩, if_pos h, if_pos hh]
theorem same_turn {ps : List (List UInt8)} {s t : ByteArray} (h : rulesL ps = true) (hs : hostB s = true) (ht : hostB t = true) : sameV ps t s = sameV ps s t := by
  have a1 : argC ps [t.data.toList, s.data.toList] = 0 := arg_zero h (by simp [hostL_of hs, hostL_of ht])
  have a2 : argC ps [s.data.toList, t.data.toList] = 0 := arg_zero h (by simp [hostL_of hs, hostL_of ht])
  rw [sameV, sameV, a1, a2, if_pos rfl, if_pos rfl, Bool.eq_iff_iff, decide_eq_true_eq, decide_eq_true_eq]
  exact eq_comm
end Go.Proofs.YtihlflhgbnfkkaaGreatDoor
