/- Plain facts on labels, hosts, numerals and paths: lists of bytes alone; no program is named here. No condition. -/
import Derived.Test.YtcaabnnkjnleeaaDoorBytes
import Derived.Lib.SplitLaws
import Derived.Lib.AtoiAll
import Derived.Lib.ItoaNum
namespace Go.Proofs.YtcaabnnkjnleeaaDoor
open Go.WideShapes

/-- The parts of a list of bytes between some byte: 'done' are those that lie behind, 'cur' is the part that goes on. -/
def cutAcc (c : UInt8) (done : List (List UInt8)) (cur : List UInt8) : List UInt8 → List (List UInt8)
  | [] => done ++ [cur]
  | b :: l => if b = c then cutAcc c (done ++ [cur]) [] l else cutAcc c done (cur ++ [b]) l
def cutL (c : UInt8) (l : List UInt8) : List (List UInt8) := cutAcc c [] [] l
theorem cutAcc_done (c : UInt8) : ∀ (l cur : List UInt8) (done : List (List UInt8)), cutAcc c done cur l = done ++ cutAcc c [] cur l
  | [], cur, done => by simp [cutAcc]
  | b :: l, cur, done => by
    rw [cutAcc, cutAcc]
    split
    · rw [cutAcc_done c l [] (done ++ [cur]), cutAcc_done c l [] ([] ++ [cur])]
      simp
    · exact cutAcc_done c l _ done
theorem cutAcc_plain (c : UInt8) : ∀ (l cur m : List UInt8), (∀ b ∈ l, b ≠ c) → cutAcc c [] cur (l ++ m) = cutAcc c [] (cur ++ l) m
  | [], cur, m, _ => by simp
  | b :: l, cur, m, h => by
    rw [List.cons_append, cutAcc, if_neg (h b (by simp)), cutAcc_plain c l _ m (fun x hx => h x (by simp [hx]))]
    simp
theorem cutL_none {c : UInt8} {l : List UInt8} (h : ∀ b ∈ l, b ≠ c) : cutL c l = [l] := by
  have := cutAcc_plain c l [] [] h
  simpa [cutL, cutAcc] using this
theorem cutL_hit {c : UInt8} {l r : List UInt8} (h : ∀ b ∈ l, b ≠ c) : cutL c (l ++ c :: r) = l :: cutL c r := by
  rw [cutL, cutAcc_plain c l [] (c :: r) h, cutAcc, if_pos rfl, cutAcc_done]
  simp [cutL]
theorem cutL_pos (c : UInt8) (l : List UInt8) : 1 ≤ (cutL c l).length := by
  have h : ∀ (l cur : List UInt8) (done : List (List UInt8)), 1 ≤ (cutAcc c done cur l).length := by
    intro l
    induction l with
    | nil => intro cur done; simp [cutAcc]
    | cons b l ih =>
      intro cur done
      rw [cutAcc]
      split
      · exact ih _ _
      · exact ih _ _
  exact h _ _ _
/-- How many parts there are, and how long they are together. -/
def lenL (d : List (List UInt8)) : Nat := (d.map List.length).foldr (· + ·) 0
theorem lenL_append (d e : List (List UInt8)) : lenL (d ++ e) = lenL d + lenL e := by
  induction d with
  | nil => simp [lenL]
  | cons x d ih =>
    simp only [lenL, List.cons_append, List.map_cons, List.foldr_cons] at *
    omega
theorem cutAcc_size (c : UInt8) : ∀ (l cur : List UInt8) (done : List (List UInt8)), lenL (cutAcc c done cur l) + (cutAcc c done cur l).length = lenL done + done.length + cur.length + l.length + 1
  | [], cur, done => by
    rw [cutAcc, lenL_append]
    simp [lenL]
    omega
  | b :: l, cur, done => by
    rw [cutAcc]
    split
    · rw [cutAcc_size c l [] (done ++ [cur]), lenL_append]
      simp [lenL]
      omega
    · rw [cutAcc_size c l _ done]
      simp
      omega
theorem lenL_mem {d : List (List UInt8)} {x : List UInt8} (h : x ∈ d) : x.length ≤ lenL d := by
  induction d with
  | nil => cases h
  | cons y d ih =>
    simp only [lenL, List.map_cons, List.foldr_cons] at *
    rcases List.mem_cons.1 h with rfl | h
    · omega
    · have := ih h
      omega
theorem cutL_size (c : UInt8) (l : List UInt8) : lenL (cutL c l) + (cutL c l).length = l.length + 1 := by
  have := cutAcc_size c l [] []
  simpa [cutL, lenL] using this
theorem cutL_le (c : UInt8) (l : List UInt8) : (cutL c l).length ≤ l.length + 1 := by
  have := cutL_size c l
  omega
theorem cutL_mem {c : UInt8} {l x : List UInt8} (h : x ∈ cutL c l) : x.length ≤ l.length := by
  have h1 := lenL_mem h
  have h2 := cutL_size c l
  have h3 := cutL_pos c l
  omega

/-- A letter, a digit, a stroke or a line. -/
def labelB (b : UInt8) : Bool := decide (97 ≤ b.toNat ∧ b.toNat ≤ 122 ∨ 48 ≤ b.toNat ∧ b.toNat ≤ 57 ∨ b.toNat = 45 ∨ b.toNat = 95)
theorem label_iff (b : UInt8) : labelB b = true ↔ 97 ≤ b.toNat ∧ b.toNat ≤ 122 ∨ 48 ≤ b.toNat ∧ b.toNat ≤ 57 ∨ b.toNat = 45 ∨ b.toNat = 95 := by simp [labelB]
def goodL (x : List UInt8) : Bool := !x.isEmpty && x.all labelB
theorem label_point : labelB 46 = false := by decide
/-- At most n labels, each good, as the program goes through them. -/
def hostN : Nat → List UInt8 → Bool
  | 0, _ => false
  | n + 1, l => match l.dropWhile labelB with
    | [] => !l.isEmpty
    | b :: r => decide (b = 46) && !(l.takeWhile labelB).isEmpty && hostN n r
def partsOK (n : Nat) (d : List (List UInt8)) : Bool := decide (d.length ≤ n) && d.all goodL
theorem hostN_eq : ∀ (n : Nat) (l : List UInt8), hostN n l = partsOK n (cutL 46 l)
  | 0, l => by
    have := cutL_pos 46 l
    rw [hostN, partsOK, decide_eq_false (by omega)]
    rfl
  | n + 1, l => by
    rw [hostN]
    have hl : l = l.takeWhile labelB ++ l.dropWhile labelB := (List.takeWhile_append_dropWhile).symm
    have hall : ∀ b ∈ l.takeWhile labelB, labelB b = true := fun b hb => by
      have h := List.all_takeWhile (p := labelB) (l := l)
      exact List.all_eq_true.1 h b hb
    have hne : ∀ b ∈ l.takeWhile labelB, b ≠ 46 := fun b hb e => by
      have := hall b hb
      rw [e, label_point] at this
      cases this
    cases hd : l.dropWhile labelB with
    | nil =>
      rw [hd, List.append_nil] at hl
      rw [← hl] at hall hne
      rw [cutL_none hne]
      have : l.all labelB = true := List.all_eq_true.2 hall
      simp [partsOK, goodL, this]
    | cons b r =>
      have hb : labelB b = false := by
        have h := List.head?_dropWhile_not (p := labelB) l
        rw [hd] at h
        simpa using h
      rw [hd] at hl
      show (decide (b = 46) && !(l.takeWhile labelB).isEmpty && hostN n r) = partsOK (n + 1) (cutL 46 l)
      by_cases he : b = 46
      · subst he
        have e1 : cutL 46 l = l.takeWhile labelB :: cutL 46 r := by
          rw (occs := .pos [1]) [hl]
          exact cutL_hit hne
        have ht : (l.takeWhile labelB).all labelB = true := List.all_eq_true.2 hall
        rw [e1, hostN_eq n r]
        rw [Bool.eq_iff_iff]
        simp only [partsOK, goodL, List.length_cons, List.all_cons, ht, Bool.and_true, Bool.and_eq_true, decide_eq_true_eq, Nat.add_le_add_iff_right, true_and]
        constructor
        · rintro ⟨h1, h2, h3⟩
          exact ⟨h2, h1, h3⟩
        · rintro ⟨h2, h1, h3⟩
          exact ⟨h1, h2, h3⟩
      · rw [decide_eq_false he]
        symm
        simp only [Bool.false_and]
        unfold partsOK
        rw [Bool.and_eq_false_iff]
        refine .inr ?_
        -- the first part holds b
        have key : ∀ (m cur : List UInt8), cur.all labelB = false → (cutAcc 46 [] cur m).all goodL = false := by
          intro m
          induction m with
          | nil =>
            intro cur hc
            simp [cutAcc, goodL]
            intro _
            simpa using hc
          | cons x m ih =>
            intro cur hc
            rw [cutAcc]
            split
            · rw [cutAcc_done]
              simp [goodL]
              intro _ h
              have : cur.all labelB = true := by simpa using h
              rw [this] at hc
              cases hc
            · exact ih _ (by rw [List.all_append, hc]; rfl)
        rw [hl, cutL, cutAcc_plain 46 _ [] _ hne, cutAcc, if_neg he]
        exact key r _ (by simp [hb])
/-- What HostOK answers. -/
def hostB (s : ByteArray) : Bool := decide (s.size ≤ 40) && hostN 6 s.data.toList
theorem host_size {s : ByteArray} (h : hostB s = true) : 1 ≤ s.size ∧ s.size ≤ 40 := by
  simp only [hostB, Bool.and_eq_true, decide_eq_true_eq] at h
  refine ⟨?_, h.1⟩
  rcases Nat.eq_zero_or_pos s.size with h0 | h0
  · have : s.data.toList = [] := List.eq_nil_of_length_eq_zero (by simpa using h0)
    rw [this] at h
    exact absurd h.2 (by decide)
  · exact h0

/-! The parts that strings.Split makes. -/
theorem index_one (c : UInt8) : ∀ l : List UInt8, Lib.index l [c] = if l.findIdx (· == c) < l.length then (l.findIdx (· == c) : Int) else -1 := by
  intro l
  by_cases h : l.findIdx (· == c) < l.length
  · rw [if_pos h]
    refine Lib.index_first (by omega) ?_ ?_
    · rw [Lib.occAt_iff_take _ _ _ (by simp; omega)]
      have hg := List.findIdx_getElem (p := (· == c)) (xs := l) (w := h)
      rw [List.drop_eq_getElem_cons h]
      show ([_] == [c]) = true
      have : l[l.findIdx (· == c)] = c := by simpa using hg
      rw [this]
      simp
    · intro j hj
      rw [Lib.occAt_iff_take _ _ _ (by simp; omega)]
      have hj2 : j < l.length := by omega
      have hg := List.not_of_lt_findIdx hj
      rw [List.drop_eq_getElem_cons hj2]
      show ([l[j]] == [c]) = false
      have : ¬ l[j] = c := by simpa using hg
      simp [this]
  · rw [if_neg h]
    refine Lib.index_none fun j hj => ?_
    by_cases hj2 : j < l.length
    · rw [Lib.occAt_iff_take _ _ _ (by simp; omega)]
      have hle := List.findIdx_le_length (xs := l) (p := (· == c))
      have hg := List.not_of_lt_findIdx (p := (· == c)) (xs := l) (i := j) (by omega)
      rw [List.drop_eq_getElem_cons hj2]
      show ([l[j]] == [c]) = false
      have : ¬ l[j] = c := by simpa using hg
      simp [this]
    · rw [Lib.occAt, List.drop_eq_nil_of_le (by omega)]
      rfl
theorem find_split {c : UInt8} {l : List UInt8} (h : l.findIdx (· == c) < l.length) :
    l = l.take (l.findIdx (· == c)) ++ c :: l.drop (l.findIdx (· == c) + 1) ∧ ∀ b ∈ l.take (l.findIdx (· == c)), b ≠ c := by
  have hg := List.findIdx_getElem (p := (· == c)) (xs := l) (w := h)
  have he : l[l.findIdx (· == c)] = c := by simpa using hg
  refine ⟨?_, ?_⟩
  · have e := List.take_append_drop (l.findIdx (· == c)) l
    rw [List.drop_eq_getElem_cons h, he] at e
    exact e.symm
  · intro b hb
    obtain ⟨j, hj, rfl⟩ := List.mem_iff_getElem.1 hb
    rw [List.length_take] at hj
    have := List.not_of_lt_findIdx (p := (· == c)) (xs := l) (i := j) (by omega)
    rw [List.getElem_take]
    simpa using this
theorem find_none {c : UInt8} {l : List UInt8} (h : ¬ l.findIdx (· == c) < l.length) : ∀ b ∈ l, b ≠ c := by
  intro b hb
  obtain ⟨j, hj, rfl⟩ := List.mem_iff_getElem.1 hb
  have hle := List.findIdx_le_length (xs := l) (p := (· == c))
  have := List.not_of_lt_findIdx (p := (· == c)) (xs := l) (i := j) (by omega)
  simpa using this
theorem split_cut (c : UInt8) : ∀ (n : Nat) (l : List UInt8), l.length ≤ n → Lib.splitK [c] 0 (Lib.count l [c]) l = cutL c l
  | n, l, hn => by
    by_cases h : l.findIdx (· == c) < l.length
    · obtain ⟨e, hne⟩ := find_split h
      have hi : Lib.index l [c] = (l.findIdx (· == c) : Int) := by rw [index_one, if_pos h]
      rw [Lib.count_hit (by simp) hi, Nat.add_comm 1, Lib.splitK, hi]
      rw [if_neg (by intro hh; have := beq_iff_eq.1 hh; omega)]
      obtain ⟨m, rfl⟩ : ∃ m, n = m + 1 := ⟨n - 1, by omega⟩
      simp only [Int.toNat_natCast, List.length_cons, List.length_nil, Nat.zero_add, Nat.add_zero]
      rw [split_cut c m _ (by rw [List.length_drop]; omega)]
      have e2 := cutL_hit (r := l.drop (l.findIdx (· == c) + 1)) hne
      rw [← e] at e2
      exact e2.symm
    · have hi : Lib.index l [c] = -1 := by rw [index_one, if_neg h]
      rw [Lib.count_miss hi, Lib.splitK, cutL_none (find_none h)]
  termination_by n => n
theorem splitB_cut (s : ByteArray) (c : UInt8) : (Lib.splitB ⟨#[c]⟩ 0 (Lib.countB s ⟨#[c]⟩) s).map (·.data.toList) = cutL c s.data.toList := by
  rw [Lib.splitB_data]
  exact split_cut c _ _ (Nat.le_refl _)
theorem splitB_vals (s : ByteArray) (c : UInt8) : (Lib.splitB ⟨#[c]⟩ 0 (Lib.countB s ⟨#[c]⟩) s) = (cutL c s.data.toList).map fun l => ⟨l.toArray⟩ := by
  rw [← splitB_cut, List.map_map]
  conv => lhs; rw [← List.map_id (Lib.splitB ⟨#[c]⟩ 0 (Lib.countB s ⟨#[c]⟩) s)]
  refine List.map_congr_left fun x _ => ?_
  simp
theorem countB_cut (s : ByteArray) (c : UInt8) : Lib.countB s ⟨#[c]⟩ + 1 = (cutL c s.data.toList).length := by
  rw [← splitB_cut, List.length_map, Lib.splitB_all ⟨#[c]⟩ (Nat.le_refl 1) 0 _ s rfl]
end Go.Proofs.YtcaabnnkjnleeaaDoor
