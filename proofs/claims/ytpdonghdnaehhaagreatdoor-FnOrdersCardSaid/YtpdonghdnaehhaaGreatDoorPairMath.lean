/- Plain facts on the pairs of a header that tells cookies: lists of bytes alone. No program is named here. No condition. -/
import Derived.Test.YtpdonghdnaehhaaGreatDoorHostMath
namespace Go.Proofs.YtpdonghdnaehhaaGreatDoor
open Go.WideShapes

theorem cut_at {c : UInt8} {l : List UInt8} (h : l.findIdx (· == c) < l.length) : cutL c l = l.take (l.findIdx (· == c)) :: cutL c (l.drop (l.findIdx (· == c) + 1)) := by
  obtain ⟨e, hne⟩ := find_split h
  have e2 := cutL_hit (r := l.drop (l.findIdx (· == c) + 1)) hne
  rw [← e] at e2
  exact e2
theorem cut_whole {c : UInt8} {l : List UInt8} (h : ¬ l.findIdx (· == c) < l.length) : cutL c l = [l] := cutL_none (find_none h)
/-- The name and the value of a part. -/
def hitL (c : UInt8) (l : List UInt8) : Bool := decide (l.findIdx (· == c) < l.length)
def nameL (p : List UInt8) : List UInt8 := if hitL 61 p then p.take (p.findIdx (· == 61)) else []
def pvalL (p : List UInt8) : List UInt8 := if hitL 61 p then p.drop (p.findIdx (· == 61) + 1) else p
def pairL (p : List UInt8) : List (List UInt8) := [nameL p, pvalL p]
def okP (p : List UInt8) : Bool := p.head? == some 32
def pairsL (ps : List (List UInt8)) : List (List UInt8) := ps.flatMap fun p => pairL (p.drop 1)
theorem pairs_snoc (ps : List (List UInt8)) (p : List UInt8) : pairsL (ps ++ [p]) = pairsL ps ++ pairL (p.drop 1) := by simp [pairsL]
theorem pairs_take {ps : List (List UInt8)} {k : Nat} (h : k < ps.length) : pairsL (ps.take (k + 1)) = pairsL (ps.take k) ++ pairL (ps[k].drop 1) := by
  rw [List.take_succ_eq_append_getElem h, pairs_snoc]
theorem pairs_len : ∀ ps : List (List UInt8), (pairsL ps).length = 2 * ps.length
  | [] => rfl
  | p :: ps => by
    have ih := pairs_len ps
    simp only [pairsL, List.flatMap_cons, List.length_append, pairL, List.length_cons, List.length_nil] at ih ⊢
    omega
def semi (s : ByteArray) : List (List UInt8) := cutL 59 (32 :: s.data.toList)
theorem semi_len (s : ByteArray) : (semi s).length ≤ s.size + 2 := by
  have := cutL_le 59 (32 :: s.data.toList)
  simpa [semi] using this
theorem semi_pos (s : ByteArray) : 1 ≤ (semi s).length := cutL_pos _ _
theorem semi_mem {s : ByteArray} {x : List UInt8} (h : x ∈ semi s) : x.length ≤ s.size + 1 := by
  have := cutL_mem h
  simpa using this
def allOK (s : ByteArray) : Bool := (semi s).all okP
/-- What ReadPairs answers. -/
def prsL (s : ByteArray) : List (List UInt8) := if s.size ≤ 65536 ∧ 0 < s.size ∧ allOK s = true then pairsL (semi s) else []
def prsC (s : ByteArray) : Int := if s.size ≤ 65536 then (if 0 < s.size then (if allOK s = true then 0 else 3) else 0) else 2
theorem prs_len (s : ByteArray) : (prsL s).length ≤ 131080 := by
  rw [prsL]
  split
  · rename_i h
    rw [pairs_len]
    have := semi_len s
    omega
  · exact Nat.zero_le _
/-- The first k parts are well. -/
def GoodTo (s : ByteArray) (k : Nat) : Prop := ∀ j (hj : j < (semi s).length), j < k → okP (semi s)[j] = true
theorem good_zero (s : ByteArray) : GoodTo s 0 := fun _ _ h => by omega
theorem good_next {s : ByteArray} {k : Nat} (h : GoodTo s k) (hk : k < (semi s).length) (ho : okP (semi s)[k] = true) : GoodTo s (k + 1) := fun j hj h2 => by
  by_cases e : j = k
  · subst e
    exact ho
  · exact h j hj (by omega)
theorem all_good {s : ByteArray} {k : Nat} (h : GoodTo s k) (hk : (semi s).length ≤ k) : allOK s = true := by
  rw [allOK, List.all_eq_true]
  intro x hx
  obtain ⟨j, hj, rfl⟩ := List.mem_iff_getElem.1 hx
  exact h j hj (by omega)
theorem all_bad {s : ByteArray} {k : Nat} (hk : k < (semi s).length) (h : okP (semi s)[k] = false) : allOK s = false := by
  rw [allOK, List.all_eq_false]
  exact ⟨_, List.getElem_mem hk, by simp [h]⟩
theorem first_ok : ∀ r : List UInt8, okP ((cutL 59 r).getD 0 []) = (r.head? == some 32)
  | [] => rfl
  | b :: r => by
    by_cases h : b = 59
    · subst h
      rw [show cutL 59 (59 :: r) = cutAcc 59 ([] ++ [[]]) [] r by rw [cutL, cutAcc, if_pos rfl], cutAcc_done]
      rfl
    · by_cases hr : (b :: r).findIdx (· == 59) < (b :: r).length
      · rw [cut_at hr]
        have hb : (b == 59) = false := by simpa using h
        simp [List.findIdx_cons, hb, okP]
      · rw [cut_whole hr]
        rfl
/-- What is still to be read: the parts from k on, of which the first begins with the blank that does not count. -/
def RestIs (s : ByteArray) (k : Nat) (t : List UInt8) : Prop := (semi s).drop k = cutL 59 (32 :: t)
theorem rest_start (s : ByteArray) : RestIs s 0 s.data.toList := rfl
theorem find_blank (t : List UInt8) : (32 :: t : List UInt8).findIdx (· == 59) = t.findIdx (· == 59) + 1 := by
  rw [List.findIdx_cons, show ((32 : UInt8) == 59) = false by decide]
  rfl
theorem rest_lt {s : ByteArray} {k : Nat} {t : List UInt8} (h : RestIs s k t) : k < (semi s).length := by
  have h1 := congrArg List.length h
  have h2 := cutL_pos 59 (32 :: t)
  rw [List.length_drop] at h1
  omega
theorem rest_hit {s : ByteArray} {k : Nat} {t : List UInt8} (h : RestIs s k t) (hf : t.findIdx (· == 59) < t.length) :
    ∃ hk : k < (semi s).length, (semi s)[k] = 32 :: t.take (t.findIdx (· == 59)) ∧ (semi s).drop (k + 1) = cutL 59 (t.drop (t.findIdx (· == 59) + 1)) := by
  have hk := rest_lt h
  refine ⟨hk, ?_⟩
  have h1 := h
  unfold RestIs at h1
  rw [List.drop_eq_getElem_cons hk, cut_at (by rw [find_blank]; simpa using hf), find_blank] at h1
  injection h1 with a b
  exact ⟨a, b⟩
theorem rest_last {s : ByteArray} {k : Nat} {t : List UInt8} (h : RestIs s k t) (hf : ¬ t.findIdx (· == 59) < t.length) :
    ∃ hk : k < (semi s).length, (semi s)[k] = 32 :: t ∧ (semi s).length = k + 1 := by
  have hk := rest_lt h
  refine ⟨hk, ?_⟩
  have h1 := h
  unfold RestIs at h1
  rw [List.drop_eq_getElem_cons hk, cut_whole (by rw [find_blank]; simpa using hf)] at h1
  injection h1 with a b
  refine ⟨a, ?_⟩
  have := congrArg List.length b
  rw [List.length_drop] at this
  simp at this
  omega
theorem rest_next {s : ByteArray} {k : Nat} {r t : List UInt8} (h : (semi s).drop (k + 1) = cutL 59 r) (hr : r = 32 :: t) : RestIs s (k + 1) t := by
  subst hr
  exact h
theorem rest_bad {s : ByteArray} {k : Nat} {r : List UInt8} (h : (semi s).drop (k + 1) = cutL 59 r) (hr : (r.head? == some 32) = false) : allOK s = false := by
  have h2 := cutL_pos 59 r
  have h1 := congrArg List.length h
  rw [List.length_drop] at h1
  have hk : k + 1 < (semi s).length := by omega
  refine all_bad hk ?_
  have e0 : (cutL 59 r)[0]? = some (semi s)[k + 1] := by
    rw [← h]
    simp [List.getElem?_drop, hk]
  have e : (cutL 59 r).getD 0 [] = (semi s)[k + 1] := by
    rw [List.getD_eq_getElem?_getD, e0]
    rfl
  rw [← e, first_ok]
  exact hr
end Go.Proofs.YtpdonghdnaehhaaGreatDoor
