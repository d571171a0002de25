/- Trim of the program and of the model: what they answer; the law's walk. No condition of its own. -/
import Derived.Test.YtcaabnnkjnleeaaDoorScan
import Derived.Test.YtcaabnnkjnleeaaDoorClone
import Derived.Shelf.Strings.SlTrimAscii
namespace Go.Proofs.YtcaabnnkjnleeaaDoor
open Go.ChangeShapes Go.WideShapes Go.ChangeAt Go.WideMaps Go.WideElems Go.RowKit

def blankB (b : UInt8) : Bool := b == 32 || b == 9
def leftL (l : List UInt8) : List UInt8 := l.dropWhile blankB
def rightL (l : List UInt8) : List UInt8 := (l.reverse.dropWhile blankB).reverse
theorem drop_nil : ∀ {l : List UInt8}, l.dropWhile blankB = [] → ∀ c ∈ l, blankB c = true
  | [], _, _, h => by cases h
  | b :: l, e, c, h => by
    cases hb : blankB b with
    | false => rw [List.dropWhile_cons, if_neg (by simp [hb])] at e; cases e
    | true =>
      rw [List.dropWhile_cons, if_pos hb] at e
      rcases List.mem_cons.1 h with rfl | h
      · exact hb
      · exact drop_nil e c h
theorem right_snoc_blank {l : List UInt8} {b : UInt8} (h : blankB b = true) : rightL (l ++ [b]) = rightL l := by
  simp [rightL, h]
theorem right_snoc {l : List UInt8} {b : UInt8} (h : blankB b = false) : rightL (l ++ [b]) = l ++ [b] := by
  simp [rightL, h]
theorem left_all {l m : List UInt8} (h : ∀ b ∈ l, blankB b = true) : leftL (l ++ m) = leftL m := by
  induction l with
  | nil => rfl
  | cons b l ih =>
    rw [leftL, List.cons_append, List.dropWhile_cons, if_pos (h b (by simp))]
    exact ih (fun c hc => h c (by simp [hc]))
/-- From both ends, whichever first. -/
theorem left_right (l : List UInt8) : leftL (rightL l) = rightL (leftL l) := by
  induction l with
  | nil => rfl
  | cons b l ih =>
    cases hb : blankB b with
    | true =>
      have e1 : leftL (b :: l) = leftL l := by rw [leftL, List.dropWhile_cons, if_pos hb]; rfl
      rw [e1, ← ih]
      by_cases hall : ∀ c ∈ l, blankB c = true
      · have hr : ∀ m : List UInt8, (∀ c ∈ m, blankB c = true) → rightL m = [] := fun m hm => by
          have : m.reverse.dropWhile blankB = [] := by
            have := left_all (l := m.reverse) (m := []) (fun c hc => hm c (by simpa using hc))
            simpa [leftL] using this
          simp [rightL, this]
        rw [hr l hall, hr (b :: l) (fun c hc => by
          rcases List.mem_cons.1 hc with rfl | hc
          · exact hb
          · exact hall c hc)]
      · have hr : rightL (b :: l) = b :: rightL l := by
          obtain ⟨c, hc⟩ := Classical.not_forall.1 hall
          obtain ⟨hc1, hc2⟩ := Classical.not_imp.1 hc
          have hne : l.reverse.dropWhile blankB ≠ [] := fun e => by
            exact hc2 (drop_nil e c (by simpa using hc1))
          rw [rightL, List.reverse_cons, List.dropWhile_append]
          simp [rightL, hne]
        rw [hr]
        rw [leftL, List.dropWhile_cons, if_pos hb]
        rfl
    | false =>
      have e1 : leftL (b :: l) = b :: l := by rw [leftL, List.dropWhile_cons, if_neg (by simp [hb])]
      rw [e1]
      have hr : ∃ m, rightL (b :: l) = b :: m := by
        rw [rightL, List.reverse_cons, List.dropWhile_append]
        cases h : (l.reverse.dropWhile blankB).isEmpty
        · exact ⟨(l.reverse.dropWhile blankB).reverse, by simp⟩
        · exact ⟨[], by simp [hb]⟩
      obtain ⟨m, hm⟩ := hr
      rw [hm, leftL, List.dropWhile_cons, if_neg (by simp [hb])]
/-- What Trim answers. -/
def trimB (s : ByteArray) : ByteArray := if s.size ≤ 65536 then ⟨(rightL (leftL s.data.toList)).toArray⟩ else ⟨#[]⟩
theorem tail_of {u : ByteArray} (h : 0 < u.size) : u.data.toList = u[0] :: (u.extract 1 u.size).data.toList := by
  have hl : 0 < u.data.toList.length := by simpa using h
  rw [Lib.extract_data, List.take_of_length_le (by simp)]
  rw [← List.drop_zero (l := u.data.toList), List.drop_eq_getElem_cons hl]
  simp
  rfl
theorem init_of {u : ByteArray} (h : 0 < u.size) : u.data.toList = (u.extract 0 (u.size - 1)).data.toList ++ [u[u.size - 1]'(by omega)] := by
  have hl : u.size - 1 < u.data.toList.length := by simp; omega
  rw [Lib.extract_data, List.drop_zero, Nat.sub_zero]
  have e := List.take_succ_eq_append_getElem hl
  rw [List.take_of_length_le (by simp; omega)] at e
  exact e
def TrimRel1 (s : ByteArray) (v : Value) : Prop := ∃ u : ByteArray, v = .string u ∧ leftL u.data.toList = leftL s.data.toList ∧ u.size ≤ s.size
def TrimRel2 (s : ByteArray) (v : Value) : Prop := ∃ u : ByteArray, v = .string u ∧ rightL u.data.toList = rightL (leftL s.data.toList) ∧ u.size ≤ s.size
def sizeOfV : Value → Nat | .string u => u.size | _ => 0
theorem drop_le (p : UInt8 → Bool) : ∀ l : List UInt8, (l.dropWhile p).length ≤ l.length
  | [] => Nat.le_refl _
  | b :: l => by
    rw [List.dropWhile_cons]
    split
    · exact Nat.le_trans (drop_le p l) (by simp)
    · exact Nat.le_refl _
theorem trimS_eq (l : List UInt8) : Lib.trimS l [32, 9] = rightL (leftL l) := by
  have e : (fun b : UInt8 => [32, 9].contains b) = blankB := by
    funext b
    rw [Bool.eq_iff_iff]
    simp [blankB]
  rw [← left_right]
  simp only [Lib.trimS, Lib.trimLeftS, Lib.trimRightS, leftL, rightL, e]
theorem trim_size (s : ByteArray) : (⟨(rightL (leftL s.data.toList)).toArray⟩ : ByteArray).size ≤ s.size := by
  have h1 := drop_le blankB s.data.toList
  have h2 := drop_le blankB (leftL s.data.toList).reverse
  have : (rightL (leftL s.data.toList)).length ≤ s.size := by
    simp [rightL, leftL] at *
    omega
  show (rightL (leftL s.data.toList)).toArray.size ≤ s.size
  rw [List.size_toArray]
  exact this
end Go.Proofs.YtcaabnnkjnleeaaDoor
