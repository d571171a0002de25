/- The program's isPlain and pairOK: what they answer. No condition of their own. -/
import Derived.Test.YtcaabnnkjnleeaaDoorSetMath
import Derived.Test.YtcaabnnkjnleeaaDoorSplit
import Derived.Test.YtcaabnnkjnleeaaDoorShelf
namespace Go.Proofs.YtcaabnnkjnleeaaDoor
open Go.ChangeShapes Go.WideShapes Go.ChangeAt Go.WideMaps Go.WideElems Go.RowKit

theorem all_find (s : ByteArray) (c : UInt8) : allB s (noneB c) = !decide (findB s c < s.size) := by
  have h : findB s c < s.size ↔ ∃ x ∈ s.data.toList, (x == c) = true := by
    rw [findB, show s.size = s.data.toList.length by simp]
    exact List.findIdx_lt_length
  by_cases g : findB s c < s.size
  · obtain ⟨x, hx, hc⟩ := h.1 g
    rw [decide_eq_true g]
    show s.data.toList.all (noneB c) = false
    rw [List.all_eq_false]
    exact ⟨x, hx, by simp [noneB, hc]⟩
  · rw [decide_eq_false g]
    show s.data.toList.all (noneB c) = true
    rw [List.all_eq_true]
    intro x hx
    have : ¬ (x == c) = true := fun e => g (h.2 ⟨x, hx, e⟩)
    simpa [noneB] using this
theorem contains_any (s : ByteArray) (c : UInt8) (w : World) : Calls Tryd.prog 98 #[.string s, .string ⟨#[c]⟩] w fun e w' => e = .returned (.bool (!allB s (noneB c))) ∧ w = w' := by
  refine (Tryd.strings_Contains_one s c w).mono ?_
  rintro e w' ⟨rfl, rfl⟩
  refine ⟨?_, rfl⟩
  rw [all_find, index_find]
  by_cases g : findB s c < s.size
  · rw [if_pos g, decide_eq_true g]
    simp
  · rw [if_neg g, decide_eq_false g]
    first | rfl | simp
theorem prefix_head (s : ByteArray) (c : UInt8) : Lib.hasPrefix s.data.toList [c] = (s.data.toList.head? == some c) := by
  unfold Lib.hasPrefix
  cases s.data.toList with
  | nil => rfl
  | cons b l =>
    simp only [List.isPrefixOf, Bool.and_true, List.head?_cons, Option.some_beq_some]
    exact Bool.beq_comm
theorem prefix_any (s : ByteArray) (c : UInt8) (w : World) : Calls Tryd.prog 67 #[.string s, .string ⟨#[c]⟩] w fun e w' => e = .returned (.bool (s.data.toList.head? == some c)) ∧ w = w' := by
  refine (Tryd.strings_HasPrefix s ⟨#[c]⟩ w).mono ?_
  rintro e w' ⟨rfl, rfl⟩
  refine ⟨?_, rfl⟩
  show Ending.returned (.bool (Lib.hasPrefix s.data.toList [c])) = _
  rw [prefix_head]
end Go.Proofs.YtcaabnnkjnleeaaDoor
