/- SplitAt of the program and of the model: what they answer; the law's walk. No condition of its own. -/
import Derived.Test.YtcaabnnkjnleeaaDoorScan
import Derived.Test.YtcaabnnkjnleeaaDoorClone
import Derived.Deep.RegionHeld3
import Derived.Deep.QuietTactic
import Derived.BigQuiet
import Derived.RegionTactic
import Derived.WalkSmall
import Derived.IntWalk
namespace Go.Proofs.YtcaabnnkjnleeaaDoor
open Go.ChangeShapes Go.WideShapes Go.ChangeAt Go.WideMaps Go.WideElems Go.RowKit

def leftB (t : ByteArray) (c : UInt8) : ByteArray := if t.size ≤ 65536 then (if findB t c < t.size then t.extract 0 (findB t c) else t) else ⟨#[]⟩
def rightB (t : ByteArray) (c : UInt8) : ByteArray := if t.size ≤ 65536 ∧ findB t c < t.size then t.extract (findB t c + 1) t.size else ⟨#[]⟩
def cutB (t : ByteArray) (c : UInt8) : Bool := decide (t.size ≤ 65536 ∧ findB t c < t.size)
theorem three_end {a b a' b' : ByteArray} {p p' : Bool} (h : a = a') (h' : b = b') (hp : p = p') : Ending.returned (.tuple #[.string a, .string b, .bool p]) = .returned (.tuple #[.string a', .string b', .bool p']) := by rw [h, h', hp]
theorem index_list (c : UInt8) : ∀ l : List UInt8, Lib.indexByte l c = if l.findIdx (· == c) < l.length then (l.findIdx (· == c) : Int) else -1
  | [] => rfl
  | b :: l => by
    have ih := index_list c l
    have hle := List.findIdx_le_length (xs := l) (p := (· == c))
    simp only [Lib.indexByte, List.findIdx_cons, List.length_cons]
    cases hb : (b == c)
    · simp only [Bool.false_eq_true, if_false, cond_false, ih]
      by_cases h : l.findIdx (· == c) < l.length
      · have h2 : l.findIdx (· == c) + 1 < l.length + 1 := by omega
        have h3 : ((l.findIdx (· == c) : Int) == -1) = false := by
          rw [beq_eq_false_iff_ne]
          omega
        simp [h]
      · have h2 : ¬ l.findIdx (· == c) + 1 < l.length + 1 := by omega
        simp [h]
    · simp
theorem index_find (t : ByteArray) (c : UInt8) : Lib.indexByte t.data.toList c = if findB t c < t.size then (findB t c : Int) else -1 := by
  have h := index_list c t.data.toList
  rw [show t.data.toList.length = t.size by simp] at h
  exact h
end Go.Proofs.YtcaabnnkjnleeaaDoor
