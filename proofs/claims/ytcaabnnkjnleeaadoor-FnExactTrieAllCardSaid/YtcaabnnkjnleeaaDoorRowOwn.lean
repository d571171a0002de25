/- A row that a slice owns reads as a list of texts. No condition. -/
import Derived.Test.YtcaabnnkjnleeaaDoorText
namespace Go.Proofs.YtcaabnnkjnleeaaDoor
open Go.ChangeShapes Go.WideShapes Go.ChangeAt Go.WideMaps Go.WideElems Go.RowKit

theorem row_of_own {w : World} {B : Nat} {v : Value} {ps : List (List UInt8)} (h : w.ownsRow B 9 1 v ps.length (ps.map strV)) : RowT w B v ps := by
  by_cases h1 : 1 ≤ ps.length
  · exact RowT.of_texts (texts_of_own h1 h)
  · obtain rfl : ps = [] := List.eq_nil_of_length_eq_zero (by omega)
    obtain ⟨_, h | ⟨g, cap, cur, rfl, _⟩⟩ := h
    · rw [h.1]
      exact RowT.empty _ _ _ _
    · exact RowT.empty _ _ _ _
end Go.Proofs.YtcaabnnkjnleeaaDoor
