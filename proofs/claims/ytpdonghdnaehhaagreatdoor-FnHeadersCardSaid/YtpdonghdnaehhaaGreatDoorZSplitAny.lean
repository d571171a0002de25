/- strings.Split at one byte: the parts, in a row of the call's own. The text has at most a million bytes. -/
import Derived.Test.YtpdonghdnaehhaaGreatDoorZGl
import Derived.Test.YtpdonghdnaehhaaGreatDoorShelf
import Derived.Shelf.LaysM
namespace Go.Proofs.YtpdonghdnaehhaaGreatDoor
open Go.ChangeShapes Go.WideShapes Go.ChangeAt Go.WideMaps Go.WideElems Go.RowKit

/-- The library's variable holds some number. -/
def MaxNow (w : World) : Prop := ∃ m : Int, w.cell? ⟨5, 0, none⟩ = some (.int .i64 m)
theorem MaxNow.below {w w' : World} (h : MaxNow w) (hb : Below w.heap.size w w') : MaxNow w' := by
  obtain ⟨m, h⟩ := h
  exact ⟨m, cell_kept hb h⟩
theorem max_now {W : World} (h : W.ShapedOpen Tryz.prog) : MaxNow W :=
  Go.Proofs.cell_of_shapedOpen_int (zero := #[.int .i64 0]) (t := 3) h (of_decide_eq_true (by kernel_rfl)) (by kernel_rfl) rfl (by kernel_rfl) (by kernel_rfl) Tryz.underlying3
def SplitPost (w : World) (ps : List (List UInt8)) (e : Ending) (w' : World) : Prop := ∃ v, e = .returned v ∧ TextsIn w' w.heap.size v ps ∧ Below w.heap.size w w'
theorem splitAny (s : ByteArray) (c : UInt8) (w : World) (hs : s.size ≤ 1000000) (hm : MaxNow w) : Calls Tryz.prog 72 #[.string s, .string ⟨#[c]⟩] w (SplitPost w (cutL c s.data.toList)) := by
  obtain ⟨m, hm⟩ := hm
  refine (Tryz.strings_Split s ⟨#[c]⟩ m w (by omega) hm (Nat.le_refl 1)).mono ?_
  rintro e w' ⟨rfl, rfl⟩
  rw [countB_cut, splitB_vals, List.map_map]
  have hle := cutL_le c s.data.toList
  refine ⟨_, rfl, ?_, (Below.refl _ _).alloc (Nat.le_refl _) _⟩
  exact texts_alloc w w.heap.size (cutL c s.data.toList) (Nat.le_refl _) (by unfold maxLen; simp at hle; omega)
theorem row_owned {w : World} {B : Nat} {v : Value} {ps : List (List UInt8)} (h : w.ownsRow B 9 1 v ps.length (ps.map strV)) : RowT w B v ps := by
  by_cases h1 : 1 ≤ ps.length
  · exact RowT.of_texts (texts_of_own h1 h)
  · obtain rfl : ps = [] := List.eq_nil_of_length_eq_zero (by omega)
    obtain ⟨_, h | ⟨g, cap, cur, rfl, _⟩⟩ := h
    · rw [h.1]
      exact RowT.empty _ _ _ _
    · exact RowT.empty _ _ _ _
end Go.Proofs.YtpdonghdnaehhaaGreatDoor
