/- LabelsOf of the program and of the model: what they answer; the law's walk. No condition of its own. -/
import Derived.Test.YtcaabnnkjnleeaaGreatDoorHostSpec
import Derived.Test.YtcaabnnkjnleeaaGreatDoorText
import Derived.Test.YtcaabnnkjnleeaaGreatDoorClone
import Derived.Stop.LaidErr
namespace Go.Proofs.YtcaabnnkjnleeaaGreatDoor
open Go.ChangeShapes Go.WideShapes Go.ChangeAt Go.WideMaps Go.WideElems Go.RowKit

/-- The library's variable holds some number. -/
def MaxAt (w : World) : Prop := ∃ m : Int, w.cell? ⟨1, 0, none⟩ = some (.int .i64 m)
theorem MaxAt.below {w w' : World} (h : MaxAt w) (hb : Below w.heap.size w w') : MaxAt w' := by
  obtain ⟨m, h⟩ := h
  exact ⟨m, cell_kept hb h⟩
theorem max_of {W : World} (h : W.ShapedOpen Tryz.prog) : MaxAt W := Tryz.laysM146.s1_3 W h
def LabsPost (w : World) (ps : List (List UInt8)) (e : Ending) (w' : World) : Prop := ∃ v, e = .returned v ∧ TextsIn w' w.heap.size v ps ∧ Below w.heap.size w w'
theorem split_any (s : ByteArray) (w : World) (hs : s.size ≤ 65536) (hm : MaxAt w) : Calls Tryz.prog 110 #[.string s, .string ⟨#[46]⟩] w (LabsPost w (cutL 46 s.data.toList)) := by
  obtain ⟨m, hm⟩ := hm
  refine (Tryz.strings_Split s ⟨#[46]⟩ m w (by omega) hm (Nat.le_refl 1)).mono ?_
  rintro e w' ⟨rfl, rfl⟩
  rw [countB_cut, splitB_vals, List.map_map]
  have hle := cutL_le 46 s.data.toList
  refine ⟨_, rfl, ?_, (Below.refl _ _).alloc (Nat.le_refl _) _⟩
  exact texts_alloc w w.heap.size (cutL 46 s.data.toList) (Nat.le_refl _) (by unfold maxLen; simp at hle; omega)
theorem labels_any (s : ByteArray) (w : World) (hs : s.size ≤ 65536) (hm : MaxAt w) : Calls Tryz.prog 60 #[.string s] w (LabsPost w (cutL 46 s.data.toList)) := by
  have HM := Lib.hid hm
  clear hm
  go_enter Tryz.func60, Tryz.ntmps60
  go_wp2_with (first
    | (go_at_call 100; refine (clone_any _ _ hs).mono ?_; rintro e w1 ⟨rfl, hb⟩; have HB := Lib.hid hb; clear hb)
    | (go_at_call 110; refine (split_any _ _ hs (HM.out.below HB.out)).mono ?_; rintro e w2 ⟨v, rfl, ht, hb⟩; have HT := Lib.hid ht; have HB2 := Lib.hid hb; clear ht hb))
  go_ret
  obtain ⟨g, cap, hv, h1, h2⟩ := HT.out
  exact ⟨v, rfl, ⟨g, cap, hv, Nat.le_trans HB.out.size h1, h2⟩, HB.out.trans (HB2.out.mono HB.out.size)⟩
/-- What LabelsOf answers. -/
def labsL (s : ByteArray) : List (List UInt8) := if s.size ≤ 65536 ∧ hostB s = true then cutL 46 s.data.toList else []
def labsC (s : ByteArray) : Int := if s.size ≤ 65536 then (if hostB s = true then 0 else 3) else 2
theorem labs_len (s : ByteArray) : (labsL s).length ≤ 6 := by
  rw [labsL]
  split
  · rename_i h
    have := h.2
    rw [host_parts, Bool.and_eq_true, partsOK, Bool.and_eq_true, decide_eq_true_eq, decide_eq_true_eq] at this
    exact this.2.1
  · exact Nat.zero_le _
def LabelsPost (w : World) (s : ByteArray) (e : Ending) (w' : World) : Prop := ∃ v, e = .returned (.tuple #[v, .int .i64 (labsC s)]) ∧ RowT w' w.heap.size v (labsL s) ∧ Below w.heap.size w w'
theorem labelsPost_mk {w w' : World} {s : ByteArray} {v : Value} {ps : List (List UInt8)} {c : Int} (hp : labsL s = ps) (hc : labsC s = c) (h : RowT w' w.heap.size v ps) (hb : Below w.heap.size w w') : LabelsPost w s (.returned (.tuple #[v, .int .i64 c])) w' :=
  ⟨v, by rw [hc], by rw [hp]; exact h, hb⟩
theorem row_lit (w : World) (B : Nat) : RowT (w.alloc (.cells #[] 9)) B (.slice (some ⟨w.heap.size, 0, none⟩) 0 0) [] := RowT.empty _ _ _ _
end Go.Proofs.YtcaabnnkjnleeaaGreatDoor
