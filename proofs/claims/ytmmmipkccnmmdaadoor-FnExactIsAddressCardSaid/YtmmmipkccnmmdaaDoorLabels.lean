/- LabelsOf of the program and of the model: what they answer; the law's walk. No condition of its own. -/
import Derived.Test.YtmmmipkccnmmdaaDoorHostSpec
import Derived.Test.YtmmmipkccnmmdaaDoorText
import Derived.Test.YtmmmipkccnmmdaaDoorClone
import Derived.Stop.LaidErr
namespace Go.Proofs.YtmmmipkccnmmdaaDoor
open Go.ChangeShapes Go.WideShapes Go.ChangeAt Go.WideMaps Go.WideElems Go.RowKit

/-- The library's variable holds some number. -/
def MaxAt (w : World) : Prop := ∃ m : Int, w.cell? ⟨3, 0, none⟩ = some (.int .i64 m)
theorem MaxAt.below {w w' : World} (h : MaxAt w) (hb : Below w.heap.size w w') : MaxAt w' := by
  obtain ⟨m, h⟩ := h
  exact ⟨m, cell_kept hb h⟩
theorem max_of {W : World} (h : W.ShapedOpen Tryd.prog) : MaxAt W := Tryd.laysM146.s1_3 W h
def LabsPost (w : World) (ps : List (List UInt8)) (e : Ending) (w' : World) : Prop := ∃ v, e = .returned v ∧ TextsIn w' w.heap.size v ps ∧ Below w.heap.size w w'
theorem split_any (s : ByteArray) (w : World) (hs : s.size ≤ 65536) (hm : MaxAt w) : Calls Tryd.prog 50 #[.string s, .string ⟨#[46]⟩] w (LabsPost w (cutL 46 s.data.toList)) := by
  obtain ⟨m, hm⟩ := hm
  refine (Tryd.strings_Split s ⟨#[46]⟩ m w (by omega) hm (Nat.le_refl 1)).mono ?_
  rintro e w' ⟨rfl, rfl⟩
  rw [countB_cut, splitB_vals, List.map_map]
  have hle := cutL_le 46 s.data.toList
  refine ⟨_, rfl, ?_, (Below.refl _ _).alloc (Nat.le_refl _) _⟩
  exact texts_alloc w w.heap.size (cutL 46 s.data.toList) (Nat.le_refl _) (by unfold maxLen; simp at hle; omega)
theorem labels_any (s : ByteArray) (w : World) (hs : s.size ≤ 65536) (hm : MaxAt w) : Calls Tryd.prog 34 #[.string s] w (LabsPost w (cutL 46 s.data.toList)) := by
  have HM := Lib.hid hm
  clear hm
  go_enter Tryd.func34, Tryd.ntmps34
  go_wp2_with (first
    | (go_at_call 51; refine (clone_any _ _ hs).mono ?_; rintro e w1 ⟨rfl, hb⟩; have HB := Lib.hid hb; clear hb)
    | (go_at_call 50; refine (split_any _ _ hs (HM.out.below HB.out)).mono ?_; rintro e w2 ⟨v, rfl, ht, hb⟩; have HT := Lib.hid ht; have HB2 := Lib.hid hb; clear ht hb))
  go_ret
  obtain ⟨g, cap, hv, h1, h2⟩ := HT.out
  exact ⟨v, rfl, ⟨g, cap, hv, Nat.le_trans HB.out.size h1, h2⟩, HB.out.trans (HB2.out.mono HB.out.size)⟩
/-- What LabelsOf answers. -/
def labsL (s : ByteArray) : List (List UInt8) := if s.size ≤ 65536 ∧ hostB s = true then cutL 46 s.data.toList else []
def labsC (s : ByteArray) : Int := if s.size ≤ 65536 then (if hostB s = true then 0 else 3) else 2
theorem labs_len (s : ByteArray) : (labsL s).length ≤ 6 := by
  rw [labsL]
  split
  · rename_i h
    have := h.2
    rw [host_parts, Bool.and_eq_true, partsOK, Bool.and_eq_true, decide_eq_true_eq, decide_eq_true_eq] at this
    exact this.2.1
  · exact Nat.zero_le _
def LabelsPost (w : World) (s : ByteArray) (e : Ending) (w' : World) : Prop := ∃ v, e = .returned (.tuple #[v, .int .i64 (labsC s)]) ∧ RowT w' w.heap.size v (labsL s) ∧ Below w.heap.size w w'
theorem labelsPost_mk {w w' : World} {s : ByteArray} {v : Value} {ps : List (List UInt8)} {c : Int} (hp : labsL s = ps) (hc : labsC s = c) (h : RowT w' w.heap.size v ps) (hb : Below w.heap.size w w') : LabelsPost w s (.returned (.tuple #[v, .int .i64 c])) w' :=
  ⟨v, by rw [hc], by rw [hp]; exact h, hb⟩
theorem row_lit (w : World) (B : Nat) : RowT (w.alloc (.cells #[] 9)) B (.slice (some ⟨w.heap.size, 0, none⟩) 0 0) [] := RowT.empty _ _ _ _
theorem specLabels (s : ByteArray) (w : World) (hs : s.size ≤ maxLen) : Calls Tryd.prog 17 #[.string s] w (LabelsPost w s) := by
  unfold maxLen at hs
  by_cases hl : s.size ≤ 65536
  · have hl2 : s.size ≤ 1048576 := by omega
    cases hh : hostB s with
    | true =>
      have HP : Hid (labsL s = cutL 46 s.data.toList) := if_pos ⟨hl, hh⟩
      have HC : Hid (labsC s = 0) := by show _ = _; rw [labsC, if_pos hl, if_pos hh]
      have HH := Lib.hid hh
      have HT1 := Lib.hid (cutL_pos 46 s.data.toList)
      clear hh
      go_enter Tryd.func17, Tryd.ntmps17
      go_wp2_with (first
        | (go_at_call 31; refine (specHostL _ _ hl2).mono ?_; rintro e w1 ⟨rfl, hb⟩; have HB := Lib.hid hb; clear hb; rw [HH.out])
        | (go_at_call 35; refine (cut_any s 46 _ hl2).mono ?_; rintro e w2 ⟨v, rfl, hown, hb⟩; have HO := Lib.hid hown; have HB2 := Lib.hid hb; clear hown hb))
      go_ret2
      exact labelsPost_mk HP.out HC.out ((RowT.of_texts (texts_of_own HT1.out HO.out)).more HB.out.size) (HB.out.trans (HB2.out.mono HB.out.size))
    | false =>
      have HP : Hid (labsL s = []) := if_neg (by simp [hh])
      have HC : Hid (labsC s = 3) := by show _ = _; rw [labsC, if_pos hl, if_neg (by simp [hh])]
      have HH := Lib.hid hh
      clear hh
      go_enter Tryd.func17, Tryd.ntmps17
      go_wp2_with (go_at_call 31; refine (specHostL _ _ hl2).mono ?_; rintro e w1 ⟨rfl, hb⟩; have HB := Lib.hid hb; clear hb; rw [HH.out])
      go_ret2
      exact labelsPost_mk HP.out HC.out (RowT.empty _ _ _ _) (HB.out.alloc HB.out.size _)
  · have HP : Hid (labsL s = []) := if_neg (fun h => hl h.1)
    have HC : Hid (labsC s = 2) := if_neg hl
    go_enter Tryd.func17, Tryd.ntmps17
    go_wp2
    go_ret2
    exact labelsPost_mk HP.out HC.out (RowT.empty _ _ _ _) ((Below.refl _ _).alloc (Nat.le_refl _) _)
theorem implLabels (s : ByteArray) (w : World) (hs : s.size ≤ maxLen) (hT : TabAt w) (hm : MaxAt w) : Calls Tryd.prog 16 #[.string s] w (LabelsPost w s) := by
  have HS := Lib.hid hs
  have HT := Lib.hid hT
  have HM := Lib.hid hm
  clear hT hm
  unfold maxLen at hs
  by_cases hl : s.size ≤ 65536
  · cases hh : hostB s with
    | true =>
      have HP : Hid (labsL s = cutL 46 s.data.toList) := if_pos ⟨hl, hh⟩
      have HC : Hid (labsC s = 0) := by show _ = _; rw [labsC, if_pos hl, if_pos hh]
      have HH := Lib.hid hh
      clear hh
      go_enter Tryd.func16, Tryd.ntmps16
      go_wp2_with (first
        | (go_at_call 12; refine (implHostOK _ _ HS.out HT.out).mono ?_; rintro e w1 ⟨rfl, hb⟩; have HB := Lib.hid hb; clear hb; rw [HH.out])
        | (go_at_call 34; refine (labels_any s _ hl (HM.out.below HB.out)).mono ?_; rintro e w2 ⟨v, rfl, ht, hb⟩; have HX := Lib.hid ht; have HB2 := Lib.hid hb; clear ht hb))
      go_ret2
      exact labelsPost_mk HP.out HC.out ((RowT.of_texts HX.out).more HB.out.size) (HB.out.trans (HB2.out.mono HB.out.size))
    | false =>
      have HP : Hid (labsL s = []) := if_neg (by simp [hh])
      have HC : Hid (labsC s = 3) := by show _ = _; rw [labsC, if_pos hl, if_neg (by simp [hh])]
      have HH := Lib.hid hh
      clear hh
      go_enter Tryd.func16, Tryd.ntmps16
      go_wp2_with (go_at_call 12; refine (implHostOK _ _ HS.out HT.out).mono ?_; rintro e w1 ⟨rfl, hb⟩; have HB := Lib.hid hb; clear hb; rw [HH.out])
      go_ret2
      exact labelsPost_mk HP.out HC.out (RowT.empty _ _ _ _) HB.out
  · have HP : Hid (labsL s = []) := if_neg (fun h => hl h.1)
    have HC : Hid (labsC s = 2) := if_neg hl
    go_enter Tryd.func16, Tryd.ntmps16
    go_wp2
    go_ret2
    exact labelsPost_mk HP.out HC.out (RowT.empty _ _ _ _) (Below.refl _ _)
set_option maxHeartbeats 1000000 in
set_option maxRecDepth 100000 in
theorem walk_FnExactLabelsOf (W : World) (s : ByteArray) (hs : s.size ≤ maxLen) (hL : laidMetH Tryd.prog Rows.fnExactLabelsOfRow.laid W) (hSh : W.ShapedOpen Tryd.prog) :
    Calls Tryd.prog 7 #[.string s] W fun e w' => e = .returned (.bool true) ∧ Below W.heap.size W w' := by
  have hT : Hid (TabAt W) := by
    rw [MakeChecks.laidMetH_plain _ _ _ (by kernel_rfl)] at hL
    exact tab_of_laid (laidMet.tail hL)
  have hM := Lib.hid (max_of hSh)
  have HS := Lib.hid hs
  clear hL
  unfold maxLen at hs
  by_cases hl : (s.size : Int) ≤ 1048576
  · have hlen := labs_len s
    have hn : (labsC s != labsC s) = false := by simp
    go_enter Tryd.func7, Tryd.ntmps7
    go_wp2_with fail
    refine (specLabels s _ HS.out).mono ?_
    rintro e w1 ⟨v0, rfl, hr, hb⟩
    have R0 := Lib.hid hr
    have B1 := Lib.hid hb
    clear hr hb
    go_wp2_with fail
    refine (implLabels s _ HS.out (hT.out.below B1.out) (hM.out.below B1.out)).mono ?_
    rintro e w2 ⟨g0, rfl, hr, hb⟩
    have R1 := Lib.hid hr
    have R02 := Lib.hid (R0.out.below hb)
    have B2 := Lib.hid (B1.out.trans (hb.mono B1.out.size))
    have hap := row_apart R0.out R1.out
    have HA := Lib.hid hap
    have hz1 := hb.size
    clear hr hb hap
    go_wp2_with fail
    refine (eqStrings_any g0 v0 (labsL s) _ _ _ (by omega) R1.out R02.out).mono ?_
    rintro e w3 ⟨rfl, hb⟩
    have R13 := Lib.hid (R1.out.below hb)
    have R03 := Lib.hid (R02.out.below hb)
    have B3 := Lib.hid (B2.out.trans (hb.mono B2.out.size))
    clear hb
    go_wp2_with fail
    refine (markStrings_any g0 (labsL s) _ 1 _ (by omega) (by omega) R13.out).mono ?_
    rintro e w4 ⟨rfl, hr, hg⟩
    have R14 := Lib.hid hr
    have R04 := Lib.hid (R03.out.grown hg HA.out)
    have B4 := Lib.hid (B3.out.grown hg B3.out.size (fun k hk => Nat.le_trans B1.out.size (row_from R1.out k hk)))
    clear hr hg
    go_wp2_with fail
    refine (heldStrings_any g0 _ 1 (labsL s).length _ (by omega) (by omega) R14.out).mono ?_
    rintro e w5 ⟨rfl, hb⟩
    have R15 := Lib.hid (R14.out.below hb)
    have R05 := Lib.hid (R04.out.below hb)
    have B5 := Lib.hid (B4.out.trans (hb.mono B4.out.size))
    have hp1 : (0 : Int) ≤ ((1 + (labsL s).length : Nat) : Int) := by omega
    have hp2 : ((((1 + (labsL s).length : Nat) : Int)) != ((1 + (labsL s).length : Nat) : Int)) = false := by simp
    clear hb
    go_wp2_with fail
    refine (implLabels s _ HS.out (hT.out.below B5.out) (hM.out.below B5.out)).mono ?_
    rintro e w6 ⟨h0, rfl, hr, hb⟩
    have R6 := Lib.hid hr
    have R16 := Lib.hid (R15.out.below hb)
    have R06 := Lib.hid (R05.out.below hb)
    have B6 := Lib.hid (B5.out.trans (hb.mono B5.out.size))
    clear hr hb
    go_wp2_with fail
    refine (eqStrings_any h0 v0 (labsL s) _ _ _ (by omega) R6.out R06.out).mono ?_
    rintro e w7 ⟨rfl, hb⟩
    have R17 := Lib.hid (R16.out.below hb)
    have B7 := Lib.hid (B6.out.trans (hb.mono B6.out.size))
    clear hb
    go_wp2_with fail
    refine (heldStrings_any g0 _ 1 (labsL s).length _ (by omega) (by omega) R17.out).mono ?_
    rintro e w8 ⟨rfl, hb⟩
    have B8 := Lib.hid (B7.out.trans (hb.mono B7.out.size))
    clear hb
    go_wp2_with fail
    go_ret
    exact ⟨rfl, B8.out⟩
  · go_enter Tryd.func7, Tryd.ntmps7
    go_wp2
    go_ret
    exact ⟨rfl, Below.refl _ _⟩
end Go.Proofs.YtmmmipkccnmmdaaDoor
