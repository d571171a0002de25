/- Which rules apply to a host: the program's rule as a value; the function that yields those that apply. No condition of its own. -/
import Derived.RangeFuncNested
import Derived.RangeFuncBound
import Derived.RangeFuncCalls
import Derived.RangeFuncLeaves
import Derived.Shelf.Abstract
import Derived.Shelf.RegionOpen
import Derived.WalkKit
import Derived.OwnWalkIn
import Derived.TacticsInMore
import Derived.LoopNIn
import Derived.LoopIn
import Derived.Test.YtihlflhgbnfkkaaGreatDoorTails
import Derived.Test.YtihlflhgbnfkkaaGreatDoorRules
namespace Go.Proofs.YtihlflhgbnfkkaaGreatDoor
open Go.ChangeShapes Go.WideShapes Go.ChangeAt Go.WideMaps Go.WideElems Go.RowKit Go.Shelf

def appB (host r : ByteArray) (wl : Bool) : Bool := belowB host r || (decide (host = r) && !wl)
/-- Whether a rule applies to a host. -/
def appL (host : ByteArray) (t : List UInt8) : Bool := appB host (tOf (bareL t)) (wildL t)
set_option maxRecDepth 100000 in
theorem applies_any (r host : ByteArray) (wl ex : Bool) (w : World) (hr : r.size ≤ 40) (hh : host.size ≤ 40) : Calls Tryz.prog 211 #[.agg #[.string r, .bool wl, .bool ex], .string host] w fun e w' => e = .returned (.bool (appB host r wl)) ∧ Below w.heap.size w w' := by
  have HN := Lib.hid (RlB.new w r wl ex)
  have HB := Lib.hid ((Below.refl w.heap.size w).alloc (Nat.le_refl _) (.cells #[.string r, .bool wl, .bool ex] 83))
  obtain ⟨c0, c1, c2⟩ := HN.out.at
  cases h : belowB host r with
  | true =>
    have HE : Hid (appB host r wl = true) := Lib.hid (by rw [appB, h]; rfl)
    have H := Lib.hid h
    clear h
    go_enter Tryz.func211, Tryz.ntmps211
    go_wp2_with (go_at_call 80; refine (isBelow_any host r _ hh hr).mono ?_; rintro e w' ⟨rfl, rfl⟩; rw [H.out])
    go_ret
    exact ⟨bool_end HE.out.symm, HB.out⟩
  | false =>
    have H := Lib.hid h
    cases he : (host.toList == r.toList) with
    | false =>
      have HE : Hid (appB host r wl = false) := Lib.hid (by rw [appB, h, decide_eq_false (sne_of he)]; rfl)
      clear h
      go_enter Tryz.func211, Tryz.ntmps211
      go_wp2_with (go_at_call 80; refine (isBelow_any host r _ hh hr).mono ?_; rintro e w' ⟨rfl, rfl⟩; rw [H.out])
      go_ret
      exact ⟨bool_end HE.out.symm, HB.out⟩
    | true =>
      have HE : Hid (appB host r wl = !wl) := Lib.hid (by rw [appB, h, decide_eq_true (seq_of he)]; rfl)
      clear h
      go_enter Tryz.func211, Tryz.ntmps211
      go_wp2_with (go_at_call 80; refine (isBelow_any host r _ hh hr).mono ?_; rintro e w' ⟨rfl, rfl⟩; rw [H.out])
      go_ret
      exact ⟨bool_end HE.out.symm, HB.out⟩
/-- How many labels a rule asks for. -/
def sizeR (r : ByteArray) (wl ex : Bool) : Int := if wl then (labN r.data.toList : Int) + 1 else if ex then (labN r.data.toList : Int) - 1 else labN r.data.toList
theorem sizeR_is (t : List UInt8) : sizeR (tOf (bareL t)) (wildL t) (excL t) = sizeL t := by
  unfold sizeR sizeL
  rw [tOf_data]
theorem cut_len_le {s : ByteArray} (h : s.size ≤ 40) : (cutL 46 s.data.toList).length ≤ 41 := by
  have := cutL_le 46 s.data.toList
  simp at this
  omega
set_option maxRecDepth 100000 in
theorem size_any (r : ByteArray) (wl ex : Bool) (w : World) (hr : r.size ≤ 40) (hm : MaxAt w) : Calls Tryz.prog 171 #[.agg #[.string r, .bool wl, .bool ex]] w fun e w' => e = .returned (.int .i64 (sizeR r wl ex)) ∧ Below w.heap.size w w' := by
  have HM := Lib.hid hm
  clear hm
  have HN := Lib.hid (RlB.new w r wl ex)
  have hb0 := (Below.refl w.heap.size w).alloc (Nat.le_refl _) (.cells #[.string r, .bool wl, .bool ex] 83)
  have HB := Lib.hid hb0
  clear hb0
  have hlen := cut_len_le hr
  obtain ⟨c0, c1, c2⟩ := HN.out.at
  go_enter Tryz.func171, Tryz.ntmps171
  go_wp2_with fail
  refine (labels_any r _ (by omega) (HM.out.below HB.out)).mono ?_
  rintro e w1 ⟨v, rfl, ⟨g, cap, rfl, _⟩, hb⟩
  obtain ⟨d0, d1, d2⟩ := (HN.out.stays hb).at
  have HB1 := Lib.hid (HB.out.trans (hb.mono HB.out.size))
  clear hb c0 c1 c2
  have HL : Hid ((cutL 46 r.data.toList).length = labN r.data.toList) := Lib.hid rfl
  rw [HL.out] at hlen ⊢
  cases wl with
  | true =>
    go_wp2_with fail
    go_ret
    exact ⟨by first | rfl | (refine congrArg Ending.returned (congrArg (Value.int IntKind.i64) ?_); simp [sizeR]; try omega), HB1.out⟩
  | false =>
    cases ex with
    | true =>
      go_wp2_with fail
      go_ret
      exact ⟨by first | rfl | (refine congrArg Ending.returned (congrArg (Value.int IntKind.i64) ?_); simp [sizeR]; try omega), HB1.out⟩
    | false =>
      go_wp2_with fail
      go_ret
      exact ⟨by first | rfl | (refine congrArg Ending.returned (congrArg (Value.int IntKind.i64) ?_); simp [sizeR]; try omega), HB1.out⟩
set_option maxRecDepth 100000 in
theorem rulesFor_any (v : Value) (host : ByteArray) (w : World) (hv : ∃ a n c, v = .slice a n c) : Calls Tryz.prog 170 #[v, .string host] w fun e w' => e = .returned (.func (.func 210) #[] #[.pointer (some ⟨w.heap.size, 0, none⟩), .pointer (some ⟨w.heap.size + 1, 0, none⟩)]) ∧ w' = (w.alloc (.cells #[v] 32)).alloc (.cells #[.string host] 75) := by
  obtain ⟨a, n, c, rfl⟩ := hv
  go_enter Tryz.func170, Tryz.ntmps170
  go_wp2
  go_ret
  exact ⟨rfl, rfl⟩
/-- A rule that is one. -/
abbrev Ru := { x : List UInt8 // ruleL x = true }
def ruV (x : Ru) : Value := .agg #[.string (bareB (tOf x.1)), .bool (wildB (tOf x.1)), .bool (excB (tOf x.1))]
theorem ru_bare (x : Ru) : (bareB (tOf x.1)).size ≤ 40 := by
  have := (host_size x.2).2
  rw [bareB, tOf_data]
  exact this
theorem ru_app (host : ByteArray) (t : List UInt8) : appB host (bareB (tOf t)) (wildB (tOf t)) = appL host t := by
  unfold appL bareB wildB
  rw [tOf_data]
end Go.Proofs.YtihlflhgbnfkkaaGreatDoor
