/- SplitAt of the program and of the model: what they answer; the law's walk. No condition of its own. -/
import Derived.Test.YtpdonghdnaehhaaGreatDoorYGa
import Derived.Test.YtpdonghdnaehhaaGreatDoorYGb
import Derived.Deep.RegionHeld3
import Derived.Deep.QuietTactic
import Derived.BigQuiet
import Derived.RegionTactic
import Derived.WalkSmall
import Derived.IntWalk
namespace Go.Proofs.YtpdonghdnaehhaaGreatDoor
open Go.ChangeShapes Go.WideShapes Go.ChangeAt Go.WideMaps Go.WideElems Go.RowKit

def leftB (t : ByteArray) (c : UInt8) : ByteArray := if t.size ≤ 65536 then (if findB t c < t.size then t.extract 0 (findB t c) else t) else ⟨#[]⟩
def rightB (t : ByteArray) (c : UInt8) : ByteArray := if t.size ≤ 65536 ∧ findB t c < t.size then t.extract (findB t c + 1) t.size else ⟨#[]⟩
def cutB (t : ByteArray) (c : UInt8) : Bool := decide (t.size ≤ 65536 ∧ findB t c < t.size)
theorem three_end {a b a' b' : ByteArray} {p p' : Bool} (h : a = a') (h' : b = b') (hp : p = p') : Ending.returned (.tuple #[.string a, .string b, .bool p]) = .returned (.tuple #[.string a', .string b', .bool p']) := by rw [h, h', hp]
theorem specCut (t : ByteArray) (c : UInt8) (w : World) (hs : t.size ≤ maxLen) (hl : t.size ≤ 65536) : Calls Tryz.prog 88 #[.string t, .int .u8 c.toNat] w fun e w' => e = .returned (.tuple #[.string (leftB t c), .string (rightB t c), .bool (cutB t c)]) ∧ Below w.heap.size w w' := by
  have hs0 := Lib.hid hs
  have hf := findB_le t c
  unfold maxLen at hs
  by_cases hk : findB t c < t.size
  · have HK := Lib.hid hk
    go_enter Tryz.func88, Tryz.ntmps88
    go_wp2_with (go_at_call 189; refine (find_any _ _ _ hs0.out).mono ?_; rintro e w' ⟨rfl, rfl⟩)
    go_quiet (fail)
    go_wp2
    go_ret3
    have hk := HK.out
    exact ⟨three_end (by simp [leftB, hl, hk]) (by simp [rightB, hl, hk]) (by simp [cutB, hl, hk]), below_drewN (Below.refl _ _) _⟩
  · have he : findB t c = t.size := by omega
    have HE := Lib.hid he
    go_enter Tryz.func88, Tryz.ntmps88
    go_wp2_with (go_at_call 189; refine (find_any _ _ _ hs0.out).mono ?_; rintro e w' ⟨rfl, rfl⟩)
    go_ret3
    exact ⟨three_end (by simp [leftB, hl, hk]) (by simp [rightB, hk]) (by simp [cutB, hk]), Below.refl _ _⟩
theorem index_list (c : UInt8) : ∀ l : List UInt8, Lib.indexByte l c = if l.findIdx (· == c) < l.length then (l.findIdx (· == c) : Int) else -1
  | [] => rfl
  | b :: l => by
    have ih := index_list c l
    have hle := List.findIdx_le_length (xs := l) (p := (· == c))
    simp only [Lib.indexByte, List.findIdx_cons, List.length_cons]
    cases hb : (b == c)
    · simp only [Bool.false_eq_true, if_false, cond_false, ih]
      by_cases h : l.findIdx (· == c) < l.length
      · have h2 : l.findIdx (· == c) + 1 < l.length + 1 := by omega
        have h3 : ((l.findIdx (· == c) : Int) == -1) = false := by
          rw [beq_eq_false_iff_ne]
          omega
        simp [h]
      · have h2 : ¬ l.findIdx (· == c) + 1 < l.length + 1 := by omega
        simp [h]
    · simp
theorem index_find (t : ByteArray) (c : UInt8) : Lib.indexByte t.data.toList c = if findB t c < t.size then (findB t c : Int) else -1 := by
  have h := index_list c t.data.toList
  rw [show t.data.toList.length = t.size by simp] at h
  exact h
theorem index_any (t : ByteArray) (c : UInt8) (w : World) : Calls Tryz.prog 179 #[.string t, .int .u8 c.toNat] w fun e w' => e = .returned (.int .i64 (if findB t c < t.size then (findB t c : Int) else -1)) ∧ w = w' := by
  refine (Tryz.strings_IndexByte t c.toNat w).mono ?_
  rintro e w' ⟨rfl, hw⟩
  refine ⟨?_, hw.symm⟩
  rw [← index_find]
  simp
theorem implSplit (t : ByteArray) (c : UInt8) (w : World) (hs : t.size ≤ maxLen) : Calls Tryz.prog 76 #[.string t, .int .u8 c.toNat] w fun e w' => e = .returned (.tuple #[.string (leftB t c), .string (rightB t c), .bool (cutB t c)]) ∧ Below w.heap.size w w' := by
  have hf := findB_le t c
  unfold maxLen at hs
  by_cases hl : t.size ≤ 65536
  · by_cases hk : findB t c < t.size
    · have HK := Lib.hid hk
      have HI : Hid ((if findB t c < t.size then (findB t c : Int) else -1) = findB t c) := if_pos hk
      go_enter Tryz.func76, Tryz.ntmps76
      go_wp2_with (go_at_call 179; refine (index_any _ _ _).mono ?_; rintro e w' ⟨rfl, rfl⟩; rw [HI.out])
      have s1 : IntKind.i64.wrap ((findB t c : Int) + 1) = (findB t c : Int) + 1 := IntWalk.i64_in _ (by omega)
      have s2 : (0 : Int) ≤ (findB t c : Int) + 1 := by omega
      have s3 : ((findB t c : Int) + 1).toNat = findB t c + 1 := by omega
      have s4 : (findB t c : Int) + 1 ≤ t.size := by omega
      go_region_held3 (fun w' => Below w.heap.size w w') (first | exact (Below.refl _ _).drew | assumption)
        (first | (go_at_call 167; refine (clone_any _ _ (by simp; omega)).mono ?_; rintro e w' ⟨rfl, hb⟩; have hS : Below w.heap.size w w' := Below.trans (by assumption) (Below.mono hb (Below.size (B := w.heap.size) (by assumption))); clear hb))
      have HB : Hid (Below w.heap.size w _) := ‹Below w.heap.size w _›
      go_wp2
      go_ret3
      have hk := HK.out
      exact ⟨three_end (by simp [leftB, hl, hk]) (by simp [rightB, hl, hk]) (by simp [cutB, hl, hk]), HB.out⟩
    · have HK := Lib.hid hk
      have HI : Hid ((if findB t c < t.size then (findB t c : Int) else -1) = -1) := if_neg hk
      go_enter Tryz.func76, Tryz.ntmps76
      go_wp2_with (first
        | (go_at_call 179; refine (index_any _ _ _).mono ?_; rintro e w' ⟨rfl, rfl⟩; rw [HI.out])
        | (go_at_call 167; refine (clone_any _ _ hl).mono ?_; rintro e w' ⟨rfl, hb⟩))
      go_ret3
      have hk := HK.out
      exact ⟨three_end (by simp [leftB, hl, hk]) (by simp [rightB, hk]) (by simp [cutB, hk]), hb⟩
  · go_enter Tryz.func76, Tryz.ntmps76
    go_wp2
    go_ret3
    exact ⟨three_end (by simp [leftB, hl]) (by simp [rightB, hl]) (by simp [cutB, hl]), Below.refl _ _⟩
end Go.Proofs.YtpdonghdnaehhaaGreatDoor
