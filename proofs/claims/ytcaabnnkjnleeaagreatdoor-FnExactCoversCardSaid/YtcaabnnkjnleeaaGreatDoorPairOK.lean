/- The program's isPlain and pairOK: what they answer. No condition of their own. -/
import Derived.Test.YtcaabnnkjnleeaaGreatDoorSetMath
import Derived.Test.YtcaabnnkjnleeaaGreatDoorSplit
import Derived.Test.YtcaabnnkjnleeaaGreatDoorShelf
namespace Go.Proofs.YtcaabnnkjnleeaaGreatDoor
open Go.ChangeShapes Go.WideShapes Go.ChangeAt Go.WideMaps Go.WideElems Go.RowKit

theorem all_find (s : ByteArray) (c : UInt8) : allB s (noneB c) = !decide (findB s c < s.size) := by
  have h : findB s c < s.size ↔ ∃ x ∈ s.data.toList, (x == c) = true := by
    rw [findB, show s.size = s.data.toList.length by simp]
    exact List.findIdx_lt_length
  by_cases g : findB s c < s.size
  · obtain ⟨x, hx, hc⟩ := h.1 g
    rw [decide_eq_true g]
    show s.data.toList.all (noneB c) = false
    rw [List.all_eq_false]
    exact ⟨x, hx, by simp [noneB, hc]⟩
  · rw [decide_eq_false g]
    show s.data.toList.all (noneB c) = true
    rw [List.all_eq_true]
    intro x hx
    have : ¬ (x == c) = true := fun e => g (h.2 ⟨x, hx, e⟩)
    simpa [noneB] using this
theorem contains_any (s : ByteArray) (c : UInt8) (w : World) : Calls Tryz.prog 182 #[.string s, .string ⟨#[c]⟩] w fun e w' => e = .returned (.bool (!allB s (noneB c))) ∧ w = w' := by
  refine (Tryz.strings_Contains_one s c w).mono ?_
  rintro e w' ⟨rfl, rfl⟩
  refine ⟨?_, rfl⟩
  rw [all_find, index_find]
  by_cases g : findB s c < s.size
  · rw [if_pos g, decide_eq_true g]
    simp
  · rw [if_neg g, decide_eq_false g]
    first | rfl | simp
theorem plain_any (s : ByteArray) (w : World) (hs : s.size ≤ maxLen) (hT : TabAt w) : Calls Tryz.prog 181 #[.string s] w fun e w' => e = .returned (.bool (plainS s)) ∧ Below w.heap.size w w' := by
  have HT := Lib.hid hT
  have hs0 := Lib.hid hs
  clear hT hs
  go_enter Tryz.func181, Tryz.ntmps181
  go_wp2_with fail
  refine (implControl s _ hs0.out HT.out).mono ?_
  rintro e w1 ⟨rfl, hb⟩
  have B1 := Lib.hid hb
  clear hb
  cases g1 : controlOK s with
  | true =>
    have G1 := Lib.hid g1
    go_wp2_with fail
    go_ret
    exact ⟨bool_end (by simp [plainS, G1.out]), B1.out⟩
  | false =>
    have G1 := Lib.hid g1
    go_wp2_with fail
    refine (contains_any s 59 _).mono ?_
    rintro e w' ⟨rfl, rfl⟩
    cases g2 : allB s (noneB 59) with
    | false =>
      have G2 := Lib.hid g2
      go_wp2_with fail
      go_ret
      exact ⟨bool_end (by simp [plainS, G2.out]), B1.out⟩
    | true =>
      have G2 := Lib.hid g2
      go_wp2_with fail
      refine (implTrim s _ hs0.out).mono ?_
      rintro e w2 ⟨rfl, hb⟩
      have B2 := Lib.hid (B1.out.trans (hb.mono B1.out.size))
      clear hb
      go_wp2_with fail
      go_ret
      exact ⟨bool_end (by simp [plainS, G1.out, G2.out]), B2.out⟩
theorem pairOK_any (n v : ByteArray) (w : World) (hn : n.size ≤ 1048576) (hv : v.size ≤ 1048576) (hT : TabAt w) : Calls Tryz.prog 136 #[.string n, .string v] w fun e w' => e = .returned (.bool (pairOKB n v)) ∧ Below w.heap.size w w' := by
  have HT := Lib.hid hT
  have hn0 : Hid (n.size ≤ maxLen) := Lib.hid (by unfold maxLen; omega)
  have hv0 : Hid (v.size ≤ maxLen) := Lib.hid (by unfold maxLen; omega)
  clear hT
  by_cases h1 : 0 < n.size + v.size
  · by_cases h2 : n.size + v.size ≤ 100
    · have h1' : (0 : Int) < (n.size : Int) + v.size := by omega
      have h2' : (n.size : Int) + v.size ≤ 100 := by omega
      go_enter Tryz.func136, Tryz.ntmps136
      go_wp2_with fail
      refine (plain_any n _ hn0.out HT.out).mono ?_
      rintro e w1 ⟨rfl, hb⟩
      have B1 := Lib.hid hb
      clear hb
      cases g1 : plainS n with
      | false =>
        have G1 := Lib.hid g1
        go_wp2_with fail
        go_ret
        exact ⟨bool_end (by simp [pairOKB, G1.out]), B1.out⟩
      | true =>
        have G1 := Lib.hid g1
        go_wp2_with fail
        refine (plain_any v _ hv0.out (HT.out.below B1.out)).mono ?_
        rintro e w2 ⟨rfl, hb⟩
        have B2 := Lib.hid (B1.out.trans (hb.mono B1.out.size))
        clear hb
        cases g2 : plainS v with
        | false =>
          have G2 := Lib.hid g2
          go_wp2_with fail
          go_ret
          exact ⟨bool_end (by simp [pairOKB, G2.out]), B2.out⟩
        | true =>
          have G2 := Lib.hid g2
          go_wp2_with fail
          refine (contains_any n 61 _).mono ?_
          rintro e w' ⟨rfl, rfl⟩
          go_wp2_with fail
          go_ret
          exact ⟨bool_end (by simp [pairOKB, G1.out, G2.out, h2]; omega), B2.out⟩
    · have h1' : (0 : Int) < (n.size : Int) + v.size := by omega
      have h2' : (100 : Int) < (n.size : Int) + v.size := by omega
      go_enter Tryz.func136, Tryz.ntmps136
      go_wp2_with fail
      go_ret
      exact ⟨bool_end (by simp [pairOKB, h2]), Below.refl _ _⟩
  · have h1' : (n.size : Int) + v.size ≤ 0 := by omega
    go_enter Tryz.func136, Tryz.ntmps136
    go_wp2_with fail
    go_ret
    exact ⟨bool_end (by simp [pairOKB]; omega), Below.refl _ _⟩
theorem prefix_head (s : ByteArray) (c : UInt8) : Lib.hasPrefix s.data.toList [c] = (s.data.toList.head? == some c) := by
  unfold Lib.hasPrefix
  cases s.data.toList with
  | nil => rfl
  | cons b l =>
    simp only [List.isPrefixOf, Bool.and_true, List.head?_cons, Option.some_beq_some]
    exact Bool.beq_comm
theorem prefix_any (s : ByteArray) (c : UInt8) (w : World) : Calls Tryz.prog 142 #[.string s, .string ⟨#[c]⟩] w fun e w' => e = .returned (.bool (s.data.toList.head? == some c)) ∧ w = w' := by
  refine (Tryz.strings_HasPrefix s ⟨#[c]⟩ w).mono ?_
  rintro e w' ⟨rfl, rfl⟩
  refine ⟨?_, rfl⟩
  show Ending.returned (.bool (Lib.hasPrefix s.data.toList [c])) = _
  rw [prefix_head]
end Go.Proofs.YtcaabnnkjnleeaaGreatDoor
