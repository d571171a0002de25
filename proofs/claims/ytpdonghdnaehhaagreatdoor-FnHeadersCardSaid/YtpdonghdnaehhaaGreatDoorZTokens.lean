/- The tokens of a text, of the program and of the model. The text has at most 1048576 bytes. -/
import Derived.Test.YtpdonghdnaehhaaGreatDoorZGl
import Derived.Test.YtpdonghdnaehhaaGreatDoorZTokMath
import Derived.Test.YtpdonghdnaehhaaGreatDoorZGc
import Derived.Test.YtpdonghdnaehhaaGreatDoorZDays
import Derived.Shelf.Strings.FieldsFuncAny
namespace Go.Proofs.YtpdonghdnaehhaaGreatDoor
open Go.ChangeShapes Go.WideShapes Go.ChangeAt Go.WideMaps Go.WideElems Go.RowKit

theorem between_any (b : UInt8) (w : World) : Calls Tryz.prog 346 #[.int .u8 b.toNat] w fun e w' => e = .returned (.bool (delimB b)) ∧ w = w' := by
  go_enter Tryz.func346, Tryz.ntmps346
  go_wp2
  all_goals go_ret
  all_goals refine ⟨bool_of ?_, rfl⟩
  all_goals rw [Bool.eq_iff_iff]; simp [delimB]; omega
theorem delimiter_any (r : Nat) (w : World) (hr : r ≤ 1114111) : Calls Tryz.prog 310 #[.int .i32 r] w fun e w' => e = .returned (.bool (delimR r)) ∧ w = w' := by
  have hw : r < 9 ∨ r = 9 ∨ (10 ≤ r ∧ r ≤ 31) ∨ (32 ≤ r ∧ r ≤ 47) ∨ (48 ≤ r ∧ r ≤ 58) ∨ (59 ≤ r ∧ r ≤ 64) ∨ (65 ≤ r ∧ r ≤ 90) ∨ (91 ≤ r ∧ r ≤ 96) ∨ (97 ≤ r ∧ r ≤ 122) ∨ (123 ≤ r ∧ r ≤ 126) ∨ 127 ≤ r := by omega
  rcases hw with h | h | ⟨h, h'⟩ | ⟨h, h'⟩ | ⟨h, h'⟩ | ⟨h, h'⟩ | ⟨h, h'⟩ | ⟨h, h'⟩ | ⟨h, h'⟩ | ⟨h, h'⟩ | h
  all_goals
    first
      | (have HE : Hid (delimR r = true) := (by show delimR r = true; simp only [delimR, decide_eq_true_eq]; omega)
         try subst h
         go_enter Tryz.func310, Tryz.ntmps310
         go_wp2
         go_ret
         exact ⟨bool_of HE.out.symm, rfl⟩)
      | (have HE : Hid (delimR r = false) := (by show delimR r = false; simp only [delimR, decide_eq_false_iff_not]; omega)
         go_enter Tryz.func310, Tryz.ntmps310
         go_wp2
         go_ret
         exact ⟨bool_of HE.out.symm, rfl⟩)
def TokPost (w : World) (ps : List (List UInt8)) (e : Ending) (w' : World) : Prop :=
  ∃ v, e = .returned v ∧ w'.ownsRow w.heap.size 9 1 v ps.length (ps.map strV) ∧ Below w.heap.size w w'
def TokIn (s : ByteArray) (k : Nat) (kk : Value) : Prop :=
  ∃ j : Nat, k ≤ j ∧ j ≤ s.size ∧ kk = .int .i64 j ∧ ∀ i (hi : i < s.size), k ≤ i → i < j → delimB (s[i]'hi) = false
theorem TokIn.start {s : ByteArray} {k : Nat} (h : k ≤ s.size) : TokIn s k (.int .i64 k) := ⟨k, Nat.le_refl _, h, rfl, fun i _ h1 h2 => by omega⟩
theorem TokIn.next {s : ByteArray} {k j : Nat} (hkj : k ≤ j) (hj : j < s.size) (hall : ∀ i (hi : i < s.size), k ≤ i → i < j → delimB (s[i]'hi) = false) (hd : delimB (s[j]'hj) = false) : TokIn s k (.int .i64 ((j : Int) + 1)) :=
  ⟨j + 1, by omega, by omega, by go_num, fun i hi h1 h2 => by
    by_cases e : i = j
    · subst e; exact hd
    · exact hall i hi h1 (by omega)⟩
def TokRel (w : World) (s : ByteArray) (out i : Value) (wr : World) : Prop :=
  ∃ (k : Nat) (done : List (List UInt8)), k ≤ s.size ∧ i = .int .i64 k ∧ done ++ tokL (s.data.toList.drop k) = tokL s.data.toList ∧ done.length ≤ k ∧ wr.ownsRow w.heap.size 9 1 out done.length (done.map strV) ∧ Below w.heap.size w wr
theorem drop_at {s : ByteArray} {k : Nat} (h : k < s.size) : s.data.toList.drop k = s[k]'h :: s.data.toList.drop (k + 1) := by
  have := List.drop_eq_getElem_cons (l := s.data.toList) (i := k) (by simpa using h)
  rw [this]
  rfl
theorem tok_skip {s : ByteArray} {k : Nat} {done : List (List UInt8)} (h : k < s.size) (hd : delimB (s[k]'h) = true) (he : done ++ tokL (s.data.toList.drop k) = tokL s.data.toList) : done ++ tokL (s.data.toList.drop (k + 1)) = tokL s.data.toList := by
  rw [← he, drop_at h, tokL_skip hd]
theorem tok_take {s : ByteArray} {k j : Nat} {done : List (List UInt8)} (hkj : k < j) (hj : j ≤ s.size) (hall : ∀ i (hi : i < s.size), k ≤ i → i < j → delimB (s[i]'hi) = false) (hend : ∀ hi : j < s.size, delimB (s[j]'hi) = true)
    (he : done ++ tokL (s.data.toList.drop k) = tokL s.data.toList) : done ++ [(s.extract k j).data.toList] ++ tokL (s.data.toList.drop j) = tokL s.data.toList := by
  have hsp : s.data.toList.drop k = (s.extract k j).data.toList ++ s.data.toList.drop j := by
    have h1 := span_more (l := s.data.toList) (a := k) (p := k) (k := j - k) (Nat.le_refl _)
    rw [show k + (j - k) = j by omega, span_self, List.nil_append] at h1
    have h2 := span_extract s (k, j)
    simp only at h2
    rw [h2, h1]
    conv => lhs; rw [← List.take_append_drop (j - k) (s.data.toList.drop k)]
    rw [List.drop_drop, show k + (j - k) = j by omega]
  have hne : (s.extract k j).data.toList ≠ [] := fun h => by
    have := congrArg List.length h
    simp at this
    omega
  rw [hsp, tokL_run hne ?_ ?_] at he
  · rw [← he]
    simp
  · intro b hb
    obtain ⟨i, hi, rfl⟩ := List.mem_iff_getElem.1 hb
    have hi2 : i < j - k := by simp at hi; omega
    have := hall (k + i) (by omega) (by omega) (by omega)
    rw [← this]
    congr 1
    simp
    rfl
  · intro b hb
    by_cases hjs : j < s.size
    · rw [drop_at hjs] at hb
      simp at hb
      subst hb
      exact hend hjs
    · rw [List.drop_eq_nil_of_le (by simp; omega)] at hb
      cases hb
set_option maxHeartbeats 2000000 in
set_option maxRecDepth 100000 in
theorem specTokL (s : ByteArray) (w : World) (hs : s.size ≤ 1048576) : Calls Tryz.prog 317 #[.string s] w (TokPost w (tokL s.data.toList)) := by
  obtain ⟨i0, hi, hz0, hz1, hz2⟩ := info_parts info_string
  go_enter Tryz.func317, Tryz.ntmps317
  go_wp2_with fail
  go_loopw [3, 4] (fun out i wr => TokRel w s out i wr) (fun _ i _ => s.size - (intOf i).toNat)
  case atStart => exact ⟨0, [], Nat.zero_le _, rfl, rfl, Nat.le_refl _, ⟨rfl, .inr ⟨w.heap.size, 0, #[], rfl, Nat.le_refl _, heap_alloc_new _ _, Nat.le_refl _, Nat.zero_le _, rfl, rfl⟩⟩, (Below.refl _ _).alloc (Nat.le_refl _) _⟩
  case round =>
    obtain ⟨k, done, hk, rfl, hrest, hdl, hown, hb⟩ := hrel
    have HC := Lib.hid hrest
    have HO := Lib.hid hown
    have HB := Lib.hid hb
    have hsz := hb.size
    clear hrest hown hb
    by_cases hlt : k < s.size
    · cases hd : delimB (s[k]'hlt) with
      | true =>
        have HD := Lib.hid hd
        clear hd
        go_wp2_with (go_at_call 346; refine (between_any _ _).mono ?_; rintro e w' ⟨rfl, rfl⟩; rw [HD.out])
        go_roundw
        case rel => exact ⟨k + 1, done, by omega, by go_num, tok_skip hlt HD.out HC.out, by omega, HO.out, HB.out⟩
        case measure => simp [intOf]; omega
      | false =>
        have HD := Lib.hid hd
        clear hd
        go_wp2_with (go_at_call 346; refine (between_any _ _).mono ?_; rintro e w' ⟨rfl, rfl⟩; rw [HD.out])
        go_loop [5] (fun kk => TokIn s k kk) (fun kk => s.size - (intOf kk).toNat)
        case atStart => exact TokIn.start hk
        case round =>
          obtain ⟨j, hkj, hjs, rfl, hall⟩ := hrel
          have HA := Lib.hid hall
          clear hall
          by_cases hjl : j < s.size
          · cases hd2 : delimB (s[j]'hjl) with
            | true =>
              have HD2 := Lib.hid hd2
              clear hd2
              have HEND : Hid (∀ hi : j < s.size, delimB (s[j]'hi) = true) := Lib.hid (fun hi => HD2.out)
              have HKJ : Hid (k < j) := Lib.hid (by
                rcases Nat.lt_or_ge k j with h | h
                · exact h
                · obtain rfl : k = j := by omega
                  exact absurd HD.out (by rw [HEND.out hlt]; simp))
              have hkj2 := HKJ.out
              go_wp2_with (first
                | (go_at_call 346; refine (between_any _ _).mono ?_; rintro e w' ⟨rfl, rfl⟩; rw [HD2.out])
                | (at_builtin; refine wpList_append_own _ rfl (.tmp 31) (.tmp 36) 32 rfl w.heap.size 9 i0 (.string ByteArray.empty) 1 16 Tryz.underlying32 hi hz0 hz1 hz2 rfl (by decide) _ _ _ rfl (HO.out.alloc _) ⟨wr.heap.size, 0, none⟩ 1 1 [.string (s.extract k j)] rfl rfl (cell_new _ _ _) ?c2 ?c3 ?c4 ?c5 ?_; rotate_left 4; intro v' w1 hown' hgrow _))
              case c2 => exact one_str _
              case c3 => unfold maxLen; omega
              case c4 => omega
              case c5 => first | (simp; omega) | omega
              go_roundw
              case rel =>
                refine ⟨j, done ++ [(s.extract k j).data.toList], hjs, rfl, tok_take hkj2 hjs HA.out HEND.out HC.out, by simp; omega, ?_, below_own HB.out HO.out (Nat.le_refl _) hgrow⟩
                rw [List.length_append, List.map_append]
                rw [strV_data] at hown'
                exact hown'
              case measure => simp [intOf]; omega
            | false =>
              have HD2 := Lib.hid hd2
              clear hd2
              go_wp2_with (go_at_call 346; refine (between_any _ _).mono ?_; rintro e w' ⟨rfl, rfl⟩; rw [HD2.out])
              go_round
              case rel => exact TokIn.next hkj hjl HA.out HD2.out
              case measure => simp [intOf]; omega
          · skip
            have HEND : Hid (∀ hi : j < s.size, delimB (s[j]'hi) = true) := Lib.hid (fun hi => absurd hi hjl)
            have HKJ : Hid (k < j) := Lib.hid (by
              rcases Nat.lt_or_ge k j with h | h
              · exact h
              · obtain rfl : k = j := by omega
                exact absurd HD.out (by rw [HEND.out hlt]; simp))
            have hkj2 := HKJ.out
            go_wp2_with (first
              | (at_builtin; refine wpList_append_own _ rfl (.tmp 31) (.tmp 36) 32 rfl w.heap.size 9 i0 (.string ByteArray.empty) 1 16 Tryz.underlying32 hi hz0 hz1 hz2 rfl (by decide) _ _ _ rfl (HO.out.alloc _) ⟨wr.heap.size, 0, none⟩ 1 1 [.string (s.extract k j)] rfl rfl (cell_new _ _ _) ?d2 ?d3 ?d4 ?d5 ?_; rotate_left 4; intro v' w1 hown' hgrow _))
            case d2 => first | exact one_str _ | exact one_str (s.extract k j) _ (by simp)
            case d3 => unfold maxLen; omega
            case d4 => omega
            case d5 => first | (simp; omega) | omega
            go_roundw
            case rel =>
              refine ⟨j, done ++ [(s.extract k j).data.toList], hjs, rfl, tok_take hkj2 hjs HA.out HEND.out HC.out, by simp; omega, ?_, below_own HB.out HO.out (Nat.le_refl _) hgrow⟩
              rw [List.length_append, List.map_append]
              rw [strV_data] at hown'
              exact hown'
            case measure => simp [intOf]; omega
    · go_wp2_with fail
      go_ret
      obtain rfl : k = s.size := by omega
      refine ⟨_, rfl, ?_, HB.out⟩
      have h := HC.out
      rw [List.drop_eq_nil_of_le (by simp), tokL_nil, List.append_nil] at h
      rw [← h]
      exact HO.out
theorem row_of_own {w : World} {B : Nat} {v : Value} {ps : List (List UInt8)} (h : w.ownsRow B 9 1 v ps.length (ps.map strV)) : RowT w B v ps := by
  by_cases h1 : 1 ≤ ps.length
  · exact RowT.of_texts (texts_of_own h1 h)
  · obtain rfl : ps = [] := List.eq_nil_of_length_eq_zero (by omega)
    obtain ⟨_, h | ⟨g, cap, cur, rfl, _⟩⟩ := h
    · rw [h.1]
      exact RowT.empty _ _ _ _
    · exact RowT.empty _ _ _ _
/-- What DateTokens answers. -/
def tokV (s : ByteArray) : List (List UInt8) := if s.size ≤ 65536 then tokL s.data.toList else []
def tokC (s : ByteArray) : Int := if s.size ≤ 65536 then 0 else 2
theorem tokV_len (s : ByteArray) : (tokV s).length ≤ 65536 := by
  unfold tokV
  split
  · have := tokL_len s.data.toList
    simp at this
    omega
  · simp
def TokensPost (w : World) (s : ByteArray) (e : Ending) (w' : World) : Prop := ∃ v, e = .returned (.tuple #[v, .int .i64 (tokC s)]) ∧ RowT w' w.heap.size v (tokV s) ∧ Below w.heap.size w w'
theorem tokensPost_mk {w w' : World} {s : ByteArray} {v : Value} {ps : List (List UInt8)} {c : Int} (hp : tokV s = ps) (hc : tokC s = c) (h : RowT w' w.heap.size v ps) (hb : Below w.heap.size w w') : TokensPost w s (.returned (.tuple #[v, .int .i64 c])) w' :=
  ⟨v, by rw [hc], by rw [hp]; exact h, hb⟩
theorem delimiter_pred (w : World) : PredAtRunes Tryz.prog 310 #[] delimR w := by
  intro W x hx _
  exact (delimiter_any x W hx).mono fun e w' ⟨he, hw⟩ => ⟨he, 0, hw.symm⟩
theorem vals_of (l : List ByteArray) : l.map Value.string = (l.map fun u => u.data.toList).map strV := by
  rw [List.map_map]
  exact List.map_congr_left fun x _ => strV_data x
theorem fields_any (s : ByteArray) (w : World) (hs : s.size ≤ 65536) : Calls Tryz.prog 309 #[.string s, .func (.func 310) #[] #[]] w (fun e w' => ∃ v, e = .returned v ∧ RowT w' w.heap.size v (tokL s.data.toList) ∧ Below w.heap.size w w') := by
  refine (Tryz.strings_FieldsFunc_runes 310 #[] (enters_of Tryz.func310 (by kernel_rfl) rfl) delimR s w (by omega) (delimiter_pred w)).mono ?_
  rintro e w' ⟨A, rfl, hA, hown, hb⟩
  refine ⟨_, rfl, ?_, hb⟩
  have hl : (Lib.goFieldsP delimR s).length = (tokL s.data.toList).length := by rw [← fields_tok, List.length_map]
  rw [vals_of, fields_tok, hl] at hown
  rw [hl]
  exact row_of_own hown
theorem implTokens (s : ByteArray) (w : World) (hs : s.size ≤ maxLen) : Calls Tryz.prog 257 #[.string s] w (TokensPost w s) := by
  unfold maxLen at hs
  by_cases hl : s.size ≤ 65536
  · have HP : Hid (tokV s = tokL s.data.toList) := if_pos hl
    have HC : Hid (tokC s = 0) := if_pos hl
    go_enter Tryz.func257, Tryz.ntmps257
    go_wp2_with fail
    refine (clone_any s _ hl).mono ?_
    rintro e w1 ⟨rfl, hb⟩
    have HB := Lib.hid hb
    clear hb
    go_wp2_with fail
    refine (fields_any s _ hl).mono ?_
    rintro e w2 ⟨v, rfl, hr, hb⟩
    have HR := Lib.hid hr
    have HB2 := Lib.hid (HB.out.trans (hb.mono HB.out.size))
    clear hr hb
    go_wp2_with fail
    go_ret2
    exact tokensPost_mk HP.out HC.out (HR.out.more HB.out.size) HB2.out
  · have HP : Hid (tokV s = []) := if_neg hl
    have HC : Hid (tokC s = 2) := if_neg hl
    go_enter Tryz.func257, Tryz.ntmps257
    go_wp2_with fail
    go_ret2
    exact tokensPost_mk HP.out HC.out (RowT.empty _ _ _ _) (Below.refl _ _)
end Go.Proofs.YtpdonghdnaehhaaGreatDoor
