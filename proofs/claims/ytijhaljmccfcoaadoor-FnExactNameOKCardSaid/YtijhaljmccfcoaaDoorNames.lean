/- NameOK of the program and of the model: what they answer; the law's walk. No condition of its own. -/
import Derived.Test.YtijhaljmccfcoaaDoorDecimal
namespace Go.Proofs.YtijhaljmccfcoaaDoor
open Go.ChangeShapes Go.WideShapes Go.ChangeAt Go.WideMaps Go.WideElems Go.RowKit

def letter0B (b : UInt8) : Bool := decide (97 ≤ b.toNat ∧ b.toNat ≤ 122 ∨ 65 ≤ b.toNat ∧ b.toNat ≤ 90 ∨ b.toNat = 95)
theorem letter0_any (b : UInt8) (w : World) : Calls Tryd.prog 62 #[.int .u8 b.toNat] w fun e w' => e = .returned (.bool (letter0B b)) ∧ w = w' := by
  by_cases h95 : b.toNat = 95
  · have h1 : (((b.toNat : Nat) : Int) == 95) = true := by simp [h95]
    have e : letter0B b = true := by simp [letter0B, h95]
    have HE := Lib.hid e
    have h2 : b.toNat ≤ 95 := by omega
    have h3 : 95 ≤ b.toNat := by omega
    clear e h95
    go_enter Tryd.func62, Tryd.ntmps62
    go_wp2
    all_goals go_ret
    all_goals refine ⟨bool_end ?_, rfl⟩
    all_goals rw [HE.out]
    all_goals first | rfl | simp
  · have h1 : (((b.toNat : Nat) : Int) == 95) = false := by
      rw [beq_eq_false_iff_ne]
      omega
    have HE := Lib.hid h95
    clear h95
    go_enter Tryd.func62, Tryd.ntmps62
    go_wp2
    all_goals go_ret
    all_goals refine ⟨bool_end ?_, rfl⟩
    all_goals have h95 := HE.out
    all_goals rw [Bool.eq_iff_iff]; simp [letter0B]; omega
def wordB (b : UInt8) : Bool := letter0B b || digitB b
theorem word_cls (b : UInt8) : wordB b = !decide (cls b.toNat < 4) := by
  have h : ∀ n : Fin 256, wordB (UInt8.ofNat n) = !decide (cls n < 4) := by decide +kernel
  have := h ⟨b.toNat, b.toNat_lt⟩
  simpa using this
theorem letter0_cls (b : UInt8) (h : 4 ≤ cls b.toNat) : letter0B b = !(cls b.toNat == 4) := by
  have h2 : ∀ n : Fin 256, 4 ≤ cls n → letter0B (UInt8.ofNat n) = !(cls n == 4) := by decide +kernel
  have := h2 ⟨b.toNat, b.toNat_lt⟩ h
  simpa using this
/-- What NameOK answers. -/
def nameOK (t : ByteArray) : Bool := decide (1 ≤ t.size ∧ t.size ≤ 12) && ((t.data.toList.head?.map letter0B).getD false && allB t wordB)
theorem head_at {t : ByteArray} (h : 0 < t.size) : t.data.toList.head? = some (t[0]'h) := by
  rw [List.head?_eq_getElem?, List.getElem?_eq_getElem (by simpa using h)]
  rfl
theorem name_yes {t : ByteArray} (h1 : 0 < t.size) (h2 : t.size ≤ 12) (h3 : letter0B (t[0]'h1) = true) (h4 : allB t wordB = true) : nameOK t = true := by
  simp [nameOK, head_at h1, h3, h4]
  omega
theorem name_first {t : ByteArray} (h1 : 0 < t.size) (h3 : letter0B (t[0]'h1) = false) : nameOK t = false := by
  simp [nameOK, head_at h1, h3]
theorem name_rest {t : ByteArray} (h4 : allB t wordB = false) : nameOK t = false := by
  simp [nameOK, h4]
theorem name_len {t : ByteArray} (h : t.size < 1 ∨ 12 < t.size) : nameOK t = false := by
  have : ¬ (1 ≤ t.size ∧ t.size ≤ 12) := by omega
  simp [nameOK]
  omega
theorem specName (t : ByteArray) (w : World) (hs : t.size ≤ maxLen) : Calls Tryd.prog 45 #[.string t] w fun e w' => e = .returned (.bool (nameOK t)) ∧ w = w' := by
  unfold maxLen at hs
  by_cases h0 : 0 < t.size
  · by_cases h12 : t.size ≤ 12
    · cases hf : letter0B (t[0]'h0) with
      | false =>
        have HN := Lib.hid (name_first h0 hf)
        go_enter Tryd.func45, Tryd.ntmps45
        go_wp2_with (go_at_call 62; refine (letter0_any _ _).mono ?_; rintro e w' ⟨rfl, rfl⟩)
        go_ret
        exact ⟨bool_end HN.out.symm, rfl⟩
      | true =>
        have HF := Lib.hid hf
        go_enter Tryd.func45, Tryd.ntmps45
        go_wp2_with (go_at_call 62; refine (letter0_any _ _).mono ?_; rintro e w' ⟨rfl, rfl⟩)
        clear hf
        go_loop [3] (fun i => ∃ k : Nat, 1 ≤ k ∧ k ≤ t.size ∧ i = .int .i64 k ∧ Upto t wordB k) (fun i => t.size - (intOf i).toNat)
        case atStart => exact ⟨1, by omega, by omega, rfl, upto_succ (upto_zero _ _) h0 (by simp [wordB, HF.out])⟩
        case round =>
          obtain ⟨k, hk1, hk, rfl, hup⟩ := hrel
          have HU := Lib.hid hup
          clear hup
          by_cases hlt : k < t.size
          · go_wp2_with (first
              | (go_at_call 62; refine (letter0_any _ _).mono ?_; rintro e w' ⟨rfl, rfl⟩)
              | (go_at_call 59; refine (digit_any _ _).mono ?_; rintro e w' ⟨rfl, rfl⟩))
            · have h1 : letter0B t[k] = true := by assumption
              go_round
              case rel => exact ⟨k + 1, by omega, by omega, by go_num, upto_succ HU.out hlt (by simp [wordB, h1])⟩
              case measure => simp [intOf]; omega
            · have h1 : ¬ letter0B t[k] = true := by assumption
              have h2 : (!digitB t[k]) = true := by assumption
              go_ret
              exact ⟨bool_end (name_rest (all_false_at hlt (by simp [wordB, h1]; simpa using h2))).symm, rfl⟩
            · have h2 : (!digitB t[k]) = false := by assumption
              have HD : Hid (wordB t[k] = true) := by
                show wordB t[k] = true
                have : digitB t[k] = true := by simpa using h2
                simp [wordB, this]
              go_round
              case rel => exact ⟨k + 1, by omega, by omega, by go_num, upto_succ HU.out hlt HD.out⟩
              case measure => simp [intOf]; omega
          · go_wp2
            go_ret
            exact ⟨bool_end (name_yes h0 h12 HF.out (all_of_upto HU.out (by omega))).symm, rfl⟩
    · have HN := Lib.hid (name_len (t := t) (.inr (by omega)))
      go_enter Tryd.func45, Tryd.ntmps45
      go_wp2
      go_ret
      exact ⟨bool_end HN.out.symm, rfl⟩
  · have HN := Lib.hid (name_len (t := t) (.inl (by omega)))
    go_enter Tryd.func45, Tryd.ntmps45
    go_wp2
    go_ret
    exact ⟨bool_end HN.out.symm, rfl⟩
theorem implName (t : ByteArray) (w : World) (hs : t.size ≤ maxLen) (hT : TabAt w) : Calls Tryd.prog 27 #[.string t] w fun e w' => e = .returned (.bool (nameOK t)) ∧ Below w.heap.size w w' := by
  have HT := Lib.hid hT
  clear hT
  unfold maxLen at hs
  cases he : t.toList.isEmpty with
  | true =>
    have HN := Lib.hid (name_len (t := t) (.inl (by have := empty_size he; omega)))
    go_enter Tryd.func27, Tryd.ntmps27
    go_wp2
    go_ret
    exact ⟨bool_end HN.out.symm, Below.refl _ _⟩
  | false =>
  have hz := some_size he
  by_cases h12 : t.size ≤ 12
  · go_enter Tryd.func27, Tryd.ntmps27
    go_wp2
    go_loopw [] (fun wr => ∃ pos : Nat, pos ≤ t.size ∧ wr = w.iter t pos ∧ Upto t wordB pos ∧ (0 < pos → letter0B (t[0]'hz) = true)) (fun wr => t.size - wr.iterPos w.heap.size)
    case atStart => exact ⟨0, Nat.zero_le _, rfl, upto_zero _ _, by omega⟩
    case round =>
      obtain ⟨pos, hk, rfl, hup, hfi⟩ := hrel
      have HU := Lib.hid hup
      have HF := Lib.hid hfi
      clear hup hfi
      by_cases hp : pos < t.size
      · have hnx : ∀ ty, (Instr.next (.pointer (some ⟨w.heap.size, 0, none⟩)) true ty).run Tryd.prog (w.iter t pos) = _ := fun ty => run_next_any w t pos ty hp
        have hmx := decode_max t pos
        by_cases hc4 : cls (Utf8.decode t pos).1 < 4
        · have HB : Hid (wordB (t[pos]'hp) = false) := by
            show wordB (t[pos]'hp) = false
            rw [word_cls]
            rcases rune_cases t pos hp with ⟨_, h⟩ | ⟨h, _⟩
            · rw [← h]; simpa using hc4
            · rw [cls_high h]; rfl
          go_wp2_with (go_at_call 34; refine (classOf_any _ _ hmx (HT.out.below ((Below.refl _ _).alloc (Nat.le_refl _) _))).mono ?_; rintro e w' ⟨rfl, rfl⟩)
          go_ret
          exact ⟨bool_end (name_rest (all_false_at hp HB.out)).symm, (Below.refl _ _).alloc (Nat.le_refl _) _⟩
        · have ha : (t[pos]'hp).toNat < 128 := by
            rcases rune_cases t pos hp with ⟨h, _⟩ | ⟨_, h⟩
            · exact h
            · rw [cls_high h] at hc4
              exact absurd (by decide) hc4
          have hdec := decode_ascii t pos hp ha
          have HX := Lib.hid hdec
          have HW : Hid (wordB (t[pos]'hp) = true) := by
            show wordB (t[pos]'hp) = true
            rw [word_cls]
            rw [hdec] at hc4
            simpa using hc4
          have HC := Lib.hid hc4
          clear hdec
          have h4 : 4 ≤ cls (Utf8.decode t pos).1 := by omega
          clear hc4
          by_cases h0 : 0 < pos
          · go_wp2_with (go_at_call 34; refine (classOf_any _ _ hmx (HT.out.below ((Below.refl _ _).alloc (Nat.le_refl _) _))).mono ?_; rintro e w' ⟨rfl, rfl⟩)
            go_roundw
            case rel =>
              rw [HX.out]
              exact ⟨pos + 1, hp, rfl, upto_succ HU.out hp HW.out, fun _ => HF.out h0⟩
            case measure =>
              have m1 : (w.alloc (.stringIter t (pos + (Utf8.decode t pos).2))).iterPos w.heap.size = pos + (Utf8.decode t pos).2 := World.iterPos_iter w t _
              try simp only [Nat.zero_add] at m1
              rw [m1, HX.out]
              first | omega | (rw [World.iterPos_iter]; omega)
          · obtain rfl : pos = 0 := by omega
            cases h44 : (cls (Utf8.decode t 0).1 == 4) with
            | true =>
              have HL : Hid (letter0B (t[0]'hp) = false) := by
                show letter0B (t[0]'hp) = false
                rw [HX.out] at h4 h44
                rw [letter0_cls _ h4, h44]; rfl
              go_wp2_with (go_at_call 34; refine (classOf_any _ _ hmx (HT.out.below ((Below.refl _ _).alloc (Nat.le_refl _) _))).mono ?_; rintro e w' ⟨rfl, rfl⟩)
              go_ret
              exact ⟨bool_end (name_first hz HL.out).symm, (Below.refl _ _).alloc (Nat.le_refl _) _⟩
            | false =>
              have HL : Hid (letter0B (t[0]'hp) = true) := by
                show letter0B (t[0]'hp) = true
                rw [HX.out] at h4 h44
                rw [letter0_cls _ h4, h44]; rfl
              go_wp2_with (go_at_call 34; refine (classOf_any _ _ hmx (HT.out.below ((Below.refl _ _).alloc (Nat.le_refl _) _))).mono ?_; rintro e w' ⟨rfl, rfl⟩)
              go_roundw
              case rel =>
                rw [HX.out]
                exact ⟨1, hp, rfl, upto_succ HU.out hp HW.out, fun _ => HL.out⟩
              case measure =>
                have m1 : (w.alloc (.stringIter t (0 + (Utf8.decode t 0).2))).iterPos w.heap.size = 0 + (Utf8.decode t 0).2 := World.iterPos_iter w t _
                try simp only [Nat.zero_add] at m1
                rw [m1, HX.out]
                first | omega | (rw [World.iterPos_iter]; omega)
      · have hnx : ∀ ty, (Instr.next (.pointer (some ⟨w.heap.size, 0, none⟩)) true ty).run Tryd.prog (w.iter t pos) = _ := fun ty => run_next_end w t pos ty hp
        go_wp2
        go_ret
        exact ⟨bool_end (name_yes hz h12 (HF.out (by omega)) (all_of_upto HU.out (by omega))).symm, (Below.refl _ _).alloc (Nat.le_refl _) _⟩
  · have HN := Lib.hid (name_len (t := t) (.inr (by omega)))
    go_enter Tryd.func27, Tryd.ntmps27
    go_wp2
    go_ret
    exact ⟨bool_end HN.out.symm, Below.refl _ _⟩
theorem specNameOK (t : ByteArray) (w : World) (hs : t.size ≤ maxLen) : Calls Tryd.prog 26 #[.string t] w fun e w' => e = .returned (.bool (nameOK t)) ∧ w = w' := by
  go_enter Tryd.func26, Tryd.ntmps26
  go_wp2_with (go_at_call 45; refine (specName _ _ hs).mono ?_; rintro e w' ⟨rfl, rfl⟩)
  go_ret
  exact ⟨rfl, rfl⟩
theorem walk_FnExactNameOK (W : World) (s : ByteArray) (hs : s.size ≤ maxLen) (hL : laidMetH Tryd.prog Rows.fnExactNameOKRow.laid W) (_ : W.ShapedOpen Tryd.prog) :
    Calls Tryd.prog 4 #[.string s] W fun e w' => e = .returned (.bool true) ∧ Below W.heap.size W w' := by
  have hT := Lib.hid (tab_laid hL)
  have hs0 := Lib.hid hs
  clear hL
  unfold maxLen at hs
  by_cases hl : (s.size : Int) ≤ 1048576
  · go_enter Tryd.func4, Tryd.ntmps4
    go_wp2_with (first
      | (go_at_call 26; refine (specNameOK _ _ hs0.out).mono ?_; rintro e w' ⟨rfl, rfl⟩)
      | (go_at_call 27; refine (implName _ _ hs0.out hT.out).mono ?_; rintro e w' ⟨rfl, hb⟩))
    go_ret
    exact ⟨rfl, hb⟩
  · go_enter Tryd.func4, Tryd.ntmps4
    go_wp2
    go_ret
    exact ⟨rfl, Below.refl _ _⟩
end Go.Proofs.YtijhaljmccfcoaaDoor
