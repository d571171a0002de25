/- Trim of the program and of the model: what they answer; the law's walk. No condition of its own. -/
import Derived.Test.YtcaabnnkjnleeaaGreatDoorScan
import Derived.Test.YtcaabnnkjnleeaaGreatDoorClone
import Derived.Shelf.Strings.SlTrimAscii
namespace Go.Proofs.YtcaabnnkjnleeaaGreatDoor
open Go.ChangeShapes Go.WideShapes Go.ChangeAt Go.WideMaps Go.WideElems Go.RowKit

def blankB (b : UInt8) : Bool := b == 32 || b == 9
def leftL (l : List UInt8) : List UInt8 := l.dropWhile blankB
def rightL (l : List UInt8) : List UInt8 := (l.reverse.dropWhile blankB).reverse
theorem drop_nil : ∀ {l : List UInt8}, l.dropWhile blankB = [] → ∀ c ∈ l, blankB c = true
  | [], _, _, h => by cases h
  | b :: l, e, c, h => by
    cases hb : blankB b with
    | false => rw [List.dropWhile_cons, if_neg (by simp [hb])] at e; cases e
    | true =>
      rw [List.dropWhile_cons, if_pos hb] at e
      rcases List.mem_cons.1 h with rfl | h
      · exact hb
      · exact drop_nil e c h
theorem right_snoc_blank {l : List UInt8} {b : UInt8} (h : blankB b = true) : rightL (l ++ [b]) = rightL l := by
  simp [rightL, h]
theorem right_snoc {l : List UInt8} {b : UInt8} (h : blankB b = false) : rightL (l ++ [b]) = l ++ [b] := by
  simp [rightL, h]
theorem left_all {l m : List UInt8} (h : ∀ b ∈ l, blankB b = true) : leftL (l ++ m) = leftL m := by
  induction l with
  | nil => rfl
  | cons b l ih =>
    rw [leftL, List.cons_append, List.dropWhile_cons, if_pos (h b (by simp))]
    exact ih (fun c hc => h c (by simp [hc]))
/-- From both ends, whichever first. -/
theorem left_right (l : List UInt8) : leftL (rightL l) = rightL (leftL l) := by
  induction l with
  | nil => rfl
  | cons b l ih =>
    cases hb : blankB b with
    | true =>
      have e1 : leftL (b :: l) = leftL l := by rw [leftL, List.dropWhile_cons, if_pos hb]; rfl
      rw [e1, ← ih]
      by_cases hall : ∀ c ∈ l, blankB c = true
      · have hr : ∀ m : List UInt8, (∀ c ∈ m, blankB c = true) → rightL m = [] := fun m hm => by
          have : m.reverse.dropWhile blankB = [] := by
            have := left_all (l := m.reverse) (m := []) (fun c hc => hm c (by simpa using hc))
            simpa [leftL] using this
          simp [rightL, this]
        rw [hr l hall, hr (b :: l) (fun c hc => by
          rcases List.mem_cons.1 hc with rfl | hc
          · exact hb
          · exact hall c hc)]
      · have hr : rightL (b :: l) = b :: rightL l := by
          obtain ⟨c, hc⟩ := Classical.not_forall.1 hall
          obtain ⟨hc1, hc2⟩ := Classical.not_imp.1 hc
          have hne : l.reverse.dropWhile blankB ≠ [] := fun e => by
            exact hc2 (drop_nil e c (by simpa using hc1))
          rw [rightL, List.reverse_cons, List.dropWhile_append]
          simp [rightL, hne]
        rw [hr]
        rw [leftL, List.dropWhile_cons, if_pos hb]
        rfl
    | false =>
      have e1 : leftL (b :: l) = b :: l := by rw [leftL, List.dropWhile_cons, if_neg (by simp [hb])]
      rw [e1]
      have hr : ∃ m, rightL (b :: l) = b :: m := by
        rw [rightL, List.reverse_cons, List.dropWhile_append]
        cases h : (l.reverse.dropWhile blankB).isEmpty
        · exact ⟨(l.reverse.dropWhile blankB).reverse, by simp⟩
        · exact ⟨[], by simp [hb]⟩
      obtain ⟨m, hm⟩ := hr
      rw [hm, leftL, List.dropWhile_cons, if_neg (by simp [hb])]
/-- What Trim answers. -/
def trimB (s : ByteArray) : ByteArray := if s.size ≤ 65536 then ⟨(rightL (leftL s.data.toList)).toArray⟩ else ⟨#[]⟩
theorem blank_any (b : UInt8) (w : World) : Calls Tryz.prog 180 #[.int .u8 b.toNat] w fun e w' => e = .returned (.bool (blankB b)) ∧ w = w' := by
  have h32 : (((b.toNat : Nat) : Int) == 32) = (b == 32) := by
    rw [Bool.eq_iff_iff, beq_iff_eq, beq_iff_eq, ← UInt8.toNat_inj]
    show _ ↔ b.toNat = 32
    omega
  have h9 : (((b.toNat : Nat) : Int) == 9) = (b == 9) := by
    rw [Bool.eq_iff_iff, beq_iff_eq, beq_iff_eq, ← UInt8.toNat_inj]
    show _ ↔ b.toNat = 9
    omega
  have H32 := Lib.hid h32
  have H9 := Lib.hid h9
  clear h32 h9
  go_enter Tryz.func180, Tryz.ntmps180
  go_wp2
  all_goals go_ret
  all_goals refine ⟨bool_end ?_, rfl⟩
  · have h1 : ((b.toNat : Nat) : Int) = 32 := by assumption
    have : (b == 32) = true := by rw [← H32.out]; simp [h1]
    simp [blankB, this]
  · have h1 : ¬ ((b.toNat : Nat) : Int) = 32 := by assumption
    have : (b == 32) = false := by rw [← H32.out]; simp [h1]
    rw [H9.out]
    simp [blankB, this, h1]
theorem tail_of {u : ByteArray} (h : 0 < u.size) : u.data.toList = u[0] :: (u.extract 1 u.size).data.toList := by
  have hl : 0 < u.data.toList.length := by simpa using h
  rw [Lib.extract_data, List.take_of_length_le (by simp)]
  rw [← List.drop_zero (l := u.data.toList), List.drop_eq_getElem_cons hl]
  simp
  rfl
theorem init_of {u : ByteArray} (h : 0 < u.size) : u.data.toList = (u.extract 0 (u.size - 1)).data.toList ++ [u[u.size - 1]'(by omega)] := by
  have hl : u.size - 1 < u.data.toList.length := by simp; omega
  rw [Lib.extract_data, List.drop_zero, Nat.sub_zero]
  have e := List.take_succ_eq_append_getElem hl
  rw [List.take_of_length_le (by simp; omega)] at e
  exact e
def TrimRel1 (s : ByteArray) (v : Value) : Prop := ∃ u : ByteArray, v = .string u ∧ leftL u.data.toList = leftL s.data.toList ∧ u.size ≤ s.size
def TrimRel2 (s : ByteArray) (v : Value) : Prop := ∃ u : ByteArray, v = .string u ∧ rightL u.data.toList = rightL (leftL s.data.toList) ∧ u.size ≤ s.size
def sizeOfV : Value → Nat | .string u => u.size | _ => 0
theorem specTrimL (s : ByteArray) (w : World) (hs : s.size ≤ maxLen) : Calls Tryz.prog 133 #[.string s] w fun e w' => e = .returned (.string ⟨(rightL (leftL s.data.toList)).toArray⟩) ∧ w = w' := by
  unfold maxLen at hs
  go_enter Tryz.func133, Tryz.ntmps133
  go_wp2
  go_loop [0] (fun v => TrimRel1 s v) (fun v => sizeOfV v)
  case atStart => exact ⟨s, rfl, rfl, Nat.le_refl _⟩
  case round =>
    obtain ⟨u, rfl, hl, hsz⟩ := hrel
    have HL := Lib.hid hl
    clear hl
    by_cases hgo : ∃ h0 : 0 < u.size, blankB (u[0]'h0) = true
    · obtain ⟨h0, hb⟩ := hgo
      have HT := Lib.hid (tail_of h0)
      have HB := Lib.hid hb
      go_wp2_with (go_at_call 180; refine (blank_any _ _).mono ?_; rintro e w' ⟨rfl, rfl⟩)
      go_round
      case rel => exact ⟨u.extract 1 u.size, rfl, by rw [← HL.out, HT.out, leftL, leftL, List.dropWhile_cons, if_pos HB.out], by simp; omega⟩
      case measure => simp [sizeOfV]; omega
    · have hb : ∀ h0 : 0 < u.size, blankB (u[0]'h0) = false := fun h0 => by
        cases h : blankB (u[0]'h0) with
        | false => rfl
        | true => exact absurd ⟨h0, h⟩ hgo
      have HU : Hid (u.data.toList = leftL s.data.toList) := by
        show _ = _
        rw [← HL.out]
        rcases Nat.eq_zero_or_pos u.size with h0 | h0
        · have : u.data.toList = [] := List.eq_nil_of_length_eq_zero (by simpa using h0)
          rw [this]
          rfl
        · rw [tail_of h0, leftL, List.dropWhile_cons, if_neg (by rw [hb h0]; simp)]
      clear hgo
      by_cases h0 : 0 < u.size
      all_goals
        first
        | have hb1 := hb h0
        | have hb1 : u.size ≤ 0 := by omega
        clear hb
        go_wp2_with (go_at_call 180; refine (blank_any _ _).mono ?_; rintro e w' ⟨rfl, rfl⟩)
        clear hb1
        go_loop [0] (fun v => TrimRel2 s v) (fun v => sizeOfV v)
        case atStart => exact ⟨u, rfl, by rw [HU.out], hsz⟩
        case round =>
          clear HU HL hsz
          obtain ⟨v, rfl, hr, hsz⟩ := hrel
          have HR := Lib.hid hr
          clear hr
          by_cases hgo : ∃ h0 : 0 < v.size, blankB (v[v.size - 1]'(by omega)) = true
          · obtain ⟨h0, hb⟩ := hgo
            have HT := Lib.hid (init_of h0)
            have HB := Lib.hid hb
            go_wp2_with (go_at_call 180; refine (blank_any _ _).mono ?_; rintro e w' ⟨rfl, rfl⟩)
            go_round
            case rel => exact ⟨v.extract 0 (v.size - 1), rfl, by rw [← HR.out, HT.out, right_snoc_blank HB.out], by simp; omega⟩
            case measure => simp [sizeOfV]; omega
          · have hb : ∀ h0 : 0 < v.size, blankB (v[v.size - 1]'(by omega)) = false := fun h0 => by
              cases h : blankB (v[v.size - 1]'(by omega)) with
              | false => rfl
              | true => exact absurd ⟨h0, h⟩ hgo
            have HV : Hid (v.data.toList = rightL (leftL s.data.toList)) := by
              show _ = _
              rw [← HR.out]
              rcases Nat.eq_zero_or_pos v.size with h0 | h0
              · have : v.data.toList = [] := List.eq_nil_of_length_eq_zero (by simpa using h0)
                rw [this]
                rfl
              · rw [init_of h0, right_snoc (hb h0)]
            clear hgo
            by_cases h0 : 0 < v.size
            all_goals
              first
              | have hb1 := hb h0
              | have hb1 : v.size ≤ 0 := by omega
              clear hb
              go_wp2_with (go_at_call 180; refine (blank_any _ _).mono ?_; rintro e w' ⟨rfl, rfl⟩)
              go_ret
              exact ⟨by rw [← HV.out]; rfl, rfl⟩
theorem drop_le (p : UInt8 → Bool) : ∀ l : List UInt8, (l.dropWhile p).length ≤ l.length
  | [] => Nat.le_refl _
  | b :: l => by
    rw [List.dropWhile_cons]
    split
    · exact Nat.le_trans (drop_le p l) (by simp)
    · exact Nat.le_refl _
theorem trimS_eq (l : List UInt8) : Lib.trimS l [32, 9] = rightL (leftL l) := by
  have e : (fun b : UInt8 => [32, 9].contains b) = blankB := by
    funext b
    rw [Bool.eq_iff_iff]
    simp [blankB]
  rw [← left_right]
  simp only [Lib.trimS, Lib.trimLeftS, Lib.trimRightS, leftL, rightL, e]
theorem trim_any (s : ByteArray) (w : World) (hs : s.size ≤ maxLen) : Calls Tryz.prog 233 #[.string s, .string ⟨#[32, 9]⟩] w fun e w' => e = .returned (.string ⟨(rightL (leftL s.data.toList)).toArray⟩) ∧ Below w.heap.size w w' := by
  unfold maxLen at hs
  refine (Any.strings_Trim_laid Tryz.lays160 (by kernel_rfl) s ⟨#[32, 9]⟩ w (by omega) (by decide) (ascii_of_all (by decide))).mono ?_
  rintro e w' ⟨rfl, hb⟩
  exact ⟨by rw [trimS_eq], hb⟩
theorem trim_size (s : ByteArray) : (⟨(rightL (leftL s.data.toList)).toArray⟩ : ByteArray).size ≤ s.size := by
  have h1 := drop_le blankB s.data.toList
  have h2 := drop_le blankB (leftL s.data.toList).reverse
  have : (rightL (leftL s.data.toList)).length ≤ s.size := by
    simp [rightL, leftL] at *
    omega
  show (rightL (leftL s.data.toList)).toArray.size ≤ s.size
  rw [List.size_toArray]
  exact this
theorem implTrim (s : ByteArray) (w : World) (hs : s.size ≤ maxLen) : Calls Tryz.prog 214 #[.string s] w fun e w' => e = .returned (.string (trimB s)) ∧ Below w.heap.size w w' := by
  have hs0 := Lib.hid hs
  unfold maxLen at hs
  by_cases hl : s.size ≤ 65536
  · have HF : Hid (trimB s = ⟨(rightL (leftL s.data.toList)).toArray⟩) := if_pos hl
    have hz := trim_size s
    go_enter Tryz.func214, Tryz.ntmps214
    go_wp2_with (first
      | (go_at_call 233; refine (trim_any _ _ hs0.out).mono ?_; rintro e w' ⟨rfl, hb⟩)
      | (go_at_call 100; refine (clone_any _ _ (by omega)).mono ?_; rintro e w' ⟨rfl, hb2⟩))
    go_ret
    exact ⟨by rw [HF.out]; rfl, hb.trans (hb2.mono hb.size)⟩
  · have HF : Hid (trimB s = ⟨#[]⟩) := if_neg hl
    go_enter Tryz.func214, Tryz.ntmps214
    go_wp2
    go_ret
    exact ⟨by rw [HF.out]; rfl, Below.refl _ _⟩
end Go.Proofs.YtcaabnnkjnleeaaGreatDoor
