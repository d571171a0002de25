/- Trim of the program and of the model: what they answer; the law's walk. No condition of its own. -/
import Derived.Test.YtpdonghdnaehhaaGreatDoorZGb
import Derived.Test.YtpdonghdnaehhaaGreatDoorZGc
import Derived.Shelf.Strings.SlTrimAscii
import Derived.Test.YtpdonghdnaehhaaGreatDoorZTokMath
import Derived.Test.YtpdonghdnaehhaaGreatDoorZGa
import Derived.Test.YtpdonghdnaehhaaGreatDoorZHostMath
import Derived.Test.YtpdonghdnaehhaaGreatDoorShelf
import Derived.Test.YtpdonghdnaehhaaGreatDoorZDateOK
namespace Go.Proofs.YtpdonghdnaehhaaGreatDoor
open Go.ChangeShapes Go.WideShapes Go.ChangeAt Go.WideMaps Go.WideElems Go.RowKit

def blankB (b : UInt8) : Bool := b == 32 || b == 9
def leftL (l : List UInt8) : List UInt8 := l.dropWhile blankB
def rightL (l : List UInt8) : List UInt8 := (l.reverse.dropWhile blankB).reverse
theorem drop_nil : ∀ {l : List UInt8}, l.dropWhile blankB = [] → ∀ c ∈ l, blankB c = true
  | [], _, _, h => by cases h
  | b :: l, e, c, h => by
    cases hb : blankB b with
    | false => rw [List.dropWhile_cons, if_neg (by simp [hb])] at e; cases e
    | true =>
      rw [List.dropWhile_cons, if_pos hb] at e
      rcases List.mem_cons.1 h with rfl | h
      · exact hb
      · exact drop_nil e c h
theorem right_snoc_blank {l : List UInt8} {b : UInt8} (h : blankB b = true) : rightL (l ++ [b]) = rightL l := by
  simp [rightL, h]
theorem right_snoc {l : List UInt8} {b : UInt8} (h : blankB b = false) : rightL (l ++ [b]) = l ++ [b] := by
  simp [rightL, h]
theorem left_all {l m : List UInt8} (h : ∀ b ∈ l, blankB b = true) : leftL (l ++ m) = leftL m := by
  induction l with
  | nil => rfl
  | cons b l ih =>
    rw [leftL, List.cons_append, List.dropWhile_cons, if_pos (h b (by simp))]
    exact ih (fun c hc => h c (by simp [hc]))
/-- From both ends, whichever first. -/
theorem left_right (l : List UInt8) : leftL (rightL l) = rightL (leftL l) := by
  induction l with
  | nil => rfl
  | cons b l ih =>
    cases hb : blankB b with
    | true =>
      have e1 : leftL (b :: l) = leftL l := by rw [leftL, List.dropWhile_cons, if_pos hb]; rfl
      rw [e1, ← ih]
      by_cases hall : ∀ c ∈ l, blankB c = true
      · have hr : ∀ m : List UInt8, (∀ c ∈ m, blankB c = true) → rightL m = [] := fun m hm => by
          have : m.reverse.dropWhile blankB = [] := by
            have := left_all (l := m.reverse) (m := []) (fun c hc => hm c (by simpa using hc))
            simpa [leftL] using this
          simp [rightL, this]
        rw [hr l hall, hr (b :: l) (fun c hc => by
          rcases List.mem_cons.1 hc with rfl | hc
          · exact hb
          · exact hall c hc)]
      · have hr : rightL (b :: l) = b :: rightL l := by
          obtain ⟨c, hc⟩ := Classical.not_forall.1 hall
          obtain ⟨hc1, hc2⟩ := Classical.not_imp.1 hc
          have hne : l.reverse.dropWhile blankB ≠ [] := fun e => by
            exact hc2 (drop_nil e c (by simpa using hc1))
          rw [rightL, List.reverse_cons, List.dropWhile_append]
          simp [rightL, hne]
        rw [hr]
        rw [leftL, List.dropWhile_cons, if_pos hb]
        rfl
    | false =>
      have e1 : leftL (b :: l) = b :: l := by rw [leftL, List.dropWhile_cons, if_neg (by simp [hb])]
      rw [e1]
      have hr : ∃ m, rightL (b :: l) = b :: m := by
        rw [rightL, List.reverse_cons, List.dropWhile_append]
        cases h : (l.reverse.dropWhile blankB).isEmpty
        · exact ⟨(l.reverse.dropWhile blankB).reverse, by simp⟩
        · exact ⟨[], by simp [hb]⟩
      obtain ⟨m, hm⟩ := hr
      rw [hm, leftL, List.dropWhile_cons, if_neg (by simp [hb])]
/-- What Trim answers. -/
def trimB (s : ByteArray) : ByteArray := if s.size ≤ 65536 then ⟨(rightL (leftL s.data.toList)).toArray⟩ else ⟨#[]⟩
theorem blank_any (b : UInt8) (w : World) : Calls Tryz.prog 264 #[.int .u8 b.toNat] w fun e w' => e = .returned (.bool (blankB b)) ∧ w = w' := by
  have h32 : (((b.toNat : Nat) : Int) == 32) = (b == 32) := by
    rw [Bool.eq_iff_iff, beq_iff_eq, beq_iff_eq, ← UInt8.toNat_inj]
    show _ ↔ b.toNat = 32
    omega
  have h9 : (((b.toNat : Nat) : Int) == 9) = (b == 9) := by
    rw [Bool.eq_iff_iff, beq_iff_eq, beq_iff_eq, ← UInt8.toNat_inj]
    show _ ↔ b.toNat = 9
    omega
  have H32 := Lib.hid h32
  have H9 := Lib.hid h9
  clear h32 h9
  go_enter Tryz.func264, Tryz.ntmps264
  go_wp2
  all_goals go_ret
  all_goals refine ⟨bool_end ?_, rfl⟩
  · have h1 : ((b.toNat : Nat) : Int) = 32 := by assumption
    have : (b == 32) = true := by rw [← H32.out]; simp [h1]
    simp [blankB, this]
  · have h1 : ¬ ((b.toNat : Nat) : Int) = 32 := by assumption
    have : (b == 32) = false := by rw [← H32.out]; simp [h1]
    rw [H9.out]
    simp [blankB, this, h1]
theorem tail_of {u : ByteArray} (h : 0 < u.size) : u.data.toList = u[0] :: (u.extract 1 u.size).data.toList := by
  have hl : 0 < u.data.toList.length := by simpa using h
  rw [Lib.extract_data, List.take_of_length_le (by simp)]
  rw [← List.drop_zero (l := u.data.toList), List.drop_eq_getElem_cons hl]
  simp
  rfl
theorem init_of {u : ByteArray} (h : 0 < u.size) : u.data.toList = (u.extract 0 (u.size - 1)).data.toList ++ [u[u.size - 1]'(by omega)] := by
  have hl : u.size - 1 < u.data.toList.length := by simp; omega
  rw [Lib.extract_data, List.drop_zero, Nat.sub_zero]
  have e := List.take_succ_eq_append_getElem hl
  rw [List.take_of_length_le (by simp; omega)] at e
  exact e
def TrimRel1 (s : ByteArray) (v : Value) : Prop := ∃ u : ByteArray, v = .string u ∧ leftL u.data.toList = leftL s.data.toList ∧ u.size ≤ s.size
def TrimRel2 (s : ByteArray) (v : Value) : Prop := ∃ u : ByteArray, v = .string u ∧ rightL u.data.toList = rightL (leftL s.data.toList) ∧ u.size ≤ s.size
def sizeOfV : Value → Nat | .string u => u.size | _ => 0
theorem specTrimL (s : ByteArray) (w : World) (hs : s.size ≤ maxLen) : Calls Tryz.prog 185 #[.string s] w fun e w' => e = .returned (.string ⟨(rightL (leftL s.data.toList)).toArray⟩) ∧ w = w' := by
  unfold maxLen at hs
  go_enter Tryz.func185, Tryz.ntmps185
  go_wp2
  go_loop [0] (fun v => TrimRel1 s v) (fun v => sizeOfV v)
  case atStart => exact ⟨s, rfl, rfl, Nat.le_refl _⟩
  case round =>
    obtain ⟨u, rfl, hl, hsz⟩ := hrel
    have HL := Lib.hid hl
    clear hl
    by_cases hgo : ∃ h0 : 0 < u.size, blankB (u[0]'h0) = true
    · obtain ⟨h0, hb⟩ := hgo
      have HT := Lib.hid (tail_of h0)
      have HB := Lib.hid hb
      go_wp2_with (go_at_call 264; refine (blank_any _ _).mono ?_; rintro e w' ⟨rfl, rfl⟩)
      go_round
      case rel => exact ⟨u.extract 1 u.size, rfl, by rw [← HL.out, HT.out, leftL, leftL, List.dropWhile_cons, if_pos HB.out], by simp; omega⟩
      case measure => simp [sizeOfV]; omega
    · have hb : ∀ h0 : 0 < u.size, blankB (u[0]'h0) = false := fun h0 => by
        cases h : blankB (u[0]'h0) with
        | false => rfl
        | true => exact absurd ⟨h0, h⟩ hgo
      have HU : Hid (u.data.toList = leftL s.data.toList) := by
        show _ = _
        rw [← HL.out]
        rcases Nat.eq_zero_or_pos u.size with h0 | h0
        · have : u.data.toList = [] := List.eq_nil_of_length_eq_zero (by simpa using h0)
          rw [this]
          rfl
        · rw [tail_of h0, leftL, List.dropWhile_cons, if_neg (by rw [hb h0]; simp)]
      clear hgo
      by_cases h0 : 0 < u.size
      all_goals
        first
        | have hb1 := hb h0
        | have hb1 : u.size ≤ 0 := by omega
        clear hb
        go_wp2_with (go_at_call 264; refine (blank_any _ _).mono ?_; rintro e w' ⟨rfl, rfl⟩)
        clear hb1
        go_loop [0] (fun v => TrimRel2 s v) (fun v => sizeOfV v)
        case atStart => exact ⟨u, rfl, by rw [HU.out], hsz⟩
        case round =>
          clear HU HL hsz
          obtain ⟨v, rfl, hr, hsz⟩ := hrel
          have HR := Lib.hid hr
          clear hr
          by_cases hgo : ∃ h0 : 0 < v.size, blankB (v[v.size - 1]'(by omega)) = true
          · obtain ⟨h0, hb⟩ := hgo
            have HT := Lib.hid (init_of h0)
            have HB := Lib.hid hb
            go_wp2_with (go_at_call 264; refine (blank_any _ _).mono ?_; rintro e w' ⟨rfl, rfl⟩)
            go_round
            case rel => exact ⟨v.extract 0 (v.size - 1), rfl, by rw [← HR.out, HT.out, right_snoc_blank HB.out], by simp; omega⟩
            case measure => simp [sizeOfV]; omega
          · have hb : ∀ h0 : 0 < v.size, blankB (v[v.size - 1]'(by omega)) = false := fun h0 => by
              cases h : blankB (v[v.size - 1]'(by omega)) with
              | false => rfl
              | true => exact absurd ⟨h0, h⟩ hgo
            have HV : Hid (v.data.toList = rightL (leftL s.data.toList)) := by
              show _ = _
              rw [← HR.out]
              rcases Nat.eq_zero_or_pos v.size with h0 | h0
              · have : v.data.toList = [] := List.eq_nil_of_length_eq_zero (by simpa using h0)
                rw [this]
                rfl
              · rw [init_of h0, right_snoc (hb h0)]
            clear hgo
            by_cases h0 : 0 < v.size
            all_goals
              first
              | have hb1 := hb h0
              | have hb1 : v.size ≤ 0 := by omega
              clear hb
              go_wp2_with (go_at_call 264; refine (blank_any _ _).mono ?_; rintro e w' ⟨rfl, rfl⟩)
              go_ret
              exact ⟨by rw [← HV.out]; rfl, rfl⟩
theorem drop_le (p : UInt8 → Bool) : ∀ l : List UInt8, (l.dropWhile p).length ≤ l.length
  | [] => Nat.le_refl _
  | b :: l => by
    rw [List.dropWhile_cons]
    split
    · exact Nat.le_trans (drop_le p l) (by simp)
    · exact Nat.le_refl _
theorem trimS_eq (l : List UInt8) : Lib.trimS l [32, 9] = rightL (leftL l) := by
  have e : (fun b : UInt8 => [32, 9].contains b) = blankB := by
    funext b
    rw [Bool.eq_iff_iff]
    simp [blankB]
  rw [← left_right]
  simp only [Lib.trimS, Lib.trimLeftS, Lib.trimRightS, leftL, rightL, e]
theorem trim_any (s : ByteArray) (w : World) (hs : s.size ≤ maxLen) : Calls Tryz.prog 168 #[.string s, .string ⟨#[32, 9]⟩] w fun e w' => e = .returned (.string ⟨(rightL (leftL s.data.toList)).toArray⟩) ∧ Below w.heap.size w w' := by
  unfold maxLen at hs
  refine (Any.strings_Trim_laid Tryz.lays160 (by kernel_rfl) s ⟨#[32, 9]⟩ w (by omega) (by decide) (ascii_of_all (by decide))).mono ?_
  rintro e w' ⟨rfl, hb⟩
  exact ⟨by rw [trimS_eq], hb⟩
theorem trim_size (s : ByteArray) : (⟨(rightL (leftL s.data.toList)).toArray⟩ : ByteArray).size ≤ s.size := by
  have h1 := drop_le blankB s.data.toList
  have h2 := drop_le blankB (leftL s.data.toList).reverse
  have : (rightL (leftL s.data.toList)).length ≤ s.size := by
    simp [rightL, leftL] at *
    omega
  show (rightL (leftL s.data.toList)).toArray.size ≤ s.size
  rw [List.size_toArray]
  exact this
theorem implTrim (s : ByteArray) (w : World) (hs : s.size ≤ maxLen) : Calls Tryz.prog 74 #[.string s] w fun e w' => e = .returned (.string (trimB s)) ∧ Below w.heap.size w w' := by
  have hs0 := Lib.hid hs
  unfold maxLen at hs
  by_cases hl : s.size ≤ 65536
  · have HF : Hid (trimB s = ⟨(rightL (leftL s.data.toList)).toArray⟩) := if_pos hl
    have hz := trim_size s
    go_enter Tryz.func74, Tryz.ntmps74
    go_wp2_with (first
      | (go_at_call 168; refine (trim_any _ _ hs0.out).mono ?_; rintro e w' ⟨rfl, hb⟩)
      | (go_at_call 167; refine (clone_any _ _ (by omega)).mono ?_; rintro e w' ⟨rfl, hb2⟩))
    go_ret
    exact ⟨by rw [HF.out]; rfl, hb.trans (hb2.mono hb.size)⟩
  · have HF : Hid (trimB s = ⟨#[]⟩) := if_neg hl
    go_enter Tryz.func74, Tryz.ntmps74
    go_wp2
    go_ret
    exact ⟨by rw [HF.out]; rfl, Below.refl _ _⟩
end Go.Proofs.YtpdonghdnaehhaaGreatDoor

namespace Go.Proofs.YtpdonghdnaehhaaGreatDoor
open Go.WideShapes

def digB (b : UInt8) : Bool := decide (48 ≤ b.toNat ∧ b.toNat ≤ 57)
theorem dig_iff (b : UInt8) : digB b = true ↔ 48 ≤ b.toNat ∧ b.toNat ≤ 57 := by simp only [digB, decide_eq_true_eq]
/-- How many digits a text begins with, and the number that digits are. -/
def digN (l : List UInt8) : Nat := (l.takeWhile digB).length
def val (l : List UInt8) : Int := l.foldl (fun n b => 10 * n + ((b.toNat : Int) - 48)) 0
theorem val_snoc (l : List UInt8) (b : UInt8) : val (l ++ [b]) = 10 * val l + ((b.toNat : Int) - 48) := by simp [val]
theorem digN_le (l : List UInt8) : digN l ≤ l.length := (List.takeWhile_sublist _).length_le
theorem take_front {l a b : List UInt8} (h : a ++ b = l) : l.take a.length = a ∧ l.drop a.length = b := by
  subst h
  simp
theorem digN_take (l : List UInt8) : l.take (digN l) = l.takeWhile digB := (take_front List.takeWhile_append_dropWhile).1
theorem digN_drop (l : List UInt8) : l.drop (digN l) = l.dropWhile digB := (take_front List.takeWhile_append_dropWhile).2
theorem digN_all (l : List UInt8) : ∀ b ∈ l.take (digN l), digB b = true := by
  rw [digN_take]
  intro b hb
  exact List.all_eq_true.1 (List.all_takeWhile) b hb
theorem digN_of {u r : List UInt8} (h : ∀ b ∈ u, digB b = true) (hr : ∀ b, r.head? = some b → digB b = false) : digN (u ++ r) = u.length := by
  unfold digN
  rw [List.takeWhile_append_of_pos h]
  cases r with
  | nil => simp
  | cons b r => simp [hr b rfl]
theorem val_bound : ∀ (k : Nat) (l : List UInt8), l.length = k → (∀ b ∈ l, digB b = true) → 0 ≤ val l ∧ val l < 10 ^ k
  | 0, l, hl, _ => by
    obtain rfl := List.eq_nil_of_length_eq_zero hl
    exact ⟨by decide, by decide⟩
  | k + 1, l, hl, h => by
    obtain ⟨m, b, rfl⟩ : ∃ m b, l = m ++ [b] := by
      refine ⟨l.dropLast, l.getLast (by intro e; subst e; simp at hl), (List.dropLast_concat_getLast _).symm⟩
    have ih := val_bound k m (by simp at hl; omega) (fun x hx => h x (by simp [hx]))
    have hb := (dig_iff b).1 (h b (by simp))
    rw [val_snoc, Int.pow_succ]
    omega
/-- From lo to hi digits at the beginning, and what is behind them. -/
def leadL (lo hi : Nat) (l : List UInt8) : Option (Int × List UInt8) := if lo ≤ digN l ∧ digN l ≤ hi then some (val (l.take (digN l)), l.drop (digN l)) else none
/-- Three such numbers with colons between. -/
def timeL (l : List UInt8) : Option (Int × Int × Int) :=
  match leadL 1 2 l with
  | some (h, 58 :: r) =>
    (match leadL 1 2 r with
     | some (n, 58 :: q) => (match leadL 1 2 q with | some (s, _) => some (h, n, s) | none => none)
     | _ => none)
  | _ => none
theorem lead_some {lo hi : Nat} {l r : List UInt8} {n : Int} (h : leadL lo hi l = some (n, r)) : lo ≤ digN l ∧ digN l ≤ hi ∧ n = val (l.take (digN l)) ∧ r = l.drop (digN l) := by
  unfold leadL at h
  split at h
  · rename_i hh
    simp only [Option.some.injEq, Prod.mk.injEq] at h
    exact ⟨hh.1, hh.2, h.1.symm, h.2.symm⟩
  · cases h
theorem lead_none {lo hi : Nat} {l : List UInt8} (h : leadL lo hi l = none) : ¬ (lo ≤ digN l ∧ digN l ≤ hi) := by
  unfold leadL at h
  split at h
  · cases h
  · assumption
theorem lead_len {lo hi : Nat} {l r : List UInt8} {n : Int} (h : leadL lo hi l = some (n, r)) : r.length ≤ l.length := by
  obtain ⟨_, _, _, rfl⟩ := lead_some h
  simp
theorem lead_num {lo hi : Nat} {l r : List UInt8} {n : Int} (h : leadL lo hi l = some (n, r)) (h4 : hi ≤ 4) : 0 ≤ n ∧ n ≤ 9999 := by
  obtain ⟨_, h2, rfl, _⟩ := lead_some h
  have hk := digN_le l
  obtain ⟨b1, b2⟩ := val_bound (digN l) (l.take (digN l)) (by simp; omega) (digN_all l)
  have : (10 : Int) ^ digN l ≤ 10 ^ 4 := by
    have : (10 : Nat) ^ digN l ≤ 10 ^ 4 := Nat.pow_le_pow_right (by omega) (by omega)
    exact_mod_cast this
  exact ⟨b1, by have e : (10 : Int) ^ 4 = 10000 := by decide
                omega⟩
theorem lead_head {lo hi : Nat} {l r : List UInt8} {n : Int} (h : leadL lo hi l = some (n, r)) : ∀ b, r.head? = some b → digB b = false := by
  obtain ⟨_, _, _, rfl⟩ := lead_some h
  intro b hb
  rw [digN_drop] at hb
  have := List.head?_dropWhile_not digB l
  rw [hb] at this
  simpa using this
/-- A text cut at its first k colons. -/
def cutN (k : Nat) (l : List UInt8) : List (List UInt8) := Lib.splitK [58] 0 k l
theorem cutN_zero (l : List UInt8) : cutN 0 l = [l] := rfl
theorem cutN_none {l : List UInt8} (h : ∀ b ∈ l, b ≠ 58) (k : Nat) : cutN k l = [l] := by
  cases k with
  | zero => rfl
  | succ k =>
    have hi : ¬ l.findIdx (· == 58) < l.length := fun hh => by
      obtain ⟨e, _⟩ := find_split hh
      exact h 58 (by rw [e]; simp) rfl
    rw [cutN, Lib.splitK, index_one, if_neg hi]
    rfl
theorem cutN_hit {u r : List UInt8} (h : ∀ b ∈ u, b ≠ 58) (k : Nat) : cutN (k + 1) (u ++ 58 :: r) = u :: cutN k r := by
  have hf : (u ++ 58 :: r).findIdx (· == 58) = u.length := by
    rw [List.findIdx_append]
    have : ¬ u.findIdx (· == 58) < u.length := fun hh => by
      obtain ⟨e, _⟩ := find_split hh
      exact h 58 (by rw [e]; simp) rfl
    rw [if_neg this]
    simp [List.findIdx_cons]
  have hi : Lib.index (u ++ 58 :: r) [58] = (u.length : Int) := by
    rw [index_one, if_pos (by rw [hf]; simp), hf]
  rw [cutN, Lib.splitK, hi, if_neg (by intro hh; have := beq_iff_eq.1 hh; omega)]
  simp [cutN]
theorem split58 (l : List UInt8) : (∀ b ∈ l, b ≠ 58) ∨ ∃ u r, l = u ++ 58 :: r ∧ ∀ b ∈ u, b ≠ 58 := by
  by_cases h : l.findIdx (· == 58) < l.length
  · obtain ⟨e, hne⟩ := find_split h
    exact .inr ⟨_, _, e, hne⟩
  · exact .inl (find_none h)
/-- More cuts than bytes are no more cuts. -/
theorem cutN_min : ∀ (k : Nat) (l : List UInt8), cutN (min k l.length) l = cutN k l
  | 0, l => by simp
  | k + 1, l => by
    rcases split58 l with h | ⟨u, r, rfl, h⟩
    · rw [cutN_none h, cutN_none h]
    · rw [show min (k + 1) (u ++ 58 :: r).length = min k (u.length + r.length) + 1 by simp; omega, cutN_hit h, cutN_hit h]
      congr 1
      by_cases hk : k ≤ r.length
      · rw [Nat.min_eq_left (by omega)]
      · rw [← cutN_min k r, ← cutN_min (min k (u.length + r.length)) r]
        congr 1
        omega
theorem cutN_len : ∀ (k : Nat) (l : List UInt8), (cutN k l).length ≤ k + 1
  | 0, l => Nat.le_refl _
  | k + 1, l => by
    rcases split58 l with h | ⟨u, r, rfl, h⟩
    · rw [cutN_none h]; simp
    · rw [cutN_hit h]
      have := cutN_len k r
      simp
      omega
theorem cutN_pos (k : Nat) (l : List UInt8) : 1 ≤ (cutN k l).length := by
  cases k with
  | zero => exact Nat.le_refl _
  | succ k =>
    rcases split58 l with h | ⟨u, r, rfl, h⟩
    · rw [cutN_none h]; simp
    · rw [cutN_hit h]; simp
theorem cutN_size : ∀ (k : Nat) (l : List UInt8), ∀ u ∈ cutN k l, u.length ≤ l.length
  | 0, l, u, h => by
    rw [cutN_zero] at h
    simp at h
    rw [h]
    exact Nat.le_refl _
  | k + 1, l, x, hx => by
    rcases split58 l with h | ⟨u, r, rfl, h⟩
    · rw [cutN_none h] at hx
      simp at hx
      rw [hx]
      exact Nat.le_refl _
    · rw [cutN_hit h] at hx
      rcases List.mem_cons.1 hx with rfl | hx
      · simp
      · have := cutN_size k r x hx
        simp
        omega
theorem lead_colon {lo hi : Nat} {u r : List UInt8} : leadL lo hi (u ++ 58 :: r) = (leadL lo hi u).map fun x => (x.1, x.2 ++ 58 :: r) := by
  have hk : digN (u ++ 58 :: r) = digN u := by
    have h1 := digN_of (u := u.takeWhile digB) (r := u.dropWhile digB ++ 58 :: r) (fun b hb => List.all_eq_true.1 List.all_takeWhile b hb) (fun b hb => by
      cases hd : u.dropWhile digB with
      | nil => rw [hd] at hb; simp at hb; subst hb; decide
      | cons c t =>
        rw [hd] at hb
        simp at hb
        subst hb
        have := List.head?_dropWhile_not digB u
        rw [hd] at this
        simpa using this)
    rw [← List.append_assoc, List.takeWhile_append_dropWhile] at h1
    exact h1
  have hle := digN_le u
  unfold leadL
  rw [hk]
  split
  · rw [List.take_append_of_le_length hle, List.drop_append_of_le_length hle]
    rfl
  · rfl
/-- The whole of a text is such a number. -/
def fullL (l : List UInt8) : Option Int := match leadL 1 2 l with | some (n, []) => some n | _ => none
def time3 (a b c : List UInt8) : Option (Int × Int × Int) :=
  match fullL a with
  | some h => (match fullL b with | some n => (match leadL 1 2 c with | some (s, _) => some (h, n, s) | none => none) | none => none)
  | none => none
theorem lead_rest_mem {lo hi : Nat} {l r : List UInt8} {n : Int} (h : leadL lo hi l = some (n, r)) : ∀ b ∈ r, b ∈ l := by
  obtain ⟨_, _, _, rfl⟩ := lead_some h
  intro b hb
  exact List.mem_of_mem_drop hb
/-- What a number and a colon behind it are, said of what lies before the first colon. -/
theorem lead_then {α : Type} {u r : List UInt8} (hu : ∀ b ∈ u, b ≠ 58) (f : Int → List UInt8 → Option α) :
    (match leadL 1 2 (u ++ 58 :: r) with | some (h, 58 :: q) => f h q | _ => none) = (match fullL u with | some h => f h r | none => none) := by
  rw [lead_colon]
  unfold fullL
  cases hl : leadL 1 2 u with
  | none => rfl
  | some x =>
    obtain ⟨n, q⟩ := x
    cases q with
    | nil => rfl
    | cons b q =>
      have hb : b ≠ 58 := hu b (lead_rest_mem hl b (by simp))
      simp only [Option.map_some, List.cons_append]
      split
      · rename_i heq
        simp at heq
        exact absurd heq.2.1 hb
      · rfl
theorem lead_no {α : Type} {u : List UInt8} (hu : ∀ b ∈ u, b ≠ 58) (f : Int → List UInt8 → Option α) : (match leadL 1 2 u with | some (h, 58 :: q) => f h q | _ => none) = none := by
  split
  · rename_i heq
    exact absurd rfl (hu 58 (lead_rest_mem heq 58 (by simp)))
  · rfl
def timeF (p : List (List UInt8)) : Option (Int × Int × Int) :=
  match p with
  | [a, b, c] => time3 a b c
  | _ => none
/-- The time of a token, by its parts between the first two colons. -/
theorem time_cut (l : List UInt8) : timeL l = timeF (cutN 2 l) := by
  rcases split58 l with h | ⟨u, r, rfl, h⟩
  · rw [cutN_none h, timeL, lead_no h]
    rfl
  · rw [cutN_hit h, timeL, lead_then h]
    rcases split58 r with h2 | ⟨v, q, rfl, h2⟩
    · rw [cutN_none h2]
      show _ = none
      cases fullL u with
      | none => rfl
      | some x => exact lead_no h2 _
    · rw [cutN_hit h2, cutN_zero]
      show _ = time3 u v q
      unfold time3
      cases fullL u with
      | none => rfl
      | some x => exact lead_then h2 _
end Go.Proofs.YtpdonghdnaehhaaGreatDoor

namespace Go.Proofs.YtpdonghdnaehhaaGreatDoor
open Go.ChangeShapes Go.WideShapes Go.ChangeAt Go.WideMaps Go.WideElems Go.RowKit

theorem dig_same (b : UInt8) : digitB b = digB b := rfl
theorem acc_val : ∀ (k : Nat) (l : List UInt8), l.length = k → k ≤ 12 → (∀ b ∈ l, digB b = true) → acc l = val l
  | 0, l, hl, _, _ => by
    obtain rfl := List.eq_nil_of_length_eq_zero hl
    rfl
  | k + 1, l, hl, hk, h => by
    obtain ⟨m, b, rfl⟩ : ∃ m b, l = m ++ [b] :=
      ⟨l.dropLast, l.getLast (by intro e; subst e; simp at hl), (List.dropLast_concat_getLast _).symm⟩
    have hm : m.length = k := by simp at hl; omega
    have hdm : ∀ x ∈ m, digB x = true := fun x hx => h x (by simp [hx])
    rw [acc_snoc, acc_val k m hm (by omega) hdm, val_snoc]
    obtain ⟨b1, b2⟩ := val_bound (k + 1) (m ++ [b]) hl h
    rw [val_snoc] at b1 b2
    have : (10 : Int) ^ (k + 1) ≤ 10 ^ 12 := by
      have : (10 : Nat) ^ (k + 1) ≤ 10 ^ 12 := Nat.pow_le_pow_right (by omega) (by omega)
      exact_mod_cast this
    have e : (10 : Int) ^ 12 = 1000000000000 := by decide
    rw [e] at this
    omega
theorem dec_small {u : ByteArray} (h1 : 1 ≤ u.size) (h4 : u.size ≤ 4) (hd : ∀ b ∈ u.data.toList, digB b = true) : dN u = val u.data.toList ∧ dC u = 0 := by
  have hneg : negB u = false := by
    cases hh : u.data.toList with
    | nil => simp [negB, hh]
    | cons b t =>
      have := (dig_iff b).1 (hd b (by rw [hh]; simp))
      simp only [negB, hh, List.head?_cons, beq_eq_false_iff_ne, ne_eq, Option.some.injEq]
      rintro rfl
      simp at this
  have hr : restB u = u := by simp [restB, hneg]
  have hall : decAll u = true := by
    unfold decAll allB
    rw [hr]
    exact List.all_eq_true.2 hd
  have hok : decOK u = true := by
    simp only [decOK, hall, hr, Bool.true_and, decide_eq_true_eq]
    omega
  have hsg : sgnB u = 1 := by simp [sgnB, hneg]
  refine ⟨?_, ?_⟩
  · unfold dN decN
    rw [if_pos ⟨by omega, hok⟩, if_pos hall, hsg, hr, acc_val u.size u.data.toList (by simp) (by omega) hd]
    omega
  · unfold dC
    rw [if_pos (by omega), if_pos hok]
theorem trim_digits (l : List UInt8) : Lib.trimLeftS l [48, 49, 50, 51, 52, 53, 54, 55, 56, 57] = l.drop (digN l) := by
  rw [digN_drop]
  unfold Lib.trimLeftS
  congr 1
  funext b
  rw [Bool.eq_iff_iff, dig_iff]
  simp only [List.contains_eq_mem, List.mem_cons, List.not_mem_nil, or_false, decide_eq_true_eq]
  constructor
  · rintro (rfl | rfl | rfl | rfl | rfl | rfl | rfl | rfl | rfl | rfl) <;> decide
  · intro ⟨h1, h2⟩
    have h : b.toNat = 48 ∨ b.toNat = 49 ∨ b.toNat = 50 ∨ b.toNat = 51 ∨ b.toNat = 52 ∨ b.toNat = 53 ∨ b.toNat = 54 ∨ b.toNat = 55 ∨ b.toNat = 56 ∨ b.toNat = 57 := by omega
    simpa [← UInt8.toNat_inj] using h
/-- What begins a text: the number, what is behind it, and whether there is one. -/
def ldN (lo hi : Nat) (s : ByteArray) : Int := match leadL lo hi s.data.toList with | some (n, _) => n | none => 0
def ldR (lo hi : Nat) (s : ByteArray) : ByteArray := match leadL lo hi s.data.toList with | some (_, r) => ⟨r.toArray⟩ | none => ⟨#[]⟩
def ldB (lo hi : Nat) (s : ByteArray) : Bool := (leadL lo hi s.data.toList).isSome
theorem ld_none {lo hi : Nat} {s : ByteArray} (h : leadL lo hi s.data.toList = none) : ldN lo hi s = 0 ∧ ldR lo hi s = ⟨#[]⟩ ∧ ldB lo hi s = false := by simp [ldN, ldR, ldB, h]
theorem ld_some {lo hi : Nat} {s : ByteArray} {n : Int} {r : List UInt8} (h : leadL lo hi s.data.toList = some (n, r)) : ldN lo hi s = n ∧ ldR lo hi s = ⟨r.toArray⟩ ∧ ldB lo hi s = true := by simp [ldN, ldR, ldB, h]
theorem nsb_end {a b : Int} {s t : ByteArray} {p q : Bool} (h1 : a = b) (h2 : s = t) (h3 : p = q) : Ending.returned (.tuple #[.int .i64 a, .string s, .bool p]) = .returned (.tuple #[.int .i64 b, .string t, .bool q]) := by rw [h1, h2, h3]
def LeadPost (w : World) (lo hi : Nat) (s : ByteArray) (e : Ending) (w' : World) : Prop := e = .returned (.tuple #[.int .i64 (ldN lo hi s), .string (ldR lo hi s), .bool (ldB lo hi s)]) ∧ Below w.heap.size w w'
theorem trimLeft_any (s : ByteArray) (w : World) : Calls Tryz.prog 345 #[.string s, .string ⟨#[48, 49, 50, 51, 52, 53, 54, 55, 56, 57]⟩] w fun e w' => e = .returned (.string ⟨(s.data.toList.drop (digN s.data.toList)).toArray⟩) ∧ Below w.heap.size w w' := by
  refine (Any.strings_TrimLeft_laid Tryz.lays161 (by kernel_rfl) s ⟨#[48, 49, 50, 51, 52, 53, 54, 55, 56, 57]⟩ w (by decide) (ascii_of_all (by decide))).mono ?_
  rintro e w' ⟨rfl, hb⟩
  refine ⟨?_, hb⟩
  rw [show (⟨#[48, 49, 50, 51, 52, 53, 54, 55, 56, 57]⟩ : ByteArray).data.toList = [48, 49, 50, 51, 52, 53, 54, 55, 56, 57] from rfl, trim_digits]
set_option maxHeartbeats 1000000 in
set_option maxRecDepth 100000 in
theorem implLead (s : ByteArray) (lo hi : Nat) (w : World) (h1 : 1 ≤ lo) (h4 : hi ≤ 4) (hs : s.size ≤ 65536) (hT : TabAt w) : Calls Tryz.prog 312 #[.string s, .int .i64 lo, .int .i64 hi] w (LeadPost w lo hi s) := by
  have HT := Lib.hid hT
  clear hT
  obtain ⟨k, hk⟩ : ∃ k, digN s.data.toList = k := ⟨_, rfl⟩
  have hkl : k ≤ s.size := by have := digN_le s.data.toList; simp at this; omega
  obtain ⟨R, hR⟩ : ∃ R : ByteArray, R = ⟨(s.data.toList.drop k).toArray⟩ := ⟨_, rfl⟩
  have hRs : R.size = s.size - k := by
    rw [hR]
    show (List.drop k s.data.toList).toArray.size = _
    simp
  have hRl : R.data.toList = s.data.toList.drop k := by rw [hR]
  cases hL : leadL lo hi s.data.toList with
  | none =>
    obtain ⟨e1, e2, e3⟩ := ld_none hL
    have HE := Lib.hid e1
    have HE2 := Lib.hid e2
    have HE3 := Lib.hid e3
    have hno := lead_none hL
    rw [hk] at hno
    have HK := Lib.hid hk
    have HR := Lib.hid hR
    have HRS := Lib.hid hRs
    clear e1 e2 e3 hL hk hR hRl
    have hz : (s.size : Int) - (R.size : Int) = k := by omega
    have HZ := Lib.hid hz
    clear hz
    rcases Nat.lt_or_ge k lo with hlo | hlo
    · go_enter Tryz.func312, Tryz.ntmps312
      go_wp2_with fail
      refine (trimLeft_any s _).mono ?_
      rintro e w1 ⟨rfl, hb⟩
      rw [HK.out, ← HR.out]
      have HB := Lib.hid hb
      clear hb
      go_wp2_with fail
      refine bodyPost_ret (v := .tuple #[.int .i64 0, .string ⟨#[]⟩, .bool false]) (by simp [results, Tryz.results312, go_sem]) rfl ?_
      exact ⟨nsb_end HE.out.symm HE2.out.symm HE3.out.symm, HB.out⟩
    · have hhi : hi < k := by omega
      clear hno
      go_enter Tryz.func312, Tryz.ntmps312
      go_wp2_with fail
      refine (trimLeft_any s _).mono ?_
      rintro e w1 ⟨rfl, hb⟩
      rw [HK.out, ← HR.out]
      have HB := Lib.hid hb
      clear hb
      go_wp2_with fail
      refine bodyPost_ret (v := .tuple #[.int .i64 0, .string ⟨#[]⟩, .bool false]) (by simp [results, Tryz.results312, go_sem]) rfl ?_
      exact ⟨nsb_end HE.out.symm HE2.out.symm HE3.out.symm, HB.out⟩
  | some x =>
    obtain ⟨n, r⟩ := x
    obtain ⟨e1, e2, e3⟩ := ld_some hL
    obtain ⟨a1, a2, a3, a4⟩ := lead_some hL
    have hdg := digN_all s.data.toList
    rw [hk] at a1 a2 a3 a4 hdg
    have hxs : (s.extract 0 k).data.toList = s.data.toList.take k := by simp
    obtain ⟨d1, d2⟩ := dec_small (u := s.extract 0 k) (by simp; omega) (by simp; omega) (by rw [hxs]; exact hdg)
    rw [hxs, ← a3] at d1
    have HD1 := Lib.hid d1
    have HD2 := Lib.hid d2
    have HE := Lib.hid e1
    have HE2 := Lib.hid e2
    have HE3 := Lib.hid e3
    have HK := Lib.hid hk
    have HR := Lib.hid hR
    have HR4 : Hid (R = ⟨r.toArray⟩) := by show R = _; rw [hR, a4]
    have hz : (s.size : Int) - (R.size : Int) = k := by omega
    clear e1 e2 e3 hL hk hR hRl d1 d2 hdg a3 a4 hxs hRs
    go_enter Tryz.func312, Tryz.ntmps312
    go_wp2_with fail
    refine (trimLeft_any s _).mono ?_
    rintro e w1 ⟨rfl, hb⟩
    rw [HK.out, ← HR.out]
    have HB := Lib.hid hb
    clear hb
    have hsz2 : (s.extract 0 k).size ≤ maxLen := by unfold maxLen; simp; omega
    have HZ2 := Lib.hid hsz2
    clear hsz2
    go_wp2_with fail
    refine (implDecimal (s.extract 0 k) _ HZ2.out (HT.out.below HB.out)).mono ?_
    rintro e w2 ⟨rfl, hb⟩
    rw [HD1.out, HD2.out]
    have HB2 := Lib.hid (HB.out.trans (hb.mono HB.out.size))
    clear hb
    go_wp2_with fail
    refine bodyPost_ret (v := .tuple #[.int .i64 n, .string R, .bool true]) (by simp [results, Tryz.results312, go_sem]) rfl ?_
    exact ⟨nsb_end HE.out.symm (HR4.out.trans HE2.out.symm) HE3.out.symm, HB2.out⟩
/-- The model answers the same, where there is such a number. -/
def SLeadPost (w : World) (lo hi : Nat) (s : ByteArray) (e : Ending) (w' : World) : Prop :=
  ∃ (n : Int) (r : ByteArray), e = .returned (.tuple #[.int .i64 n, .string r, .bool (ldB lo hi s)]) ∧ (ldB lo hi s = true → n = ldN lo hi s ∧ r = ldR lo hi s) ∧ Below w.heap.size w w'
def LeadRel (s : ByteArray) (hi : Nat) (kk nn : Value) : Prop :=
  ∃ k : Nat, k ≤ s.size ∧ k ≤ hi + 1 ∧ Upto s digitB k ∧ kk = .int .i64 k ∧ nn = .int .i64 (val (s.data.toList.take k))
theorem upto_take {s : ByteArray} {k : Nat} (h : Upto s digitB k) : ∀ b ∈ s.data.toList.take k, digB b = true := by
  intro b hb
  obtain ⟨j, hj, rfl⟩ := List.mem_iff_getElem.1 hb
  rw [List.length_take] at hj
  have := h j (by simp at hj; omega) (by omega)
  rw [List.getElem_take]
  exact this
theorem digN_split {s : ByteArray} {k : Nat} (h : Upto s digitB k) (hk : k ≤ s.size) : digN s.data.toList = k + digN (s.data.toList.drop k) := by
  conv => lhs; rw [← List.take_append_drop k s.data.toList]
  unfold digN
  rw [List.takeWhile_append_of_pos (upto_take h), List.length_append, List.length_take]
  congr 1
  simp
  omega
theorem lead_end {s : ByteArray} {lo hi k : Nat} (hk : k ≤ s.size) (hu : Upto s digitB k) (hx : k = hi + 1 ∨ ∀ h : k < s.size, digitB (s[k]'h) = false) :
    inB k lo hi = ldB lo hi s ∧ (ldB lo hi s = true → val (s.data.toList.take k) = ldN lo hi s ∧ s.extract k s.size = ldR lo hi s) := by
  have hd := digN_split hu hk
  rcases hx with rfl | hx
  · have hno : leadL lo hi s.data.toList = none := if_neg (by omega)
    obtain ⟨_, _, e3⟩ := ld_none hno
    refine ⟨?_, fun h => by rw [e3] at h; cases h⟩
    rw [e3]
    cases hh : inB ((hi + 1 : Nat) : Int) lo hi with
    | false => rfl
    | true => have := in_iff.1 hh; omega
  · have h0 : digN (s.data.toList.drop k) = 0 := by
      by_cases hks : k < s.size
      · have hdr : s.data.toList.drop k = s[k]'hks :: s.data.toList.drop (k + 1) := by
          have := List.drop_eq_getElem_cons (l := s.data.toList) (i := k) (by simpa using hks)
          rw [this]
          rfl
        rw [hdr, digN, List.takeWhile_cons, if_neg (by have := hx hks; rw [dig_same] at this; rw [this]; simp)]
        rfl
      · rw [List.drop_eq_nil_of_le (by simp; omega)]
        rfl
    rw [h0, Nat.add_zero] at hd
    by_cases hr : lo ≤ k ∧ k ≤ hi
    · have hyes : leadL lo hi s.data.toList = some (val (s.data.toList.take k), s.data.toList.drop k) := by
        unfold leadL
        rw [hd, if_pos hr]
      obtain ⟨e1, e2, e3⟩ := ld_some hyes
      refine ⟨?_, fun _ => ⟨e1.symm, ?_⟩⟩
      · rw [e3]
        exact in_iff.2 ⟨by omega, by omega⟩
      · rw [e2]
        apply bytes_inj
        rw [Lib.extract_to_end]
    · have hno : leadL lo hi s.data.toList = none := if_neg (by rw [hd]; exact hr)
      obtain ⟨_, _, e3⟩ := ld_none hno
      refine ⟨?_, fun h => by rw [e3] at h; cases h⟩
      rw [e3]
      cases hh : inB (k : Int) lo hi with
      | false => rfl
      | true => have := in_iff.1 hh; omega
set_option maxHeartbeats 1000000 in
set_option maxRecDepth 100000 in
theorem specLead (s : ByteArray) (lo hi : Nat) (w : World) (h4 : hi ≤ 4) : Calls Tryz.prog 319 #[.string s, .int .i64 lo, .int .i64 hi] w (SLeadPost w lo hi s) := by
  go_enter Tryz.func319, Tryz.ntmps319
  go_wp2_with fail
  go_loop [9, 10] (fun kk nn => LeadRel s hi kk nn) (fun kk _ => s.size - (intOf kk).toNat)
  case atStart => exact ⟨0, Nat.zero_le _, by omega, upto_zero _ _, rfl, rfl⟩
  case round =>
    obtain ⟨k, hk, hkh, hup, rfl, rfl⟩ := hrel
    have HU := Lib.hid hup
    obtain ⟨b1, b2⟩ := val_bound k (s.data.toList.take k) (by simp; omega) (upto_take hup)
    have b3 : val (s.data.toList.take k) < 100000 := by
      have : (10 : Int) ^ k ≤ 10 ^ 5 := by
        have : (10 : Nat) ^ k ≤ 10 ^ 5 := Nat.pow_le_pow_right (by omega) (by omega)
        exact_mod_cast this
      have e : (10 : Int) ^ 5 = 100000 := by decide
      omega
    obtain ⟨V, hV⟩ : ∃ V, val (s.data.toList.take k) = V := ⟨_, rfl⟩
    rw [hV] at b1 b3
    rw [hV]
    have HV := Lib.hid hV
    clear hup b2 hV
    by_cases hlt : k < s.size
    · by_cases hle : k ≤ hi
      · cases hd : digitB (s[k]'hlt) with
        | true =>
          have hdb := (digit_iff _).1 hd
          have HD := Lib.hid hd
          clear hd
          go_wp2_with (go_at_call 187; refine (digit_any _ _).mono ?_; rintro e w' ⟨rfl, rfl⟩; rw [HD.out])
          go_round
          case rel =>
            refine ⟨k + 1, by omega, by omega, upto_succ HU.out hlt HD.out, by go_num, ?_⟩
            rw [take_snoc s k hlt, val_snoc, HV.out]
            congr 1
            omega
          case measure => simp [intOf]; omega
        | false =>
          have HE := Lib.hid (lead_end (lo := lo) (hi := hi) hk HU.out (.inr fun _ => hd))
          have HD := Lib.hid hd
          clear hd
          go_wp2_with (go_at_call 187; refine (digit_any _ _).mono ?_; rintro e w' ⟨rfl, rfl⟩; rw [HD.out])
          have emin : min (k : Int) (s.size : Int) = k := by omega
          go_quiet ((go_at_call 124; exact Calls.quiet_of_same ((in_any _ _ _ _).mono fun e w' h => ⟨by rw [h.1, HE.out.1], h.2.symm⟩)))
          clear emin
          go_wp2_with fail
          go_ret3
          exact ⟨V, _, rfl, fun h => ⟨by rw [← (HE.out.2 h).1, HV.out], (HE.out.2 h).2⟩, drewN_below (Below.refl _ _) _⟩
      · have HE := Lib.hid (lead_end (lo := lo) (hi := hi) hk HU.out (.inl (by omega)))
        go_wp2_with fail
        have emin : min (k : Int) (s.size : Int) = k := by omega
        go_quiet ((go_at_call 124; exact Calls.quiet_of_same ((in_any _ _ _ _).mono fun e w' h => ⟨by rw [h.1, HE.out.1], h.2.symm⟩)))
        clear emin
        go_wp2_with fail
        go_ret3
        exact ⟨V, _, rfl, fun h => ⟨by rw [← (HE.out.2 h).1, HV.out], (HE.out.2 h).2⟩, drewN_below (Below.refl _ _) _⟩
    · have HE := Lib.hid (lead_end (lo := lo) (hi := hi) hk HU.out (.inr fun h => absurd h hlt))
      go_wp2_with fail
      have emin : min (k : Int) (s.size : Int) = k := by omega
      go_quiet ((go_at_call 124; exact Calls.quiet_of_same ((in_any _ _ _ _).mono fun e w' h => ⟨by rw [h.1, HE.out.1], h.2.symm⟩)))
      clear emin
      go_wp2_with fail
      go_ret3
      exact ⟨V, _, rfl, fun h => ⟨by rw [← (HE.out.2 h).1, HV.out], (HE.out.2 h).2⟩, drewN_below (Below.refl _ _) _⟩
end Go.Proofs.YtpdonghdnaehhaaGreatDoor
