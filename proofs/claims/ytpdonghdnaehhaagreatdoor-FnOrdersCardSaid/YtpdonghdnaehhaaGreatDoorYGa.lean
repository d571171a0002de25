/- Where a byte is found in a text: the model's scan. No condition of its own. -/
import Derived.Test.YtpdonghdnaehhaaGreatDoorBase
import Derived.Test.YtpdonghdnaehhaaGreatDoorBytes
namespace Go.Proofs.YtpdonghdnaehhaaGreatDoor
open Go.ChangeShapes Go.WideShapes Go.ChangeAt Go.WideMaps Go.WideElems Go.RowKit

theorem bool_end {a b : Bool} (h : a = b) : Ending.returned (.bool a) = .returned (.bool b) := by rw [h]
theorem int_end {k : IntKind} {a b : Int} (h : a = b) : Ending.returned (.int k a) = .returned (.int k b) := by rw [h]
/-- The first place of a byte, the length if there is none. -/
def findB (s : ByteArray) (c : UInt8) : Nat := s.data.toList.findIdx (· == c)
theorem findB_at {s : ByteArray} {c : UInt8} {k : Nat} (h : Upto s (· != c) k) (hk : k < s.size) (hc : s[k]'hk = c) : findB s c = k := by
  unfold findB
  rw [List.findIdx_eq (by simpa using hk)]
  refine ⟨?_, fun j hj => ?_⟩
  · show (s[k] == c) = true
    simpa using hc
  · have := h j (by omega) hj
    show (s[j] == c) = false
    simpa using this
theorem findB_none {s : ByteArray} {c : UInt8} {k : Nat} (h : Upto s (· != c) k) (hk : s.size ≤ k) : findB s c = s.size := by
  unfold findB
  rw [show s.size = s.data.toList.length by simp]
  apply List.findIdx_eq_length_of_false
  intro x hx
  obtain ⟨j, hj, rfl⟩ := List.mem_iff_getElem.1 hx
  have hj' : j < s.size := by simpa using hj
  have := h j hj' (by omega)
  show (s[j] == c) = false
  simpa using this
theorem byte_eq_of {a b : UInt8} (h : ((a.toNat : Int) == (b.toNat : Int)) = true) : a = b := by
  have := eq_of_beq h
  exact UInt8.toNat_inj.1 (by omega)
theorem byte_ne_of {a b : UInt8} (h : ((a.toNat : Int) == (b.toNat : Int)) = false) : a ≠ b := by
  rintro rfl
  simp at h
theorem find_any (s : ByteArray) (c : UInt8) (w : World) (hs : s.size ≤ maxLen) : Calls Tryz.prog 189 #[.string s, .int .u8 c.toNat] w fun e w' => e = .returned (.int .i64 (findB s c)) ∧ w = w' := by
  unfold maxLen at hs
  go_enter Tryz.func189, Tryz.ntmps189
  go_wp2
  go_loop [5] (fun i => ∃ k : Nat, k ≤ s.size ∧ i = .int .i64 k ∧ Upto s (· != c) k) (fun i => s.size - (intOf i).toNat)
  case atStart => exact ⟨0, Nat.zero_le _, rfl, upto_zero _ _⟩
  case round =>
    obtain ⟨k, hk, rfl, hup⟩ := hrel
    have HU := Lib.hid hup
    clear hup
    by_cases hlt : k < s.size
    · go_wp2
      · have hc : ((s[k].toNat : Int) == (c.toNat : Int)) = true := by assumption
        go_ret
        exact ⟨int_end (by rw [findB_at HU.out hlt (byte_eq_of hc)]), rfl⟩
      · have hc : ((s[k].toNat : Int) == (c.toNat : Int)) = false := by assumption
        go_round
        case rel => exact ⟨k + 1, by omega, by go_num, upto_succ HU.out hlt (by simpa using byte_ne_of hc)⟩
        case measure => simp [intOf]; omega
    · go_wp2
      go_ret
      exact ⟨int_end (by rw [findB_none HU.out (by omega)]), rfl⟩
theorem findB_le (s : ByteArray) (c : UInt8) : findB s c ≤ s.size := by
  have := List.findIdx_le_length (xs := s.data.toList) (p := (· == c))
  simpa [findB] using this
end Go.Proofs.YtpdonghdnaehhaaGreatDoor

namespace Go.Proofs.YtpdonghdnaehhaaGreatDoor
open Go.ChangeShapes Go.WideShapes Go.ChangeAt Go.WideMaps Go.WideElems Go.RowKit

def classes : List Int := [1, 1, 1, 1, 1, 1, 1, 1, 1, 2, 1, 1, 1, 1, 1, 1, 1, 1, 1, 1, 1, 1, 1, 1, 1, 1, 1, 1, 1, 1, 1, 1, 2, 3, 0, 3, 3, 3, 3, 3, 0, 0, 3, 3, 0, 3, 3, 0, 4, 4, 4, 4, 4, 4, 4, 4, 4, 4, 0, 0, 0, 0, 0, 0, 0, 6, 6, 6, 6, 6, 6, 6, 6, 6, 6, 6, 6, 6, 6, 6, 6, 6, 6, 6, 6, 6, 6, 6, 6, 6, 6, 0, 0, 0, 3, 5, 0, 7, 7, 7, 7, 7, 7, 7, 7, 7, 7, 7, 7, 7, 7, 7, 7, 7, 7, 7, 7, 7, 7, 7, 7, 7, 7, 0, 3, 0, 3, 1]
def cls (c : Nat) : Int := if c < 128 then classes.getD c 0 else 0
theorem cls_high {c : Nat} (h : 128 ≤ c) : cls c = 0 := if_neg (by omega)

/-- The table lies in the variable's cells. -/
def TabAt (w : World) : Prop := ∀ c, c < 128 → w.cell? ⟨3, c, none⟩ = some (.int .u8 (cls c))
theorem TabAt.below {w w' : World} (h : TabAt w) (hb : Below w.heap.size w w') : TabAt w' := fun c hc => cell_kept hb (h c hc)
theorem gClasses : Tryz.prog.globalNamed "loop.example/g00803/impl.byteClasses" = some 3 := by kernel_rfl
theorem tClasses : (Tryz.prog.globals[3]?).map (·.type) = some 208 := by kernel_rfl
theorem tab_of_laid {W : World} {rest : List (String × DataW Unit)} (h : laidMet Tryz.prog (("loop.example/g00803/impl.byteClasses", Rows.laid_loop_example_g00803_impl_byteClasses) :: rest) W) : TabAt W := by
  have h2 := Lib.tabIs_of_head (zs := classes) (k := .u8) (rest := rest) gClasses tClasses Tryz.underlying208 Tryz.underlying5 (by kernel_rfl) (by kernel_rfl) h
  exact fun c hc => by
    rw [show cls c = classes.getD c 0 from if_pos hc]
    exact h2.cell gClasses c hc
theorem tab_laid {W : World} (h : laidMetH Tryz.prog [("loop.example/g00803/impl.byteClasses", Rows.laid_loop_example_g00803_impl_byteClasses)] W) : TabAt W := by
  rw [MakeChecks.laidMetH_plain _ _ _ (by kernel_rfl)] at h
  exact tab_of_laid h

theorem classOf_any (c : Nat) (w : World) (hc : c ≤ 1114111) (hT : TabAt w) : Calls Tryz.prog 165 #[.int .i32 c] w fun e w' => e = .returned (.int .u8 (cls c)) ∧ w = w' := by
  by_cases h : c < 128
  · have hcell := hT c h
    clear hT
    go_enter Tryz.func165, Tryz.ntmps165
    go_wp2
    go_ret
    exact ⟨rfl, rfl⟩
  · have HE := Lib.hid (cls_high (c := c) (by omega))
    clear hT
    go_enter Tryz.func165, Tryz.ntmps165
    go_wp2
    go_ret
    exact ⟨by rw [HE.out]; rfl, rfl⟩
/-- No control byte. -/
def plainB (b : UInt8) : Bool := decide (¬ (b.toNat < 32 ∧ b.toNat ≠ 9 ∨ b.toNat = 127))
theorem plain_iff (b : UInt8) : plainB b = true ↔ ¬ (b.toNat < 32 ∧ b.toNat ≠ 9 ∨ b.toNat = 127) := by simp only [plainB, decide_eq_true_eq]
theorem plain_cls (b : UInt8) : plainB b = !(cls b.toNat == 1) := by
  have h : ∀ n : Fin 256, plainB (UInt8.ofNat n) = !(cls n == 1) := by decide +kernel
  have := h ⟨b.toNat, b.toNat_lt⟩
  simpa using this
theorem specControl (s : ByteArray) (w : World) (hs : s.size ≤ maxLen) : Calls Tryz.prog 184 #[.string s] w fun e w' => e = .returned (.bool (!allB s plainB)) ∧ w = w' := by
  unfold maxLen at hs
  go_enter Tryz.func184, Tryz.ntmps184
  go_wp2
  go_loop [3] (fun i => ∃ k : Nat, k ≤ s.size ∧ i = .int .i64 k ∧ Upto s plainB k) (fun i => s.size - (intOf i).toNat)
  case atStart => exact ⟨0, Nat.zero_le _, rfl, upto_zero _ _⟩
  case round =>
    obtain ⟨k, hk, rfl, hup⟩ := hrel
    have HU := Lib.hid hup
    clear hup
    by_cases hlt : k < s.size
    · have hp := plain_iff s[k]
      by_cases h9 : s[k].toNat = 9
      · have HP := Lib.hid (hp.2 (by omega))
        have h1 : 9 ≤ s[k].toNat := by omega
        have h2 : s[k].toNat ≤ 9 := by omega
        clear hp h9
        go_wp2
        go_round
        case rel => exact ⟨k + 1, by omega, by go_num, upto_succ HU.out hlt HP.out⟩
        case measure => simp [intOf]; omega
      · by_cases h32 : s[k].toNat < 32
        · have HP := Lib.hid (Bool.eq_false_iff.2 (fun h => hp.1 h (by omega)))
          clear hp
          go_wp2
          go_ret
          exact ⟨by rw [all_false_at hlt HP.out]; rfl, rfl⟩
        · by_cases h127 : s[k].toNat = 127
          · have HP := Lib.hid (Bool.eq_false_iff.2 (fun h => hp.1 h (by omega)))
            have h1 : 127 ≤ s[k].toNat := by omega
            have h2 : s[k].toNat ≤ 127 := by omega
            clear hp h127
            go_wp2
            go_ret
            exact ⟨by rw [all_false_at hlt HP.out]; rfl, rfl⟩
          · have HP := Lib.hid (hp.2 (by omega))
            clear hp
            go_wp2
            go_round
            case rel => exact ⟨k + 1, by omega, by go_num, upto_succ HU.out hlt HP.out⟩
            case measure => simp [intOf]; omega
    · go_wp2
      go_ret
      exact ⟨by rw [all_of_upto HU.out (by omega)]; rfl, rfl⟩
/-- What HasControl answers. -/
def controlOK (s : ByteArray) : Bool := decide (s.size ≤ 65536) && !allB s plainB
theorem implControl (s : ByteArray) (w : World) (hs : s.size ≤ maxLen) (hT : TabAt w) : Calls Tryz.prog 71 #[.string s] w fun e w' => e = .returned (.bool (controlOK s)) ∧ Below w.heap.size w w' := by
  unfold maxLen at hs
  have HT := Lib.hid hT
  clear hT
  by_cases hl : s.size ≤ 65536
  · go_enter Tryz.func71, Tryz.ntmps71
    go_wp2
    go_loopw [] (fun wr => ∃ pos : Nat, pos ≤ s.size ∧ wr = w.iter s pos ∧ Upto s plainB pos) (fun wr => s.size - wr.iterPos w.heap.size)
    case atStart => exact ⟨0, Nat.zero_le _, rfl, upto_zero _ _⟩
    case round =>
      obtain ⟨pos, hk, rfl, hup⟩ := hrel
      have HU := Lib.hid hup
      clear hup
      by_cases hp : pos < s.size
      · have hnx : ∀ ty, (Instr.next (.pointer (some ⟨w.heap.size, 0, none⟩)) true ty).run Tryz.prog (w.iter s pos) = _ := fun ty => run_next_any w s pos ty hp
        have hwd := width_pos s pos hp
        have hmx := decode_max s pos
        go_wp2_with (go_at_call 165; refine (classOf_any _ _ hmx (HT.out.below ((Below.refl _ _).alloc (Nat.le_refl _) _))).mono ?_; rintro e w' ⟨rfl, rfl⟩)
        · have hc : (cls (Utf8.decode s pos).1 == 1) = true := by assumption
          have ha : (s[pos]'hp).toNat = (Utf8.decode s pos).1 := by
            rcases rune_cases s pos hp with ⟨_, h⟩ | ⟨_, h⟩
            · exact h.symm
            · rw [cls_high h] at hc; cases hc
          go_ret
          refine ⟨bool_end ?_, (Below.refl _ _).alloc (Nat.le_refl _) _⟩
          unfold controlOK
          rw [all_false_at hp (by rw [plain_cls, ha, hc]; rfl)]
          simp [hl]
        · have hc : (cls (Utf8.decode s pos).1 == 1) = false := by assumption
          go_roundw
          case rel =>
            obtain ⟨h1, h2⟩ := upto_step HU.out hp (fun b hb => by rw [plain_cls, cls_high hb]; rfl) (fun ha => by
              rw [plain_cls]
              rw [decode_ascii s pos hp ha] at hc
              rw [hc]; rfl)
            exact ⟨_, h2, rfl, h1⟩
          case measure =>
            show s.size - (w.iter s _).iterPos w.heap.size < s.size - (w.iter s pos).iterPos w.heap.size
            rw [World.iterPos_iter, World.iterPos_iter]
            omega
      · have hnx : ∀ ty, (Instr.next (.pointer (some ⟨w.heap.size, 0, none⟩)) true ty).run Tryz.prog (w.iter s pos) = _ := fun ty => run_next_end w s pos ty hp
        go_wp2
        go_ret
        refine ⟨bool_end ?_, (Below.refl _ _).alloc (Nat.le_refl _) _⟩
        unfold controlOK
        rw [all_of_upto HU.out (by omega)]
        simp
  · go_enter Tryz.func71, Tryz.ntmps71
    go_wp2
    go_ret
    exact ⟨bool_end (by simp [controlOK, hl]), Below.refl _ _⟩
def letterB (b : UInt8) : Bool := decide (97 ≤ b.toNat ∧ b.toNat ≤ 122 ∨ 65 ≤ b.toNat ∧ b.toNat ≤ 90)
def digitB (b : UInt8) : Bool := decide (48 ≤ b.toNat ∧ b.toNat ≤ 57)
theorem digit_any (b : UInt8) (w : World) : Calls Tryz.prog 187 #[.int .u8 b.toNat] w fun e w' => e = .returned (.bool (digitB b)) ∧ w = w' := by
  go_enter Tryz.func187, Tryz.ntmps187
  go_wp2
  all_goals go_ret
  all_goals refine ⟨bool_end ?_, rfl⟩
  all_goals rw [Bool.eq_iff_iff]; simp [digitB]; omega
def marks : ByteArray := ⟨#[33, 35, 36, 37, 38, 39, 42, 43, 45, 46, 94, 95, 124, 126]⟩
def tokB (b : UInt8) : Bool := letterB b || digitB b || !(findB marks b == 14)
theorem tok_cls (b : UInt8) : tokB b = !decide (cls b.toNat < 3) := by
  have h : ∀ n : Fin 256, tokB (UInt8.ofNat n) = !decide (cls n < 3) := by decide +kernel
  have := h ⟨b.toNat, b.toNat_lt⟩
  simpa using this
/-- What IsToken answers. -/
def tokenOK (s : ByteArray) : Bool := decide (s.size ≤ 65536) && (allB s tokB && decide (0 < s.size))
end Go.Proofs.YtpdonghdnaehhaaGreatDoor

namespace Go.Proofs.YtpdonghdnaehhaaGreatDoor
open Go.ChangeShapes Go.WideShapes Go.ChangeAt Go.WideMaps Go.WideElems Go.RowKit

/-- The number that digits are, as far as the greatest one. -/
def acc (l : List UInt8) : Int := l.foldl (fun n b => min (10 * n + ((b.toNat : Int) - 48)) 1000000000000) 0
theorem acc_snoc (l : List UInt8) (b : UInt8) : acc (l ++ [b]) = min (10 * acc l + ((b.toNat : Int) - 48)) 1000000000000 := by simp [acc]
theorem take_snoc (s : ByteArray) (k : Nat) (h : k < s.size) : s.data.toList.take (k + 1) = s.data.toList.take k ++ [s[k]] := by
  rw [List.take_succ_eq_append_getElem (by simpa using h)]
  rfl
theorem digit_iff (b : UInt8) : digitB b = true ↔ 48 ≤ b.toNat ∧ b.toNat ≤ 57 := by simp [digitB]
theorem digit_cls (b : UInt8) : digitB b = (cls b.toNat == 4) := by
  have h : ∀ n : Fin 256, digitB (UInt8.ofNat n) = (cls n == 4) := by decide +kernel
  have := h ⟨b.toNat, b.toNat_lt⟩
  simpa using this
theorem acc_step {s : ByteArray} {k : Nat} (hk : k < s.size) {a : Int} (ha : a = acc (s.data.toList.take k)) (h0 : 0 ≤ a) (h1 : a ≤ 1000000000000) (hd : digitB (s[k]'hk) = true) :
    (if (1000000000000 : Int) < 10 * a + (s[k]'hk).toNat - 48 then (1000000000000 : Int) else 10 * a + (s[k]'hk).toNat - 48) = acc (s.data.toList.take (k + 1)) ∧ 0 ≤ acc (s.data.toList.take (k + 1)) ∧ acc (s.data.toList.take (k + 1)) ≤ 1000000000000 := by
  rw [take_snoc s k hk, acc_snoc, ← ha]
  have := (digit_iff _).1 hd
  rw [Int.min_def]
  split <;> split <;> omega

/-- A stroke stands ahead. -/
def negB (t : ByteArray) : Bool := t.data.toList.head? == some 45
def restB (t : ByteArray) : ByteArray := if negB t then t.extract 1 t.size else t
def sgnB (t : ByteArray) : Int := if negB t then -1 else 1
theorem neg_true {t : ByteArray} (h : negB t = true) : ∃ h0 : 0 < t.size, (((t[0]'h0).toNat : Int) == 45) = true ∧ t.toList.isEmpty = false ∧ ((t.extract 0 1).toList == [45]) = true ∧ (!(t.extract 0 1).toList == [45]) = false ∧ restB t = t.extract 1 t.size ∧ sgnB t = -1 := by
  obtain ⟨⟨l⟩⟩ := t
  cases l with
  | nil => exact absurd h (by decide)
  | cons b l =>
    have hb : b = 45 := by simpa [negB] using h
    subst hb
    have e : ((ByteArray.mk ⟨45 :: l⟩).extract 0 1).toList = [45] := by
      rw [ByteArray.toList_eq]
      simp
    refine ⟨by show 0 < (45 :: l).length; simp, rfl, ?_, by rw [e]; rfl, by rw [e]; rfl, if_pos h, if_pos h⟩
    rw [ByteArray.toList_eq]
    rfl
theorem neg_false {t : ByteArray} (h : negB t = false) : restB t = t ∧ sgnB t = 1 ∧ (∀ h0 : 0 < t.size, (((t[0]'h0).toNat : Int) == 45) = false) ∧ (0 < t.size → ((t.extract 0 1).toList == [45]) = false ∧ (!(t.extract 0 1).toList == [45]) = true) := by
  have hne : ¬ negB t = true := by simp [h]
  obtain ⟨⟨l⟩⟩ := t
  refine ⟨if_neg hne, if_neg hne, ?_, ?_⟩
  · cases l with
    | nil => intro h0; exact absurd h0 (by show ¬ 0 < ([] : List UInt8).length; simp)
    | cons b l =>
      intro h0
      have hb : ¬ b = 45 := by simpa [negB] using h
      show (((b.toNat : Nat) : Int) == 45) = false
      rw [beq_eq_false_iff_ne]
      intro e
      exact hb (UInt8.toNat_inj.1 (by show b.toNat = 45; omega))
  · cases l with
    | nil => intro h0; exact absurd h0 (by show ¬ 0 < ([] : List UInt8).length; simp)
    | cons b l =>
      intro _
      have hb : ¬ b = 45 := by simpa [negB] using h
      have e : ((ByteArray.mk ⟨b :: l⟩).extract 0 1).toList = [b] := by
        rw [ByteArray.toList_eq]
        simp
      rw [e]
      simp [hb]
/-- What the model's l01Decimal answers, and Decimal. -/
def decAll (t : ByteArray) : Bool := allB (restB t) digitB
def decN (t : ByteArray) : Int := if decAll t then sgnB t * acc (restB t).data.toList else 0
def decOK (t : ByteArray) : Bool := decAll t && decide (0 < (restB t).size)
theorem num_end {a b : Int} (h : a = b) : Value.int .i64 a = .int .i64 b := by rw [h]
theorem pair_end {a b : Int} {p q : Bool} (h : a = b) (h' : p = q) : Ending.returned (.tuple #[.int .i64 a, .bool p]) = .returned (.tuple #[.int .i64 b, .bool q]) := by rw [h, h']
theorem ints_end {a b p q : Int} (h : a = b) (h' : p = q) : Ending.returned (.tuple #[.int .i64 a, .int .i64 p]) = .returned (.tuple #[.int .i64 b, .int .i64 q]) := by rw [h, h']

set_option maxHeartbeats 400000 in
theorem specDec (t : ByteArray) (w : World) (hs : t.size ≤ maxLen) : Calls Tryz.prog 86 #[.string t] w fun e w' => e = .returned (.tuple #[.int .i64 (decN t), .bool (decOK t)]) ∧ w = w' := by
  unfold maxLen at hs
  cases hn : negB t with
  | true =>
    obtain ⟨h0, f1, _, _, _, hu, hsg⟩ := neg_true hn
    have HS := Lib.hid hsg
    have HR := Lib.hid hu
    have hz : (t.extract 1 t.size).size = t.size - 1 := by simp
    clear hsg hu hn
    go_enter Tryz.func86, Tryz.ntmps86
    go_wp2
    generalize hu : t.extract 1 t.size = u at *
    have HU := Lib.hid hu
    clear hu
    have hz1 : u.size ≤ t.size - 1 := by omega
    clear hz
    go_loop [5, 6] (fun n i => ∃ (k : Nat) (a : Int), k ≤ u.size ∧ i = .int .i64 k ∧ Upto u digitB k ∧ n = .int .i64 a ∧ a = acc (u.data.toList.take k) ∧ 0 ≤ a ∧ a ≤ 1000000000000) (fun _ i => u.size - (intOf i).toNat)
    case atStart => exact ⟨0, 0, Nat.zero_le _, rfl, upto_zero _ _, rfl, rfl, by omega, by omega⟩
    case round =>
      obtain ⟨k, a, hk, rfl, hup, rfl, hA, ha0, ha1⟩ := hrel
      have HP := Lib.hid hup
      have HA := Lib.hid hA
      clear hup hA
      by_cases hlt : k < u.size
      · cases hd : digitB (u[k]'hlt) with
        | false =>
          have hnd : (!digitB (u[k]'hlt)) = true := by rw [hd]; rfl
          have HD := Lib.hid hd
          clear hd
          go_wp2_with (go_at_call 187; refine (digit_any _ _).mono ?_; rintro e w' ⟨rfl, rfl⟩)
          go_ret2
          have hall : decAll t = false := by unfold decAll; rw [HR.out]; exact all_false_at hlt HD.out
          exact ⟨pair_end (by unfold decN; rw [hall]; rfl) (by unfold decOK; rw [hall]; rfl), rfl⟩
        | true =>
          have hnd : (!digitB (u[k]'hlt)) = false := by rw [hd]; rfl
          have HD := Lib.hid hd
          have hb := (digit_iff _).1 hd
          obtain ⟨hb1, hb2⟩ := hb
          clear hd
          go_wp2_with (go_at_call 187; refine (digit_any _ _).mono ?_; rintro e w' ⟨rfl, rfl⟩)
          go_round
          case rel =>
            obtain ⟨e1, e2, e3⟩ := acc_step hlt HA.out ha0 ha1 HD.out
            exact ⟨k + 1, _, by omega, by go_num, upto_succ HP.out hlt HD.out, rfl, e1, by rw [e1]; exact e2, by rw [e1]; exact e3⟩
          case measure => simp [intOf]; omega
      · go_wp2
        go_ret2
        have hall : decAll t = true := by unfold decAll; rw [HR.out]; exact all_of_upto HP.out (by omega)
        refine ⟨pair_end ?_ ?_, rfl⟩
        · unfold decN
          have hA := HA.out
          rw [List.take_of_length_le (by simp; omega)] at hA
          rw [hall, if_pos rfl, HR.out, HS.out, ← hA]
          omega
        · unfold decOK
          rw [hall, HR.out]
          simp
  | false =>
    obtain ⟨hu, hsg, hf, _⟩ := neg_false hn
    have HS := Lib.hid hsg
    have HR := Lib.hid hu
    clear hsg hu hn
    obtain ⟨u, hut⟩ : ∃ u, u = t := ⟨t, rfl⟩
    subst hut
    by_cases h0 : 0 < u.size
    · have f1 := hf h0
      clear hf
      go_enter Tryz.func86, Tryz.ntmps86
      go_wp2
      go_loop [5, 6] (fun n i => ∃ (k : Nat) (a : Int), k ≤ u.size ∧ i = .int .i64 k ∧ Upto u digitB k ∧ n = .int .i64 a ∧ a = acc (u.data.toList.take k) ∧ 0 ≤ a ∧ a ≤ 1000000000000) (fun _ i => u.size - (intOf i).toNat)
      case atStart => exact ⟨0, 0, Nat.zero_le _, rfl, upto_zero _ _, rfl, rfl, by omega, by omega⟩
      case round =>
        obtain ⟨k, a, hk, rfl, hup, rfl, hA, ha0, ha1⟩ := hrel
        have HP := Lib.hid hup
        have HA := Lib.hid hA
        clear hup hA
        by_cases hlt : k < u.size
        · cases hd : digitB (u[k]'hlt) with
          | false =>
            have hnd : (!digitB (u[k]'hlt)) = true := by rw [hd]; rfl
            have HD := Lib.hid hd
            clear hd
            go_wp2_with (go_at_call 187; refine (digit_any _ _).mono ?_; rintro e w' ⟨rfl, rfl⟩)
            go_ret2
            have hall : decAll u = false := by unfold decAll; rw [HR.out]; exact all_false_at hlt HD.out
            exact ⟨pair_end (by unfold decN; rw [hall]; rfl) (by unfold decOK; rw [hall]; rfl), rfl⟩
          | true =>
            have hnd : (!digitB (u[k]'hlt)) = false := by rw [hd]; rfl
            have HD := Lib.hid hd
            have hb := (digit_iff _).1 hd
            obtain ⟨hb1, hb2⟩ := hb
            clear hd
            go_wp2_with (go_at_call 187; refine (digit_any _ _).mono ?_; rintro e w' ⟨rfl, rfl⟩)
            go_round
            case rel =>
              obtain ⟨e1, e2, e3⟩ := acc_step hlt HA.out ha0 ha1 HD.out
              exact ⟨k + 1, _, by omega, by go_num, upto_succ HP.out hlt HD.out, rfl, e1, by rw [e1]; exact e2, by rw [e1]; exact e3⟩
            case measure => simp [intOf]; omega
        · go_wp2
          go_ret2
          have hall : decAll u = true := by unfold decAll; rw [HR.out]; exact all_of_upto HP.out (by omega)
          refine ⟨pair_end ?_ ?_, rfl⟩
          · unfold decN
            have hA := HA.out
            rw [List.take_of_length_le (by simp; omega)] at hA
            rw [hall, if_pos rfl, HR.out, HS.out, ← hA]
            omega
          · simp [decOK, hall, HR.out, h0]
    · clear hf
      have h1 : u.size ≤ 0 := by omega
      go_enter Tryz.func86, Tryz.ntmps86
      go_wp2
      go_loop [5, 6] (fun n i => n = .int .i64 0 ∧ i = .int .i64 0) (fun _ i => (intOf i).toNat)
      case atStart => exact ⟨rfl, rfl⟩
      case round =>
        obtain ⟨rfl, rfl⟩ := hrel
        go_wp2
        go_ret2
        have hall : decAll u = true := by unfold decAll; rw [HR.out]; exact all_of_upto (upto_zero _ _) h1
        have hnil : u.data.toList = [] := List.eq_nil_of_length_eq_zero (by simpa using h1)
        refine ⟨pair_end ?_ ?_, rfl⟩
        · unfold decN
          rw [hall, if_pos rfl, HR.out, HS.out, hnil]
          rfl
        · simp [decOK, hall, HR.out, h0]
/-- What Decimal answers. -/
def dN (t : ByteArray) : Int := if t.size ≤ 65536 ∧ decOK t = true then decN t else 0
def dC (t : ByteArray) : Int := if t.size ≤ 65536 then (if decOK t = true then 0 else 3) else 2
def DecRel (w : World) (u : ByteArray) (n : Value) (wr : World) : Prop := ∃ (pos : Nat) (a : Int), pos ≤ u.size ∧ wr = w.iter u pos ∧ Upto u digitB pos ∧ n = .int .i64 a ∧ a = acc (u.data.toList.take pos) ∧ 0 ≤ a ∧ a ≤ 1000000000000
/-- What strings.CutPrefix answers at a stroke. -/
theorem stroke_any (t : ByteArray) (w : World) (hs : t.size ≤ maxLen) : Calls Tryz.prog 87 #[.string t, .string ⟨#[45]⟩] w fun e w' => e = .returned (.tuple #[.string (restB t), .bool (negB t)]) ∧ w = w' := by
  unfold maxLen at hs
  cases hn : negB t with
  | true =>
    obtain ⟨h0, _, _, _, f5, hu, _⟩ := neg_true hn
    rw [hu]
    clear hu hn
    go_enter Tryz.func87, Tryz.ntmps87
    go_wp2
    go_ret2
    exact ⟨rfl, rfl⟩
  | false =>
    obtain ⟨hu, _, _, hf⟩ := neg_false hn
    rw [hu]
    clear hu hn
    by_cases h0 : 0 < t.size
    · have f5 := (hf h0).2
      clear hf
      go_enter Tryz.func87, Tryz.ntmps87
      go_wp2
      go_ret2
      exact ⟨rfl, rfl⟩
    · clear hf
      go_enter Tryz.func87, Tryz.ntmps87
      go_wp2
      go_ret2
      exact ⟨rfl, rfl⟩
theorem rest_size (t : ByteArray) : (restB t).size ≤ t.size := by
  unfold restB
  split
  · simp
  · exact Nat.le_refl _
theorem sgn_true {t : ByteArray} (h : negB t = true) : sgnB t = -1 := if_pos h
theorem sgn_false {t : ByteArray} (h : negB t = false) : sgnB t = 1 := if_neg (by simp [h])
theorem empty_size {u : ByteArray} (h : u.toList.isEmpty = true) : u.size = 0 := by
  rw [ByteArray.toList_eq, List.isEmpty_iff] at h
  have := congrArg List.length h
  simpa using this
theorem some_size {u : ByteArray} (h : u.toList.isEmpty = false) : 0 < u.size := by
  rw [ByteArray.toList_eq] at h
  rcases Nat.eq_zero_or_pos u.size with h0 | h0
  · have : u.data.toList = [] := List.eq_nil_of_length_eq_zero (by simpa using h0)
    rw [this] at h
    cases h
  · exact h0
set_option maxHeartbeats 800000 in
theorem implDecimal (t : ByteArray) (w : World) (hs : t.size ≤ maxLen) (hT : TabAt w) : Calls Tryz.prog 85 #[.string t] w fun e w' => e = .returned (.tuple #[.int .i64 (dN t), .int .i64 (dC t)]) ∧ Below w.heap.size w w' := by
  have HT := Lib.hid hT
  have hs0 := Lib.hid hs
  clear hT
  unfold maxLen at hs
  by_cases hl : t.size ≤ 65536
  · have hz := rest_size t
    cases he : (restB t).toList.isEmpty with
    | true =>
      go_enter Tryz.func85, Tryz.ntmps85
      go_wp2_with (go_at_call 87; refine (stroke_any _ _ hs0.out).mono ?_; rintro e w' ⟨rfl, rfl⟩)
      go_ret2
      have hok : decOK t = false := by simp [decOK, empty_size he]
      exact ⟨ints_end (by simp [dN, hok]) (by simp [dC, hok, hl]), Below.refl _ _⟩
    | false =>
      have HZ := Lib.hid (some_size he)
      go_enter Tryz.func85, Tryz.ntmps85
      go_wp2_with (go_at_call 87; refine (stroke_any _ _ hs0.out).mono ?_; rintro e w' ⟨rfl, rfl⟩)
      generalize hu : restB t = u at *
      have HR := Lib.hid hu
      clear hu he
      go_loopw [6] (fun n wr => DecRel w u n wr) (fun _ wr => u.size - wr.iterPos w.heap.size)
      case atStart => exact ⟨0, 0, Nat.zero_le _, rfl, upto_zero _ _, rfl, rfl, by omega, by omega⟩
      case round =>
        obtain ⟨pos, a, hk, rfl, hup, rfl, hA, ha0, ha1⟩ := hrel
        have HP := Lib.hid hup
        have HA := Lib.hid hA
        clear hup hA
        by_cases hp : pos < u.size
        · have hnx : ∀ ty, (Instr.next (.pointer (some ⟨w.heap.size, 0, none⟩)) true ty).run Tryz.prog (w.iter u pos) = _ := fun ty => run_next_any w u pos ty hp
          have hmx := decode_max u pos
          cases hd : digitB (u[pos]'hp) with
          | false =>
            have hc : (cls (Utf8.decode u pos).1 != 4) = true := by
              rcases rune_cases u pos hp with ⟨_, h⟩ | ⟨_, h⟩
              · rw [h, bne, ← digit_cls, hd]; rfl
              · rw [cls_high h]; rfl
            have HD := Lib.hid hd
            clear hd
            go_wp2_with (go_at_call 165; refine (classOf_any _ _ hmx (HT.out.below ((Below.refl _ _).alloc (Nat.le_refl _) _))).mono ?_; rintro e w' ⟨rfl, rfl⟩)
            go_ret2
            have hall : decOK t = false := by
              have : decAll t = false := by unfold decAll; rw [HR.out]; exact all_false_at hp HD.out
              simp [decOK, this]
            exact ⟨ints_end (by simp [dN, hall]) (by simp [dC, hall, hl]), (Below.refl _ _).alloc (Nat.le_refl _) _⟩
          | true =>
            obtain ⟨hb1, hb2⟩ := (digit_iff _).1 hd
            have hdec := decode_ascii u pos hp (by omega)
            have hc : (cls (Utf8.decode u pos).1 != 4) = false := by
              rw [hdec, bne, ← digit_cls, hd]; rfl
            have HD := Lib.hid hd
            have HX := Lib.hid hdec
            have hv1 : 48 ≤ (Utf8.decode u pos).1 := by rw [hdec]; exact hb1
            have hv2 : (Utf8.decode u pos).1 ≤ 57 := by rw [hdec]; exact hb2
            clear hd hdec hmx
            by_cases hm : (1000000000000 : Int) < 10 * a + (((Utf8.decode u pos).1 : Int) - 48)
            all_goals
              go_wp2_with (go_at_call 165; refine (classOf_any _ _ (by omega) (HT.out.below ((Below.refl _ _).alloc (Nat.le_refl _) _))).mono ?_; rintro e w' ⟨rfl, rfl⟩)
              go_roundw
              case rel =>
                obtain ⟨e1, e2, e3⟩ := acc_step hp HA.out ha0 ha1 HD.out
                refine ⟨pos + 1, acc (u.data.toList.take (pos + 1)), by omega, ?_, upto_succ HP.out hp HD.out, ?_, rfl, e2, e3⟩
                · rw [HX.out]; rfl
                · rw [← e1]
                  have hx := HX.out
                  have hx1 : (Utf8.decode u pos).1 = (u[pos]'hp).toNat := by rw [hx]
                  refine num_end ?_
                  split <;> omega
              case measure =>
                have m1 : (w.alloc (.stringIter u (pos + (Utf8.decode u pos).2))).iterPos w.heap.size = pos + (Utf8.decode u pos).2 := World.iterPos_iter w u _
                rw [m1, HX.out]
                first | omega | (rw [World.iterPos_iter]; omega)
        · have hnx : ∀ ty, (Instr.next (.pointer (some ⟨w.heap.size, 0, none⟩)) true ty).run Tryz.prog (w.iter u pos) = _ := fun ty => run_next_end w u pos ty hp
          have hall : decAll t = true := by unfold decAll; rw [HR.out]; exact all_of_upto HP.out (by omega)
          have hok : decOK t = true := by simp [decOK, hall, HR.out, HZ.out]
          have hN : dN t = sgnB t * a := by
            have hA := HA.out
            rw [List.take_of_length_le (by simp; omega)] at hA
            rw [hA]
            simp [dN, hok, hl, decN, hall, HR.out]
          have hC : dC t = 0 := by simp [dC, hok, hl]
          have HN := Lib.hid hN
          have HC := Lib.hid hC
          clear hN hC hok hall
          go_wp2
          · have hn : negB t = true := by assumption
            go_ret2
            refine ⟨ints_end ?_ HC.out.symm, (Below.refl _ _).alloc (Nat.le_refl _) _⟩
            rw [HN.out, sgn_true hn]
            omega
          · have hn : negB t = false := by assumption
            go_ret2
            refine ⟨ints_end ?_ HC.out.symm, (Below.refl _ _).alloc (Nat.le_refl _) _⟩
            rw [HN.out, sgn_false hn]
            omega
  · go_enter Tryz.func85, Tryz.ntmps85
    go_wp2
    go_ret2
    exact ⟨ints_end (by simp [dN, hl]) (by simp [dC, hl]), Below.refl _ _⟩
end Go.Proofs.YtpdonghdnaehhaaGreatDoor
