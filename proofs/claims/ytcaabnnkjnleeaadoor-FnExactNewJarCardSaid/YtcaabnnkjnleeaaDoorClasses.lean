/- The table of byte classes, classOf, and the functions of the program and of the model that only look at a text's bytes (HasControl, IsToken): what they answer; both laws' walks. No condition of its own. -/
import Derived.Test.YtcaabnnkjnleeaaDoorScan
namespace Go.Proofs.YtcaabnnkjnleeaaDoor
open Go.ChangeShapes Go.WideShapes Go.ChangeAt Go.WideMaps Go.WideElems Go.RowKit

def classes : List Int := [1, 1, 1, 1, 1, 1, 1, 1, 1, 2, 1, 1, 1, 1, 1, 1, 1, 1, 1, 1, 1, 1, 1, 1, 1, 1, 1, 1, 1, 1, 1, 1, 2, 3, 0, 3, 3, 3, 3, 3, 0, 0, 3, 3, 0, 3, 3, 0, 4, 4, 4, 4, 4, 4, 4, 4, 4, 4, 0, 0, 0, 0, 0, 0, 0, 6, 6, 6, 6, 6, 6, 6, 6, 6, 6, 6, 6, 6, 6, 6, 6, 6, 6, 6, 6, 6, 6, 6, 6, 6, 6, 0, 0, 0, 3, 5, 0, 7, 7, 7, 7, 7, 7, 7, 7, 7, 7, 7, 7, 7, 7, 7, 7, 7, 7, 7, 7, 7, 7, 7, 7, 7, 7, 0, 3, 0, 3, 1]
def cls (c : Nat) : Int := if c < 128 then classes.getD c 0 else 0
theorem cls_high {c : Nat} (h : 128 ≤ c) : cls c = 0 := if_neg (by omega)

/-- The table lies in the variable's cells. -/
def TabAt (w : World) : Prop := ∀ c, c < 128 → w.cell? ⟨0, c, none⟩ = some (.int .u8 (cls c))
theorem TabAt.below {w w' : World} (h : TabAt w) (hb : Below w.heap.size w w') : TabAt w' := fun c hc => cell_kept hb (h c hc)
theorem gClasses : Tryd.prog.globalNamed "loop.example/g00803/impl.byteClasses" = some 0 := by kernel_rfl
theorem tClasses : (Tryd.prog.globals[0]?).map (·.type) = some 108 := by kernel_rfl
theorem tab_of_laid {W : World} {rest : List (String × DataW Unit)} (h : laidMet Tryd.prog (("loop.example/g00803/impl.byteClasses", Rows.laid_loop_example_g00803_impl_byteClasses) :: rest) W) : TabAt W := by
  have h2 := Lib.tabIs_of_head (zs := classes) (k := .u8) (rest := rest) gClasses tClasses Tryd.underlying108 Tryd.underlying5 (by kernel_rfl) (by kernel_rfl) h
  exact fun c hc => by
    rw [show cls c = classes.getD c 0 from if_pos hc]
    exact h2.cell gClasses c hc
theorem tab_laid {W : World} (h : laidMetH Tryd.prog [("loop.example/g00803/impl.byteClasses", Rows.laid_loop_example_g00803_impl_byteClasses)] W) : TabAt W := by
  rw [MakeChecks.laidMetH_plain _ _ _ (by kernel_rfl)] at h
  exact tab_of_laid h

theorem classOf_any (c : Nat) (w : World) (hc : c ≤ 1114111) (hT : TabAt w) : Calls Tryd.prog 94 #[.int .i32 c] w fun e w' => e = .returned (.int .u8 (cls c)) ∧ w = w' := by
  by_cases h : c < 128
  · have hcell := hT c h
    clear hT
    go_enter Tryd.func94, Tryd.ntmps94
    go_wp2
    go_ret
    exact ⟨rfl, rfl⟩
  · have HE := Lib.hid (cls_high (c := c) (by omega))
    clear hT
    go_enter Tryd.func94, Tryd.ntmps94
    go_wp2
    go_ret
    exact ⟨by rw [HE.out]; rfl, rfl⟩
/-- No control byte. -/
def plainB (b : UInt8) : Bool := decide (¬ (b.toNat < 32 ∧ b.toNat ≠ 9 ∨ b.toNat = 127))
theorem plain_iff (b : UInt8) : plainB b = true ↔ ¬ (b.toNat < 32 ∧ b.toNat ≠ 9 ∨ b.toNat = 127) := by simp only [plainB, decide_eq_true_eq]
theorem plain_cls (b : UInt8) : plainB b = !(cls b.toNat == 1) := by
  have h : ∀ n : Fin 256, plainB (UInt8.ofNat n) = !(cls n == 1) := by decide +kernel
  have := h ⟨b.toNat, b.toNat_lt⟩
  simpa using this
theorem specControl (s : ByteArray) (w : World) (hs : s.size ≤ maxLen) : Calls Tryd.prog 91 #[.string s] w fun e w' => e = .returned (.bool (!allB s plainB)) ∧ w = w' := by
  unfold maxLen at hs
  go_enter Tryd.func91, Tryd.ntmps91
  go_wp2
  go_loop [3] (fun i => ∃ k : Nat, k ≤ s.size ∧ i = .int .i64 k ∧ Upto s plainB k) (fun i => s.size - (intOf i).toNat)
  case atStart => exact ⟨0, Nat.zero_le _, rfl, upto_zero _ _⟩
  case round =>
    obtain ⟨k, hk, rfl, hup⟩ := hrel
    have HU := Lib.hid hup
    clear hup
    by_cases hlt : k < s.size
    · have hp := plain_iff s[k]
      by_cases h9 : s[k].toNat = 9
      · have HP := Lib.hid (hp.2 (by omega))
        have h1 : 9 ≤ s[k].toNat := by omega
        have h2 : s[k].toNat ≤ 9 := by omega
        clear hp h9
        go_wp2
        go_round
        case rel => exact ⟨k + 1, by omega, by go_num, upto_succ HU.out hlt HP.out⟩
        case measure => simp [intOf]; omega
      · by_cases h32 : s[k].toNat < 32
        · have HP := Lib.hid (Bool.eq_false_iff.2 (fun h => hp.1 h (by omega)))
          clear hp
          go_wp2
          go_ret
          exact ⟨by rw [all_false_at hlt HP.out]; rfl, rfl⟩
        · by_cases h127 : s[k].toNat = 127
          · have HP := Lib.hid (Bool.eq_false_iff.2 (fun h => hp.1 h (by omega)))
            have h1 : 127 ≤ s[k].toNat := by omega
            have h2 : s[k].toNat ≤ 127 := by omega
            clear hp h127
            go_wp2
            go_ret
            exact ⟨by rw [all_false_at hlt HP.out]; rfl, rfl⟩
          · have HP := Lib.hid (hp.2 (by omega))
            clear hp
            go_wp2
            go_round
            case rel => exact ⟨k + 1, by omega, by go_num, upto_succ HU.out hlt HP.out⟩
            case measure => simp [intOf]; omega
    · go_wp2
      go_ret
      exact ⟨by rw [all_of_upto HU.out (by omega)]; rfl, rfl⟩
/-- What HasControl answers. -/
def controlOK (s : ByteArray) : Bool := decide (s.size ≤ 65536) && !allB s plainB
theorem implControl (s : ByteArray) (w : World) (hs : s.size ≤ maxLen) (hT : TabAt w) : Calls Tryd.prog 68 #[.string s] w fun e w' => e = .returned (.bool (controlOK s)) ∧ Below w.heap.size w w' := by
  unfold maxLen at hs
  have HT := Lib.hid hT
  clear hT
  by_cases hl : s.size ≤ 65536
  · go_enter Tryd.func68, Tryd.ntmps68
    go_wp2
    go_loopw [] (fun wr => ∃ pos : Nat, pos ≤ s.size ∧ wr = w.iter s pos ∧ Upto s plainB pos) (fun wr => s.size - wr.iterPos w.heap.size)
    case atStart => exact ⟨0, Nat.zero_le _, rfl, upto_zero _ _⟩
    case round =>
      obtain ⟨pos, hk, rfl, hup⟩ := hrel
      have HU := Lib.hid hup
      clear hup
      by_cases hp : pos < s.size
      · have hnx : ∀ ty, (Instr.next (.pointer (some ⟨w.heap.size, 0, none⟩)) true ty).run Tryd.prog (w.iter s pos) = _ := fun ty => run_next_any w s pos ty hp
        have hwd := width_pos s pos hp
        have hmx := decode_max s pos
        go_wp2_with (go_at_call 94; refine (classOf_any _ _ hmx (HT.out.below ((Below.refl _ _).alloc (Nat.le_refl _) _))).mono ?_; rintro e w' ⟨rfl, rfl⟩)
        · have hc : (cls (Utf8.decode s pos).1 == 1) = true := by assumption
          have ha : (s[pos]'hp).toNat = (Utf8.decode s pos).1 := by
            rcases rune_cases s pos hp with ⟨_, h⟩ | ⟨_, h⟩
            · exact h.symm
            · rw [cls_high h] at hc; cases hc
          go_ret
          refine ⟨bool_end ?_, (Below.refl _ _).alloc (Nat.le_refl _) _⟩
          unfold controlOK
          rw [all_false_at hp (by rw [plain_cls, ha, hc]; rfl)]
          simp [hl]
        · have hc : (cls (Utf8.decode s pos).1 == 1) = false := by assumption
          go_roundw
          case rel =>
            obtain ⟨h1, h2⟩ := upto_step HU.out hp (fun b hb => by rw [plain_cls, cls_high hb]; rfl) (fun ha => by
              rw [plain_cls]
              rw [decode_ascii s pos hp ha] at hc
              rw [hc]; rfl)
            exact ⟨_, h2, rfl, h1⟩
          case measure =>
            show s.size - (w.iter s _).iterPos w.heap.size < s.size - (w.iter s pos).iterPos w.heap.size
            rw [World.iterPos_iter, World.iterPos_iter]
            omega
      · have hnx : ∀ ty, (Instr.next (.pointer (some ⟨w.heap.size, 0, none⟩)) true ty).run Tryd.prog (w.iter s pos) = _ := fun ty => run_next_end w s pos ty hp
        go_wp2
        go_ret
        refine ⟨bool_end ?_, (Below.refl _ _).alloc (Nat.le_refl _) _⟩
        unfold controlOK
        rw [all_of_upto HU.out (by omega)]
        simp
  · go_enter Tryd.func68, Tryd.ntmps68
    go_wp2
    go_ret
    exact ⟨bool_end (by simp [controlOK, hl]), Below.refl _ _⟩
def letterB (b : UInt8) : Bool := decide (97 ≤ b.toNat ∧ b.toNat ≤ 122 ∨ 65 ≤ b.toNat ∧ b.toNat ≤ 90)
def digitB (b : UInt8) : Bool := decide (48 ≤ b.toNat ∧ b.toNat ≤ 57)
theorem digit_any (b : UInt8) (w : World) : Calls Tryd.prog 107 #[.int .u8 b.toNat] w fun e w' => e = .returned (.bool (digitB b)) ∧ w = w' := by
  go_enter Tryd.func107, Tryd.ntmps107
  go_wp2
  all_goals go_ret
  all_goals refine ⟨bool_end ?_, rfl⟩
  all_goals rw [Bool.eq_iff_iff]; simp [digitB]; omega
def marks : ByteArray := ⟨#[33, 35, 36, 37, 38, 39, 42, 43, 45, 46, 94, 95, 124, 126]⟩
def tokB (b : UInt8) : Bool := letterB b || digitB b || !(findB marks b == 14)
theorem tok_cls (b : UInt8) : tokB b = !decide (cls b.toNat < 3) := by
  have h : ∀ n : Fin 256, tokB (UInt8.ofNat n) = !decide (cls n < 3) := by decide +kernel
  have := h ⟨b.toNat, b.toNat_lt⟩
  simpa using this
/-- What IsToken answers. -/
def tokenOK (s : ByteArray) : Bool := decide (s.size ≤ 65536) && (allB s tokB && decide (0 < s.size))
end Go.Proofs.YtcaabnnkjnleeaaDoor
