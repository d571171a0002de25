/- The table of byte classes, classOf, and the functions of the program and of the model that only look at a text's bytes (HasControl, IsToken): what they answer; both laws' walks. No condition of its own. -/
import Derived.Test.YtihlflhgbnfkkabGreatDoorScan
namespace Go.Proofs.YtihlflhgbnfkkabGreatDoor
open Go.ChangeShapes Go.WideShapes Go.ChangeAt Go.WideMaps Go.WideElems Go.RowKit

def classes : List Int := [1, 1, 1, 1, 1, 1, 1, 1, 1, 2, 1, 1, 1, 1, 1, 1, 1, 1, 1, 1, 1, 1, 1, 1, 1, 1, 1, 1, 1, 1, 1, 1, 2, 3, 0, 3, 3, 3, 3, 3, 0, 0, 3, 3, 0, 3, 3, 0, 4, 4, 4, 4, 4, 4, 4, 4, 4, 4, 0, 0, 0, 0, 0, 0, 0, 6, 6, 6, 6, 6, 6, 6, 6, 6, 6, 6, 6, 6, 6, 6, 6, 6, 6, 6, 6, 6, 6, 6, 6, 6, 6, 0, 0, 0, 3, 5, 0, 7, 7, 7, 7, 7, 7, 7, 7, 7, 7, 7, 7, 7, 7, 7, 7, 7, 7, 7, 7, 7, 7, 7, 7, 7, 7, 0, 3, 0, 3, 1]
def cls (c : Nat) : Int := if c < 128 then classes.getD c 0 else 0
theorem cls_high {c : Nat} (h : 128 ≤ c) : cls c = 0 := if_neg (by omega)

/-- The table lies in the variable's cells. -/
def TabAt (w : World) : Prop := ∀ c, c < 128 → w.cell? ⟨0, c, none⟩ = some (.int .u8 (cls c))
theorem TabAt.below {w w' : World} (h : TabAt w) (hb : Below w.heap.size w w') : TabAt w' := fun c hc => cell_kept hb (h c hc)
theorem gClasses : Tryz.prog.globalNamed "loop.example/g00803/impl.byteClasses" = some 0 := by kernel_rfl
theorem tClasses : (Tryz.prog.globals[0]?).map (·.type) = some 80 := by kernel_rfl
theorem tab_of_laid {W : World} {rest : List (String × DataW Unit)} (h : laidMet Tryz.prog (("loop.example/g00803/impl.byteClasses", Rows.laid_loop_example_g00803_impl_byteClasses) :: rest) W) : TabAt W := by
  have h2 := Lib.tabIs_of_head (zs := classes) (k := .u8) (rest := rest) gClasses tClasses Tryz.underlying80 Tryz.underlying5 (by kernel_rfl) (by kernel_rfl) h
  exact fun c hc => by
    rw [show cls c = classes.getD c 0 from if_pos hc]
    exact h2.cell gClasses c hc
theorem tab_laid {W : World} (h : laidMetH Tryz.prog [("loop.example/g00803/impl.byteClasses", Rows.laid_loop_example_g00803_impl_byteClasses)] W) : TabAt W := by
  rw [MakeChecks.laidMetH_plain _ _ _ (by kernel_rfl)] at h
  exact tab_of_laid h

theorem classOf_any (c : Nat) (w : World) (hc : c ≤ 1114111) (hT : TabAt w) : Calls Tryz.prog 57 #[.int .i32 c] w fun e w' => e = .returned (.int .u8 (cls c)) ∧ w = w' := by
  by_cases h : c < 128
  · have hcell := hT c h
    clear hT
    go_enter Tryz.func57, Tryz.ntmps57
    go_wp2
    go_ret
    exact ⟨rfl, rfl⟩
  · have HE := Lib.hid (cls_high (c := c) (by omega))
    clear hT
    go_enter Tryz.func57, Tryz.ntmps57
    go_wp2
    go_ret
    exact ⟨by rw [HE.out]; rfl, rfl⟩
/-- No control byte. -/
def plainB (b : UInt8) : Bool := decide (¬ (b.toNat < 32 ∧ b.toNat ≠ 9 ∨ b.toNat = 127))
theorem plain_iff (b : UInt8) : plainB b = true ↔ ¬ (b.toNat < 32 ∧ b.toNat ≠ 9 ∨ b.toNat = 127) := by simp only [plainB, decide_eq_true_eq]
theorem plain_cls (b : UInt8) : plainB b = !(cls b.toNat == 1) := by
  have h : ∀ n : Fin 256, plainB (UInt8.ofNat n) = !(cls n == 1) := by decide +kernel
  have := h ⟨b.toNat, b.toNat_lt⟩
  simpa using this
/-- What HasControl answers. -/
def controlOK (s : ByteArray) : Bool := decide (s.size ≤ 65536) && !allB s plainB
def letterB (b : UInt8) : Bool := decide (97 ≤ b.toNat ∧ b.toNat ≤ 122 ∨ 65 ≤ b.toNat ∧ b.toNat ≤ 90)
def digitB (b : UInt8) : Bool := decide (48 ≤ b.toNat ∧ b.toNat ≤ 57)
theorem digit_any (b : UInt8) (w : World) : Calls Tryz.prog 41 #[.int .u8 b.toNat] w fun e w' => e = .returned (.bool (digitB b)) ∧ w = w' := by
  go_enter Tryz.func41, Tryz.ntmps41
  go_wp2
  all_goals go_ret
  all_goals refine ⟨bool_end ?_, rfl⟩
  all_goals rw [Bool.eq_iff_iff]; simp [digitB]; omega
def marks : ByteArray := ⟨#[33, 35, 36, 37, 38, 39, 42, 43, 45, 46, 94, 95, 124, 126]⟩
def tokB (b : UInt8) : Bool := letterB b || digitB b || !(findB marks b == 14)
theorem tok_cls (b : UInt8) : tokB b = !decide (cls b.toNat < 3) := by
  have h : ∀ n : Fin 256, tokB (UInt8.ofNat n) = !decide (cls n < 3) := by decide +kernel
  have := h ⟨b.toNat, b.toNat_lt⟩
  simpa using this
/-- What IsToken answers. -/
def tokenOK (s : ByteArray) : Bool := decide (s.size ≤ 65536) && (allB s tokB && decide (0 < s.size))
end Go.Proofs.YtihlflhgbnfkkabGreatDoor
