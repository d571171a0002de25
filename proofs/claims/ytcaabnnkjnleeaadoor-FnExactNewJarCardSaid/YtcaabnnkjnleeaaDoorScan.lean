/- Where a byte is found in a text: the model's scan. No condition of its own. -/
import Derived.Test.YtcaabnnkjnleeaaDoorBase
import Derived.Test.YtcaabnnkjnleeaaDoorBytes
namespace Go.Proofs.YtcaabnnkjnleeaaDoor
open Go.ChangeShapes Go.WideShapes Go.ChangeAt Go.WideMaps Go.WideElems Go.RowKit

theorem bool_end {a b : Bool} (h : a = b) : Ending.returned (.bool a) = .returned (.bool b) := by rw [h]
theorem int_end {k : IntKind} {a b : Int} (h : a = b) : Ending.returned (.int k a) = .returned (.int k b) := by rw [h]
/-- The first place of a byte, the length if there is none. -/
def findB (s : ByteArray) (c : UInt8) : Nat := s.data.toList.findIdx (· == c)
theorem findB_at {s : ByteArray} {c : UInt8} {k : Nat} (h : Upto s (· != c) k) (hk : k < s.size) (hc : s[k]'hk = c) : findB s c = k := by
  unfold findB
  rw [List.findIdx_eq (by simpa using hk)]
  refine ⟨?_, fun j hj => ?_⟩
  · show (s[k] == c) = true
    simpa using hc
  · have := h j (by omega) hj
    show (s[j] == c) = false
    simpa using this
theorem findB_none {s : ByteArray} {c : UInt8} {k : Nat} (h : Upto s (· != c) k) (hk : s.size ≤ k) : findB s c = s.size := by
  unfold findB
  rw [show s.size = s.data.toList.length by simp]
  apply List.findIdx_eq_length_of_false
  intro x hx
  obtain ⟨j, hj, rfl⟩ := List.mem_iff_getElem.1 hx
  have hj' : j < s.size := by simpa using hj
  have := h j hj' (by omega)
  show (s[j] == c) = false
  simpa using this
theorem byte_eq_of {a b : UInt8} (h : ((a.toNat : Int) == (b.toNat : Int)) = true) : a = b := by
  have := eq_of_beq h
  exact UInt8.toNat_inj.1 (by omega)
theorem byte_ne_of {a b : UInt8} (h : ((a.toNat : Int) == (b.toNat : Int)) = false) : a ≠ b := by
  rintro rfl
  simp at h
theorem find_any (s : ByteArray) (c : UInt8) (w : World) (hs : s.size ≤ maxLen) : Calls Tryd.prog 96 #[.string s, .int .u8 c.toNat] w fun e w' => e = .returned (.int .i64 (findB s c)) ∧ w = w' := by
  unfold maxLen at hs
  go_enter Tryd.func96, Tryd.ntmps96
  go_wp2
  go_loop [5] (fun i => ∃ k : Nat, k ≤ s.size ∧ i = .int .i64 k ∧ Upto s (· != c) k) (fun i => s.size - (intOf i).toNat)
  case atStart => exact ⟨0, Nat.zero_le _, rfl, upto_zero _ _⟩
  case round =>
    obtain ⟨k, hk, rfl, hup⟩ := hrel
    have HU := Lib.hid hup
    clear hup
    by_cases hlt : k < s.size
    · go_wp2
      · have hc : ((s[k].toNat : Int) == (c.toNat : Int)) = true := by assumption
        go_ret
        exact ⟨int_end (by rw [findB_at HU.out hlt (byte_eq_of hc)]), rfl⟩
      · have hc : ((s[k].toNat : Int) == (c.toNat : Int)) = false := by assumption
        go_round
        case rel => exact ⟨k + 1, by omega, by go_num, upto_succ HU.out hlt (by simpa using byte_ne_of hc)⟩
        case measure => simp [intOf]; omega
    · go_wp2
      go_ret
      exact ⟨int_end (by rw [findB_none HU.out (by omega)]), rfl⟩
theorem findB_le (s : ByteArray) (c : UInt8) : findB s c ≤ s.size := by
  have := List.findIdx_le_length (xs := s.data.toList) (p := (· == c))
  simpa [findB] using this
end Go.Proofs.YtcaabnnkjnleeaaDoor
