/- PathMatch of the program and of the model: what they answer; the law's walk. No condition of its own. -/
import Derived.Test.YtcaabnnkjnleeaaDoorScan
import Derived.Test.YtcaabnnkjnleeaaDoorShelf
import Derived.Deep.QuietTactic
import Derived.BigQuiet
import Derived.RegionTactic
namespace Go.Proofs.YtcaabnnkjnleeaaDoor
open Go.ChangeShapes Go.WideShapes Go.ChangeAt Go.WideMaps Go.WideElems Go.RowKit

theorem byte_is (b : UInt8) (n : Nat) (hn : n < 256) : ((b.toNat : Int) == (n : Int)) = (b == UInt8.ofNat n) := by
  rw [Bool.eq_iff_iff, beq_iff_eq, beq_iff_eq, ← UInt8.toNat_inj]
  have : (UInt8.ofNat n).toNat = n := by simp; omega
  rw [this]
  omega
theorem suf_at (c : ByteArray) (h : 0 < c.size) : (((c[c.size - 1]'(by omega)).toNat : Int) == 47) = Lib.hasSuffix c.data.toList [47] := by
  rw [show ((47 : Int)) = ((47 : Nat) : Int) from rfl, byte_is _ 47 (by decide)]
  have hl : c.size - 1 < c.data.toList.length := by simp; omega
  have e : c.data.toList = c.data.toList.take (c.size - 1) ++ [c[c.size - 1]'(by omega)] := by
    have e := List.take_succ_eq_append_getElem hl
    rw [List.take_of_length_le (by simp; omega)] at e
    exact e
  rw [Lib.hasSuffix, Bool.eq_iff_iff, List.isSuffixOf_iff_suffix]
  constructor
  · intro hb
    have : c[c.size - 1]'(by omega) = 47 := by simpa using hb
    rw [e, this]
    exact List.suffix_append _ _
  · rintro ⟨t, ht⟩
    rw [e] at ht
    have := (List.append_inj_right' ht rfl)
    have : c[c.size - 1]'(by omega) = 47 := by simpa using this.symm
    simp [this]
theorem pre_at (p : ByteArray) (n : Nat) (h : n < p.size) : (((p[n]'h).toNat : Int) == 47) = Lib.hasPrefix (p.data.toList.drop n) [47] := by
  rw [show ((47 : Int)) = ((47 : Nat) : Int) from rfl, byte_is _ 47 (by decide)]
  have hl : n < p.data.toList.length := by simpa using h
  rw [Lib.hasPrefix, List.drop_eq_getElem_cons hl]
  show _ = (((47 : UInt8) == p.data.toList[n]) && _)
  rw [Bool.eq_iff_iff]
  simp
  exact ⟨fun h => h.symm, fun h => h.symm⟩
/-- What PathMatch answers at texts that are not too long. -/
def pathL (p c : ByteArray) : Bool := decide (p = c) || (decide (0 < c.size) && Lib.hasPrefix p.data.toList c.data.toList && (Lib.hasSuffix c.data.toList [47] || Lib.hasPrefix (p.data.toList.drop c.size) [47]))
def pathB (p c : ByteArray) : Bool := decide (p.size ≤ 65536 ∧ c.size ≤ 65536) && pathL p c
theorem pre_eq {p c : ByteArray} (h : c.size ≤ p.size) : ((p.extract 0 c.size).toList == c.toList) = Lib.hasPrefix p.data.toList c.data.toList := by
  have := Lib.hasPrefix_raw p c
  rw [← this]
  simp [h]
theorem pre_long {p c : ByteArray} (hne : p ≠ c) (h : p.size ≤ c.size) : Lib.hasPrefix p.data.toList c.data.toList = false := by
  cases e : Lib.hasPrefix p.data.toList c.data.toList with
  | false => rfl
  | true =>
    rw [Lib.hasPrefix, List.isPrefixOf_iff_prefix] at e
    have hl := e.length_le
    have : c.data.toList = p.data.toList := e.eq_of_length (by simp at hl ⊢; omega)
    exact absurd (bytes_inj this.symm) hne
end Go.Proofs.YtcaabnnkjnleeaaDoor
