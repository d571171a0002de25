/- DomainMatch of the program and of the model: what they answer; the law's walk. No condition of its own. -/
import Derived.Test.YtihlflhgbnfkkabGreatDoorAddr
namespace Go.Proofs.YtihlflhgbnfkkabGreatDoor
open Go.ChangeShapes Go.WideShapes Go.ChangeAt Go.WideMaps Go.WideElems Go.RowKit

def belowB (h d : ByteArray) : Bool := Lib.hasSuffix h.data.toList (46 :: d.data.toList)
theorem below_short {h d : ByteArray} (hl : h.size ≤ d.size) : belowB h d = false := by
  cases e : belowB h d with
  | false => rfl
  | true =>
    rw [belowB, Lib.hasSuffix, List.isSuffixOf_iff_suffix] at e
    have := e.length_le
    simp at this
    omega
theorem below_at {h d : ByteArray} {n : Nat} (h0 : 0 < n) (hn : h.size = d.size + n) (hn2 : n - 1 < h.size) : belowB h d = (((h.extract n h.size).toList == d.toList) && (((h[n - 1]'hn2).toNat : Int) == 46)) := by
  have hl : n - 1 < h.data.toList.length := by simp; omega
  have e : h.data.toList = h.data.toList.take (n - 1) ++ (h[n - 1]'(by omega) :: h.data.toList.drop n) := by
    have e1 := List.take_append_drop (n - 1) h.data.toList
    rw [List.drop_eq_getElem_cons hl, show n - 1 + 1 = n by omega] at e1
    exact e1.symm
  have hx : (h.extract n h.size).data.toList = h.data.toList.drop n := by
    rw [Lib.extract_data, List.take_of_length_le (by simp)]
  have hb : (((h[n - 1]'(by omega)).toNat : Int) == 46) = ((h[n - 1]'(by omega)) == 46) := by
    rw [Bool.eq_iff_iff, beq_iff_eq, beq_iff_eq, ← UInt8.toNat_inj]
    show _ ↔ (h[n - 1]'(by omega)).toNat = 46
    omega
  rw [hb, ByteArray.toList_eq, ByteArray.toList_eq, hx, belowB, Lib.hasSuffix, Bool.eq_iff_iff, List.isSuffixOf_iff_suffix, Bool.and_eq_true, beq_iff_eq, beq_iff_eq]
  constructor
  · rintro ⟨t, ht⟩
    rw [e] at ht
    have := (List.append_inj' ht (by simp; omega)).2
    simp only [List.cons.injEq] at this
    exact ⟨this.2.symm, this.1.symm⟩
  · rintro ⟨h1, h2⟩
    rw [e, h1, h2]
    exact List.suffix_append _ _
set_option maxRecDepth 100000 in
theorem isBelow_any (h d : ByteArray) (w : World) (hh : h.size ≤ 40) (hd : d.size ≤ 40) : Calls Tryz.prog 74 #[.string h, .string d] w fun e w' => e = .returned (.bool (belowB h d)) ∧ w = w' := by
  have HE : Hid (Lib.hasSuffix h.data.toList (⟨#[46]⟩ ++ d : ByteArray).data.toList = belowB h d) := by
    show _ = _
    rw [belowB]
    congr 1
  have hz : (⟨#[46]⟩ ++ d : ByteArray).size ≤ 41 := by
    rw [ByteArray.size_append]
    show 1 + d.size ≤ 41
    omega
  go_enter Tryz.func74, Tryz.ntmps74
  go_wp2_with (go_at_call 84; refine (Tryz.strings_HasSuffix h _ _ (by omega)).mono ?_; rintro e w' ⟨rfl, rfl⟩)
  go_ret
  exact ⟨bool_end HE.out, rfl⟩
/-- What DomainMatch answers of hosts, and of texts. -/
def matchL (h d : ByteArray) : Bool := decide (h = d) || (belowB h d && !addrB h)
def matchB (h d : ByteArray) : Bool := hostB h && hostB d && matchL h d
end Go.Proofs.YtihlflhgbnfkkabGreatDoor
