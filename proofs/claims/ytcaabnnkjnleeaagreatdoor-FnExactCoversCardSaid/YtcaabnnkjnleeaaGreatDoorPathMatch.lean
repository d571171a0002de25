/- PathMatch of the program and of the model: what they answer; the law's walk. No condition of its own. -/
import Derived.Test.YtcaabnnkjnleeaaGreatDoorScan
import Derived.Test.YtcaabnnkjnleeaaGreatDoorShelf
import Derived.Deep.QuietTactic
import Derived.BigQuiet
import Derived.RegionTactic
namespace Go.Proofs.YtcaabnnkjnleeaaGreatDoor
open Go.ChangeShapes Go.WideShapes Go.ChangeAt Go.WideMaps Go.WideElems Go.RowKit

theorem byte_is (b : UInt8) (n : Nat) (hn : n < 256) : ((b.toNat : Int) == (n : Int)) = (b == UInt8.ofNat n) := by
  rw [Bool.eq_iff_iff, beq_iff_eq, beq_iff_eq, ← UInt8.toNat_inj]
  have : (UInt8.ofNat n).toNat = n := by simp; omega
  rw [this]
  omega
theorem suf_at (c : ByteArray) (h : 0 < c.size) : (((c[c.size - 1]'(by omega)).toNat : Int) == 47) = Lib.hasSuffix c.data.toList [47] := by
  rw [show ((47 : Int)) = ((47 : Nat) : Int) from rfl, byte_is _ 47 (by decide)]
  have hl : c.size - 1 < c.data.toList.length := by simp; omega
  have e : c.data.toList = c.data.toList.take (c.size - 1) ++ [c[c.size - 1]'(by omega)] := by
    have e := List.take_succ_eq_append_getElem hl
    rw [List.take_of_length_le (by simp; omega)] at e
    exact e
  rw [Lib.hasSuffix, Bool.eq_iff_iff, List.isSuffixOf_iff_suffix]
  constructor
  · intro hb
    have : c[c.size - 1]'(by omega) = 47 := by simpa using hb
    rw [e, this]
    exact List.suffix_append _ _
  · rintro ⟨t, ht⟩
    rw [e] at ht
    have := (List.append_inj_right' ht rfl)
    have : c[c.size - 1]'(by omega) = 47 := by simpa using this.symm
    simp [this]
theorem pre_at (p : ByteArray) (n : Nat) (h : n < p.size) : (((p[n]'h).toNat : Int) == 47) = Lib.hasPrefix (p.data.toList.drop n) [47] := by
  rw [show ((47 : Int)) = ((47 : Nat) : Int) from rfl, byte_is _ 47 (by decide)]
  have hl : n < p.data.toList.length := by simpa using h
  rw [Lib.hasPrefix, List.drop_eq_getElem_cons hl]
  show _ = (((47 : UInt8) == p.data.toList[n]) && _)
  rw [Bool.eq_iff_iff]
  simp
  exact ⟨fun h => h.symm, fun h => h.symm⟩
/-- What PathMatch answers at texts that are not too long. -/
def pathL (p c : ByteArray) : Bool := decide (p = c) || (decide (0 < c.size) && Lib.hasPrefix p.data.toList c.data.toList && (Lib.hasSuffix c.data.toList [47] || Lib.hasPrefix (p.data.toList.drop c.size) [47]))
def pathB (p c : ByteArray) : Bool := decide (p.size ≤ 65536 ∧ c.size ≤ 65536) && pathL p c
theorem pre_eq {p c : ByteArray} (h : c.size ≤ p.size) : ((p.extract 0 c.size).toList == c.toList) = Lib.hasPrefix p.data.toList c.data.toList := by
  have := Lib.hasPrefix_raw p c
  rw [← this]
  simp [h]
theorem pre_long {p c : ByteArray} (hne : p ≠ c) (h : p.size ≤ c.size) : Lib.hasPrefix p.data.toList c.data.toList = false := by
  cases e : Lib.hasPrefix p.data.toList c.data.toList with
  | false => rfl
  | true =>
    rw [Lib.hasPrefix, List.isPrefixOf_iff_prefix] at e
    have hl := e.length_le
    have : c.data.toList = p.data.toList := e.eq_of_length (by simp at hl ⊢; omega)
    exact absurd (bytes_inj this.symm) hne
theorem specPathL (p c : ByteArray) (w : World) (_hp : p.size ≤ maxLen) (hc : c.size ≤ maxLen) : Calls Tryz.prog 90 #[.string p, .string c] w fun e w' => e = .returned (.bool (pathL p c)) ∧ w = w' := by
  unfold maxLen at _hp hc
  by_cases he : p = c
  · have HE : Hid (pathL p c = true) := by show pathL p c = true; simp [pathL, he]
    have f := seq_true he
    clear he
    go_enter Tryz.func90, Tryz.ntmps90
    go_wp2
    go_ret
    exact ⟨bool_end HE.out.symm, rfl⟩
  have f := seq_false he
  by_cases h0 : 0 < c.size
  · by_cases hl : c.size < p.size
    · have f2 := pre_eq (p := p) (c := c) (by omega)
      have f3 := suf_at c h0
      have f4 := pre_at p c.size hl
      cases g2 : Lib.hasPrefix p.data.toList c.data.toList with
      | false =>
        have HE : Hid (pathL p c = false) := by show pathL p c = false; simp [pathL, he, g2]
        rw [g2] at f2
        clear he f3 f4 g2
        go_enter Tryz.func90, Tryz.ntmps90
        go_wp2
        go_ret
        exact ⟨bool_end HE.out.symm, rfl⟩
      | true =>
        rw [g2] at f2
        cases g3 : Lib.hasSuffix c.data.toList [47] with
        | true =>
          have HE : Hid (pathL p c = true) := by show pathL p c = true; simp [pathL, h0, g2, g3]
          rw [g3] at f3
          clear he f4 g2 g3
          go_enter Tryz.func90, Tryz.ntmps90
          go_wp2
          go_ret
          exact ⟨bool_end HE.out.symm, rfl⟩
        | false =>
          rw [g3] at f3
          cases g4 : Lib.hasPrefix (p.data.toList.drop c.size) [47] with
          | true =>
            have HE : Hid (pathL p c = true) := by show pathL p c = true; simp [pathL, h0, g2, g4]
            rw [g4] at f4
            clear he g2 g3 g4
            go_enter Tryz.func90, Tryz.ntmps90
            go_wp2
            go_ret
            exact ⟨bool_end HE.out.symm, rfl⟩
          | false =>
            have HE : Hid (pathL p c = false) := by show pathL p c = false; simp [pathL, he, g3, g4]
            rw [g4] at f4
            clear he g2 g3 g4
            go_enter Tryz.func90, Tryz.ntmps90
            go_wp2
            go_ret
            exact ⟨bool_end HE.out.symm, rfl⟩
    · have HE : Hid (pathL p c = false) := by show pathL p c = false; simp [pathL, he, pre_long he (by omega)]
      clear he
      go_enter Tryz.func90, Tryz.ntmps90
      go_wp2
      go_ret
      exact ⟨bool_end HE.out.symm, rfl⟩
  · have HE : Hid (pathL p c = false) := by show pathL p c = false; simp [pathL, he, h0]
    clear he
    go_enter Tryz.func90, Tryz.ntmps90
    go_wp2
    go_ret
    exact ⟨bool_end HE.out.symm, rfl⟩
theorem implPath (p c : ByteArray) (w : World) (hp : p.size ≤ maxLen) (hc : c.size ≤ maxLen) : Calls Tryz.prog 93 #[.string p, .string c] w fun e w' => e = .returned (.bool (pathB p c)) ∧ w = w' := by
  unfold maxLen at hp hc
  by_cases h1 : p.size ≤ 65536
  · by_cases h2 : c.size ≤ 65536
    · by_cases he : p = c
      · have HE : Hid (pathB p c = true) := by show pathB p c = true; simp [pathB, pathL, h2, he]
        have f := seq_true he
        clear he
        go_enter Tryz.func93, Tryz.ntmps93
        go_wp2
        go_ret
        exact ⟨bool_end HE.out.symm, rfl⟩
      have f := seq_false he
      cases g2 : Lib.hasPrefix p.data.toList c.data.toList with
      | false =>
        have HE : Hid (pathB p c = false) := by show pathB p c = false; simp [pathB, pathL, he, g2]
        have HG := Lib.hid g2
        clear he g2
        go_enter Tryz.func93, Tryz.ntmps93
        go_wp2_with (go_at_call 140; refine (Tryz.strings_CutPrefix _ _ _).mono ?_; rintro e w' ⟨rfl, rfl⟩; rw [HG.out])
        go_ret
        exact ⟨bool_end HE.out.symm, rfl⟩
      | true =>
        have HT : Hid (Lib.trimPrefix p.data.toList c.data.toList = p.data.toList.drop c.size) := by
          show _ = _
          rw [Lib.trimPrefix, g2]
          simp
        by_cases h0 : 0 < c.size
        · have f5 : c.toList.isEmpty = false := by
            rw [ByteArray.toList_eq]
            cases hh : c.data.toList with
            | nil => exact absurd (by have := congrArg List.length hh; simpa using this) (by omega : ¬ c.size = 0)
            | cons _ _ => rfl
          cases g3 : Lib.hasSuffix c.data.toList [47] with
          | true =>
            have HE : Hid (pathB p c = true) := by show pathB p c = true; simp [pathB, pathL, h0, h1, h2, g2, g3]
            have HG := Lib.hid g2
            have HS := Lib.hid g3
            clear he g2 g3
            go_enter Tryz.func93, Tryz.ntmps93
            go_wp2_with (first
              | (go_at_call 140; refine (Tryz.strings_CutPrefix _ _ _).mono ?_; rintro e w' ⟨rfl, rfl⟩; rw [HG.out, HT.out])
              | (go_at_call 141; refine (Tryz.strings_HasSuffix c _ _ (by omega)).mono ?_; rintro e w' ⟨rfl, rfl⟩; rw [HS.out]))
            go_ret
            exact ⟨bool_end HE.out.symm, rfl⟩
          | false =>
            have HE : Hid (pathB p c = Lib.hasPrefix (p.data.toList.drop c.size) [47]) := by show pathB p c = _; simp [pathB, pathL, h0, h1, h2, g2, g3, he]
            have HG := Lib.hid g2
            have HS := Lib.hid g3
            clear he g2 g3
            go_enter Tryz.func93, Tryz.ntmps93
            go_wp2_with (first
              | (go_at_call 140; refine (Tryz.strings_CutPrefix _ _ _).mono ?_; rintro e w' ⟨rfl, rfl⟩; rw [HG.out, HT.out])
              | (go_at_call 141; refine (Tryz.strings_HasSuffix c _ _ (by omega)).mono ?_; rintro e w' ⟨rfl, rfl⟩; rw [HS.out])
              | (go_at_call 142; refine (Tryz.strings_HasPrefix _ _ _).mono ?_; rintro e w' ⟨rfl, rfl⟩))
            go_ret
            exact ⟨bool_end HE.out.symm, rfl⟩
        · have HE : Hid (pathB p c = false) := by show pathB p c = false; simp [pathB, pathL, he, h0]
          have HG := Lib.hid g2
          have f5 : c.toList.isEmpty = true := by
            rw [ByteArray.toList_eq, List.isEmpty_iff]
            have h00 : c.size = 0 := by omega
            exact List.eq_nil_of_length_eq_zero (by simpa using h00)
          clear he g2
          go_enter Tryz.func93, Tryz.ntmps93
          go_wp2_with (go_at_call 140; refine (Tryz.strings_CutPrefix _ _ _).mono ?_; rintro e w' ⟨rfl, rfl⟩; rw [HG.out, HT.out])
          go_ret
          exact ⟨bool_end HE.out.symm, rfl⟩
    · have HE : Hid (pathB p c = false) := by show pathB p c = false; simp [pathB, h2]
      go_enter Tryz.func93, Tryz.ntmps93
      go_wp2
      go_ret
      exact ⟨bool_end HE.out.symm, rfl⟩
  · have HE : Hid (pathB p c = false) := by show pathB p c = false; simp [pathB, h1]
    go_enter Tryz.func93, Tryz.ntmps93
    go_wp2
    go_ret
    exact ⟨bool_end HE.out.symm, rfl⟩
end Go.Proofs.YtcaabnnkjnleeaaGreatDoor
