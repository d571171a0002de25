/- CanonHost of the program and of the model: what they answer; the law's walk. No condition of its own. -/
import Derived.Test.YtmmmipkccnmmdaaDoorHostSpec
import Derived.Test.YtmmmipkccnmmdaaDoorFold
import Derived.Test.YtmmmipkccnmmdaaDoorShelf
namespace Go.Proofs.YtmmmipkccnmmdaaDoor
open Go.ChangeShapes Go.WideShapes Go.ChangeAt Go.WideMaps Go.WideElems Go.RowKit

/-- Without one final point: as the program cuts it, and as the model does. -/
def canonP (f : ByteArray) : ByteArray := ⟨(Lib.trimSuffix f.data.toList [46]).toArray⟩
def canonM (f : ByteArray) : ByteArray := if 1 < f.size ∧ Lib.hasSuffix f.data.toList [46] = true then f.extract 0 (f.size - 1) else f
theorem last_suf (c : ByteArray) (h : 0 < c.size) : (((c[c.size - 1]'(by omega)).toNat : Int) == 46) = Lib.hasSuffix c.data.toList [46] := by
  have hl : c.size - 1 < c.data.toList.length := by simp; omega
  have e : c.data.toList = c.data.toList.take (c.size - 1) ++ [c[c.size - 1]'(by omega)] := by
    have e := List.take_succ_eq_append_getElem hl
    rw [List.take_of_length_le (by simp; omega)] at e
    exact e
  have hb : (((c[c.size - 1]'(by omega)).toNat : Int) == 46) = ((c[c.size - 1]'(by omega)) == 46) := by
    rw [Bool.eq_iff_iff, beq_iff_eq, beq_iff_eq, ← UInt8.toNat_inj]
    show _ ↔ (c[c.size - 1]'(by omega)).toNat = 46
    omega
  rw [hb, Lib.hasSuffix, Bool.eq_iff_iff, List.isSuffixOf_iff_suffix]
  constructor
  · intro hb
    have : c[c.size - 1]'(by omega) = 46 := by simpa using hb
    rw [e, this]
    exact List.suffix_append _ _
  · rintro ⟨t, ht⟩
    rw [e] at ht
    have := (List.append_inj_right' ht rfl)
    have : c[c.size - 1]'(by omega) = 46 := by simpa using this.symm
    simp [this]
theorem canonP_no {f : ByteArray} (h : Lib.hasSuffix f.data.toList [46] = false) : canonP f = f := by
  rw [canonP, Lib.trimSuffix, h]
  simp
theorem canonP_yes {f : ByteArray} (h : Lib.hasSuffix f.data.toList [46] = true) : canonP f = f.extract 0 (f.size - 1) := by
  apply bytes_inj
  rw [Lib.extract_data, List.drop_zero, Nat.sub_zero, canonP, Lib.trimSuffix, h]
  simp
theorem canonP_size (f : ByteArray) : (canonP f).size ≤ f.size := by
  cases h : Lib.hasSuffix f.data.toList [46] with
  | true => rw [canonP_yes h]; simp
  | false => rw [canonP_no h]; exact Nat.le_refl _
theorem canon_same (f : ByteArray) : hostB (canonM f) = hostB (canonP f) ∧ (hostB (canonM f) = true → canonM f = canonP f) := by
  cases h : Lib.hasSuffix f.data.toList [46] with
  | false =>
    have : canonM f = canonP f := by rw [canonP_no h, canonM, if_neg (by simp [h])]
    rw [this]
    exact ⟨rfl, fun _ => rfl⟩
  | true =>
    by_cases h1 : 1 < f.size
    · have : canonM f = canonP f := by rw [canonP_yes h, canonM, if_pos ⟨h1, h⟩]
      rw [this]
      exact ⟨rfl, fun _ => rfl⟩
    · have e1 : canonM f = f := by rw [canonM, if_neg (fun h2 => h1 h2.1)]
      have hl : f.data.toList = [46] := by
        rw [Lib.hasSuffix, List.isSuffixOf_iff_suffix] at h
        have hlen := h.length_le
        exact (h.eq_of_length (by simp at hlen ⊢; omega)).symm
      have e2 : hostB f = false := by rw [hostB, hl]; simp; intro _; decide
      have e3 : hostB (canonP f) = false := by
        rw [canonP_yes h]
        exact host_zero (by simp; omega)
      rw [e1, e2, e3]
      exact ⟨rfl, fun h => by cases h⟩
theorem foldL_size (l : List UInt8) : (foldL l).size = l.length := by
  show (l.map lowB).toArray.size = _
  simp
def canonOK (t : ByteArray) : Bool := hostB (canonP (foldL t.data.toList))
/-- What CanonHost answers. -/
def canonS (t : ByteArray) : ByteArray := if t.size ≤ 65536 ∧ canonOK t = true then canonP (foldL t.data.toList) else ⟨#[]⟩
def canonC (t : ByteArray) : Int := if t.size ≤ 65536 then (if canonOK t = true then 0 else 3) else 2
theorem sc_end {a b : ByteArray} {p q : Int} (h : a = b) (h' : p = q) : Ending.returned (.tuple #[.string a, .int .i64 p]) = .returned (.tuple #[.string b, .int .i64 q]) := by rw [h, h']
theorem sb_end {a b : ByteArray} {p q : Bool} (h : a = b) (h' : p = q) : Ending.returned (.tuple #[.string a, .bool p]) = .returned (.tuple #[.string b, .bool q]) := by rw [h, h']
theorem specCanonL (t : ByteArray) (w : World) (hs : t.size ≤ 65536) : Calls Tryd.prog 29 #[.string t] w fun e w' => e = .returned (.tuple #[.string (canonM (foldL t.data.toList)), .bool (canonOK t)]) ∧ Below w.heap.size w w' := by
  have hz : (foldL t.data.toList).size = t.size := by rw [foldL_size]; simp
  have HK : Hid (canonOK t = hostB (canonM (foldL t.data.toList))) := (canon_same _).1.symm
  obtain ⟨f, hf⟩ : ∃ f, f = foldL t.data.toList := ⟨_, rfl⟩
  rw [← hf] at hz HK ⊢
  have HF := Lib.hid hf
  clear hf
  have hs1 : f.size ≤ 1048576 := by omega
  by_cases h1 : 1 < f.size
  · have f1 := last_suf f (Nat.lt_trans Nat.zero_lt_one h1)
    cases g : Lib.hasSuffix f.data.toList [46] with
    | true =>
      rw [g] at f1
      have HM : Hid (canonM f = f.extract 0 (f.size - 1)) := if_pos ⟨h1, g⟩
      have hs2 : (f.extract 0 (f.size - 1)).size ≤ 1048576 := by simp; omega
      have HS2 := Lib.hid hs2
      have hz2 : f.size ≤ t.size := by omega
      clear g hz hs2
      go_enter Tryd.func29, Tryd.ntmps29
      go_wp2_with (first
        | (go_at_call 44; refine (specFoldL _ _ hs).mono ?_; rintro e w' ⟨rfl, hb⟩; rw [← HF.out])
        | (go_at_call 31; refine (specHostL _ _ HS2.out).mono ?_; rintro e w' ⟨rfl, hb2⟩))
      go_ret2
      exact ⟨sb_end HM.out.symm (by rw [HK.out, HM.out]), hb.trans (hb2.mono hb.size)⟩
    | false =>
      rw [g] at f1
      have HM : Hid (canonM f = f) := if_neg (by simp [g])
      have hz2 : f.size ≤ t.size := by omega
      clear g hz
      go_enter Tryd.func29, Tryd.ntmps29
      go_wp2_with (first
        | (go_at_call 44; refine (specFoldL _ _ hs).mono ?_; rintro e w' ⟨rfl, hb⟩; rw [← HF.out])
        | (go_at_call 31; refine (specHostL _ _ hs1).mono ?_; rintro e w' ⟨rfl, hb2⟩))
      go_ret2
      exact ⟨sb_end HM.out.symm (by rw [HK.out, HM.out]), hb.trans (hb2.mono hb.size)⟩
  · have HM : Hid (canonM f = f) := if_neg (fun h => h1 h.1)
    clear hz
    go_enter Tryd.func29, Tryd.ntmps29
    go_wp2_with (first
      | (go_at_call 44; refine (specFoldL _ _ hs).mono ?_; rintro e w' ⟨rfl, hb⟩; rw [← HF.out])
      | (go_at_call 31; refine (specHostL _ _ hs1).mono ?_; rintro e w' ⟨rfl, hb2⟩))
    go_ret2
    exact ⟨sb_end HM.out.symm (by rw [HK.out, HM.out]), hb.trans (hb2.mono hb.size)⟩
theorem specCanon (t : ByteArray) (w : World) (hs : t.size ≤ maxLen) : Calls Tryd.prog 11 #[.string t] w fun e w' => e = .returned (.tuple #[.string (canonS t), .int .i64 (canonC t)]) ∧ Below w.heap.size w w' := by
  unfold maxLen at hs
  by_cases hl : t.size ≤ 65536
  · cases hok : canonOK t with
    | true =>
      have HM : Hid (canonM (foldL t.data.toList) = canonS t) := by
        show _ = _
        rw [canonS, if_pos ⟨hl, hok⟩]
        exact (canon_same _).2 (by rw [(canon_same _).1]; exact hok)
      have HC : Hid (canonC t = 0) := by show _ = _; rw [canonC, if_pos hl, if_pos hok]
      have HO := Lib.hid hok
      clear hok
      go_enter Tryd.func11, Tryd.ntmps11
      go_wp2_with (go_at_call 29; refine (specCanonL _ _ hl).mono ?_; rintro e w' ⟨rfl, hb⟩; rw [HO.out])
      go_ret2
      exact ⟨sc_end HM.out HC.out.symm, hb⟩
    | false =>
      have HM : Hid (canonS t = ⟨#[]⟩) := by show _ = _; rw [canonS, if_neg (by simp [hok])]
      have HC : Hid (canonC t = 3) := by show _ = _; rw [canonC, if_pos hl, if_neg (by simp [hok])]
      have HO := Lib.hid hok
      clear hok
      go_enter Tryd.func11, Tryd.ntmps11
      go_wp2_with (go_at_call 29; refine (specCanonL _ _ hl).mono ?_; rintro e w' ⟨rfl, hb⟩; rw [HO.out])
      go_ret2
      exact ⟨sc_end HM.out.symm HC.out.symm, hb⟩
  · have HM : Hid (canonS t = ⟨#[]⟩) := by show _ = _; rw [canonS, if_neg (fun h => hl h.1)]
    have HC : Hid (canonC t = 2) := by show _ = _; rw [canonC, if_neg hl]
    go_enter Tryd.func11, Tryd.ntmps11
    go_wp2
    go_ret2
    exact ⟨sc_end HM.out.symm HC.out.symm, Below.refl _ _⟩
theorem implCanon (t : ByteArray) (w : World) (hs : t.size ≤ maxLen) (hT : TabAt w) : Calls Tryd.prog 10 #[.string t] w fun e w' => e = .returned (.tuple #[.string (canonS t), .int .i64 (canonC t)]) ∧ Below w.heap.size w w' := by
  have HS := Lib.hid hs
  have HT := Lib.hid hT
  clear hT
  unfold maxLen at hs
  by_cases hl : t.size ≤ 65536
  · have hz : (foldL t.data.toList).size ≤ t.size := by rw [foldL_size]; simp
    have hz1 := canonP_size (foldL t.data.toList)
    have HZ : Hid ((canonP (foldL t.data.toList)).size ≤ maxLen) := by show (canonP (foldL t.data.toList)).size ≤ maxLen; unfold maxLen; omega
    have HF : Hid (foldB t = foldL t.data.toList) := if_pos hl
    have hz2 : (foldL t.data.toList).size ≤ 9223372036854775807 := by omega
    cases hok : canonOK t with
    | true =>
      have HM : Hid (canonS t = canonP (foldL t.data.toList)) := if_pos ⟨hl, hok⟩
      have HC : Hid (canonC t = 0) := by show _ = _; rw [canonC, if_pos hl, if_pos hok]
      have HO : Hid (hostB (canonP (foldL t.data.toList)) = true) := hok
      clear hok
      go_enter Tryd.func10, Tryd.ntmps10
      go_wp2_with (first
        | (go_at_call 28; refine (implFold _ _ HS.out HT.out).mono ?_; rintro e w' ⟨rfl, hb⟩; rw [HF.out])
        | (go_at_call 27; refine (Tryd.strings_TrimSuffix (foldL t.data.toList) _ _ hz2).mono ?_; rintro e w' ⟨rfl, rfl⟩)
        | (go_at_call 12; refine (implHostOK (canonP (foldL t.data.toList)) _ HZ.out (HT.out.below hb)).mono ?_; rintro e w' ⟨rfl, hb2⟩; rw [HO.out]))
      go_ret2
      exact ⟨sc_end HM.out.symm HC.out.symm, hb.trans (hb2.mono hb.size)⟩
    | false =>
      have HM : Hid (canonS t = ⟨#[]⟩) := by show _ = _; rw [canonS, if_neg (by simp [hok])]
      have HC : Hid (canonC t = 3) := by show _ = _; rw [canonC, if_pos hl, if_neg (by simp [hok])]
      have HO : Hid (hostB (canonP (foldL t.data.toList)) = false) := hok
      clear hok
      go_enter Tryd.func10, Tryd.ntmps10
      go_wp2_with (first
        | (go_at_call 28; refine (implFold _ _ HS.out HT.out).mono ?_; rintro e w' ⟨rfl, hb⟩; rw [HF.out])
        | (go_at_call 27; refine (Tryd.strings_TrimSuffix (foldL t.data.toList) _ _ hz2).mono ?_; rintro e w' ⟨rfl, rfl⟩)
        | (go_at_call 12; refine (implHostOK (canonP (foldL t.data.toList)) _ HZ.out (HT.out.below hb)).mono ?_; rintro e w' ⟨rfl, hb2⟩; rw [HO.out]))
      go_ret2
      exact ⟨sc_end HM.out.symm HC.out.symm, hb.trans (hb2.mono hb.size)⟩
  · have HM : Hid (canonS t = ⟨#[]⟩) := by show _ = _; rw [canonS, if_neg (fun h => hl h.1)]
    have HC : Hid (canonC t = 2) := by show _ = _; rw [canonC, if_neg hl]
    go_enter Tryd.func10, Tryd.ntmps10
    go_wp2
    go_ret2
    exact ⟨sc_end HM.out.symm HC.out.symm, Below.refl _ _⟩
theorem walk_FnExactCanonHost (W : World) (s : ByteArray) (hs : s.size ≤ maxLen) (hL : laidMetH Tryd.prog Rows.fnExactCanonHostRow.laid W) (_ : W.ShapedOpen Tryd.prog) :
    Calls Tryd.prog 4 #[.string s] W fun e w' => e = .returned (.bool true) ∧ Below W.heap.size W w' := by
  have hT := Lib.hid (tab_laid hL)
  have hs0 := Lib.hid hs
  clear hL
  unfold maxLen at hs
  have e1 : ((canonS s).toList == (canonS s).toList) = true := by simp
  by_cases hl : (s.size : Int) ≤ 1048576
  · go_enter Tryd.func4, Tryd.ntmps4
    go_wp2_with (first
      | (go_at_call 11; refine (specCanon _ _ hs0.out).mono ?_; rintro e w' ⟨rfl, hb⟩)
      | (go_at_call 10; refine (implCanon _ _ hs0.out (hT.out.below hb)).mono ?_; rintro e w' ⟨rfl, hb2⟩))
    go_ret
    exact ⟨rfl, hb.trans (hb2.mono hb.size)⟩
  · go_enter Tryd.func4, Tryd.ntmps4
    go_wp2
    go_ret
    exact ⟨rfl, Below.refl _ _⟩
end Go.Proofs.YtmmmipkccnmmdaaDoor
