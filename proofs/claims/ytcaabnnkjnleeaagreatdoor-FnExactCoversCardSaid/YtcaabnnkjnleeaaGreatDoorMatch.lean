/- DomainMatch of the program and of the model: what they answer; the law's walk. No condition of its own. -/
import Derived.Test.YtcaabnnkjnleeaaGreatDoorAddr
namespace Go.Proofs.YtcaabnnkjnleeaaGreatDoor
open Go.ChangeShapes Go.WideShapes Go.ChangeAt Go.WideMaps Go.WideElems Go.RowKit

def belowB (h d : ByteArray) : Bool := Lib.hasSuffix h.data.toList (46 :: d.data.toList)
theorem below_short {h d : ByteArray} (hl : h.size ≤ d.size) : belowB h d = false := by
  cases e : belowB h d with
  | false => rfl
  | true =>
    rw [belowB, Lib.hasSuffix, List.isSuffixOf_iff_suffix] at e
    have := e.length_le
    simp at this
    omega
theorem below_at {h d : ByteArray} {n : Nat} (h0 : 0 < n) (hn : h.size = d.size + n) (hn2 : n - 1 < h.size) : belowB h d = (((h.extract n h.size).toList == d.toList) && (((h[n - 1]'hn2).toNat : Int) == 46)) := by
  have hl : n - 1 < h.data.toList.length := by simp; omega
  have e : h.data.toList = h.data.toList.take (n - 1) ++ (h[n - 1]'(by omega) :: h.data.toList.drop n) := by
    have e1 := List.take_append_drop (n - 1) h.data.toList
    rw [List.drop_eq_getElem_cons hl, show n - 1 + 1 = n by omega] at e1
    exact e1.symm
  have hx : (h.extract n h.size).data.toList = h.data.toList.drop n := by
    rw [Lib.extract_data, List.take_of_length_le (by simp)]
  have hb : (((h[n - 1]'(by omega)).toNat : Int) == 46) = ((h[n - 1]'(by omega)) == 46) := by
    rw [Bool.eq_iff_iff, beq_iff_eq, beq_iff_eq, ← UInt8.toNat_inj]
    show _ ↔ (h[n - 1]'(by omega)).toNat = 46
    omega
  rw [hb, ByteArray.toList_eq, ByteArray.toList_eq, hx, belowB, Lib.hasSuffix, Bool.eq_iff_iff, List.isSuffixOf_iff_suffix, Bool.and_eq_true, beq_iff_eq, beq_iff_eq]
  constructor
  · rintro ⟨t, ht⟩
    rw [e] at ht
    have := (List.append_inj' ht (by simp; omega)).2
    simp only [List.cons.injEq] at this
    exact ⟨this.2.symm, this.1.symm⟩
  · rintro ⟨h1, h2⟩
    rw [e, h1, h2]
    exact List.suffix_append _ _
set_option maxRecDepth 100000 in
theorem isBelow_any (h d : ByteArray) (w : World) (hh : h.size ≤ 40) (hd : d.size ≤ 40) : Calls Tryz.prog 138 #[.string h, .string d] w fun e w' => e = .returned (.bool (belowB h d)) ∧ w = w' := by
  have HE : Hid (Lib.hasSuffix h.data.toList (⟨#[46]⟩ ++ d : ByteArray).data.toList = belowB h d) := by
    show _ = _
    rw [belowB]
    congr 1
  have hz : (⟨#[46]⟩ ++ d : ByteArray).size ≤ 41 := by
    rw [ByteArray.size_append]
    show 1 + d.size ≤ 41
    omega
  go_enter Tryz.func138, Tryz.ntmps138
  go_wp2_with (go_at_call 141; refine (Tryz.strings_HasSuffix h _ _ (by omega)).mono ?_; rintro e w' ⟨rfl, rfl⟩)
  go_ret
  exact ⟨bool_end HE.out, rfl⟩
/-- What DomainMatch answers of hosts, and of texts. -/
def matchL (h d : ByteArray) : Bool := decide (h = d) || (belowB h d && !addrB h)
def matchB (h d : ByteArray) : Bool := hostB h && hostB d && matchL h d
set_option maxHeartbeats 1000000 in
theorem specMatchL (h d : ByteArray) (w : World) (hh : h.size ≤ 40) (hd : d.size ≤ 40) : Calls Tryz.prog 89 #[.string h, .string d] w fun e w' => e = .returned (.bool (matchL h d)) ∧ Below w.heap.size w w' := by
  by_cases he : h = d
  · have HE : Hid (matchL h d = true) := by show _ = true; simp [matchL, he]
    have f := seq_true he
    clear he
    go_enter Tryz.func89, Tryz.ntmps89
    go_wp2
    go_ret
    exact ⟨bool_end HE.out.symm, Below.refl _ _⟩
  have f := seq_false he
  by_cases hl : h.size ≤ d.size
  · have HE : Hid (matchL h d = false) := by show _ = false; simp [matchL, he, below_short hl]
    clear he
    go_enter Tryz.func89, Tryz.ntmps89
    go_wp2
    go_ret
    exact ⟨bool_end HE.out.symm, Below.refl _ _⟩
  obtain ⟨n, hn⟩ : ∃ n, h.size = d.size + n := ⟨h.size - d.size, by omega⟩
  have h0 : 0 < n := by omega
  have HM : Hid (matchL h d = (belowB h d && !addrB h)) := by show _ = _; simp [matchL, he]
  have hn2 : n - 1 < h.size := by omega
  have HB := Lib.hid (below_at h0 hn hn2)
  have hsub : (h.size : Int) - (d.size : Int) = (n : Int) := by omega
  have hn1 : n ≤ h.size := by omega
  have hn3 : n ≤ 40 := by omega
  have hs1 : h.size ≤ 1048576 := by omega
  clear he hn hl
  cases b1 : ((h.extract n h.size).toList == d.toList) with
  | false =>
    have HE : Hid (matchL h d = false) := by show _ = _; rw [HM.out, HB.out, b1]; rfl
    go_enter Tryz.func89, Tryz.ntmps89
    go_wp2
    go_ret
    exact ⟨bool_end HE.out.symm, Below.refl _ _⟩
  | true =>
    cases b2 : (((h[n - 1]'hn2).toNat : Int) == 46) with
    | false =>
      have HE : Hid (matchL h d = false) := by show _ = _; rw [HM.out, HB.out, b1, b2]; rfl
      go_enter Tryz.func89, Tryz.ntmps89
      go_wp2
      go_ret
      exact ⟨bool_end HE.out.symm, Below.refl _ _⟩
    | true =>
      have HE : Hid (matchL h d = !addrB h) := by show _ = _; rw [HM.out, HB.out, b1, b2]; rfl
      go_enter Tryz.func89, Tryz.ntmps89
      go_wp2_with (go_at_call 121; refine (specAddr h _ hs1).mono ?_; rintro e w1 ⟨rfl, hb⟩; have HX := Lib.hid hb; clear hb)
      go_ret
      exact ⟨bool_end HE.out.symm, HX.out⟩
theorem implMatch (h d : ByteArray) (w : World) (hh : h.size ≤ maxLen) (hd : d.size ≤ maxLen) (hT : TabAt w) (hm : MaxAt w) (hN : NumAt w) : Calls Tryz.prog 92 #[.string h, .string d] w fun e w' => e = .returned (.bool (matchB h d)) ∧ Below w.heap.size w w' := by
  have S1 := Lib.hid hh
  have S2 := Lib.hid hd
  have HT := Lib.hid hT
  have HM := Lib.hid hm
  have HN := Lib.hid hN
  clear hT hm hN
  unfold maxLen at hh hd
  cases b1 : hostB h with
  | false =>
    have HE : Hid (matchB h d = false) := by show _ = _; rw [matchB, b1]; rfl
    have H1 := Lib.hid b1
    clear b1
    go_enter Tryz.func92, Tryz.ntmps92
    go_wp2_with (go_at_call 99; refine (implHostOK h _ S1.out HT.out).mono ?_; rintro e w1 ⟨rfl, hb⟩; rw [H1.out]; have B1 := Lib.hid hb; clear hb)
    go_ret
    exact ⟨bool_end HE.out.symm, B1.out⟩
  | true =>
    cases b2 : hostB d with
    | false =>
      have HE : Hid (matchB h d = false) := by show _ = _; rw [matchB, b1, b2]; rfl
      have H1 := Lib.hid b1
      have H2 := Lib.hid b2
      clear b1 b2
      go_enter Tryz.func92, Tryz.ntmps92
      go_wp2_with fail
      refine (implHostOK h _ S1.out HT.out).mono ?_
      rintro e w1 ⟨rfl, hb⟩
      rw [H1.out]
      have B1 := Lib.hid hb
      clear hb
      go_wp2_with fail
      refine (implHostOK d _ S2.out (HT.out.below B1.out)).mono ?_
      rintro e w2 ⟨rfl, hb⟩
      rw [H2.out]
      have B2 := Lib.hid (B1.out.trans (hb.mono B1.out.size))
      clear hb
      go_wp2_with fail
      go_ret
      exact ⟨bool_end HE.out.symm, B2.out⟩
    | true =>
      have HE0 : Hid (matchB h d = matchL h d) := by show _ = _; rw [matchB, b1, b2]; rfl
      have z1 := (host_size b1).2
      have z2 := (host_size b2).2
      have H1 := Lib.hid b1
      have H2 := Lib.hid b2
      clear b1 b2
      by_cases he : h = d
      · have HE : Hid (matchB h d = true) := by show _ = _; rw [HE0.out, matchL, decide_eq_true he]; rfl
        have f := seq_true he
        clear he
        go_enter Tryz.func92, Tryz.ntmps92
        go_wp2_with fail
        refine (implHostOK h _ S1.out HT.out).mono ?_
        rintro e w1 ⟨rfl, hb⟩
        rw [H1.out]
        have B1 := Lib.hid hb
        clear hb
        go_wp2_with fail
        refine (implHostOK d _ S2.out (HT.out.below B1.out)).mono ?_
        rintro e w2 ⟨rfl, hb⟩
        rw [H2.out]
        have B2 := Lib.hid (B1.out.trans (hb.mono B1.out.size))
        clear hb
        go_wp2_with fail
        go_ret
        exact ⟨bool_end HE.out.symm, B2.out⟩
      · have f := seq_false he
        cases b3 : belowB h d with
        | false =>
          have HE : Hid (matchB h d = false) := by show _ = _; rw [HE0.out, matchL, decide_eq_false he, b3]; rfl
          have H3 := Lib.hid b3
          clear he b3
          go_enter Tryz.func92, Tryz.ntmps92
          go_wp2_with fail
          refine (implHostOK h _ S1.out HT.out).mono ?_
          rintro e w1 ⟨rfl, hb⟩
          rw [H1.out]
          have B1 := Lib.hid hb
          clear hb
          go_wp2_with fail
          refine (implHostOK d _ S2.out (HT.out.below B1.out)).mono ?_
          rintro e w2 ⟨rfl, hb⟩
          rw [H2.out]
          have B2 := Lib.hid (B1.out.trans (hb.mono B1.out.size))
          clear hb
          go_wp2_with (go_at_call 138; refine (isBelow_any h d _ z1 z2).mono ?_; rintro e w' ⟨rfl, rfl⟩; rw [H3.out])
          go_ret
          exact ⟨bool_end HE.out.symm, B2.out⟩
        | true =>
          have HE : Hid (matchB h d = !addrB h) := by show _ = _; rw [HE0.out, matchL, decide_eq_false he, b3]; rfl
          have H3 := Lib.hid b3
          have z3 : h.size ≤ 65536 := by omega
          clear he b3
          go_enter Tryz.func92, Tryz.ntmps92
          go_wp2_with fail
          refine (implHostOK h _ S1.out HT.out).mono ?_
          rintro e w1 ⟨rfl, hb⟩
          rw [H1.out]
          have B1 := Lib.hid hb
          clear hb
          go_wp2_with fail
          refine (implHostOK d _ S2.out (HT.out.below B1.out)).mono ?_
          rintro e w2 ⟨rfl, hb⟩
          rw [H2.out]
          have B2 := Lib.hid (B1.out.trans (hb.mono B1.out.size))
          clear hb
          go_wp2_with (go_at_call 138; refine (isBelow_any h d _ z1 z2).mono ?_; rintro e w' ⟨rfl, rfl⟩; rw [H3.out])
          refine (isAddress_any h _ z3 (HM.out.below B2.out) (HN.out.below B2.out)).mono ?_
          rintro e w3 ⟨rfl, hb⟩
          have B3 := Lib.hid (B2.out.trans (hb.mono B2.out.size))
          clear hb
          go_wp2_with fail
          go_ret
          exact ⟨bool_end HE.out.symm, B3.out⟩
end Go.Proofs.YtcaabnnkjnleeaaGreatDoor
