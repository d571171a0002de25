/- SuffixOf, IsSuffix, Registrable, SameParty of the model; the walks of their laws. No condition of its own. -/
import Derived.Test.YtihlflhgbnfkkabGreatDoorSpecSuf2
import Derived.Stop.LaidErr
namespace Go.Proofs.YtihlflhgbnfkkabGreatDoor
open Go.ChangeShapes Go.WideShapes Go.ChangeAt Go.WideMaps Go.WideElems Go.RowKit

set_option maxHeartbeats 1000000 in
set_option maxRecDepth 100000 in
theorem specSuffixOf (v : Value) (B : Nat) (ps : List (List UInt8)) (t : ByteArray) (w : World) (hv : RowC w B v ps) (hl : ps.length ≤ 1048576) (hm : ∀ x ∈ ps, x.length ≤ 1048576) (ht : t.size ≤ 1048576) : Calls Tryz.prog 8 #[v, .string t] w fun e w' => e = .returned (.tuple #[.string (sofV ps t), .int .i64 (argC ps [t.data.toList])]) ∧ Below w.heap.size w w' := by
  have HV := Lib.hid hv
  have HM := Lib.hid hm
  obtain ⟨⟨a, cap, rfl, _⟩, _⟩ := hv
  clear hm
  by_cases h1 : ps.length ≤ 4096
  · by_cases h2 : t.size ≤ 65536
    · go_enter Tryz.func8, Tryz.ntmps8
      go_wp2_with fail
      refine (specAsk _ B ps t _ HV.out hl HM.out ht).mono ?_
      rintro e w1 ⟨rfl, hb⟩
      have HB1 := Lib.hid hb
      clear hb
      by_cases hc : argC ps [t.data.toList] = 0
      · obtain ⟨k1, k2⟩ := arg_ok hc
        obtain ⟨k3, k4⟩ := rules_all k1
        have HP := Lib.hid k4
        have k5 := (host_40 k2 (t := t) (by simp)).2
        have HC := Lib.hid hc
        rw [hc]
        clear k1 k2 k4 hc
        have HV1 : Hid (sofV ps t = sufT ps t) := Lib.hid (by rw [sofV, if_pos HC.out])
        go_wp2_with fail
        refine (specSuffix _ B ps t _ (HV.out.1.below HB1.out) (by omega) HP.out k5).mono ?_
        rintro e w2 ⟨rfl, hb⟩
        have HB2 := Lib.hid (HB1.out.trans (hb.mono HB1.out.size))
        clear hb
        go_wp2_with fail
        go_ret2
        exact ⟨by rw [HV1.out, HC.out]; rfl, HB2.out⟩
      · have HV1 : Hid (sofV ps t = ⟨#[]⟩) := Lib.hid (by rw [sofV, if_neg hc])
        have hne : (argC ps [t.data.toList] != 0) = true := by simpa using hc
        go_wp2_with fail
        go_ret2
        exact ⟨by rw [HV1.out]; rfl, HB1.out⟩
    · have HA := Lib.hid (arg1_long (ps := ps) (t := t) (fun h => h2 h.2))
      have HV1 : Hid (sofV ps t = ⟨#[]⟩) := Lib.hid (by rw [sofV, if_neg (by rw [HA.out]; decide)])
      go_enter Tryz.func8, Tryz.ntmps8
      go_wp2
      go_ret2
      exact ⟨by rw [HV1.out, HA.out]; rfl, Below.refl _ _⟩
  · have HA := Lib.hid (arg1_long (ps := ps) (t := t) (fun h => h1 h.1))
    have HV1 : Hid (sofV ps t = ⟨#[]⟩) := Lib.hid (by rw [sofV, if_neg (by rw [HA.out]; decide)])
    go_enter Tryz.func8, Tryz.ntmps8
    go_wp2
    go_ret2
    exact ⟨by rw [HV1.out, HA.out]; rfl, Below.refl _ _⟩
set_option maxHeartbeats 1000000 in
set_option maxRecDepth 100000 in
theorem specIsSuffix (v : Value) (B : Nat) (ps : List (List UInt8)) (t : ByteArray) (w : World) (hv : RowC w B v ps) (hl : ps.length ≤ 1048576) (hm : ∀ x ∈ ps, x.length ≤ 1048576) (ht : t.size ≤ 1048576) : Calls Tryz.prog 12 #[v, .string t] w fun e w' => e = .returned (.tuple #[.bool (isV ps t), .int .i64 (argC ps [t.data.toList])]) ∧ Below w.heap.size w w' := by
  have HV := Lib.hid hv
  have HM := Lib.hid hm
  obtain ⟨⟨a, cap, rfl, _⟩, _⟩ := hv
  clear hm
  by_cases h1 : ps.length ≤ 4096
  · by_cases h2 : t.size ≤ 65536
    · go_enter Tryz.func12, Tryz.ntmps12
      go_wp2_with fail
      refine (specAsk _ B ps t _ HV.out hl HM.out ht).mono ?_
      rintro e w1 ⟨rfl, hb⟩
      have HB1 := Lib.hid hb
      clear hb
      by_cases hc : argC ps [t.data.toList] = 0
      · obtain ⟨k1, k2⟩ := arg_ok hc
        obtain ⟨k3, k4⟩ := rules_all k1
        have HP := Lib.hid k4
        have k5 := (host_40 k2 (t := t) (by simp)).2
        have HC := Lib.hid hc
        rw [hc]
        clear k1 k2 k4 hc
        have HV1 : Hid (isV ps t = isT ps t) := Lib.hid (by rw [isV, if_pos HC.out])
        go_wp2_with fail
        refine (specIsT _ B ps t _ (HV.out.1.below HB1.out) (by omega) HP.out k5).mono ?_
        rintro e w2 ⟨rfl, hb⟩
        have HB2 := Lib.hid (HB1.out.trans (hb.mono HB1.out.size))
        clear hb
        go_wp2_with fail
        go_ret2
        exact ⟨by rw [HV1.out, HC.out]; rfl, HB2.out⟩
      · have HV1 : Hid (isV ps t = false) := Lib.hid (by rw [isV, if_neg hc])
        have hne : (argC ps [t.data.toList] != 0) = true := by simpa using hc
        go_wp2_with fail
        go_ret2
        exact ⟨by rw [HV1.out]; rfl, HB1.out⟩
    · have HA := Lib.hid (arg1_long (ps := ps) (t := t) (fun h => h2 h.2))
      have HV1 : Hid (isV ps t = false) := Lib.hid (by rw [isV, if_neg (by rw [HA.out]; decide)])
      go_enter Tryz.func12, Tryz.ntmps12
      go_wp2
      go_ret2
      exact ⟨by rw [HV1.out, HA.out]; rfl, Below.refl _ _⟩
  · have HA := Lib.hid (arg1_long (ps := ps) (t := t) (fun h => h1 h.1))
    have HV1 : Hid (isV ps t = false) := Lib.hid (by rw [isV, if_neg (by rw [HA.out]; decide)])
    go_enter Tryz.func12, Tryz.ntmps12
    go_wp2
    go_ret2
    exact ⟨by rw [HV1.out, HA.out]; rfl, Below.refl _ _⟩
set_option maxHeartbeats 1000000 in
set_option maxRecDepth 100000 in
theorem specRegistrable (v : Value) (B : Nat) (ps : List (List UInt8)) (t : ByteArray) (w : World) (hv : RowC w B v ps) (hl : ps.length ≤ 1048576) (hm : ∀ x ∈ ps, x.length ≤ 1048576) (ht : t.size ≤ 1048576) : Calls Tryz.prog 14 #[v, .string t] w fun e w' => e = .returned (.tuple #[.string (regV ps t), .int .i64 (regC ps t)]) ∧ Below w.heap.size w w' := by
  have HV := Lib.hid hv
  have HM := Lib.hid hm
  obtain ⟨⟨a, cap, rfl, _⟩, _⟩ := hv
  clear hm
  by_cases h1 : ps.length ≤ 4096
  · by_cases h2 : t.size ≤ 65536
    · go_enter Tryz.func14, Tryz.ntmps14
      go_wp2_with fail
      refine (specAsk _ B ps t _ HV.out hl HM.out ht).mono ?_
      rintro e w1 ⟨rfl, hb⟩
      have HB1 := Lib.hid hb
      clear hb
      by_cases hc : argC ps [t.data.toList] = 0
      · obtain ⟨k1, k2⟩ := arg_ok hc
        obtain ⟨k3, k4⟩ := rules_all k1
        have HP := Lib.hid k4
        have k5 := (host_40 k2 (t := t) (by simp)).2
        have HC := Lib.hid hc
        rw [hc]
        clear k1 k2 k4 hc
        go_wp2_with fail
        refine (specIsT _ B ps t _ (HV.out.1.below HB1.out) (by omega) HP.out k5).mono ?_
        rintro e w2 ⟨rfl, hb⟩
        have HB2 := Lib.hid (HB1.out.trans (hb.mono HB1.out.size))
        clear hb
        cases hi : isT ps t with
        | true =>
          have HV1 : Hid (regV ps t = ⟨#[]⟩) := Lib.hid (by rw [regV, if_pos HC.out, hi, if_pos rfl])
          have HV2 : Hid (regC ps t = 5) := Lib.hid (by rw [regC, if_pos HC.out, hi, if_pos rfl])
          go_wp2_with fail
          go_ret2
          exact ⟨by rw [HV1.out, HV2.out]; rfl, HB2.out⟩
        | false =>
          have HV1 : Hid (regV ps t = parT ps t) := Lib.hid (by rw [regV, if_pos HC.out, hi, if_neg Bool.false_ne_true])
          have HV2 : Hid (regC ps t = 0) := Lib.hid (by rw [regC, if_pos HC.out, hi, if_neg Bool.false_ne_true])
          go_wp2_with fail
          refine (specParty _ B ps t _ (HV.out.1.below HB2.out) (by omega) HP.out k5).mono ?_
          rintro e w3 ⟨rfl, hb⟩
          have HB3 := Lib.hid (HB2.out.trans (hb.mono HB2.out.size))
          clear hb
          go_wp2_with fail
          go_ret2
          exact ⟨by rw [HV1.out, HV2.out]; rfl, HB3.out⟩
      · have HV1 : Hid (regV ps t = ⟨#[]⟩) := Lib.hid (by rw [regV, if_neg hc])
        have HV2 : Hid (regC ps t = argC ps [t.data.toList]) := Lib.hid (by rw [regC, if_neg hc])
        have hne : (argC ps [t.data.toList] != 0) = true := by simpa using hc
        go_wp2_with fail
        go_ret2
        exact ⟨by rw [HV1.out, HV2.out]; rfl, HB1.out⟩
    · have HA := Lib.hid (arg1_long (ps := ps) (t := t) (fun h => h2 h.2))
      have HV1 : Hid (regV ps t = ⟨#[]⟩) := Lib.hid (by rw [regV, if_neg (by rw [HA.out]; decide)])
      have HV2 : Hid (regC ps t = 2) := Lib.hid (by rw [regC, if_neg (by rw [HA.out]; decide), HA.out])
      go_enter Tryz.func14, Tryz.ntmps14
      go_wp2
      go_ret2
      exact ⟨by rw [HV1.out, HV2.out]; rfl, Below.refl _ _⟩
  · have HA := Lib.hid (arg1_long (ps := ps) (t := t) (fun h => h1 h.1))
    have HV1 : Hid (regV ps t = ⟨#[]⟩) := Lib.hid (by rw [regV, if_neg (by rw [HA.out]; decide)])
    have HV2 : Hid (regC ps t = 2) := Lib.hid (by rw [regC, if_neg (by rw [HA.out]; decide), HA.out])
    go_enter Tryz.func14, Tryz.ntmps14
    go_wp2
    go_ret2
    exact ⟨by rw [HV1.out, HV2.out]; rfl, Below.refl _ _⟩
theorem arg2_long {ps : List (List UInt8)} {s t : ByteArray} (h : ¬ (ps.length ≤ 4096 ∧ s.size ≤ 65536 ∧ t.size ≤ 65536)) : argC ps [s.data.toList, t.data.toList] = 2 := by
  rw [argC, if_neg]
  rintro ⟨h1, h2⟩
  simp only [List.all_cons, List.all_nil, Bool.and_true, Bool.and_eq_true] at h2
  exact h ⟨h1, (short_iff s).1 h2.1, (short_iff t).1 h2.2⟩
theorem arg2_in {ps : List (List UInt8)} {s t : ByteArray} (h1 : ps.length ≤ 4096) (h2 : s.size ≤ 65536) (h3 : t.size ≤ 65536) : argC ps [s.data.toList, t.data.toList] = if argC ps [s.data.toList] = 0 then (if hostB t = true then 0 else 3) else argC ps [s.data.toList] := by
  rw [arg1_in ⟨h1, h2⟩, argC, if_pos ⟨h1, by simp only [List.all_cons, List.all_nil, Bool.and_true, Bool.and_eq_true]; exact ⟨(short_iff s).2 h2, (short_iff t).2 h3⟩⟩]
  simp only [List.all_cons, List.all_nil, Bool.and_true, hostL_is]
  cases rulesL ps with
  | false => simp
  | true =>
    cases hostB s with
    | false => simp
    | true => cases hostB t <;> simp
set_option maxHeartbeats 2000000 in
set_option maxRecDepth 100000 in
theorem specSameP (v : Value) (B : Nat) (ps : List (List UInt8)) (s t : ByteArray) (w : World) (hv : RowC w B v ps) (hl : ps.length ≤ 1048576) (hm : ∀ x ∈ ps, x.length ≤ 1048576) (hs : s.size ≤ 1048576) (ht : t.size ≤ 1048576) : Calls Tryz.prog 16 #[v, .string s, .string t] w fun e w' => e = .returned (.tuple #[.bool (sameV ps s t), .int .i64 (argC ps [s.data.toList, t.data.toList])]) ∧ Below w.heap.size w w' := by
  have HV := Lib.hid hv
  have HM := Lib.hid hm
  obtain ⟨⟨a, cap, rfl, _⟩, _⟩ := hv
  clear hm
  by_cases hlong : ps.length ≤ 4096 ∧ s.size ≤ 65536 ∧ t.size ≤ 65536
  · obtain ⟨h1, h2, h3⟩ := hlong
    have hin := arg2_in (ps := ps) h1 h2 h3
    go_enter Tryz.func16, Tryz.ntmps16
    go_wp2_with fail
    refine (specAsk _ B ps s _ HV.out hl HM.out hs).mono ?_
    rintro e w1 ⟨rfl, hb⟩
    have HB1 := Lib.hid hb
    clear hb
    by_cases hc : argC ps [s.data.toList] = 0
    · rw [if_pos hc] at hin
      have HC := Lib.hid hc
      obtain ⟨k1, k2⟩ := arg_ok hc
      obtain ⟨k3, k4⟩ := rules_all k1
      have HP := Lib.hid k4
      have k5 := (host_40 k2 (t := s) (by simp)).2
      rw [hc]
      clear k1 k2 k4 hc
      cases h4 : hostB t with
      | false =>
        have HE : Hid (argC ps [s.data.toList, t.data.toList] = 3) := Lib.hid (by rw [hin, if_neg (by rw [h4]; exact Bool.false_ne_true)])
        have HV1 : Hid (sameV ps s t = false) := Lib.hid (by rw [sameV, if_neg (by rw [HE.out]; decide)])
        have H4 := Lib.hid h4
        clear hin h4
        go_wp2_with (go_at_call 26; refine (specHostL t _ ht).mono ?_; rintro e w2 ⟨rfl, hb⟩; rw [H4.out]; have HB2 := Lib.hid (HB1.out.trans (hb.mono HB1.out.size)); clear hb)
        go_ret2
        exact ⟨by rw [HE.out, HV1.out]; rfl, HB2.out⟩
      | true =>
        have HE : Hid (argC ps [s.data.toList, t.data.toList] = 0) := Lib.hid (by rw [hin, if_pos h4])
        have k6 := (host_size h4).2
        have HV1 : Hid (sameV ps s t = ((parT ps s).toList == (parT ps t).toList)) := Lib.hid (by
          rw [sameV, if_pos HE.out]
          cases e : ((parT ps s).toList == (parT ps t).toList) with
          | true => exact decide_eq_true (seq_of e)
          | false => exact decide_eq_false (sne_of e))
        have H4 := Lib.hid h4
        clear hin h4
        go_wp2_with fail
        refine (specHostL t _ ht).mono ?_
        rintro e w2 ⟨rfl, hb⟩
        rw [H4.out]
        have HB2 := Lib.hid (HB1.out.trans (hb.mono HB1.out.size))
        clear hb
        go_wp2_with fail
        refine (specParty _ B ps s _ (HV.out.1.below HB2.out) (by omega) HP.out k5).mono ?_
        rintro e w3 ⟨rfl, hb⟩
        have HB3 := Lib.hid (HB2.out.trans (hb.mono HB2.out.size))
        clear hb
        go_wp2_with fail
        refine (specParty _ B ps t _ (HV.out.1.below HB3.out) (by omega) HP.out k6).mono ?_
        rintro e w4 ⟨rfl, hb⟩
        have HB4 := Lib.hid (HB3.out.trans (hb.mono HB3.out.size))
        clear hb
        go_wp2_with fail
        go_ret2
        exact ⟨by rw [HE.out, HV1.out]; rfl, HB4.out⟩
    · rw [if_neg hc] at hin
      have HE := Lib.hid hin
      have HV1 : Hid (sameV ps s t = false) := Lib.hid (by rw [sameV, if_neg (by rw [hin]; exact hc)])
      have hne : (argC ps [s.data.toList] != 0) = true := by simpa using hc
      clear hin
      go_wp2_with fail
      go_ret2
      exact ⟨by rw [HE.out, HV1.out]; rfl, HB1.out⟩
  · have HA := Lib.hid (arg2_long hlong)
    have HV1 : Hid (sameV ps s t = false) := Lib.hid (by rw [sameV, if_neg (by rw [HA.out]; decide)])
    by_cases h1 : ps.length ≤ 4096
    · by_cases h2 : s.size ≤ 65536
      · have h3 : ¬ t.size ≤ 65536 := fun h3 => hlong ⟨h1, h2, h3⟩
        clear hlong
        go_enter Tryz.func16, Tryz.ntmps16
        go_wp2
        go_ret2
        exact ⟨by rw [HV1.out, HA.out]; rfl, Below.refl _ _⟩
      · clear hlong
        go_enter Tryz.func16, Tryz.ntmps16
        go_wp2
        go_ret2
        exact ⟨by rw [HV1.out, HA.out]; rfl, Below.refl _ _⟩
    · clear hlong
      go_enter Tryz.func16, Tryz.ntmps16
      go_wp2
      go_ret2
      exact ⟨by rw [HV1.out, HA.out]; rfl, Below.refl _ _⟩
set_option maxHeartbeats 2000000 in
set_option maxRecDepth 100000 in
theorem walk_FnExactSuffixOf (W : World) (v : Value) (ps : List (List UInt8)) (hv : ArgT W v ps) (hm : ∀ x ∈ ps, x.length ≤ maxLen) (t : ByteArray) (hts : t.size ≤ maxLen) (hL : laidMetH Tryz.prog Rows.fnExactSuffixOfRow.laid W) (hSh : W.ShapedOpen Tryz.prog) :
    Calls Tryz.prog 3 #[v, .string t] W fun e w' => e = .returned (.bool true) ∧ Below W.heap.size W w' := by
  rw [MakeChecks.laidMetH_plain _ _ _ (by kernel_rfl)] at hL
  obtain ⟨hT, hN⟩ := laid8 hL
  have HT := Lib.hid hT
  have HN := Lib.hid hN
  have HX := Lib.hid (max_of hSh)
  clear hL hT hN
  have HV := Lib.hid hv
  have HM := Lib.hid hm
  have n1 : ((sofV ps t).toList != (sofV ps t).toList) = false := by simp
  have n2 : (argC ps [t.data.toList] != argC ps [t.data.toList]) = false := by simp
  have n3 : ((sofV ps t).toList == (sofV ps t).toList) = true := by simp
  clear hv hm
  unfold maxLen at hts
  by_cases h2 : t.size ≤ 1048576
  · by_cases hw : weighL ps ≤ 1048576
    · obtain ⟨hl, hx⟩ := weigh_small hw
      have HZ := Lib.hid hx
      clear hx
      go_enter Tryz.func3, Tryz.ntmps3
      go_wp2_with fail
      refine (szStrings_any v ps 1048576 _ (Nat.le_refl _) HV.out HM.out).mono ?_
      rintro e w0 ⟨r, rfl, h0, _, rfl⟩
      have hr := h0 hw
      clear h0
      go_wp2_with fail
      refine (toStrings_any v ps _ hl HV.out).mono ?_
      rintro e w1 ⟨u1, rfl, hr1, hb⟩
      have B1 := Lib.hid hb
      have R1 := Lib.hid hr1
      clear hb hr1
      go_wp2_with fail
      refine (specSuffixOf u1 _ ps t _ R1.out hl HZ.out h2).mono ?_
      rintro e w2 ⟨rfl, hb⟩
      have B2 := Lib.hid (B1.out.trans (hb.mono B1.out.size))
      clear hb
      go_wp2_with fail
      refine (toStrings_any v ps _ hl (HV.out.below B2.out)).mono ?_
      rintro e w3 ⟨u3, rfl, hr3, hb⟩
      have B3 := Lib.hid (B2.out.trans (hb.mono B2.out.size))
      have R3 := Lib.hid hr3
      clear hb hr3
      go_wp2_with fail
      refine (implSuffixOf u3 _ ps t _ ⟨R3.out.1, HT.out.below B3.out, HX.out.below B3.out, HN.out.below B3.out⟩ hl HZ.out h2).mono ?_
      rintro e w4 ⟨rfl, hb⟩
      have B4 := Lib.hid (B3.out.trans (hb.mono B3.out.size))
      have R4 := Lib.hid (R3.out.below hb)
      clear hb
      go_wp2_with fail
      refine (toStrings_any v ps _ hl (HV.out.below B4.out)).mono ?_
      rintro e w5 ⟨u5, rfl, hr5, hb⟩
      have B5 := Lib.hid (B4.out.trans (hb.mono B4.out.size))
      have R5 := Lib.hid hr5
      have R4' := Lib.hid (R4.out.below hb)
      clear hb hr5
      go_wp2_with fail
      refine (eqStrings_any u3 u5 ps _ _ _ (by omega) R4'.out.1 R5.out.1).mono ?_
      rintro e w6 ⟨rfl, hb⟩
      have B6 := Lib.hid (B5.out.trans (hb.mono B5.out.size))
      clear hb
      go_wp2_with fail
      go_ret
      exact ⟨rfl, B6.out⟩
    · go_enter Tryz.func3, Tryz.ntmps3
      go_wp2_with fail
      refine (szStrings_any v ps 1048576 _ (Nat.le_refl _) HV.out HM.out).mono ?_
      rintro e w0 ⟨r, rfl, _, h3, rfl⟩
      obtain rfl := h3 hw
      clear h3
      go_wp2_with fail
      go_ret
      exact ⟨rfl, Below.refl _ _⟩
  · go_enter Tryz.func3, Tryz.ntmps3
    go_wp2
    go_ret
    exact ⟨rfl, Below.refl _ _⟩
set_option maxHeartbeats 2000000 in
set_option maxRecDepth 100000 in
theorem walk_FnExactIsSuffix (W : World) (v : Value) (ps : List (List UInt8)) (hv : ArgT W v ps) (hm : ∀ x ∈ ps, x.length ≤ maxLen) (t : ByteArray) (hts : t.size ≤ maxLen) (hL : laidMetH Tryz.prog Rows.fnExactIsSuffixRow.laid W) (hSh : W.ShapedOpen Tryz.prog) :
    Calls Tryz.prog 4 #[v, .string t] W fun e w' => e = .returned (.bool true) ∧ Below W.heap.size W w' := by
  rw [MakeChecks.laidMetH_plain _ _ _ (by kernel_rfl)] at hL
  obtain ⟨hT, hN⟩ := laid8 hL
  have HT := Lib.hid hT
  have HN := Lib.hid hN
  have HX := Lib.hid (max_of hSh)
  clear hL hT hN
  have HV := Lib.hid hv
  have HM := Lib.hid hm
  have n1 : (isV ps t != isV ps t) = false := by simp
  have n2 : (argC ps [t.data.toList] != argC ps [t.data.toList]) = false := by simp
  clear hv hm
  unfold maxLen at hts
  by_cases h2 : t.size ≤ 1048576
  · by_cases hw : weighL ps ≤ 1048576
    · obtain ⟨hl, hx⟩ := weigh_small hw
      have HZ := Lib.hid hx
      clear hx
      go_enter Tryz.func4, Tryz.ntmps4
      go_wp2_with fail
      refine (szStrings_any v ps 1048576 _ (Nat.le_refl _) HV.out HM.out).mono ?_
      rintro e w0 ⟨r, rfl, h0, _, rfl⟩
      have hr := h0 hw
      clear h0
      go_wp2_with fail
      refine (toStrings_any v ps _ hl HV.out).mono ?_
      rintro e w1 ⟨u1, rfl, hr1, hb⟩
      have B1 := Lib.hid hb
      have R1 := Lib.hid hr1
      clear hb hr1
      go_wp2_with fail
      refine (specIsSuffix u1 _ ps t _ R1.out hl HZ.out h2).mono ?_
      rintro e w2 ⟨rfl, hb⟩
      have B2 := Lib.hid (B1.out.trans (hb.mono B1.out.size))
      clear hb
      go_wp2_with fail
      refine (toStrings_any v ps _ hl (HV.out.below B2.out)).mono ?_
      rintro e w3 ⟨u3, rfl, hr3, hb⟩
      have B3 := Lib.hid (B2.out.trans (hb.mono B2.out.size))
      have R3 := Lib.hid hr3
      clear hb hr3
      go_wp2_with fail
      refine (implIsSuffix u3 _ ps t _ ⟨R3.out.1, HT.out.below B3.out, HX.out.below B3.out, HN.out.below B3.out⟩ hl HZ.out h2).mono ?_
      rintro e w4 ⟨rfl, hb⟩
      have B4 := Lib.hid (B3.out.trans (hb.mono B3.out.size))
      have R4 := Lib.hid (R3.out.below hb)
      clear hb
      go_wp2_with fail
      refine (toStrings_any v ps _ hl (HV.out.below B4.out)).mono ?_
      rintro e w5 ⟨u5, rfl, hr5, hb⟩
      have B5 := Lib.hid (B4.out.trans (hb.mono B4.out.size))
      have R5 := Lib.hid hr5
      have R4' := Lib.hid (R4.out.below hb)
      clear hb hr5
      go_wp2_with fail
      refine (eqStrings_any u3 u5 ps _ _ _ (by omega) R4'.out.1 R5.out.1).mono ?_
      rintro e w6 ⟨rfl, hb⟩
      have B6 := Lib.hid (B5.out.trans (hb.mono B5.out.size))
      clear hb
      go_wp2_with fail
      go_ret
      exact ⟨rfl, B6.out⟩
    · go_enter Tryz.func4, Tryz.ntmps4
      go_wp2_with fail
      refine (szStrings_any v ps 1048576 _ (Nat.le_refl _) HV.out HM.out).mono ?_
      rintro e w0 ⟨r, rfl, _, h3, rfl⟩
      obtain rfl := h3 hw
      clear h3
      go_wp2_with fail
      go_ret
      exact ⟨rfl, Below.refl _ _⟩
  · go_enter Tryz.func4, Tryz.ntmps4
    go_wp2
    go_ret
    exact ⟨rfl, Below.refl _ _⟩
set_option maxHeartbeats 2000000 in
set_option maxRecDepth 100000 in
theorem walk_FnExactRegistrable (W : World) (v : Value) (ps : List (List UInt8)) (hv : ArgT W v ps) (hm : ∀ x ∈ ps, x.length ≤ maxLen) (t : ByteArray) (hts : t.size ≤ maxLen) (hL : laidMetH Tryz.prog Rows.fnExactRegistrableRow.laid W) (hSh : W.ShapedOpen Tryz.prog) :
    Calls Tryz.prog 5 #[v, .string t] W fun e w' => e = .returned (.bool true) ∧ Below W.heap.size W w' := by
  rw [MakeChecks.laidMetH_plain _ _ _ (by kernel_rfl)] at hL
  obtain ⟨hT, hN⟩ := laid8 hL
  have HT := Lib.hid hT
  have HN := Lib.hid hN
  have HX := Lib.hid (max_of hSh)
  clear hL hT hN
  have HV := Lib.hid hv
  have HM := Lib.hid hm
  have n1 : ((regV ps t).toList != (regV ps t).toList) = false := by simp
  have n2 : (regC ps t != regC ps t) = false := by simp
  have n3 : ((regV ps t).toList == (regV ps t).toList) = true := by simp
  clear hv hm
  unfold maxLen at hts
  by_cases h2 : t.size ≤ 1048576
  · by_cases hw : weighL ps ≤ 1048576
    · obtain ⟨hl, hx⟩ := weigh_small hw
      have HZ := Lib.hid hx
      clear hx
      go_enter Tryz.func5, Tryz.ntmps5
      go_wp2_with fail
      refine (szStrings_any v ps 1048576 _ (Nat.le_refl _) HV.out HM.out).mono ?_
      rintro e w0 ⟨r, rfl, h0, _, rfl⟩
      have hr := h0 hw
      clear h0
      go_wp2_with fail
      refine (toStrings_any v ps _ hl HV.out).mono ?_
      rintro e w1 ⟨u1, rfl, hr1, hb⟩
      have B1 := Lib.hid hb
      have R1 := Lib.hid hr1
      clear hb hr1
      go_wp2_with fail
      refine (specRegistrable u1 _ ps t _ R1.out hl HZ.out h2).mono ?_
      rintro e w2 ⟨rfl, hb⟩
      have B2 := Lib.hid (B1.out.trans (hb.mono B1.out.size))
      clear hb
      go_wp2_with fail
      refine (toStrings_any v ps _ hl (HV.out.below B2.out)).mono ?_
      rintro e w3 ⟨u3, rfl, hr3, hb⟩
      have B3 := Lib.hid (B2.out.trans (hb.mono B2.out.size))
      have R3 := Lib.hid hr3
      clear hb hr3
      go_wp2_with fail
      refine (implReg u3 _ ps t _ ⟨R3.out.1, HT.out.below B3.out, HX.out.below B3.out, HN.out.below B3.out⟩ hl HZ.out h2).mono ?_
      rintro e w4 ⟨rfl, hb⟩
      have B4 := Lib.hid (B3.out.trans (hb.mono B3.out.size))
      have R4 := Lib.hid (R3.out.below hb)
      clear hb
      go_wp2_with fail
      refine (toStrings_any v ps _ hl (HV.out.below B4.out)).mono ?_
      rintro e w5 ⟨u5, rfl, hr5, hb⟩
      have B5 := Lib.hid (B4.out.trans (hb.mono B4.out.size))
      have R5 := Lib.hid hr5
      have R4' := Lib.hid (R4.out.below hb)
      clear hb hr5
      go_wp2_with fail
      refine (eqStrings_any u3 u5 ps _ _ _ (by omega) R4'.out.1 R5.out.1).mono ?_
      rintro e w6 ⟨rfl, hb⟩
      have B6 := Lib.hid (B5.out.trans (hb.mono B5.out.size))
      clear hb
      go_wp2_with fail
      go_ret
      exact ⟨rfl, B6.out⟩
    · go_enter Tryz.func5, Tryz.ntmps5
      go_wp2_with fail
      refine (szStrings_any v ps 1048576 _ (Nat.le_refl _) HV.out HM.out).mono ?_
      rintro e w0 ⟨r, rfl, _, h3, rfl⟩
      obtain rfl := h3 hw
      clear h3
      go_wp2_with fail
      go_ret
      exact ⟨rfl, Below.refl _ _⟩
  · go_enter Tryz.func5, Tryz.ntmps5
    go_wp2
    go_ret
    exact ⟨rfl, Below.refl _ _⟩
set_option maxHeartbeats 2000000 in
set_option maxRecDepth 100000 in
theorem walk_FnExactSameParty (W : World) (v : Value) (ps : List (List UInt8)) (hv : ArgT W v ps) (hm : ∀ x ∈ ps, x.length ≤ maxLen) (s : ByteArray) (hss : s.size ≤ maxLen) (t : ByteArray) (hts : t.size ≤ maxLen) (hL : laidMetH Tryz.prog Rows.fnExactSamePartyRow.laid W) (hSh : W.ShapedOpen Tryz.prog) :
    Calls Tryz.prog 6 #[v, .string s, .string t] W fun e w' => e = .returned (.bool true) ∧ Below W.heap.size W w' := by
  rw [MakeChecks.laidMetH_plain _ _ _ (by kernel_rfl)] at hL
  obtain ⟨hT, hN⟩ := laid8 hL
  have HT := Lib.hid hT
  have HN := Lib.hid hN
  have HX := Lib.hid (max_of hSh)
  clear hL hT hN
  have HV := Lib.hid hv
  have HM := Lib.hid hm
  have n1 : (sameV ps s t != sameV ps s t) = false := by simp
  have n2 : (argC ps [s.data.toList, t.data.toList] != argC ps [s.data.toList, t.data.toList]) = false := by simp
  clear hv hm
  unfold maxLen at hts hss
  by_cases h1 : s.size ≤ 1048576
  · by_cases h2 : t.size ≤ 1048576
    · by_cases hw : weighL ps ≤ 1048576
      · obtain ⟨hl, hx⟩ := weigh_small hw
        have HZ := Lib.hid hx
        clear hx
        go_enter Tryz.func6, Tryz.ntmps6
        go_wp2_with fail
        refine (szStrings_any v ps 1048576 _ (Nat.le_refl _) HV.out HM.out).mono ?_
        rintro e w0 ⟨r, rfl, h0, _, rfl⟩
        have hr := h0 hw
        clear h0
        go_wp2_with fail
        refine (toStrings_any v ps _ hl HV.out).mono ?_
        rintro e w1 ⟨u1, rfl, hr1, hb⟩
        have B1 := Lib.hid hb
        have R1 := Lib.hid hr1
        clear hb hr1
        go_wp2_with fail
        refine (specSameP u1 _ ps s t _ R1.out hl HZ.out h1 h2).mono ?_
        rintro e w2 ⟨rfl, hb⟩
        have B2 := Lib.hid (B1.out.trans (hb.mono B1.out.size))
        clear hb
        go_wp2_with fail
        refine (toStrings_any v ps _ hl (HV.out.below B2.out)).mono ?_
        rintro e w3 ⟨u3, rfl, hr3, hb⟩
        have B3 := Lib.hid (B2.out.trans (hb.mono B2.out.size))
        have R3 := Lib.hid hr3
        clear hb hr3
        go_wp2_with fail
        refine (implSame u3 _ ps s t _ ⟨R3.out.1, HT.out.below B3.out, HX.out.below B3.out, HN.out.below B3.out⟩ hl HZ.out h1 h2).mono ?_
        rintro e w4 ⟨rfl, hb⟩
        have B4 := Lib.hid (B3.out.trans (hb.mono B3.out.size))
        have R4 := Lib.hid (R3.out.below hb)
        clear hb
        go_wp2_with fail
        refine (toStrings_any v ps _ hl (HV.out.below B4.out)).mono ?_
        rintro e w5 ⟨u5, rfl, hr5, hb⟩
        have B5 := Lib.hid (B4.out.trans (hb.mono B4.out.size))
        have R5 := Lib.hid hr5
        have R4' := Lib.hid (R4.out.below hb)
        clear hb hr5
        go_wp2_with fail
        refine (eqStrings_any u3 u5 ps _ _ _ (by omega) R4'.out.1 R5.out.1).mono ?_
        rintro e w6 ⟨rfl, hb⟩
        have B6 := Lib.hid (B5.out.trans (hb.mono B5.out.size))
        clear hb
        go_wp2_with fail
        go_ret
        exact ⟨rfl, B6.out⟩
      · go_enter Tryz.func6, Tryz.ntmps6
        go_wp2_with fail
        refine (szStrings_any v ps 1048576 _ (Nat.le_refl _) HV.out HM.out).mono ?_
        rintro e w0 ⟨r, rfl, _, h3, rfl⟩
        obtain rfl := h3 hw
        clear h3
        go_wp2_with fail
        go_ret
        exact ⟨rfl, Below.refl _ _⟩
    · go_enter Tryz.func6, Tryz.ntmps6
      go_wp2
      go_ret
      exact ⟨rfl, Below.refl _ _⟩
  · go_enter Tryz.func6, Tryz.ntmps6
    go_wp2
    go_ret
    exact ⟨rfl, Below.refl _ _⟩
end Go.Proofs.YtihlflhgbnfkkabGreatDoor
