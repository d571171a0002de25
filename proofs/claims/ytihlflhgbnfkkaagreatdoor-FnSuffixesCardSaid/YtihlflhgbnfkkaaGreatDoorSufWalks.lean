/- SuffixOf, IsSuffix, Registrable, SameParty of the model; the walks of their laws. No condition of its own. -/
import Derived.Test.YtihlflhgbnfkkaaGreatDoorSpecSuf2
import Derived.Stop.LaidErr
namespace Go.Proofs.YtihlflhgbnfkkaaGreatDoor
open Go.ChangeShapes Go.WideShapes Go.ChangeAt Go.WideMaps Go.WideElems Go.RowKit

set_option maxHeartbeats 1000000 in
set_option maxRecDepth 100000 in
theorem specSuffixOf (v : Value) (B : Nat) (ps : List (List UInt8)) (t : ByteArray) (w : World) (hv : RowC w B v ps) (hl : ps.length ≤ 1048576) (hm : ∀ x ∈ ps, x.length ≤ 1048576) (ht : t.size ≤ 1048576) : Calls Tryz.prog 23 #[v, .string t] w fun e w' => e = .returned (.tuple #[.string (sofV ps t), .int .i64 (argC ps [t.data.toList])]) ∧ Below w.heap.size w w' := by
  have HV := Lib.hid hv
  have HM := Lib.hid hm
  obtain ⟨⟨a, cap, rfl, _⟩, _⟩ := hv
  clear hm
  by_cases h1 : ps.length ≤ 4096
  · by_cases h2 : t.size ≤ 65536
    · go_enter Tryz.func23, Tryz.ntmps23
      go_wp2_with fail
      refine (specAsk _ B ps t _ HV.out hl HM.out ht).mono ?_
      rintro e w1 ⟨rfl, hb⟩
      have HB1 := Lib.hid hb
      clear hb
      by_cases hc : argC ps [t.data.toList] = 0
      · obtain ⟨k1, k2⟩ := arg_ok hc
        obtain ⟨k3, k4⟩ := rules_all k1
        have HP := Lib.hid k4
        have k5 := (host_40 k2 (t := t) (by simp)).2
        have HC := Lib.hid hc
        rw [hc]
        clear k1 k2 k4 hc
        have HV1 : Hid (sofV ps t = sufT ps t) := Lib.hid (by rw [sofV, if_pos HC.out])
        go_wp2_with fail
        refine (specSuffix _ B ps t _ (HV.out.1.below HB1.out) (by omega) HP.out k5).mono ?_
        rintro e w2 ⟨rfl, hb⟩
        have HB2 := Lib.hid (HB1.out.trans (hb.mono HB1.out.size))
        clear hb
        go_wp2_with fail
        go_ret2
        exact ⟨by rw [HV1.out, HC.out]; rfl, HB2.out⟩
      · have HV1 : Hid (sofV ps t = ⟨#[]⟩) := Lib.hid (by rw [sofV, if_neg hc])
        have hne : (argC ps [t.data.toList] != 0) = true := by simpa using hc
        go_wp2_with fail
        go_ret2
        exact ⟨by rw [HV1.out]; rfl, HB1.out⟩
    · have HA := Lib.hid (arg1_long (ps := ps) (t := t) (fun h => h2 h.2))
      have HV1 : Hid (sofV ps t = ⟨#[]⟩) := Lib.hid (by rw [sofV, if_neg (by rw [HA.out]; decide)])
      go_enter Tryz.func23, Tryz.ntmps23
      go_wp2
      go_ret2
      exact ⟨by rw [HV1.out, HA.out]; rfl, Below.refl _ _⟩
  · have HA := Lib.hid (arg1_long (ps := ps) (t := t) (fun h => h1 h.1))
    have HV1 : Hid (sofV ps t = ⟨#[]⟩) := Lib.hid (by rw [sofV, if_neg (by rw [HA.out]; decide)])
    go_enter Tryz.func23, Tryz.ntmps23
    go_wp2
    go_ret2
    exact ⟨by rw [HV1.out, HA.out]; rfl, Below.refl _ _⟩
set_option maxHeartbeats 1000000 in
set_option maxRecDepth 100000 in
theorem specIsSuffix (v : Value) (B : Nat) (ps : List (List UInt8)) (t : ByteArray) (w : World) (hv : RowC w B v ps) (hl : ps.length ≤ 1048576) (hm : ∀ x ∈ ps, x.length ≤ 1048576) (ht : t.size ≤ 1048576) : Calls Tryz.prog 25 #[v, .string t] w fun e w' => e = .returned (.tuple #[.bool (isV ps t), .int .i64 (argC ps [t.data.toList])]) ∧ Below w.heap.size w w' := by
  have HV := Lib.hid hv
  have HM := Lib.hid hm
  obtain ⟨⟨a, cap, rfl, _⟩, _⟩ := hv
  clear hm
  by_cases h1 : ps.length ≤ 4096
  · by_cases h2 : t.size ≤ 65536
    · go_enter Tryz.func25, Tryz.ntmps25
      go_wp2_with fail
      refine (specAsk _ B ps t _ HV.out hl HM.out ht).mono ?_
      rintro e w1 ⟨rfl, hb⟩
      have HB1 := Lib.hid hb
      clear hb
      by_cases hc : argC ps [t.data.toList] = 0
      · obtain ⟨k1, k2⟩ := arg_ok hc
        obtain ⟨k3, k4⟩ := rules_all k1
        have HP := Lib.hid k4
        have k5 := (host_40 k2 (t := t) (by simp)).2
        have HC := Lib.hid hc
        rw [hc]
        clear k1 k2 k4 hc
        have HV1 : Hid (isV ps t = isT ps t) := Lib.hid (by rw [isV, if_pos HC.out])
        go_wp2_with fail
        refine (specIsT _ B ps t _ (HV.out.1.below HB1.out) (by omega) HP.out k5).mono ?_
        rintro e w2 ⟨rfl, hb⟩
        have HB2 := Lib.hid (HB1.out.trans (hb.mono HB1.out.size))
        clear hb
        go_wp2_with fail
        go_ret2
        exact ⟨by rw [HV1.out, HC.out]; rfl, HB2.out⟩
      · have HV1 : Hid (isV ps t = false) := Lib.hid (by rw [isV, if_neg hc])
        have hne : (argC ps [t.data.toList] != 0) = true := by simpa using hc
        go_wp2_with fail
        go_ret2
        exact ⟨by rw [HV1.out]; rfl, HB1.out⟩
    · have HA := Lib.hid (arg1_long (ps := ps) (t := t) (fun h => h2 h.2))
      have HV1 : Hid (isV ps t = false) := Lib.hid (by rw [isV, if_neg (by rw [HA.out]; decide)])
      go_enter Tryz.func25, Tryz.ntmps25
      go_wp2
      go_ret2
      exact ⟨by rw [HV1.out, HA.out]; rfl, Below.refl _ _⟩
  · have HA := Lib.hid (arg1_long (ps := ps) (t := t) (fun h => h1 h.1))
    have HV1 : Hid (isV ps t = false) := Lib.hid (by rw [isV, if_neg (by rw [HA.out]; decide)])
    go_enter Tryz.func25, Tryz.ntmps25
    go_wp2
    go_ret2
    exact ⟨by rw [HV1.out, HA.out]; rfl, Below.refl _ _⟩
set_option maxHeartbeats 1000000 in
set_option maxRecDepth 100000 in
theorem specRegistrable (v : Value) (B : Nat) (ps : List (List UInt8)) (t : ByteArray) (w : World) (hv : RowC w B v ps) (hl : ps.length ≤ 1048576) (hm : ∀ x ∈ ps, x.length ≤ 1048576) (ht : t.size ≤ 1048576) : Calls Tryz.prog 27 #[v, .string t] w fun e w' => e = .returned (.tuple #[.string (regV ps t), .int .i64 (regC ps t)]) ∧ Below w.heap.size w w' := by
  have HV := Lib.hid hv
  have HM := Lib.hid hm
  obtain ⟨⟨a, cap, rfl, _⟩, _⟩ := hv
  clear hm
  by_cases h1 : ps.length ≤ 4096
  · by_cases h2 : t.size ≤ 65536
    · go_enter Tryz.func27, Tryz.ntmps27
      go_wp2_with fail
      refine (specAsk _ B ps t _ HV.out hl HM.out ht).mono ?_
      rintro e w1 ⟨rfl, hb⟩
      have HB1 := Lib.hid hb
      clear hb
      by_cases hc : argC ps [t.data.toList] = 0
      · obtain ⟨k1, k2⟩ := arg_ok hc
        obtain ⟨k3, k4⟩ := rules_all k1
        have HP := Lib.hid k4
        have k5 := (host_40 k2 (t := t) (by simp)).2
        have HC := Lib.hid hc
        rw [hc]
        clear k1 k2 k4 hc
        go_wp2_with fail
        refine (specIsT _ B ps t _ (HV.out.1.below HB1.out) (by omega) HP.out k5).mono ?_
        rintro e w2 ⟨rfl, hb⟩
        have HB2 := Lib.hid (HB1.out.trans (hb.mono HB1.out.size))
        clear hb
        cases hi : isT ps t with
        | true =>
          have HV1 : Hid (regV ps t = ⟨#[]⟩) := Lib.hid (by rw [regV, if_pos HC.out, hi, if_pos rfl])
          have HV2 : Hid (regC ps t = 5) := Lib.hid (by rw [regC, if_pos HC.out, hi, if_pos rfl])
          go_wp2_with fail
          go_ret2
          exact ⟨by rw [HV1.out, HV2.out]; rfl, HB2.out⟩
        | false =>
          have HV1 : Hid (regV ps t = parT ps t) := Lib.hid (by rw [regV, if_pos HC.out, hi, if_neg Bool.false_ne_true])
          have HV2 : Hid (regC ps t = 0) := Lib.hid (by rw [regC, if_pos HC.out, hi, if_neg Bool.false_ne_true])
          go_wp2_with fail
          refine (specParty _ B ps t _ (HV.out.1.below HB2.out) (by omega) HP.out k5).mono ?_
          rintro e w3 ⟨rfl, hb⟩
          have HB3 := Lib.hid (HB2.out.trans (hb.mono HB2.out.size))
          clear hb
          go_wp2_with fail
          go_ret2
          exact ⟨by rw [HV1.out, HV2.out]; rfl, HB3.out⟩
      · have HV1 : Hid (regV ps t = ⟨#[]⟩) := Lib.hid (by rw [regV, if_neg hc])
        have HV2 : Hid (regC ps t = argC ps [t.data.toList]) := Lib.hid (by rw [regC, if_neg hc])
        have hne : (argC ps [t.data.toList] != 0) = true := by simpa using hc
        go_wp2_with fail
        go_ret2
        exact ⟨by rw [HV1.out, HV2.out]; rfl, HB1.out⟩
    · have HA := Lib.hid (arg1_long (ps := ps) (t := t) (fun h => h2 h.2))
      have HV1 : Hid (regV ps t = ⟨#[]⟩) := Lib.hid (by rw [regV, if_neg (by rw [HA.out]; decide)])
      have HV2 : Hid (regC ps t = 2) := Lib.hid (by rw [regC, if_neg (by rw [HA.out]; decide), HA.out])
      go_enter Tryz.func27, Tryz.ntmps27
      go_wp2
      go_ret2
      exact ⟨by rw [HV1.out, HV2.out]; rfl, Below.refl _ _⟩
  · have HA := Lib.hid (arg1_long (ps := ps) (t := t) (fun h => h1 h.1))
    have HV1 : Hid (regV ps t = ⟨#[]⟩) := Lib.hid (by rw [regV, if_neg (by rw [HA.out]; decide)])
    have HV2 : Hid (regC ps t = 2) := Lib.hid (by rw [regC, if_neg (by rw [HA.out]; decide), HA.out])
    go_enter Tryz.func27, Tryz.ntmps27
    go_wp2
    go_ret2
    exact ⟨by rw [HV1.out, HV2.out]; rfl, Below.refl _ _⟩
theorem arg2_long {ps : List (List UInt8)} {s t : ByteArray} (h : ¬ (ps.length ≤ 4096 ∧ s.size ≤ 65536 ∧ t.size ≤ 65536)) : argC ps [s.data.toList, t.data.toList] = 2 := by
  rw [argC, if_neg]
  rintro ⟨h1, h2⟩
  simp only [List.all_cons, List.all_nil, Bool.and_true, Bool.and_eq_true] at h2
  exact h ⟨h1, (short_iff s).1 h2.1, (short_iff t).1 h2.2⟩
theorem arg2_in {ps : List (List UInt8)} {s t : ByteArray} (h1 : ps.length ≤ 4096) (h2 : s.size ≤ 65536) (h3 : t.size ≤ 65536) : argC ps [s.data.toList, t.data.toList] = if argC ps [s.data.toList] = 0 then (if hostB t = true then 0 else 3) else argC ps [s.data.toList] := by
  rw [arg1_in ⟨h1, h2⟩, argC, if_pos ⟨h1, by simp only [List.all_cons, List.all_nil, Bool.and_true, Bool.and_eq_true]; exact ⟨(short_iff s).2 h2, (short_iff t).2 h3⟩⟩]
  simp only [List.all_cons, List.all_nil, Bool.and_true, hostL_is]
  cases rulesL ps with
  | false => simp
  | true =>
    cases hostB s with
    | false => simp
    | true => cases hostB t <;> simp
set_option maxHeartbeats 2000000 in
set_option maxRecDepth 100000 in
theorem specSameP (v : Value) (B : Nat) (ps : List (List UInt8)) (s t : ByteArray) (w : World) (hv : RowC w B v ps) (hl : ps.length ≤ 1048576) (hm : ∀ x ∈ ps, x.length ≤ 1048576) (hs : s.size ≤ 1048576) (ht : t.size ≤ 1048576) : Calls Tryz.prog 32 #[v, .string s, .string t] w fun e w' => e = .returned (.tuple #[.bool (sameV ps s t), .int .i64 (argC ps [s.data.toList, t.data.toList])]) ∧ Below w.heap.size w w' := by
  have HV := Lib.hid hv
  have HM := Lib.hid hm
  obtain ⟨⟨a, cap, rfl, _⟩, _⟩ := hv
  clear hm
  by_cases hlong : ps.length ≤ 4096 ∧ s.size ≤ 65536 ∧ t.size ≤ 65536
  · obtain ⟨h1, h2, h3⟩ := hlong
    have hin := arg2_in (ps := ps) h1 h2 h3
    go_enter Tryz.func32, Tryz.ntmps32
    go_wp2_with fail
    refine (specAsk _ B ps s _ HV.out hl HM.out hs).mono ?_
    rintro e w1 ⟨rfl, hb⟩
    have HB1 := Lib.hid hb
    clear hb
    by_cases hc : argC ps [s.data.toList] = 0
    · rw [if_pos hc] at hin
      have HC := Lib.hid hc
      obtain ⟨k1, k2⟩ := arg_ok hc
      obtain ⟨k3, k4⟩ := rules_all k1
      have HP := Lib.hid k4
      have k5 := (host_40 k2 (t := s) (by simp)).2
      rw [hc]
      clear k1 k2 k4 hc
      cases h4 : hostB t with
      | false =>
        have HE : Hid (argC ps [s.data.toList, t.data.toList] = 3) := Lib.hid (by rw [hin, if_neg (by rw [h4]; exact Bool.false_ne_true)])
        have HV1 : Hid (sameV ps s t = false) := Lib.hid (by rw [sameV, if_neg (by rw [HE.out]; decide)])
        have H4 := Lib.hid h4
        clear hin h4
        go_wp2_with (go_at_call 75; refine (specHostL t _ ht).mono ?_; rintro e w2 ⟨rfl, hb⟩; rw [H4.out]; have HB2 := Lib.hid (HB1.out.trans (hb.mono HB1.out.size)); clear hb)
        go_ret2
        exact ⟨by rw [HE.out, HV1.out]; rfl, HB2.out⟩
      | true =>
        have HE : Hid (argC ps [s.data.toList, t.data.toList] = 0) := Lib.hid (by rw [hin, if_pos h4])
        have k6 := (host_size h4).2
        have HV1 : Hid (sameV ps s t = ((parT ps s).toList == (parT ps t).toList)) := Lib.hid (by
          rw [sameV, if_pos HE.out]
          cases e : ((parT ps s).toList == (parT ps t).toList) with
          | true => exact decide_eq_true (seq_of e)
          | false => exact decide_eq_false (sne_of e))
        have H4 := Lib.hid h4
        clear hin h4
        go_wp2_with fail
        refine (specHostL t _ ht).mono ?_
        rintro e w2 ⟨rfl, hb⟩
        rw [H4.out]
        have HB2 := Lib.hid (HB1.out.trans (hb.mono HB1.out.size))
        clear hb
        go_wp2_with fail
        refine (specParty _ B ps s _ (HV.out.1.below HB2.out) (by omega) HP.out k5).mono ?_
        rintro e w3 ⟨rfl, hb⟩
        have HB3 := Lib.hid (HB2.out.trans (hb.mono HB2.out.size))
        clear hb
        go_wp2_with fail
        refine (specParty _ B ps t _ (HV.out.1.below HB3.out) (by omega) HP.out k6).mono ?_
        rintro e w4 ⟨rfl, hb⟩
        have HB4 := Lib.hid (HB3.out.trans (hb.mono HB3.out.size))
        clear hb
        go_wp2_with fail
        go_ret2
        exact ⟨by rw [HE.out, HV1.out]; rfl, HB4.out⟩
    · rw [if_neg hc] at hin
      have HE := Lib.hid hin
      have HV1 : Hid (sameV ps s t = false) := Lib.hid (by rw [sameV, if_neg (by rw [hin]; exact hc)])
      have hne : (argC ps [s.data.toList] != 0) = true := by simpa using hc
      clear hin
      go_wp2_with fail
      go_ret2
      exact ⟨by rw [HE.out, HV1.out]; rfl, HB1.out⟩
  · have HA := Lib.hid (arg2_long hlong)
    have HV1 : Hid (sameV ps s t = false) := Lib.hid (by rw [sameV, if_neg (by rw [HA.out]; decide)])
    by_cases h1 : ps.length ≤ 4096
    · by_cases h2 : s.size ≤ 65536
      · have h3 : ¬ t.size ≤ 65536 := fun h3 => hlong ⟨h1, h2, h3⟩
        clear hlong
        go_enter Tryz.func32, Tryz.ntmps32
        go_wp2
        go_ret2
        exact ⟨by rw [HV1.out, HA.out]; rfl, Below.refl _ _⟩
      · clear hlong
        go_enter Tryz.func32, Tryz.ntmps32
        go_wp2
        go_ret2
        exact ⟨by rw [HV1.out, HA.out]; rfl, Below.refl _ _⟩
    · clear hlong
      go_enter Tryz.func32, Tryz.ntmps32
      go_wp2
      go_ret2
      exact ⟨by rw [HV1.out, HA.out]; rfl, Below.refl _ _⟩
end Go.Proofs.YtihlflhgbnfkkaaGreatDoor
