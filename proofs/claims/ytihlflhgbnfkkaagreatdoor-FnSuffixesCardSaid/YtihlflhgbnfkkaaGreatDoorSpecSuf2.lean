/- Suffixes and parties in the model: the suffix, the party, the codes. No condition of its own. -/
import Derived.Test.YtihlflhgbnfkkaaGreatDoorSpecSuf
namespace Go.Proofs.YtihlflhgbnfkkaaGreatDoor
open Go.ChangeShapes Go.WideShapes Go.ChangeAt Go.WideMaps Go.WideElems Go.RowKit

def SfRel (w : World) (ps : List (List UInt8)) (host : ByteArray) (best i : Value) (wr : World) : Prop :=
  ∃ (k : Nat) (b : Int), k ≤ ps.length ∧ i = .int .i64 k ∧ best = .int .i64 b ∧ 1 ≤ b ∧ b ≤ 7 ∧ sufN (appL host) ps 1 = sufN (appL host) (ps.drop k) b ∧ Below w.heap.size w wr
theorem suf_step {host : ByteArray} {ps : List (List UInt8)} {k : Nat} {b : Int} (hk : k < ps.length) : sufN (appL host) (ps.drop k) b = if appL host ps[k] then (if excL ps[k] then max (sizeL ps[k]) 1 else sufN (appL host) (ps.drop (k + 1)) (max b (sizeL ps[k]))) else sufN (appL host) (ps.drop (k + 1)) b := by
  rw [List.drop_eq_getElem_cons hk, sufN]
theorem lab_data (t : ByteArray) : labN (bareB t).data.toList = labN (bareL t.data.toList) := by rw [bareB, tOf_data]
set_option maxHeartbeats 2000000 in
set_option maxRecDepth 100000 in
theorem specSuffix (v : Value) (B : Nat) (ps : List (List UInt8)) (host : ByteArray) (w : World) (hv : RowT w B v ps) (hl : ps.length ≤ 1000) (hps : ps.all ruleL = true) (hh : host.size ≤ 40) : Calls Tryz.prog 67 #[v, .string host] w fun e w' => e = .returned (.string (sufT ps host)) ∧ Below w.heap.size w w' := by
  have HV := Lib.hid hv
  have HP : Hid (∀ x ∈ ps, ruleL x = true) := Lib.hid (fun x hx => List.all_eq_true.1 hps x hx)
  have HI := Lib.hid (sufI_in (host := host) hps)
  obtain ⟨a, cap, rfl, hx⟩ := hv
  have HX := Lib.hid hx
  have s1 : host.size ≤ 1048576 := by omega
  clear hps hx
  cases ha : addrB host with
  | true =>
    have hlab : labN host.data.toList = 4 := by
      unfold addrB addrL at ha
      rw [Bool.and_eq_true, decide_eq_true_eq] at ha
      exact ha.1
    have HA := Lib.hid ha
    have HE : Hid (sufT ps host = host) := Lib.hid (by
      rw [sufT, sufN', sufI, ha, if_pos rfl]
      exact tail_all (by rw [hlab]; decide))
    clear ha hlab
    go_enter Tryz.func67, Tryz.ntmps67
    go_wp2_with (go_at_call 79; refine (specAddr host _ s1).mono ?_; rintro e w1 ⟨rfl, hb⟩; rw [HA.out]; have HB := Lib.hid hb; clear hb)
    go_ret
    exact ⟨by rw [HE.out]; rfl, HB.out⟩
  | false =>
    have HA := Lib.hid ha
    have HS : Hid (sufI ps host = sufN (appL host) ps 1) := Lib.hid (by rw [sufI, ha, if_neg Bool.false_ne_true])
    clear ha
    go_enter Tryz.func67, Tryz.ntmps67
    go_wp2_with fail
    refine (specAddr host _ s1).mono ?_
    rintro e w1 ⟨rfl, hb⟩
    rw [HA.out]
    have HB1 := Lib.hid hb
    clear hb
    go_wp2_with fail
    go_loopw [5, 6] (fun best i wr => SfRel w ps host best i wr) (fun _ i _ => ps.length - (intOf i).toNat)
    case atStart => exact ⟨0, 1, Nat.zero_le _, rfl, rfl, by omega, by omega, rfl, HB1.out⟩
    case round =>
      obtain ⟨k, b, hk, rfl, rfl, hb1, hb2, hsuf, hbel⟩ := hrel
      have HSF := Lib.hid hsuf
      have HB := Lib.hid hbel
      clear hsuf hbel
      by_cases hlt : k < ps.length
      · obtain ⟨g, rfl, _, hg2, _, hc⟩ := HX.out (by omega)
        obtain ⟨u, hu⟩ : ∃ u : ByteArray, strV ps[k] = .string u := ⟨_, rfl⟩
        have HU : Hid (u.data.toList = ps[k]) := Lib.hid (by
          have := Value.string.inj hu
          rw [← this])
        have HR : Hid (ruleB u = true) := Lib.hid (by
          unfold ruleB
          rw [HU.out]
          exact HP.out _ (List.getElem_mem hlt))
        have c1 : wr.cell? ⟨g, k, none⟩ = some (.string u) := by rw [← hu]; exact (HB.out.cell (p := ⟨g, k, none⟩) hg2).trans (hc k hlt)
        have hz := rule_size HR.out
        have hsz : u.data.toList.length = u.size := by simp
        rw [hsz] at hz
        have h0 : 0 < u.size := by omega
        have hex := (exc_at h0).symm
        have s2 : (k : Int) < ps.length := by omega
        have HAP : Hid (appB host (bareB u) (wildB u) = appL host ps[k]) := Lib.hid (by
          unfold appL bareB wildB
          rw [HU.out])
        have HST := Lib.hid (suf_step (host := host) (b := b) hlt)
        have hsin := size_in HR.out
        rw [HU.out] at hsin
        have HSI := Lib.hid hsin
        have hlp := lab_pos (bareB u).data.toList
        have hlq : labN (bareB u).data.toList ≤ 6 := by rw [lab_data]; exact rule_labs HR.out
        obtain ⟨q, hq⟩ : ∃ q, labN (bareB u).data.toList = q := ⟨_, rfl⟩
        have HSZ : Hid (sizeL ps[k] = if wildB u then (q : Int) + 1 else if excB u then (q : Int) - 1 else q) := Lib.hid (by
          rw [← HU.out, sizeL, ← hq, lab_data]
          rfl)
        have HLI : Hid (labI u host = if appL host ps[k] then (if wildB u then (q : Int) + 1 else q) else 0) := Lib.hid (by rw [labI, HAP.out, hq])
        rw [hq] at hlp hlq
        clear hc hu hsz hsin hq
        cases happ : appL host ps[k] with
        | false =>
          have HL0 : Hid (labI u host = 0) := Lib.hid (by rw [HLI.out, happ, if_neg Bool.false_ne_true])
          have HN : Hid (sufN (appL host) ps 1 = sufN (appL host) (ps.drop (k + 1)) b) := Lib.hid (by rw [HSF.out, HST.out, happ, if_neg Bool.false_ne_true])
          have hmx : max b 0 = b := by omega
          clear happ hex
          go_wp2_with (go_at_call 127; refine (labels_of u host _ HR.out hh).mono ?_; rintro e w2 ⟨rfl, hb⟩; rw [HL0.out]; have HB2 := Lib.hid (HB.out.trans (hb.mono HB.out.size)); clear hb)
          go_roundw
          case rel => exact ⟨k + 1, b, by omega, by go_num, rfl, hb1, hb2, HN.out, HB2.out⟩
          case measure => simp [intOf]; omega
        | true =>
          cases hexc : excB u with
          | true =>
            have hw : wildB u = false := by
              cases hw : wildB u with
              | false => rfl
              | true =>
                have := wild_exc (t := u.data.toList) hw
                rw [show excL u.data.toList = true from hexc] at this
                cases this
            have HL0 : Hid (labI u host = q) := Lib.hid (by rw [HLI.out, happ, if_pos rfl, hw, if_neg Bool.false_ne_true])
            have hex' : excL ps[k] = true := by rw [← HU.out]; exact hexc
            obtain ⟨m, hm⟩ : ∃ m : Nat, max ((q : Int) - 1) 1 = m := ⟨(max ((q : Int) - 1) 1).toNat, by omega⟩
            have hv : sufI ps host = m := by
              rw [HS.out, HSF.out, HST.out, happ, if_pos rfl, hex', if_pos rfl, HSZ.out, hw, if_neg Bool.false_ne_true, hexc, if_pos rfl, hm]
            have HE : Hid (sufT ps host = tailB host m) := Lib.hid (by rw [sufT, sufN', hv]; rfl)
            have htl := fun W => specTail host m W hh (by omega) (by omega)
            rw [← hm] at htl
            have HTL := Lib.hid htl
            rw [hexc] at hex
            have hq0 : (0 : Int) < q := by omega
            clear happ hexc hw hex' hv htl hm
            go_wp2_with fail
            refine (labels_of u host _ HR.out hh).mono ?_
            rintro e w2 ⟨rfl, hb⟩
            rw [HL0.out]
            have HB2 := Lib.hid (HB.out.trans (hb.mono HB.out.size))
            have c2 := cell_kept hb c1
            clear hb c1
            go_wp2_with fail
            refine (HTL.out _).mono ?_
            rintro e w3 ⟨rfl, hb⟩
            have HB3 := Lib.hid (HB2.out.trans (hb.mono HB2.out.size))
            clear hb
            go_wp2_with fail
            go_ret
            exact ⟨by rw [HE.out]; rfl, HB3.out⟩
          | false =>
            have hL0 : labI u host = sizeL ps[k] := by rw [HLI.out, happ, if_pos rfl, HSZ.out, hexc, if_neg Bool.false_ne_true]
            have hex' : excL ps[k] = false := by rw [← HU.out]; exact hexc
            have HN : Hid (sufN (appL host) ps 1 = sufN (appL host) (ps.drop (k + 1)) (max b (sizeL ps[k]))) := Lib.hid (by rw [HSF.out, HST.out, happ, if_pos rfl, hex', if_neg Bool.false_ne_true])
            have hpos : 0 < sizeL ps[k] := by
              rw [HSZ.out, hexc]
              cases wildB u with
              | true => rw [if_pos rfl]; omega
              | false => rw [if_neg Bool.false_ne_true, if_neg Bool.false_ne_true]; omega
            have hsi := HSI.out
            obtain ⟨z, hzz⟩ : ∃ z, sizeL ps[k] = z := ⟨_, rfl⟩
            rw [hzz] at hL0 hpos hsi HN
            have HL0 := Lib.hid hL0
            rw [hexc] at hex
            clear happ hexc hex' hL0 hzz
            go_wp2_with fail
            refine (labels_of u host _ HR.out hh).mono ?_
            rintro e w2 ⟨rfl, hb⟩
            rw [HL0.out]
            have HB2 := Lib.hid (HB.out.trans (hb.mono HB.out.size))
            have c2 := cell_kept hb c1
            clear hb c1
            go_wp2_with fail
            go_roundw
            case rel => exact ⟨k + 1, _, by omega, by go_num, rfl, by omega, by omega, HN.out, HB2.out⟩
            case measure => simp [intOf]; omega
      · obtain rfl : k = ps.length := by omega
        obtain ⟨m, hm⟩ : ∃ m : Nat, b = m := ⟨b.toNat, by omega⟩
        subst hm
        have hv : sufI ps host = m := by
          rw [HS.out, HSF.out, List.drop_eq_nil_of_le (Nat.le_refl _)]
          rfl
        have HE : Hid (sufT ps host = tailB host m) := Lib.hid (by rw [sufT, sufN', hv]; rfl)
        clear hv
        go_wp2_with fail
        refine (specTail host m _ hh (by omega) (by omega)).mono ?_
        rintro e w3 ⟨rfl, hb⟩
        have HB3 := Lib.hid (HB.out.trans (hb.mono HB.out.size))
        clear hb
        go_wp2_with fail
        go_ret
        exact ⟨by rw [HE.out]; rfl, HB3.out⟩
set_option maxRecDepth 100000 in
theorem specIsT (v : Value) (B : Nat) (ps : List (List UInt8)) (host : ByteArray) (w : World) (hv : RowT w B v ps) (hl : ps.length ≤ 1000) (hps : ps.all ruleL = true) (hh : host.size ≤ 40) : Calls Tryz.prog 69 #[v, .string host] w fun e w' => e = .returned (.bool (isT ps host)) ∧ Below w.heap.size w w' := by
  have HV := Lib.hid hv
  have HP := Lib.hid hps
  obtain ⟨a, cap, rfl, _⟩ := hv
  have s1 : host.size ≤ 1048576 := by omega
  clear hps
  cases ha : addrB host with
  | true =>
    have HE : Hid (isT ps host = false) := Lib.hid (by rw [isT, ha]; simp)
    have HA := Lib.hid ha
    clear ha
    go_enter Tryz.func69, Tryz.ntmps69
    go_wp2_with (go_at_call 79; refine (specAddr host _ s1).mono ?_; rintro e w1 ⟨rfl, hb⟩; rw [HA.out]; have HB := Lib.hid hb; clear hb)
    go_ret
    exact ⟨bool_end HE.out.symm, HB.out⟩
  | false =>
    have HE : Hid (isT ps host = ((sufT ps host).toList == host.toList)) := Lib.hid (by
      rw [isT, ha]
      cases e : ((sufT ps host).toList == host.toList) with
      | true => rw [decide_eq_true (seq_of e)]; rfl
      | false => rw [decide_eq_false (sne_of e)]; rfl)
    have HA := Lib.hid ha
    clear ha
    go_enter Tryz.func69, Tryz.ntmps69
    go_wp2_with (first
      | (go_at_call 79; refine (specAddr host _ s1).mono ?_; rintro e w1 ⟨rfl, hb⟩; rw [HA.out]; have HB := Lib.hid hb; clear hb)
      | (go_at_call 67; refine (specSuffix _ B ps host _ (HV.out.below HB.out) hl HP.out hh).mono ?_; rintro e w2 ⟨rfl, hb⟩; have HB2 := Lib.hid (HB.out.trans (hb.mono HB.out.size)); clear hb))
    go_ret
    exact ⟨bool_end HE.out.symm, HB2.out⟩
set_option maxRecDepth 100000 in
theorem specParty (v : Value) (B : Nat) (ps : List (List UInt8)) (host : ByteArray) (w : World) (hv : RowT w B v ps) (hl : ps.length ≤ 1000) (hps : ps.all ruleL = true) (hh : host.size ≤ 40) : Calls Tryz.prog 71 #[v, .string host] w fun e w' => e = .returned (.string (parT ps host)) ∧ Below w.heap.size w w' := by
  have HV := Lib.hid hv
  have HP := Lib.hid hps
  obtain ⟨a, cap, rfl, _⟩ := hv
  obtain ⟨_, e2, e3⟩ := suf_nat (host := host) hps
  have HPI := Lib.hid (party_is (s := host) e2)
  have hsz : (sufT ps host).size ≤ 40 := Nat.le_trans (tail_size host _ e2) hh
  clear hps
  cases he : ((sufT ps host).toList == host.toList) with
  | true =>
    have HE : Hid (parT ps host = host) := Lib.hid (by
      have h : tailB host (sufN' ps host) = host := seq_of he
      rw [parT, ← HPI.out, if_pos h])
    go_enter Tryz.func71, Tryz.ntmps71
    go_wp2_with (go_at_call 67; refine (specSuffix _ B ps host _ HV.out hl HP.out hh).mono ?_; rintro e w1 ⟨rfl, hb⟩; have HB := Lib.hid hb; clear hb)
    go_ret
    exact ⟨by rw [HE.out]; rfl, HB.out⟩
  | false =>
    obtain ⟨m, hm⟩ : ∃ m, labN (sufT ps host).data.toList = m := ⟨_, rfl⟩
    have HE : Hid (parT ps host = tailB host (m + 1)) := Lib.hid (by
      have h : tailB host (sufN' ps host) ≠ host := sne_of he
      rw [parT, ← HPI.out, if_neg h, ← hm]
      rfl)
    have hmx : m ≤ 41 := by rw [← hm]; exact cut_len_le hsz
    have hmp : 1 ≤ (cutL 46 (sufT ps host).data.toList).length := cutL_pos _ _
    have HM : Hid ((cutL 46 (sufT ps host).data.toList).length = m) := Lib.hid hm
    have hTL := fun W => specTail host (m + 1) W hh (by omega) (by omega)
    rw [show (((m + 1 : Nat) : Int)) = (m : Int) + 1 by omega] at hTL
    have HTL := Lib.hid hTL
    clear hm hTL
    go_enter Tryz.func71, Tryz.ntmps71
    go_wp2_with fail
    refine (specSuffix _ B ps host _ HV.out hl HP.out hh).mono ?_
    rintro e w1 ⟨rfl, hb⟩
    have HB := Lib.hid hb
    clear hb
    go_wp2_with fail
    refine (cut_any (sufT ps host) 46 _ (by omega)).mono ?_
    rintro e w2 ⟨u, rfl, hown, hb⟩
    obtain ⟨g, cap2, rfl, _⟩ := own_cells hown hmp
    have HB2 := Lib.hid (HB.out.trans (hb.mono HB.out.size))
    clear hb hown
    rw [HM.out]
    go_wp2_with fail
    refine (HTL.out _).mono ?_
    rintro e w3 ⟨rfl, hb⟩
    have HB3 := Lib.hid (HB2.out.trans (hb.mono HB2.out.size))
    clear hb
    go_wp2_with fail
    go_ret
    exact ⟨by rw [HE.out]; rfl, HB3.out⟩
theorem short_iff (t : ByteArray) : shortL t.data.toList = true ↔ t.size ≤ 65536 := by
  unfold shortL
  rw [decide_eq_true_eq]
  simp
theorem hostL_is (t : ByteArray) : hostL t.data.toList = hostB t := by rw [hostL, tOf_of]
theorem arg1_long {ps : List (List UInt8)} {t : ByteArray} (h : ¬ (ps.length ≤ 4096 ∧ t.size ≤ 65536)) : argC ps [t.data.toList] = 2 := by
  rw [argC, if_neg]
  rintro ⟨h1, h2⟩
  simp only [List.all_cons, List.all_nil, Bool.and_true] at h2
  exact h ⟨h1, (short_iff t).1 h2⟩
theorem arg1_in {ps : List (List UInt8)} {t : ByteArray} (h : ps.length ≤ 4096 ∧ t.size ≤ 65536) : argC ps [t.data.toList] = if rulesL ps = true then (if hostB t = true then 0 else 3) else 1 := by
  rw [argC, if_pos ⟨h.1, by simp only [List.all_cons, List.all_nil, Bool.and_true]; exact (short_iff t).2 h.2⟩]
  simp only [List.all_cons, List.all_nil, Bool.and_true, hostL_is]
set_option maxRecDepth 100000 in
theorem specAsk (v : Value) (B : Nat) (ps : List (List UInt8)) (t : ByteArray) (w : World) (hv : RowC w B v ps) (hl : ps.length ≤ 1048576) (hm : ∀ x ∈ ps, x.length ≤ 1048576) (ht : t.size ≤ 1048576) : Calls Tryz.prog 66 #[v, .string t] w fun e w' => e = .returned (.int .i64 (argC ps [t.data.toList])) ∧ Below w.heap.size w w' := by
  have HV := Lib.hid hv
  have HM := Lib.hid hm
  obtain ⟨⟨a, cap, rfl, _⟩, _⟩ := hv
  clear hm
  by_cases h1 : ps.length ≤ 4096
  · by_cases h2 : t.size ≤ 65536
    · have hA := arg1_in (ps := ps) (t := t) ⟨h1, h2⟩
      cases h3 : rulesL ps with
      | false =>
        have HE : Hid (argC ps [t.data.toList] = 1) := Lib.hid (by rw [hA, if_neg (by rw [h3]; exact Bool.false_ne_true)])
        have H3 := Lib.hid h3
        clear hA h3
        go_enter Tryz.func66, Tryz.ntmps66
        go_wp2_with (go_at_call 126; refine (specRulesL _ B ps _ HV.out hl HM.out).mono ?_; rintro e w1 ⟨rfl, hb⟩; rw [H3.out]; have HB := Lib.hid hb; clear hb)
        go_ret
        exact ⟨by rw [HE.out]; rfl, HB.out⟩
      | true =>
        have H3 := Lib.hid h3
        cases h4 : hostB t with
        | false =>
          have HE : Hid (argC ps [t.data.toList] = 3) := Lib.hid (by rw [hA, if_pos h3, if_neg (by rw [h4]; exact Bool.false_ne_true)])
          have H4 := Lib.hid h4
          clear hA h3 h4
          go_enter Tryz.func66, Tryz.ntmps66
          go_wp2_with (first
            | (go_at_call 126; refine (specRulesL _ B ps _ HV.out hl HM.out).mono ?_; rintro e w1 ⟨rfl, hb⟩; rw [H3.out]; have HB := Lib.hid hb; clear hb)
            | (go_at_call 75; refine (specHostL t _ ht).mono ?_; rintro e w2 ⟨rfl, hb⟩; rw [H4.out]; have HB2 := Lib.hid (HB.out.trans (hb.mono HB.out.size)); clear hb))
          go_ret
          exact ⟨by rw [HE.out]; rfl, HB2.out⟩
        | true =>
          have HE : Hid (argC ps [t.data.toList] = 0) := Lib.hid (by rw [hA, if_pos h3, if_pos h4])
          have H4 := Lib.hid h4
          clear hA h3 h4
          go_enter Tryz.func66, Tryz.ntmps66
          go_wp2_with (first
            | (go_at_call 126; refine (specRulesL _ B ps _ HV.out hl HM.out).mono ?_; rintro e w1 ⟨rfl, hb⟩; rw [H3.out]; have HB := Lib.hid hb; clear hb)
            | (go_at_call 75; refine (specHostL t _ ht).mono ?_; rintro e w2 ⟨rfl, hb⟩; rw [H4.out]; have HB2 := Lib.hid (HB.out.trans (hb.mono HB.out.size)); clear hb))
          go_ret
          exact ⟨by rw [HE.out]; rfl, HB2.out⟩
    · have HE := Lib.hid (arg1_long (ps := ps) (t := t) (fun h => h2 h.2))
      go_enter Tryz.func66, Tryz.ntmps66
      go_wp2
      go_ret
      exact ⟨by rw [HE.out]; rfl, Below.refl _ _⟩
  · have HE := Lib.hid (arg1_long (ps := ps) (t := t) (fun h => h1 h.1))
    go_enter Tryz.func66, Tryz.ntmps66
    go_wp2
    go_ret
    exact ⟨by rw [HE.out]; rfl, Below.refl _ _⟩
end Go.Proofs.YtihlflhgbnfkkaaGreatDoor
