/- The walk of the law on suffixes. No condition of its own. -/
import Derived.Test.YtihlflhgbnfkkaaGreatDoorRulesDraw
import Derived.Test.YtihlflhgbnfkkaaGreatDoorSufWalks
import Derived.Stop.LaidErr
namespace Go.Proofs.YtihlflhgbnfkkaaGreatDoor
open Go.ChangeShapes Go.WideShapes Go.ChangeAt Go.WideMaps Go.WideElems Go.RowKit

def AL (w : World) (B : Nat) (v : Value) (ps : List (List UInt8)) : Prop := RuAt w B v ps ∧ RowC w B v ps
theorem AL.below {w w' : World} {B : Nat} {v : Value} {ps : List (List UInt8)} (h : AL w B v ps) (hb : Below w.heap.size w w') : AL w' B v ps := ⟨h.1.below hb, h.2.below hb⟩
theorem rules_len {ps : List (List UInt8)} (h : rulesL ps = true) : ps.length ≤ 1048576 ∧ ∀ x ∈ ps, x.length ≤ 1048576 := by
  obtain ⟨h1, h2⟩ := rules_all h
  exact ⟨by omega, fun x hx => by have := (rule_size (List.all_eq_true.1 h2 x hx)).1; omega⟩
theorem host_small {h : ByteArray} (hh : hostB h = true) : h.size ≤ 1048576 := by have := (host_size hh).2; omega
theorem arg_one {ps : List (List UInt8)} {h : ByteArray} (hr : rulesL ps = true) (hh : hostB h = true) : argC ps [h.data.toList] = 0 := arg_zero hr (by simp [hostL_of hh])
theorem arg_two {ps : List (List UInt8)} {s t : ByteArray} (hr : rulesL ps = true) (hs : hostB s = true) (ht : hostB t = true) : argC ps [s.data.toList, t.data.toList] = 0 := arg_zero hr (by simp [hostL_of hs, hostL_of ht])
def parD (ps : List (List UInt8)) (s t : ByteArray) : Bool := decide (parT ps s = parT ps t)

theorem iSO {B : Nat} {v : Value} {ps : List (List UInt8)} {h : ByteArray} (hr : rulesL ps = true) (hh : hostB h = true) (w : World) (hA : AL w B v ps) : Calls Tryz.prog 22 #[v, .string h] w fun e w' => e = .returned (.tuple #[.string (sufT ps h), .int .i64 0]) ∧ Below w.heap.size w w' := by
  have k := implSuffixOf v B ps h w hA.1 (rules_len hr).1 (rules_len hr).2 (host_small hh)
  rw [sofV, arg_one hr hh, if_pos rfl] at k
  exact k
theorem sSO {B : Nat} {v : Value} {ps : List (List UInt8)} {h : ByteArray} (hr : rulesL ps = true) (hh : hostB h = true) (w : World) (hA : AL w B v ps) : Calls Tryz.prog 23 #[v, .string h] w fun e w' => e = .returned (.tuple #[.string (sufT ps h), .int .i64 0]) ∧ Below w.heap.size w w' := by
  have k := specSuffixOf v B ps h w hA.2 (rules_len hr).1 (rules_len hr).2 (host_small hh)
  rw [sofV, arg_one hr hh, if_pos rfl] at k
  exact k
theorem iIS {B : Nat} {v : Value} {ps : List (List UInt8)} {h : ByteArray} {b : Bool} (hb : isT ps h = b) (hr : rulesL ps = true) (hh : hostB h = true) (w : World) (hA : AL w B v ps) : Calls Tryz.prog 24 #[v, .string h] w fun e w' => e = .returned (.tuple #[.bool b, .int .i64 0]) ∧ Below w.heap.size w w' := by
  have k := implIsSuffix v B ps h w hA.1 (rules_len hr).1 (rules_len hr).2 (host_small hh)
  rw [isV, arg_one hr hh, if_pos rfl, hb] at k
  exact k
theorem sIS {B : Nat} {v : Value} {ps : List (List UInt8)} {h : ByteArray} {b : Bool} (hb : isT ps h = b) (hr : rulesL ps = true) (hh : hostB h = true) (w : World) (hA : AL w B v ps) : Calls Tryz.prog 25 #[v, .string h] w fun e w' => e = .returned (.tuple #[.bool b, .int .i64 0]) ∧ Below w.heap.size w w' := by
  have k := specIsSuffix v B ps h w hA.2 (rules_len hr).1 (rules_len hr).2 (host_small hh)
  rw [isV, arg_one hr hh, if_pos rfl, hb] at k
  exact k
theorem iRGt {B : Nat} {v : Value} {ps : List (List UInt8)} {h : ByteArray} (hb : isT ps h = true) (hr : rulesL ps = true) (hh : hostB h = true) (w : World) (hA : AL w B v ps) : Calls Tryz.prog 26 #[v, .string h] w fun e w' => e = .returned (.tuple #[.string ⟨#[]⟩, .int .i64 5]) ∧ Below w.heap.size w w' := by
  have e1 : regV ps h = ⟨#[]⟩ := by rw [regV, arg_one hr hh, if_pos rfl, hb, if_pos rfl]
  have e2 : regC ps h = 5 := by rw [regC, arg_one hr hh, if_pos rfl, hb, if_pos rfl]
  have k := implReg v B ps h w hA.1 (rules_len hr).1 (rules_len hr).2 (host_small hh)
  rw [e1, e2] at k
  exact k
theorem iRGf {B : Nat} {v : Value} {ps : List (List UInt8)} {h : ByteArray} (hb : isT ps h = false) (hr : rulesL ps = true) (hh : hostB h = true) (w : World) (hA : AL w B v ps) : Calls Tryz.prog 26 #[v, .string h] w fun e w' => e = .returned (.tuple #[.string (parT ps h), .int .i64 0]) ∧ Below w.heap.size w w' := by
  have e1 : regV ps h = (parT ps h) := by rw [regV, arg_one hr hh, if_pos rfl, hb, if_neg Bool.false_ne_true]
  have e2 : regC ps h = 0 := by rw [regC, arg_one hr hh, if_pos rfl, hb, if_neg Bool.false_ne_true]
  have k := implReg v B ps h w hA.1 (rules_len hr).1 (rules_len hr).2 (host_small hh)
  rw [e1, e2] at k
  exact k
theorem sRGt {B : Nat} {v : Value} {ps : List (List UInt8)} {h : ByteArray} (hb : isT ps h = true) (hr : rulesL ps = true) (hh : hostB h = true) (w : World) (hA : AL w B v ps) : Calls Tryz.prog 27 #[v, .string h] w fun e w' => e = .returned (.tuple #[.string ⟨#[]⟩, .int .i64 5]) ∧ Below w.heap.size w w' := by
  have e1 : regV ps h = ⟨#[]⟩ := by rw [regV, arg_one hr hh, if_pos rfl, hb, if_pos rfl]
  have e2 : regC ps h = 5 := by rw [regC, arg_one hr hh, if_pos rfl, hb, if_pos rfl]
  have k := specRegistrable v B ps h w hA.2 (rules_len hr).1 (rules_len hr).2 (host_small hh)
  rw [e1, e2] at k
  exact k
theorem sRGf {B : Nat} {v : Value} {ps : List (List UInt8)} {h : ByteArray} (hb : isT ps h = false) (hr : rulesL ps = true) (hh : hostB h = true) (w : World) (hA : AL w B v ps) : Calls Tryz.prog 27 #[v, .string h] w fun e w' => e = .returned (.tuple #[.string (parT ps h), .int .i64 0]) ∧ Below w.heap.size w w' := by
  have e1 : regV ps h = (parT ps h) := by rw [regV, arg_one hr hh, if_pos rfl, hb, if_neg Bool.false_ne_true]
  have e2 : regC ps h = 0 := by rw [regC, arg_one hr hh, if_pos rfl, hb, if_neg Bool.false_ne_true]
  have k := specRegistrable v B ps h w hA.2 (rules_len hr).1 (rules_len hr).2 (host_small hh)
  rw [e1, e2] at k
  exact k
theorem iSM {B : Nat} {v : Value} {ps : List (List UInt8)} {s t : ByteArray} (hr : rulesL ps = true) (hs : hostB s = true) (ht : hostB t = true) (w : World) (hA : AL w B v ps) : Calls Tryz.prog 31 #[v, .string s, .string t] w fun e w' => e = .returned (.tuple #[.bool (parD ps s t), .int .i64 0]) ∧ Below w.heap.size w w' := by
  have k := implSame v B ps s t w hA.1 (rules_len hr).1 (rules_len hr).2 (host_small hs) (host_small ht)
  rw [sameV, arg_two hr hs ht, if_pos rfl] at k
  exact k
theorem sSM {B : Nat} {v : Value} {ps : List (List UInt8)} {s t : ByteArray} (hr : rulesL ps = true) (hs : hostB s = true) (ht : hostB t = true) (w : World) (hA : AL w B v ps) : Calls Tryz.prog 32 #[v, .string s, .string t] w fun e w' => e = .returned (.tuple #[.bool (parD ps s t), .int .i64 0]) ∧ Below w.heap.size w w' := by
  have k := specSameP v B ps s t w hA.2 (rules_len hr).1 (rules_len hr).2 (host_small hs) (host_small ht)
  rw [sameV, arg_two hr hs ht, if_pos rfl] at k
  exact k
theorem par_turn (ps : List (List UInt8)) (s t : ByteArray) : parD ps t s = parD ps s t := by
  rw [parD, parD, Bool.eq_iff_iff, decide_eq_true_eq, decide_eq_true_eq]
  exact eq_comm
theorem par_self (ps : List (List UInt8)) (s : ByteArray) : parD ps s s = true := decide_eq_true rfl
theorem suf_addr {ps : List (List UInt8)} {h : ByteArray} (ha : addrB h = true) : sufT ps h = h := by
  have h4 : sufN' ps h = 4 := by
    rw [sufN', sufI, ha, if_pos rfl]
    rfl
  rw [addrB, addrL, Bool.and_eq_true, decide_eq_true_eq] at ha
  have hl4 : labN h.data.toList = 4 := ha.1
  rw [sufT, h4, tail_all (by omega)]
/-- The three kinds of hosts. -/
theorem three (ps : List (List UInt8)) (h : ByteArray) (hp : ps.all ruleL = true) (hh : hostB h = true) : (isT ps h = true ∧ sufT ps h = h) ∨ (isT ps h = false ∧ sufT ps h = h ∧ addrB h = true) ∨ (isT ps h = false ∧ sufT ps h ≠ h ∧ addrB h = false ∧ matchB h (sufT ps h) = true) := by
  by_cases e : sufT ps h = h
  · cases ha : addrB h with
    | true => exact .inr (.inl ⟨by rw [isT, ha, Bool.not_true, Bool.and_false], e, rfl⟩)
    | false => exact .inl ⟨by rw [isT, ha, decide_eq_true e]; rfl, e⟩
  · have ha : addrB h = false := by
      cases ha : addrB h with
      | true => exact absurd (suf_addr ha) e
      | false => rfl
    exact .inr (.inr ⟨by rw [isT, decide_eq_false e]; rfl, e, ha, suffix_facts hp hh (fun k => e k.symm)⟩)
set_option maxHeartbeats 8000000 in
set_option maxRecDepth 100000 in
theorem walk_FnSuffixes (W : World) (a0 : Option Addr) (len0 cap0 : Nat) (hm0 : len0 ≤ cap0 ∧ cap0 ≤ maxLen ∧ (a0 = none → cap0 = 0)) (hc0 : len0 ≤ 4611686018427387904 → CodeIn W (.slice a0 len0 cap0) len0) (a1 : Option Addr) (len1 cap1 : Nat) (hm1 : len1 ≤ cap1 ∧ cap1 ≤ maxLen ∧ (a1 = none → cap1 = 0)) (hc1 : len1 ≤ 4611686018427387904 → CodeIn W (.slice a1 len1 cap1) len1)
    (hL : laidMetH Tryz.prog Rows.fnSuffixesRow.laid W) (hSh : W.ShapedOpen Tryz.prog) :
    Calls Tryz.prog 4 #[.slice a0 len0 cap0, .slice a1 len1 cap1] W fun e w' => e = .returned (.bool true) ∧ Below W.heap.size W w' := by
  rw [MakeChecks.laidMetH_plain _ _ _ (by kernel_rfl)] at hL
  obtain ⟨hT, hN⟩ := laid8 hL
  have HT := Lib.hid hT
  have HN := Lib.hid hN
  have HM := Lib.hid (max_of hSh)
  clear hL hT hN
  unfold maxLen at hm0 hm1
  obtain ⟨hm0, hk0, _⟩ := hm0
  obtain ⟨hm1, hk1, _⟩ := hm1
  by_cases h0 : 1048576 < len0
  · clear hc0 hc1
    go_enter Tryz.func4, Tryz.ntmps4
    go_wp2
    go_ret
    exact ⟨rfl, Below.refl _ _⟩
  by_cases h1 : 1048576 < len1
  · clear hc0 hc1
    go_enter Tryz.func4, Tryz.ntmps4
    go_wp2
    go_ret
    exact ⟨rfl, Below.refl _ _⟩
  have C0 := Lib.hid (hc0 (by omega))
  have C1 := Lib.hid (hc1 (by omega))
  clear hc0 hc1
  go_enter Tryz.func4, Tryz.ntmps4
  go_wp2_with fail
  refine (rulesDrawn_any _ _ _ C0.out).mono ?_
  rintro e w1 ⟨v, ps, rfl, hrow, hru, hb⟩
  obtain ⟨hrt, a, cap, rfl, hcap1, hcap2⟩ := hrow
  have B1 := Lib.hid hb
  have A1 : Hid (AL w1 W.heap.size (.slice a ps.length cap) ps) := Lib.hid ⟨⟨hrt, HT.out.below hb, HM.out.below hb, HN.out.below hb⟩, hrt, a, cap, rfl, hcap1, hcap2⟩
  have HRU := Lib.hid hru
  have hlen8 := (rules_all hru).1
  clear hb hrt
  go_wp2_with fail
  refine (hostIn_any _ _ _ (C1.out.below B1.out)).mono ?_
  rintro e w2 ⟨h, rfl, hh, hb⟩
  have A2 := Lib.hid (A1.out.below hb)
  have B2 := Lib.hid (B1.out.trans (hb.mono B1.out.size))
  have HH := Lib.hid hh
  have hsz := host_small hh
  have nS : ((sufT ps h).toList != (sufT ps h).toList) = false := by simp
  clear hb A1 B1
  have h3 := three ps h (rules_all hru).2 hh
  clear hru hh

  rcases h3 with ⟨hi, he⟩ | ⟨hi, he, ha⟩ | ⟨hi, he, ha, hmt⟩
  · have HI := Lib.hid hi
    have HSE := Lib.hid he
    have nE : (h.toList != h.toList) = false := by simp
    clear he hi
    go_wp2_with fail
    refine (iSO HRU.out HH.out _ A2.out).mono ?_
    rintro e w3 ⟨rfl, hb⟩
    have A3 := Lib.hid (A2.out.below hb)
    have B3 := Lib.hid (B2.out.trans (hb.mono B2.out.size))
    clear hb A2 B2
    rw [HSE.out]
    go_wp2_with fail
    refine (sSO HRU.out HH.out _ A3.out).mono ?_
    rintro e w4 ⟨rfl, hb⟩
    have A4 := Lib.hid (A3.out.below hb)
    have B4 := Lib.hid (B3.out.trans (hb.mono B3.out.size))
    clear hb A3 B3
    rw [HSE.out]
    go_wp2_with fail
    refine (iIS HI.out HRU.out HH.out _ A4.out).mono ?_
    rintro e w5 ⟨rfl, hb⟩
    have A5 := Lib.hid (A4.out.below hb)
    have B5 := Lib.hid (B4.out.trans (hb.mono B4.out.size))
    clear hb A4 B4
    go_wp2_with fail
    refine (sIS HI.out HRU.out HH.out _ A5.out).mono ?_
    rintro e w6 ⟨rfl, hb⟩
    have A6 := Lib.hid (A5.out.below hb)
    have B6 := Lib.hid (B5.out.trans (hb.mono B5.out.size))
    clear hb A5 B5
    go_wp2_with fail
    refine (iRGt HI.out HRU.out HH.out _ A6.out).mono ?_
    rintro e w7 ⟨rfl, hb⟩
    have A7 := Lib.hid (A6.out.below hb)
    have B7 := Lib.hid (B6.out.trans (hb.mono B6.out.size))
    clear hb A6 B6
    go_wp2_with fail
    refine (sRGt HI.out HRU.out HH.out _ A7.out).mono ?_
    rintro e w8 ⟨rfl, hb⟩
    have A8 := Lib.hid (A7.out.below hb)
    have B8 := Lib.hid (B7.out.trans (hb.mono B7.out.size))
    clear hb A7 B7
    go_wp2_with fail
    refine (implRules _ _ ps _ A8.out.2.1 (rules_len HRU.out).1 (rules_len HRU.out).2 A8.out.1.2.1).mono ?_
    rintro e w9 ⟨rfl, hb⟩
    have A9 := Lib.hid (A8.out.below hb)
    have B9 := Lib.hid (B8.out.trans (hb.mono B8.out.size))
    clear hb A8 B8
    rw [HRU.out]
    go_wp2_with fail
    go_loopw [19] (fun i wr => ∃ k : Nat, k ≤ ps.length ∧ i = .int .i64 k ∧ AL wr W.heap.size (.slice a ps.length cap) ps ∧ Below W.heap.size W wr) (fun i _ => ps.length - (intOf i).toNat)
    case atStart => exact ⟨0, Nat.zero_le _, rfl, A9.out, B9.out⟩
    case round =>
      clear A9 B9
      obtain ⟨k, hk, rfl, hA, hB⟩ := hrel
      have A10 := Lib.hid hA
      have B10 := Lib.hid hB
      by_cases hlt : k < ps.length
      · obtain ⟨a2, cap2, e2, hx⟩ := hA.1.1
        injection e2 with e3 e4 e5
        subst e3
        clear e4 e5
        obtain ⟨g, rfl, _, hg2, _, hc⟩ := hx (by omega)
        obtain ⟨u, hu⟩ : ∃ u : ByteArray, u = ⟨ps[k].toArray⟩ := ⟨_, rfl⟩
        have c1 : wr.cell? ⟨g, k, none⟩ = some (.string u) := by rw [hu]; exact hc k hlt
        have HU : Hid (ruleB u = true) := Lib.hid (by rw [ruleB, hu]; simpa using List.all_eq_true.1 (rules_all HRU.out).2 _ (List.getElem_mem hlt))
        have hus := rule_size HU.out
        have husz : u.data.toList.length = u.size := by simp
        have s1 : (k : Int) < ps.length := by omega
        clear hc hx hA hB hu
        go_wp2_with fail
        refine (implRule u _ (by unfold maxLen; omega) A10.out.1.2.1).mono ?_
        rintro e wq ⟨rfl, hb⟩
        rw [HU.out]
        have AQ := Lib.hid (A10.out.below hb)
        have BQ := Lib.hid (B10.out.trans (hb.mono B10.out.size))
        clear hb
        go_wp2_with fail
        go_roundw
        case rel => exact ⟨k + 1, by omega, by go_num, AQ.out, BQ.out⟩
        case measure => simp [intOf]; omega
      · clear hA hB
        go_wp2_with fail
        refine (hostIn_any _ _ _ (C0.out.below B10.out)).mono ?_
        rintro e w11 ⟨x, rfl, hx, hb⟩
        have A11 := Lib.hid (A10.out.below hb)
        have B11 := Lib.hid (B10.out.trans (hb.mono B10.out.size))
        have HX := Lib.hid hx
        clear hb hx A10 B10
        obtain ⟨z, hz⟩ : ∃ z, parD ps h x = z := ⟨_, rfl⟩
        have HZ := Lib.hid hz
        have HZ2 : Hid (parD ps x h = z) := Lib.hid (by rw [par_turn, hz])
        have HZ3 := Lib.hid (par_self ps h)
        have nz : (z != z) = false := by simp
        clear hz
        go_wp2_with fail
        refine (iSM HRU.out HH.out HX.out _ A11.out).mono ?_
        rintro e w12 ⟨rfl, hb⟩
        have A12 := Lib.hid (A11.out.below hb)
        have B12 := Lib.hid (B11.out.trans (hb.mono B11.out.size))
        clear hb A11 B11
        rw [HZ.out]
        go_wp2_with fail
        refine (sSM HRU.out HH.out HX.out _ A12.out).mono ?_
        rintro e w13 ⟨rfl, hb⟩
        have A13 := Lib.hid (A12.out.below hb)
        have B13 := Lib.hid (B12.out.trans (hb.mono B12.out.size))
        clear hb A12 B12
        rw [HZ.out]
        go_wp2_with fail
        refine (iSM HRU.out HX.out HH.out _ A13.out).mono ?_
        rintro e w14 ⟨rfl, hb⟩
        have A14 := Lib.hid (A13.out.below hb)
        have B14 := Lib.hid (B13.out.trans (hb.mono B13.out.size))
        clear hb A13 B13
        rw [HZ2.out]
        go_wp2_with fail
        refine (iSM HRU.out HH.out HH.out _ A14.out).mono ?_
        rintro e w15 ⟨rfl, hb⟩
        have A15 := Lib.hid (A14.out.below hb)
        have B15 := Lib.hid (B14.out.trans (hb.mono B14.out.size))
        clear hb A14 B14
        rw [HZ3.out]
        go_wp2_with fail
        go_ret
        exact ⟨rfl, B15.out⟩
  · have HI := Lib.hid hi
    have HSE := Lib.hid he
    have nE : (h.toList != h.toList) = false := by simp
    have HAD : Hid (isAddr h = true) := Lib.hid (by rw [isAddr, HH.out, ha]; rfl)
    clear he hi ha
    go_wp2_with fail
    refine (iSO HRU.out HH.out _ A2.out).mono ?_
    rintro e w3 ⟨rfl, hb⟩
    have A3 := Lib.hid (A2.out.below hb)
    have B3 := Lib.hid (B2.out.trans (hb.mono B2.out.size))
    clear hb A2 B2
    rw [HSE.out]
    go_wp2_with fail
    refine (sSO HRU.out HH.out _ A3.out).mono ?_
    rintro e w4 ⟨rfl, hb⟩
    have A4 := Lib.hid (A3.out.below hb)
    have B4 := Lib.hid (B3.out.trans (hb.mono B3.out.size))
    clear hb A3 B3
    rw [HSE.out]
    go_wp2_with fail
    refine (iIS HI.out HRU.out HH.out _ A4.out).mono ?_
    rintro e w5 ⟨rfl, hb⟩
    have A5 := Lib.hid (A4.out.below hb)
    have B5 := Lib.hid (B4.out.trans (hb.mono B4.out.size))
    clear hb A4 B4
    go_wp2_with fail
    refine (sIS HI.out HRU.out HH.out _ A5.out).mono ?_
    rintro e w6 ⟨rfl, hb⟩
    have A6 := Lib.hid (A5.out.below hb)
    have B6 := Lib.hid (B5.out.trans (hb.mono B5.out.size))
    clear hb A5 B5
    go_wp2_with fail
    refine (iRGf HI.out HRU.out HH.out _ A6.out).mono ?_
    rintro e w7 ⟨rfl, hb⟩
    have A7 := Lib.hid (A6.out.below hb)
    have B7 := Lib.hid (B6.out.trans (hb.mono B6.out.size))
    clear hb A6 B6
    go_wp2_with fail
    refine (sRGf HI.out HRU.out HH.out _ A7.out).mono ?_
    rintro e w8 ⟨rfl, hb⟩
    have A8 := Lib.hid (A7.out.below hb)
    have B8 := Lib.hid (B7.out.trans (hb.mono B7.out.size))
    clear hb A7 B7
    have nP : ((parT ps h).toList != (parT ps h).toList) = false := by simp
    go_wp2_with fail
    refine (implRules _ _ ps _ A8.out.2.1 (rules_len HRU.out).1 (rules_len HRU.out).2 A8.out.1.2.1).mono ?_
    rintro e w9 ⟨rfl, hb⟩
    have A9 := Lib.hid (A8.out.below hb)
    have B9 := Lib.hid (B8.out.trans (hb.mono B8.out.size))
    clear hb A8 B8
    rw [HRU.out]
    go_wp2_with fail
    go_loopw [19] (fun i wr => ∃ k : Nat, k ≤ ps.length ∧ i = .int .i64 k ∧ AL wr W.heap.size (.slice a ps.length cap) ps ∧ Below W.heap.size W wr) (fun i _ => ps.length - (intOf i).toNat)
    case atStart => exact ⟨0, Nat.zero_le _, rfl, A9.out, B9.out⟩
    case round =>
      clear A9 B9
      obtain ⟨k, hk, rfl, hA, hB⟩ := hrel
      have A10 := Lib.hid hA
      have B10 := Lib.hid hB
      by_cases hlt : k < ps.length
      · obtain ⟨a2, cap2, e2, hx⟩ := hA.1.1
        injection e2 with e3 e4 e5
        subst e3
        clear e4 e5
        obtain ⟨g, rfl, _, hg2, _, hc⟩ := hx (by omega)
        obtain ⟨u, hu⟩ : ∃ u : ByteArray, u = ⟨ps[k].toArray⟩ := ⟨_, rfl⟩
        have c1 : wr.cell? ⟨g, k, none⟩ = some (.string u) := by rw [hu]; exact hc k hlt
        have HU : Hid (ruleB u = true) := Lib.hid (by rw [ruleB, hu]; simpa using List.all_eq_true.1 (rules_all HRU.out).2 _ (List.getElem_mem hlt))
        have hus := rule_size HU.out
        have husz : u.data.toList.length = u.size := by simp
        have s1 : (k : Int) < ps.length := by omega
        clear hc hx hA hB hu
        go_wp2_with fail
        refine (implRule u _ (by unfold maxLen; omega) A10.out.1.2.1).mono ?_
        rintro e wq ⟨rfl, hb⟩
        rw [HU.out]
        have AQ := Lib.hid (A10.out.below hb)
        have BQ := Lib.hid (B10.out.trans (hb.mono B10.out.size))
        clear hb
        go_wp2_with fail
        go_roundw
        case rel => exact ⟨k + 1, by omega, by go_num, AQ.out, BQ.out⟩
        case measure => simp [intOf]; omega
      · clear hA hB
        go_wp2_with fail
        refine (hostIn_any _ _ _ (C0.out.below B10.out)).mono ?_
        rintro e w11 ⟨x, rfl, hx, hb⟩
        have A11 := Lib.hid (A10.out.below hb)
        have B11 := Lib.hid (B10.out.trans (hb.mono B10.out.size))
        have HX := Lib.hid hx
        clear hb hx A10 B10
        obtain ⟨z, hz⟩ : ∃ z, parD ps h x = z := ⟨_, rfl⟩
        have HZ := Lib.hid hz
        have HZ2 : Hid (parD ps x h = z) := Lib.hid (by rw [par_turn, hz])
        have HZ3 := Lib.hid (par_self ps h)
        have nz : (z != z) = false := by simp
        clear hz
        go_wp2_with fail
        refine (iSM HRU.out HH.out HX.out _ A11.out).mono ?_
        rintro e w12 ⟨rfl, hb⟩
        have A12 := Lib.hid (A11.out.below hb)
        have B12 := Lib.hid (B11.out.trans (hb.mono B11.out.size))
        clear hb A11 B11
        rw [HZ.out]
        go_wp2_with fail
        refine (sSM HRU.out HH.out HX.out _ A12.out).mono ?_
        rintro e w13 ⟨rfl, hb⟩
        have A13 := Lib.hid (A12.out.below hb)
        have B13 := Lib.hid (B12.out.trans (hb.mono B12.out.size))
        clear hb A12 B12
        rw [HZ.out]
        go_wp2_with fail
        refine (iSM HRU.out HX.out HH.out _ A13.out).mono ?_
        rintro e w14 ⟨rfl, hb⟩
        have A14 := Lib.hid (A13.out.below hb)
        have B14 := Lib.hid (B13.out.trans (hb.mono B13.out.size))
        clear hb A13 B13
        rw [HZ2.out]
        go_wp2_with fail
        refine (iSM HRU.out HH.out HH.out _ A14.out).mono ?_
        rintro e w15 ⟨rfl, hb⟩
        have A15 := Lib.hid (A14.out.below hb)
        have B15 := Lib.hid (B14.out.trans (hb.mono B14.out.size))
        clear hb A14 B14
        rw [HZ3.out]
        go_wp2_with fail
        refine (specIsAddr h _ (by unfold maxLen; omega)).mono ?_
        rintro e w16 ⟨rfl, hb⟩
        have A16 := Lib.hid (A15.out.below hb)
        have B16 := Lib.hid (B15.out.trans (hb.mono B15.out.size))
        clear hb A15 B15
        rw [HAD.out]
        go_wp2_with fail
        go_ret
        exact ⟨rfl, B16.out⟩
  · have HI := Lib.hid hi
    have hpf := party_facts (rules_all HRU.out).2 HH.out ha hi
    have HPH := Lib.hid hpf.1
    have HPP := Lib.hid hpf.2.1
    have HPI := Lib.hid hpf.2.2.1
    have HPM := Lib.hid hpf.2.2.2
    have HPS : Hid (parD ps h (parT ps h) = true) := Lib.hid (by rw [parD, hpf.2.1]; exact decide_eq_true rfl)
    have HMT := Lib.hid hmt
    have HSS : Hid ((sufT ps h).size ≤ 1048576) := Lib.hid (by
      rw [matchB, Bool.and_eq_true, Bool.and_eq_true] at hmt
      exact host_small hmt.1.2)
    have nE : (h.toList != (sufT ps h).toList) = true := by
      rw [bne_iff_ne]
      intro e
      exact he (seq_of (by rw [e]; simp)).symm
    have nE2 : ¬ h.toList = (sufT ps h).toList := fun e => he (seq_of (by rw [e]; simp)).symm
    have HAD : Hid (isAddr h = false) := Lib.hid (by rw [isAddr, HH.out, ha]; rfl)
    clear he hi ha hmt hpf
    go_wp2_with fail
    refine (iSO HRU.out HH.out _ A2.out).mono ?_
    rintro e w3 ⟨rfl, hb⟩
    have A3 := Lib.hid (A2.out.below hb)
    have B3 := Lib.hid (B2.out.trans (hb.mono B2.out.size))
    clear hb A2 B2
    go_wp2_with fail
    refine (sSO HRU.out HH.out _ A3.out).mono ?_
    rintro e w4 ⟨rfl, hb⟩
    have A4 := Lib.hid (A3.out.below hb)
    have B4 := Lib.hid (B3.out.trans (hb.mono B3.out.size))
    clear hb A3 B3
    go_wp2_with fail
    refine (iIS HI.out HRU.out HH.out _ A4.out).mono ?_
    rintro e w5 ⟨rfl, hb⟩
    have A5 := Lib.hid (A4.out.below hb)
    have B5 := Lib.hid (B4.out.trans (hb.mono B4.out.size))
    clear hb A4 B4
    go_wp2_with fail
    refine (sIS HI.out HRU.out HH.out _ A5.out).mono ?_
    rintro e w6 ⟨rfl, hb⟩
    have A6 := Lib.hid (A5.out.below hb)
    have B6 := Lib.hid (B5.out.trans (hb.mono B5.out.size))
    clear hb A5 B5
    go_wp2_with fail
    refine (iRGf HI.out HRU.out HH.out _ A6.out).mono ?_
    rintro e w7 ⟨rfl, hb⟩
    have A7 := Lib.hid (A6.out.below hb)
    have B7 := Lib.hid (B6.out.trans (hb.mono B6.out.size))
    clear hb A6 B6
    go_wp2_with fail
    refine (sRGf HI.out HRU.out HH.out _ A7.out).mono ?_
    rintro e w8 ⟨rfl, hb⟩
    have A8 := Lib.hid (A7.out.below hb)
    have B8 := Lib.hid (B7.out.trans (hb.mono B7.out.size))
    clear hb A7 B7
    have nP : ((parT ps h).toList != (parT ps h).toList) = false := by simp
    go_wp2_with fail
    refine (implRules _ _ ps _ A8.out.2.1 (rules_len HRU.out).1 (rules_len HRU.out).2 A8.out.1.2.1).mono ?_
    rintro e w9 ⟨rfl, hb⟩
    have A9 := Lib.hid (A8.out.below hb)
    have B9 := Lib.hid (B8.out.trans (hb.mono B8.out.size))
    clear hb A8 B8
    rw [HRU.out]
    go_wp2_with fail
    refine (specMatch h (sufT ps h) _ (by unfold maxLen; omega) (by have := HSS.out; unfold maxLen; omega)).mono ?_
    rintro e w10 ⟨rfl, hb⟩
    have A10 := Lib.hid (A9.out.below hb)
    have B10 := Lib.hid (B9.out.trans (hb.mono B9.out.size))
    clear hb A9 B9
    rw [HMT.out]
    go_wp2_with fail
    go_loopw [19] (fun i wr => ∃ k : Nat, k ≤ ps.length ∧ i = .int .i64 k ∧ AL wr W.heap.size (.slice a ps.length cap) ps ∧ Below W.heap.size W wr) (fun i _ => ps.length - (intOf i).toNat)
    case atStart => exact ⟨0, Nat.zero_le _, rfl, A10.out, B10.out⟩
    case round =>
      clear A10 B10
      obtain ⟨k, hk, rfl, hA, hB⟩ := hrel
      have A11 := Lib.hid hA
      have B11 := Lib.hid hB
      by_cases hlt : k < ps.length
      · obtain ⟨a2, cap2, e2, hx⟩ := hA.1.1
        injection e2 with e3 e4 e5
        subst e3
        clear e4 e5
        obtain ⟨g, rfl, _, hg2, _, hc⟩ := hx (by omega)
        obtain ⟨u, hu⟩ : ∃ u : ByteArray, u = ⟨ps[k].toArray⟩ := ⟨_, rfl⟩
        have c1 : wr.cell? ⟨g, k, none⟩ = some (.string u) := by rw [hu]; exact hc k hlt
        have HU : Hid (ruleB u = true) := Lib.hid (by rw [ruleB, hu]; simpa using List.all_eq_true.1 (rules_all HRU.out).2 _ (List.getElem_mem hlt))
        have hus := rule_size HU.out
        have husz : u.data.toList.length = u.size := by simp
        have s1 : (k : Int) < ps.length := by omega
        clear hc hx hA hB hu
        go_wp2_with fail
        refine (implRule u _ (by unfold maxLen; omega) A11.out.1.2.1).mono ?_
        rintro e wq ⟨rfl, hb⟩
        rw [HU.out]
        have AQ := Lib.hid (A11.out.below hb)
        have BQ := Lib.hid (B11.out.trans (hb.mono B11.out.size))
        clear hb
        go_wp2_with fail
        go_roundw
        case rel => exact ⟨k + 1, by omega, by go_num, AQ.out, BQ.out⟩
        case measure => simp [intOf]; omega
      · clear hA hB
        go_wp2_with fail
        refine (hostIn_any _ _ _ (C0.out.below B11.out)).mono ?_
        rintro e w12 ⟨x, rfl, hx, hb⟩
        have A12 := Lib.hid (A11.out.below hb)
        have B12 := Lib.hid (B11.out.trans (hb.mono B11.out.size))
        have HX := Lib.hid hx
        clear hb hx A11 B11
        obtain ⟨z, hz⟩ : ∃ z, parD ps h x = z := ⟨_, rfl⟩
        have HZ := Lib.hid hz
        have HZ2 : Hid (parD ps x h = z) := Lib.hid (by rw [par_turn, hz])
        have HZ3 := Lib.hid (par_self ps h)
        have nz : (z != z) = false := by simp
        clear hz
        go_wp2_with fail
        refine (iSM HRU.out HH.out HX.out _ A12.out).mono ?_
        rintro e w13 ⟨rfl, hb⟩
        have A13 := Lib.hid (A12.out.below hb)
        have B13 := Lib.hid (B12.out.trans (hb.mono B12.out.size))
        clear hb A12 B12
        rw [HZ.out]
        go_wp2_with fail
        refine (sSM HRU.out HH.out HX.out _ A13.out).mono ?_
        rintro e w14 ⟨rfl, hb⟩
        have A14 := Lib.hid (A13.out.below hb)
        have B14 := Lib.hid (B13.out.trans (hb.mono B13.out.size))
        clear hb A13 B13
        rw [HZ.out]
        go_wp2_with fail
        refine (iSM HRU.out HX.out HH.out _ A14.out).mono ?_
        rintro e w15 ⟨rfl, hb⟩
        have A15 := Lib.hid (A14.out.below hb)
        have B15 := Lib.hid (B14.out.trans (hb.mono B14.out.size))
        clear hb A14 B14
        rw [HZ2.out]
        go_wp2_with fail
        refine (iSM HRU.out HH.out HH.out _ A15.out).mono ?_
        rintro e w16 ⟨rfl, hb⟩
        have A16 := Lib.hid (A15.out.below hb)
        have B16 := Lib.hid (B15.out.trans (hb.mono B15.out.size))
        clear hb A15 B15
        rw [HZ3.out]
        go_wp2_with fail
        refine (specIsAddr h _ (by unfold maxLen; omega)).mono ?_
        rintro e w17 ⟨rfl, hb⟩
        have A17 := Lib.hid (A16.out.below hb)
        have B17 := Lib.hid (B16.out.trans (hb.mono B16.out.size))
        clear hb A16 B16
        rw [HAD.out]
        go_wp2_with fail
        refine (iRGf HPI.out HRU.out HPH.out _ A17.out).mono ?_
        rintro e w18 ⟨rfl, hb⟩
        have A18 := Lib.hid (A17.out.below hb)
        have B18 := Lib.hid (B17.out.trans (hb.mono B17.out.size))
        clear hb A17 B17
        rw [HPP.out]
        go_wp2_with fail
        refine (iSM HRU.out HH.out HPH.out _ A18.out).mono ?_
        rintro e w19 ⟨rfl, hb⟩
        have A19 := Lib.hid (A18.out.below hb)
        have B19 := Lib.hid (B18.out.trans (hb.mono B18.out.size))
        clear hb A18 B18
        rw [HPS.out]
        have nQ : ((parT ps h).toList == (parT ps h).toList) = true := by simp
        go_wp2_with fail
        refine (implMatch h (parT ps h) _ (by unfold maxLen; omega) (by have := host_small HPH.out; unfold maxLen; omega) A19.out.1.2.1 A19.out.1.2.2.1 A19.out.1.2.2.2).mono ?_
        rintro e w20 ⟨rfl, hb⟩
        have A20 := Lib.hid (A19.out.below hb)
        have B20 := Lib.hid (B19.out.trans (hb.mono B19.out.size))
        clear hb A19 B19
        rw [HPM.out]
        go_wp2_with fail
        go_ret
        exact ⟨rfl, B20.out⟩
end Go.Proofs.YtihlflhgbnfkkaaGreatDoor
