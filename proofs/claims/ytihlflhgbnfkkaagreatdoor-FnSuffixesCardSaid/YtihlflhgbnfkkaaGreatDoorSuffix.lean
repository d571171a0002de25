/- Suffixes and parties in the program: what its functions answer. No condition of its own. -/
import Derived.Test.YtihlflhgbnfkkaaGreatDoorSufSize
namespace Go.Proofs.YtihlflhgbnfkkaaGreatDoor
open Go.ChangeShapes Go.WideShapes Go.ChangeAt Go.WideMaps Go.WideElems Go.RowKit

def sufN' (ps : List (List UInt8)) (host : ByteArray) : Nat := (sufI ps host).toNat
theorem suf_nat {ps : List (List UInt8)} {host : ByteArray} (h : ps.all ruleL = true) : sufI ps host = (sufN' ps host : Int) ∧ 0 < sufN' ps host ∧ sufN' ps host ≤ 7 := by
  have := sufI_in (host := host) h
  unfold sufN'
  omega
/-- The suffix of a host, and its party. -/
def sufT (ps : List (List UInt8)) (host : ByteArray) : ByteArray := tailB host (sufN' ps host)
def parT (ps : List (List UInt8)) (host : ByteArray) : ByteArray := tailB host (sufN' ps host + 1)
def isT (ps : List (List UInt8)) (host : ByteArray) : Bool := decide (sufT ps host = host) && !addrB host
/-- What a call of this chapter holds on to: the list, the tables. -/
def RuAt (w : World) (B : Nat) (v : Value) (ps : List (List UInt8)) : Prop := RowT w B v ps ∧ TabAt w ∧ MaxAt w ∧ NumAt w
theorem RuAt.below {w w' : World} {B : Nat} {v : Value} {ps : List (List UInt8)} (h : RuAt w B v ps) (hb : Below w.heap.size w w') : RuAt w' B v ps := ⟨h.1.below hb, h.2.1.below hb, h.2.2.1.below hb, h.2.2.2.below hb⟩
set_option maxRecDepth 100000 in
theorem suffixOf_any (v : Value) (B : Nat) (ps : List (List UInt8)) (host : ByteArray) (w : World) (hA : RuAt w B v ps) (hl : ps.length ≤ 1000) (hps : ps.all ruleL = true) (hh : host.size ≤ 40) : Calls Tryz.prog 65 #[v, .string host] w fun e w' => e = .returned (.string (sufT ps host)) ∧ Below w.heap.size w w' := by
  have HA := Lib.hid hA
  obtain ⟨hv, _, hm, hN⟩ := hA
  have HV := Lib.hid hv
  obtain ⟨a, cap, rfl, _⟩ := hv
  obtain ⟨e1, e2, e3⟩ := suf_nat (host := host) hps
  have HSZ := Lib.hid (sufSize_any B a cap ps host w HV.out hl hps hh hm hN)
  clear hps
  obtain ⟨n, hn⟩ : ∃ n, sufN' ps host = n := ⟨_, rfl⟩
  have HE : Hid (sufT ps host = tailB host n) := Lib.hid (by rw [sufT, hn])
  rw [hn] at e1 e2 e3
  rw [e1] at HSZ
  clear hn e1 hm hN
  go_enter Tryz.func65, Tryz.ntmps65
  go_wp2_with fail
  refine HSZ.out.mono ?_
  rintro e w1 ⟨rfl, hb⟩
  have HB := Lib.hid hb
  clear hb
  go_wp2_with fail
  refine (last_any host n _ hh e2 (by omega) (HA.out.2.2.1.below HB.out)).mono ?_
  rintro e w2 ⟨rfl, hb⟩
  have HB2 := Lib.hid (HB.out.trans (hb.mono HB.out.size))
  clear hb
  go_wp2_with fail
  go_ret
  exact ⟨by rw [HE.out]; rfl, HB2.out⟩
set_option maxRecDepth 100000 in
theorem partyOf_any (v : Value) (B : Nat) (ps : List (List UInt8)) (host : ByteArray) (w : World) (hA : RuAt w B v ps) (hl : ps.length ≤ 1000) (hps : ps.all ruleL = true) (hh : host.size ≤ 40) : Calls Tryz.prog 70 #[v, .string host] w fun e w' => e = .returned (.string (parT ps host)) ∧ Below w.heap.size w w' := by
  have HA := Lib.hid hA
  obtain ⟨hv, _, hm, hN⟩ := hA
  have HV := Lib.hid hv
  obtain ⟨a, cap, rfl, _⟩ := hv
  obtain ⟨e1, e2, e3⟩ := suf_nat (host := host) hps
  have HSZ := Lib.hid (sufSize_any B a cap ps host w HV.out hl hps hh hm hN)
  clear hps
  obtain ⟨n, hn⟩ : ∃ n, sufN' ps host = n := ⟨_, rfl⟩
  have HE : Hid (parT ps host = tailB host (n + 1)) := Lib.hid (by rw [parT, hn])
  rw [hn] at e1 e2 e3
  rw [e1] at HSZ
  clear hn e1 hm hN
  have hcast : ((n : Int) + 1) = ((n + 1 : Nat) : Int) := by omega
  have HL := Lib.hid (fun W' (h : MaxAt W') => last_any host (n + 1) W' hh (by omega) (by omega) h)
  rw [show (((n + 1 : Nat) : Int)) = (n : Int) + 1 by omega] at HL
  clear hcast
  go_enter Tryz.func70, Tryz.ntmps70
  go_wp2_with fail
  refine HSZ.out.mono ?_
  rintro e w1 ⟨rfl, hb⟩
  have HB := Lib.hid hb
  clear hb
  go_wp2_with fail
  refine (HL.out _ (HA.out.2.2.1.below HB.out)).mono ?_
  rintro e w2 ⟨rfl, hb⟩
  have HB2 := Lib.hid (HB.out.trans (hb.mono HB.out.size))
  clear hb
  go_wp2_with fail
  go_ret
  exact ⟨by rw [HE.out]; rfl, HB2.out⟩
set_option maxRecDepth 100000 in
theorem isSuffix_any (v : Value) (B : Nat) (ps : List (List UInt8)) (host : ByteArray) (w : World) (hA : RuAt w B v ps) (hl : ps.length ≤ 1000) (hps : ps.all ruleL = true) (hh : host.size ≤ 40) : Calls Tryz.prog 68 #[v, .string host] w fun e w' => e = .returned (.bool (isT ps host)) ∧ Below w.heap.size w w' := by
  have HA := Lib.hid hA
  have HP := Lib.hid hps
  obtain ⟨⟨a, cap, rfl, _⟩, _, _, _⟩ := hA
  clear hps
  cases he : ((sufT ps host).toList == host.toList) with
  | false =>
    have HE : Hid (isT ps host = false) := Lib.hid (by rw [isT, decide_eq_false (sne_of he)]; rfl)
    go_enter Tryz.func68, Tryz.ntmps68
    go_wp2_with (go_at_call 65; refine (suffixOf_any _ B ps host _ HA.out hl HP.out hh).mono ?_; rintro e w1 ⟨rfl, hb⟩; have HB := Lib.hid hb; clear hb)
    go_ret
    exact ⟨bool_end HE.out.symm, HB.out⟩
  | true =>
    have HE : Hid (isT ps host = !addrB host) := Lib.hid (by rw [isT, decide_eq_true (seq_of he)]; rfl)
    go_enter Tryz.func68, Tryz.ntmps68
    go_wp2_with (first
      | (go_at_call 65; refine (suffixOf_any _ B ps host _ HA.out hl HP.out hh).mono ?_; rintro e w1 ⟨rfl, hb⟩; have HB := Lib.hid hb; clear hb)
      | (go_at_call 81; refine (isAddress_any host _ (by omega) (HA.out.2.2.1.below HB.out) (HA.out.2.2.2.below HB.out)).mono ?_; rintro e w2 ⟨rfl, hb⟩; have HB2 := Lib.hid hb; clear hb))
    go_ret
    exact ⟨bool_end HE.out.symm, HB.out.trans (HB2.out.mono HB.out.size)⟩
def hostL (l : List UInt8) : Bool := hostB (tOf l)
/-- The first error of a call's arguments. -/
def argC (ps hs : List (List UInt8)) : Int := if ps.length ≤ 4096 ∧ hs.all shortL = true then (if rulesL ps = true then (if hs.all hostL = true then 0 else 3) else 1) else 2
set_option maxRecDepth 100000 in
theorem args_any (v u : Value) (B D : Nat) (ps hs : List (List UInt8)) (w : World) (hv : RowT w B v ps) (hu : RowT w D u hs) (hl : ps.length ≤ 1048576) (hm : ∀ x ∈ ps, x.length ≤ 1048576) (hl2 : hs.length ≤ 1048576) (hm2 : ∀ x ∈ hs, x.length ≤ 1048576) (hT : TabAt w) :
    Calls Tryz.prog 64 #[v, u] w fun e w' => e = .returned (.int .i64 (argC ps hs)) ∧ Below w.heap.size w w' := by
  have HV := Lib.hid hv
  have HU := Lib.hid hu
  have HM := Lib.hid hm
  have HM2 := Lib.hid hm2
  have HT := Lib.hid hT
  obtain ⟨a, cap, rfl, _⟩ := hv
  obtain ⟨a2, cap2, rfl, _⟩ := hu
  clear hm hm2 hT
  by_cases h1 : ps.length ≤ 4096
  · cases h2 : hs.all shortL with
    | false =>
      have HE : Hid (argC ps hs = 2) := Lib.hid (by rw [argC, if_neg (by rw [h2]; simp)])
      have H2 := Lib.hid h2
      clear h2
      go_enter Tryz.func64, Tryz.ntmps64
      go_wp2_with (go_at_call 72; refine (containsLong_any _ D hs _ HU.out hl2 HM2.out HT.out).mono ?_; rintro e w1 ⟨rfl, hb⟩; rw [H2.out]; have HB := Lib.hid hb; clear hb)
      go_ret
      exact ⟨by rw [HE.out]; rfl, HB.out⟩
    | true =>
      have H2 := Lib.hid h2
      cases h3 : rulesL ps with
      | false =>
        have HE : Hid (argC ps hs = 1) := Lib.hid (by rw [argC, if_pos ⟨h1, h2⟩, if_neg (by rw [h3]; simp)])
        have H3 := Lib.hid h3
        clear h2 h3
        go_enter Tryz.func64, Tryz.ntmps64
        go_wp2_with (first
          | (go_at_call 72; refine (containsLong_any _ D hs _ HU.out hl2 HM2.out HT.out).mono ?_; rintro e w1 ⟨rfl, hb⟩; rw [H2.out]; have HB := Lib.hid hb; clear hb)
          | (go_at_call 28; refine (implRules _ B ps _ (HV.out.below HB.out) hl HM.out (HT.out.below HB.out)).mono ?_; rintro e w2 ⟨rfl, hb⟩; rw [H3.out]; have HB2 := Lib.hid (HB.out.trans (hb.mono HB.out.size)); clear hb))
        go_ret
        exact ⟨by rw [HE.out]; rfl, HB2.out⟩
      | true =>
        have H3 := Lib.hid h3
        cases h4 : hs.all hostL with
        | false =>
          have HE : Hid (argC ps hs = 3) := Lib.hid (by rw [argC, if_pos ⟨h1, h2⟩, if_pos h3, if_neg (by rw [h4]; simp)])
          have H4 : Hid (hs.all (fun l => hostB (tOf l)) = false) := Lib.hid h4
          clear h2 h3 h4
          go_enter Tryz.func64, Tryz.ntmps64
          go_wp2_with fail
          refine (containsLong_any _ D hs _ HU.out hl2 HM2.out HT.out).mono ?_
          rintro e w1 ⟨rfl, hb⟩
          rw [H2.out]
          have HB := Lib.hid hb
          clear hb
          go_wp2_with fail
          refine (implRules _ B ps _ (HV.out.below HB.out) hl HM.out (HT.out.below HB.out)).mono ?_
          rintro e w2 ⟨rfl, hb⟩
          rw [H3.out]
          have HB2 := Lib.hid (HB.out.trans (hb.mono HB.out.size))
          clear hb
          go_wp2_with fail
          refine (containsHost_any _ D hs _ (HU.out.below HB2.out) hl2 HM2.out (HT.out.below HB2.out)).mono ?_
          rintro e w3 ⟨rfl, hb⟩
          rw [H4.out]
          have HB3 := Lib.hid (HB2.out.trans (hb.mono HB2.out.size))
          clear hb
          go_wp2_with fail
          go_ret
          exact ⟨by rw [HE.out]; rfl, HB3.out⟩
        | true =>
          have HE : Hid (argC ps hs = 0) := Lib.hid (by rw [argC, if_pos ⟨h1, h2⟩, if_pos h3, if_pos h4])
          have H4 : Hid (hs.all (fun l => hostB (tOf l)) = true) := Lib.hid h4
          clear h2 h3 h4
          go_enter Tryz.func64, Tryz.ntmps64
          go_wp2_with fail
          refine (containsLong_any _ D hs _ HU.out hl2 HM2.out HT.out).mono ?_
          rintro e w1 ⟨rfl, hb⟩
          rw [H2.out]
          have HB := Lib.hid hb
          clear hb
          go_wp2_with fail
          refine (implRules _ B ps _ (HV.out.below HB.out) hl HM.out (HT.out.below HB.out)).mono ?_
          rintro e w2 ⟨rfl, hb⟩
          rw [H3.out]
          have HB2 := Lib.hid (HB.out.trans (hb.mono HB.out.size))
          clear hb
          go_wp2_with fail
          refine (containsHost_any _ D hs _ (HU.out.below HB2.out) hl2 HM2.out (HT.out.below HB2.out)).mono ?_
          rintro e w3 ⟨rfl, hb⟩
          rw [H4.out]
          have HB3 := Lib.hid (HB2.out.trans (hb.mono HB2.out.size))
          clear hb
          go_wp2_with fail
          go_ret
          exact ⟨by rw [HE.out]; rfl, HB3.out⟩
  · have HE : Hid (argC ps hs = 2) := Lib.hid (by rw [argC, if_neg (fun h => h1 h.1)])
    go_enter Tryz.func64, Tryz.ntmps64
    go_wp2
    go_ret
    exact ⟨by rw [HE.out]; rfl, Below.refl _ _⟩
theorem arg_ok {ps hs : List (List UInt8)} (h : argC ps hs = 0) : rulesL ps = true ∧ hs.all hostL = true := by
  unfold argC at h
  split at h
  · split at h
    · split at h
      · rename_i h1 h2 h3
        exact ⟨h2, h3⟩
      · omega
    · omega
  · omega
theorem rules_all {ps : List (List UInt8)} (h : rulesL ps = true) : ps.length ≤ 8 ∧ ps.all ruleL = true := by
  rw [rulesL, Bool.and_eq_true, Bool.and_eq_true, decide_eq_true_eq] at h
  exact ⟨h.1, h.2.1⟩
theorem host_40 {hs : List (List UInt8)} (h : hs.all hostL = true) {t : ByteArray} (ht : t.data.toList ∈ hs) : hostB t = true ∧ t.size ≤ 40 := by
  have h1 := List.all_eq_true.1 h _ ht
  rw [hostL, tOf_of] at h1
  exact ⟨h1, (host_size h1).2⟩
theorem one_row (w : World) (t : ByteArray) : RowT (w.alloc (.cells #[.string t] 9)) w.heap.size (.slice (some ⟨w.heap.size, 0, none⟩) 1 1) [t.data.toList] := by
  refine ⟨some ⟨w.heap.size, 0, none⟩, 1, rfl, fun _ => ⟨w.heap.size, rfl, Nat.le_refl _, by simp, fun j _ => frozen_none (heap_alloc_new w _) j, fun j hj => ?_⟩⟩
  obtain rfl : j = 0 := by simpa using hj
  rw [World.cell?_alloc_at _ _ _ _ rfl]
  simp [strV]
theorem two_row (w : World) (s t : ByteArray) : RowT (w.alloc (.cells #[.string s, .string t] 9)) w.heap.size (.slice (some ⟨w.heap.size, 0, none⟩) 2 2) [s.data.toList, t.data.toList] := by
  refine ⟨some ⟨w.heap.size, 0, none⟩, 2, rfl, fun _ => ⟨w.heap.size, rfl, Nat.le_refl _, by simp, fun j _ => frozen_none (heap_alloc_new w _) j, fun j hj => ?_⟩⟩
  rw [World.cell?_alloc_at _ _ _ _ rfl]
  match j, hj with
  | 0, _ => simp [strV]
  | 1, _ => simp [strV]
def sofV (ps : List (List UInt8)) (t : ByteArray) : ByteArray := if argC ps [t.data.toList] = 0 then sufT ps t else ⟨#[]⟩
def isV (ps : List (List UInt8)) (t : ByteArray) : Bool := if argC ps [t.data.toList] = 0 then isT ps t else false
def regC (ps : List (List UInt8)) (t : ByteArray) : Int := if argC ps [t.data.toList] = 0 then (if isT ps t then 5 else 0) else argC ps [t.data.toList]
def regV (ps : List (List UInt8)) (t : ByteArray) : ByteArray := if argC ps [t.data.toList] = 0 then (if isT ps t then ⟨#[]⟩ else parT ps t) else ⟨#[]⟩
def sameV (ps : List (List UInt8)) (s t : ByteArray) : Bool := if argC ps [s.data.toList, t.data.toList] = 0 then decide (parT ps s = parT ps t) else false
set_option maxHeartbeats 1000000 in
set_option maxRecDepth 100000 in
theorem implSuffixOf (v : Value) (B : Nat) (ps : List (List UInt8)) (t : ByteArray) (w : World) (hA : RuAt w B v ps) (hl : ps.length ≤ 1048576) (hm : ∀ x ∈ ps, x.length ≤ 1048576) (ht : t.size ≤ 1048576) : Calls Tryz.prog 22 #[v, .string t] w fun e w' => e = .returned (.tuple #[.string (sofV ps t), .int .i64 (argC ps [t.data.toList])]) ∧ Below w.heap.size w w' := by
  have HA := Lib.hid hA
  have HM := Lib.hid hm
  obtain ⟨⟨a, cap, rfl, _⟩, _, _, _⟩ := hA
  clear hm
  have H1 : Hid (∀ x ∈ [t.data.toList], x.length ≤ 1048576) := Lib.hid (fun x hx => by
    simp only [List.mem_singleton] at hx
    subst hx
    simpa using ht)
  have hb0 := (Below.refl w.heap.size w).alloc (Nat.le_refl _) (.cells #[.string t] 9)
  have HB0 := Lib.hid hb0
  clear hb0
  go_enter Tryz.func22, Tryz.ntmps22
  go_wp2_with fail
  refine (args_any _ _ B w.heap.size ps [t.data.toList] _ (HA.out.1.below HB0.out) (one_row w t) hl HM.out (by simp) H1.out (HA.out.2.1.below HB0.out)).mono ?_
  rintro e w1 ⟨rfl, hb⟩
  have HB1 := Lib.hid (HB0.out.trans (hb.mono HB0.out.size))
  clear hb
  by_cases hc : argC ps [t.data.toList] = 0
  · obtain ⟨h1, h2⟩ := arg_ok hc
    obtain ⟨h3, h4⟩ := rules_all h1
    have HP := Lib.hid h4
    have h5 := (host_40 h2 (t := t) (by simp)).2
    have HV : Hid (sofV ps t = sufT ps t) := Lib.hid (by rw [sofV, if_pos hc])
    have HC := Lib.hid hc
    rw [hc]
    clear h1 h2 h4 hc
    go_wp2_with fail
    refine (suffixOf_any _ B ps t _ (HA.out.below HB1.out) (by omega) HP.out h5).mono ?_
    rintro e w2 ⟨rfl, hb⟩
    have HB2 := Lib.hid (HB1.out.trans (hb.mono HB1.out.size))
    clear hb
    go_wp2_with fail
    go_ret2
    exact ⟨by rw [HV.out, HC.out]; rfl, HB2.out⟩
  · have HV : Hid (sofV ps t = ⟨#[]⟩) := Lib.hid (by rw [sofV, if_neg hc])
    have hne : (argC ps [t.data.toList] != 0) = true := by simpa using hc
    go_wp2_with fail
    go_ret2
    exact ⟨by rw [HV.out]; rfl, HB1.out⟩
set_option maxHeartbeats 1000000 in
set_option maxRecDepth 100000 in
theorem implIsSuffix (v : Value) (B : Nat) (ps : List (List UInt8)) (t : ByteArray) (w : World) (hA : RuAt w B v ps) (hl : ps.length ≤ 1048576) (hm : ∀ x ∈ ps, x.length ≤ 1048576) (ht : t.size ≤ 1048576) : Calls Tryz.prog 24 #[v, .string t] w fun e w' => e = .returned (.tuple #[.bool (isV ps t), .int .i64 (argC ps [t.data.toList])]) ∧ Below w.heap.size w w' := by
  have HA := Lib.hid hA
  have HM := Lib.hid hm
  obtain ⟨⟨a, cap, rfl, _⟩, _, _, _⟩ := hA
  clear hm
  have H1 : Hid (∀ x ∈ [t.data.toList], x.length ≤ 1048576) := Lib.hid (fun x hx => by
    simp only [List.mem_singleton] at hx
    subst hx
    simpa using ht)
  have hb0 := (Below.refl w.heap.size w).alloc (Nat.le_refl _) (.cells #[.string t] 9)
  have HB0 := Lib.hid hb0
  clear hb0
  go_enter Tryz.func24, Tryz.ntmps24
  go_wp2_with fail
  refine (args_any _ _ B w.heap.size ps [t.data.toList] _ (HA.out.1.below HB0.out) (one_row w t) hl HM.out (by simp) H1.out (HA.out.2.1.below HB0.out)).mono ?_
  rintro e w1 ⟨rfl, hb⟩
  have HB1 := Lib.hid (HB0.out.trans (hb.mono HB0.out.size))
  clear hb
  by_cases hc : argC ps [t.data.toList] = 0
  · obtain ⟨h1, h2⟩ := arg_ok hc
    obtain ⟨h3, h4⟩ := rules_all h1
    have HP := Lib.hid h4
    have h5 := (host_40 h2 (t := t) (by simp)).2
    have HV : Hid (isV ps t = isT ps t) := Lib.hid (by rw [isV, if_pos hc])
    have HC := Lib.hid hc
    rw [hc]
    clear h1 h2 h4 hc
    go_wp2_with fail
    refine (isSuffix_any _ B ps t _ (HA.out.below HB1.out) (by omega) HP.out h5).mono ?_
    rintro e w2 ⟨rfl, hb⟩
    have HB2 := Lib.hid (HB1.out.trans (hb.mono HB1.out.size))
    clear hb
    go_wp2_with fail
    go_ret2
    exact ⟨by rw [HV.out, HC.out]; rfl, HB2.out⟩
  · have HV : Hid (isV ps t = false) := Lib.hid (by rw [isV, if_neg hc])
    have hne : (argC ps [t.data.toList] != 0) = true := by simpa using hc
    go_wp2_with fail
    go_ret2
    exact ⟨by rw [HV.out]; rfl, HB1.out⟩
set_option maxHeartbeats 1000000 in
set_option maxRecDepth 100000 in
theorem implReg (v : Value) (B : Nat) (ps : List (List UInt8)) (t : ByteArray) (w : World) (hA : RuAt w B v ps) (hl : ps.length ≤ 1048576) (hm : ∀ x ∈ ps, x.length ≤ 1048576) (ht : t.size ≤ 1048576) : Calls Tryz.prog 26 #[v, .string t] w fun e w' => e = .returned (.tuple #[.string (regV ps t), .int .i64 (regC ps t)]) ∧ Below w.heap.size w w' := by
  have HA := Lib.hid hA
  have HM := Lib.hid hm
  obtain ⟨⟨a, cap, rfl, _⟩, _, _, _⟩ := hA
  clear hm
  have H1 : Hid (∀ x ∈ [t.data.toList], x.length ≤ 1048576) := Lib.hid (fun x hx => by
    simp only [List.mem_singleton] at hx
    subst hx
    simpa using ht)
  have hb0 := (Below.refl w.heap.size w).alloc (Nat.le_refl _) (.cells #[.string t] 9)
  have HB0 := Lib.hid hb0
  clear hb0
  go_enter Tryz.func26, Tryz.ntmps26
  go_wp2_with fail
  refine (args_any _ _ B w.heap.size ps [t.data.toList] _ (HA.out.1.below HB0.out) (one_row w t) hl HM.out (by simp) H1.out (HA.out.2.1.below HB0.out)).mono ?_
  rintro e w1 ⟨rfl, hb⟩
  have HB1 := Lib.hid (HB0.out.trans (hb.mono HB0.out.size))
  clear hb
  by_cases hc : argC ps [t.data.toList] = 0
  · obtain ⟨h1, h2⟩ := arg_ok hc
    obtain ⟨h3, h4⟩ := rules_all h1
    have HP := Lib.hid h4
    have h5 := (host_40 h2 (t := t) (by simp)).2
    have HC := Lib.hid hc
    rw [hc]
    clear h1 h2 h4 hc
    go_wp2_with fail
    refine (isSuffix_any _ B ps t _ (HA.out.below HB1.out) (by omega) HP.out h5).mono ?_
    rintro e w2 ⟨rfl, hb⟩
    have HB2 := Lib.hid (HB1.out.trans (hb.mono HB1.out.size))
    clear hb
    cases hi : isT ps t with
    | true =>
      have HV : Hid (regV ps t = ⟨#[]⟩) := Lib.hid (by rw [regV, if_pos HC.out, hi, if_pos rfl])
      have HV2 : Hid (regC ps t = 5) := Lib.hid (by rw [regC, if_pos HC.out, hi, if_pos rfl])
      go_wp2_with fail
      go_ret2
      exact ⟨by rw [HV.out, HV2.out]; rfl, HB2.out⟩
    | false =>
      have HV : Hid (regV ps t = parT ps t) := Lib.hid (by rw [regV, if_pos HC.out, hi, if_neg Bool.false_ne_true])
      have HV2 : Hid (regC ps t = 0) := Lib.hid (by rw [regC, if_pos HC.out, hi, if_neg Bool.false_ne_true])
      go_wp2_with fail
      refine (partyOf_any _ B ps t _ (HA.out.below HB2.out) (by omega) HP.out h5).mono ?_
      rintro e w3 ⟨rfl, hb⟩
      have HB3 := Lib.hid (HB2.out.trans (hb.mono HB2.out.size))
      clear hb
      go_wp2_with fail
      go_ret2
      exact ⟨by rw [HV.out, HV2.out]; rfl, HB3.out⟩
  · have HV : Hid (regV ps t = ⟨#[]⟩) := Lib.hid (by rw [regV, if_neg hc])
    have HV2 : Hid (regC ps t = argC ps [t.data.toList]) := Lib.hid (by rw [regC, if_neg hc])
    have hne : (argC ps [t.data.toList] != 0) = true := by simpa using hc
    go_wp2_with fail
    go_ret2
    exact ⟨by rw [HV.out, HV2.out]; rfl, HB1.out⟩
set_option maxHeartbeats 1000000 in
set_option maxRecDepth 100000 in
theorem implSame (v : Value) (B : Nat) (ps : List (List UInt8)) (s t : ByteArray) (w : World) (hA : RuAt w B v ps) (hl : ps.length ≤ 1048576) (hm : ∀ x ∈ ps, x.length ≤ 1048576) (hs : s.size ≤ 1048576) (ht : t.size ≤ 1048576) : Calls Tryz.prog 31 #[v, .string s, .string t] w fun e w' => e = .returned (.tuple #[.bool (sameV ps s t), .int .i64 (argC ps [s.data.toList, t.data.toList])]) ∧ Below w.heap.size w w' := by
  have HA := Lib.hid hA
  have HM := Lib.hid hm
  obtain ⟨⟨a, cap, rfl, _⟩, _, _, _⟩ := hA
  clear hm
  have H1 : Hid (∀ x ∈ [s.data.toList, t.data.toList], x.length ≤ 1048576) := Lib.hid (fun x hx => by
    simp only [List.mem_cons, List.not_mem_nil, or_false] at hx
    rcases hx with rfl | rfl
    · simpa using hs
    · simpa using ht)
  have hb0 := (Below.refl w.heap.size w).alloc (Nat.le_refl _) (.cells #[.string s, .string t] 9)
  have HB0 := Lib.hid hb0
  clear hb0
  go_enter Tryz.func31, Tryz.ntmps31
  go_wp2_with fail
  refine (args_any _ _ B w.heap.size ps [s.data.toList, t.data.toList] _ (HA.out.1.below HB0.out) (two_row w s t) hl HM.out (by simp) H1.out (HA.out.2.1.below HB0.out)).mono ?_
  rintro e w1 ⟨rfl, hb⟩
  have HB1 := Lib.hid (HB0.out.trans (hb.mono HB0.out.size))
  clear hb
  by_cases hc : argC ps [s.data.toList, t.data.toList] = 0
  · obtain ⟨h1, h2⟩ := arg_ok hc
    obtain ⟨h3, h4⟩ := rules_all h1
    have HP := Lib.hid h4
    have h5 := (host_40 h2 (t := s) (by simp)).2
    have h6 := (host_40 h2 (t := t) (by simp)).2
    have HC := Lib.hid hc
    rw [hc]
    have HV : Hid (sameV ps s t = ((parT ps s).toList == (parT ps t).toList)) := Lib.hid (by
      rw [sameV, if_pos hc]
      cases e : ((parT ps s).toList == (parT ps t).toList) with
      | true => exact decide_eq_true (seq_of e)
      | false => exact decide_eq_false (sne_of e))
    clear h1 h2 h4 hc
    go_wp2_with fail
    refine (partyOf_any _ B ps s _ (HA.out.below HB1.out) (by omega) HP.out h5).mono ?_
    rintro e w2 ⟨rfl, hb⟩
    have HB2 := Lib.hid (HB1.out.trans (hb.mono HB1.out.size))
    clear hb
    go_wp2_with fail
    refine (partyOf_any _ B ps t _ (HA.out.below HB2.out) (by omega) HP.out h6).mono ?_
    rintro e w3 ⟨rfl, hb⟩
    have HB3 := Lib.hid (HB2.out.trans (hb.mono HB2.out.size))
    clear hb
    go_wp2_with fail
    go_ret2
    exact ⟨by rw [HV.out, HC.out]; rfl, HB3.out⟩
  · have HV : Hid (sameV ps s t = false) := Lib.hid (by rw [sameV, if_neg hc])
    have hne : (argC ps [s.data.toList, t.data.toList] != 0) = true := by simpa using hc
    go_wp2_with fail
    go_ret2
    exact ⟨by rw [HV.out]; rfl, HB1.out⟩
end Go.Proofs.YtihlflhgbnfkkaaGreatDoor
