/- What the program asks of the labels of a node's kids. No condition of its own. -/
import Derived.Test.YtcaabnnkjnleeaaDoorTrPre
import Derived.Test.YtcaabnnkjnleeaaDoorTrNodeW
import Derived.Test.YtcaabnnkjnleeaaDoorShelf
import Derived.Test.YtcaabnnkjnleeaaDoorText
import Derived.Test.YtcaabnnkjnleeaaDoorUpto
import Derived.Test.YtcaabnnkjnleeaaDoorSplit
import Derived.Test.YtcaabnnkjnleeaaDoorHostOK
namespace Go.Proofs.YtcaabnnkjnleeaaDoor
open Go.ChangeShapes Go.WideShapes Go.ChangeAt Go.WideMaps Go.WideElems Go.RowKit

theorem contains_dot (t : ByteArray) : decide (0 ≤ Lib.indexByte t.data.toList 46) = t.data.toList.contains 46 := by
  have h : findB t 46 < t.size ↔ ∃ x ∈ t.data.toList, (x == (46 : UInt8)) = true := by
    rw [findB, show t.size = t.data.toList.length by simp]
    exact List.findIdx_lt_length
  have hc : t.data.toList.contains 46 = true ↔ findB t 46 < t.size := by
    rw [h, List.contains_iff_mem]
    constructor
    · intro hm
      exact ⟨46, hm, by simp⟩
    · rintro ⟨x, hm, e⟩
      rw [← beq_iff_eq.1 e]
      exact hm
  rw [index_find]
  by_cases g : findB t 46 < t.size
  · rw [if_pos g, hc.2 g]
    simp
  · rw [if_neg g]
    cases e : t.data.toList.contains 46 with
    | false => rfl
    | true => exact absurd (hc.1 e) g
theorem noLabel_any (t : ByteArray) (w : World) (hs : t.size ≤ maxLen) (hT : TabAt w) : Calls Tryd.prog 74 #[.string t] w fun e w' => e = .returned (.bool (!lbB t)) ∧ Below w.heap.size w w' := by
  have HS := Lib.hid hs
  have HT := Lib.hid hT
  clear hs hT
  cases hh : hostB t with
  | false =>
    have HE : Hid ((!lbB t) = true) := Lib.hid (by rw [lbB, hh]; rfl)
    have HH := Lib.hid hh
    clear hh
    go_enter Tryd.func74, Tryd.ntmps74
    go_wp2_with (go_at_call 66; refine (implHostOK t _ HS.out HT.out).mono ?_; rintro e w1 ⟨rfl, hb⟩; rw [HH.out]; have HB := Lib.hid hb; clear hb)
    go_ret
    exact ⟨bool_end HE.out.symm, HB.out⟩
  | true =>
    have HE : Hid ((!lbB t) = t.data.toList.contains 46) := Lib.hid (by rw [lbB, hh, Bool.true_and, Bool.not_not])
    have HH := Lib.hid hh
    clear hh
    go_enter Tryd.func74, Tryd.ntmps74
    go_wp2_with (first
      | (go_at_call 66; refine (implHostOK t _ HS.out HT.out).mono ?_; rintro e w1 ⟨rfl, hb⟩; rw [HH.out]; have HB := Lib.hid hb; clear hb)
      | (go_at_call 98; refine (Tryd.strings_Contains_one t 46 _).mono ?_; rintro e w2 ⟨rfl, rfl⟩))
    go_ret
    exact ⟨bool_end (by rw [HE.out]; exact contains_dot t), HB.out⟩
set_option maxRecDepth 100000 in
theorem indexLabel_any (v : Value) (B : Nat) (ps : List (List UInt8)) (w : World) (hv : RowT w B v ps) (hl2 : ps.length ≤ 1048576) (hl : ∀ x ∈ ps, x.length ≤ 1048576) (hN : TabAt w) : Calls Tryd.prog 97 #[v, .func (.func 74) #[] #[]] w (FoundPost w (!ps.all (fun l => lbB (tOf l)))) := by
  obtain ⟨a, cap, rfl, hcells⟩ := hv
  have HC := Lib.hid hcells
  have HL := Lib.hid hl
  have HN := Lib.hid hN
  have hlen : ps.length ≤ 1048576 := hl2
  clear hl2
  clear hcells hl hN
  go_enter Tryd.func97, Tryd.ntmps97
  go_wp2
  go_loopw [8] (fun i wr => ∃ k : Nat, k ≤ ps.length ∧ i = .int .i64 k ∧ AllUpto (fun l => lbB (tOf l)) ps k ∧ Below w.heap.size w wr) (fun i _ => ps.length - (intOf i).toNat)
  case atStart => exact ⟨0, Nat.zero_le _, rfl, fun j hj h => by omega, Below.refl _ _⟩
  case round =>
    obtain ⟨k, hk, rfl, hup, hb⟩ := hrel
    have HU := Lib.hid hup
    have HB := Lib.hid hb
    clear hup hb
    by_cases hlt : k < ps.length
    · obtain ⟨g, rfl, _, hg2, _, hcl⟩ := HC.out (by omega)
      obtain ⟨u, hu⟩ : ∃ u : ByteArray, u = ⟨ps[k].toArray⟩ := ⟨_, rfl⟩
      have hud : u.data.toList = ps[k] := by rw [hu]
      have hcell : wr.cell? ⟨g, k, none⟩ = some (.string u) := by
        refine (HB.out.cell (p := ⟨g, k, none⟩) hg2).trans ?_
        rw [hcl k hlt, hu]
        rfl
      have hus : u.size ≤ 1048576 := by
        have h := HL.out ps[k] (List.getElem_mem hlt)
        rw [← hud] at h
        simpa using h
      have HD := Lib.hid hud
      have s1 : (k : Int) < ps.length := by omega
      clear hu hud hcl
      cases ho : lbB u with
      | true =>
        have HO := Lib.hid ho
        clear ho
        go_wp2_with (go_at_call 74; refine (noLabel_any u _ (by unfold maxLen; omega) (HN.out.below HB.out)).mono ?_; rintro e w' ⟨rfl, hb⟩; rw [HO.out]; have HB2 := Lib.hid hb; clear hb)
        go_roundw
        case rel => exact ⟨k + 1, by omega, by go_num, all_succ HU.out hlt (by rw [← HD.out]; show lbB (tOf _) = _; rw [tOf_of]; exact HO.out), HB.out.trans (HB2.out.mono HB.out.size)⟩
        case measure => simp [intOf]; omega
      | false =>
        have HO := Lib.hid ho
        clear ho
        go_wp2_with (go_at_call 74; refine (noLabel_any u _ (by unfold maxLen; omega) (HN.out.below HB.out)).mono ?_; rintro e w' ⟨rfl, hb⟩; rw [HO.out]; have HB2 := Lib.hid hb; clear hb)
        go_ret
        refine ⟨(k : Int), rfl, ?_, HB.out.trans (HB2.out.mono HB.out.size)⟩
        rw [all_not hlt (by rw [← HD.out]; show lbB (tOf _) = _; rw [tOf_of]; exact HO.out)]
        exact decide_eq_true (by omega)
    · go_wp2
      go_ret
      refine ⟨-1, rfl, ?_, HB.out⟩
      rw [all_of HU.out (by omega)]
      rfl
set_option maxRecDepth 100000 in
theorem containsLabel_any (v : Value) (B : Nat) (ps : List (List UInt8)) (w : World) (hv : RowT w B v ps) (hl2 : ps.length ≤ 1048576) (hl : ∀ x ∈ ps, x.length ≤ 1048576) (hN : TabAt w) : Calls Tryd.prog 73 #[v, .func (.func 74) #[] #[]] w fun e w' => e = .returned (.bool (!ps.all (fun l => lbB (tOf l)))) ∧ Below w.heap.size w w' := by
  have HV := Lib.hid hv
  have HL := Lib.hid hl
  have HN := Lib.hid hN
  clear hv hl hN
  go_enter Tryd.func73, Tryd.ntmps73
  go_wp2_with (go_at_call 97; refine (indexLabel_any v B ps _ HV.out hl2 HL.out HN.out).mono ?_; rintro e w1 ⟨r, rfl, hr, hb⟩; have HR := Lib.hid hr; have HB := Lib.hid hb; clear hr hb)
  go_ret
  exact ⟨bool_end HR.out, HB.out⟩
theorem incS_no {l : List ByteArray} {j : Nat} (hj : j + 1 < l.length) (h : ¬ l[j].toList < l[j + 1].toList) : incS l = false := by
  cases e : incS l with
  | false => rfl
  | true => exact absurd ((incS_iff l).1 e j hj) h
set_option maxHeartbeats 2000000 in
set_option maxRecDepth 100000 in
theorem risingS_any (v : Value) (B : Nat) (ps : List (List UInt8)) (w : World) (hl : ps.length ≤ 1048576) (hv : RowT w B v ps) : Calls Tryd.prog 75 #[v] w fun e w' => e = .returned (.bool (incS (ps.map tOf))) ∧ Below w.heap.size w w' := by
  obtain ⟨a, cap, rfl, hx⟩ := hv
  have HX := Lib.hid hx
  clear hx
  have hlen : (ps.map tOf).length = ps.length := by simp
  have HLEN := Lib.hid hlen
  clear hlen
  go_enter Tryd.func75, Tryd.ntmps75
  go_wp2
  go_loopw [3] (fun i wr => ∃ k : Nat, 1 ≤ k ∧ (k ≤ ps.length ∨ k = 1) ∧ i = .int .i64 k ∧ (∀ j (h : j + 1 < (ps.map tOf).length), j + 1 < k → (ps.map tOf)[j].toList < (ps.map tOf)[j + 1].toList) ∧ Below w.heap.size w wr) (fun i _ => ps.length + 1 - (intOf i).toNat)
  case atStart => exact ⟨1, Nat.le_refl _, Or.inr rfl, rfl, fun j h h2 => by omega, Below.refl _ _⟩
  case round =>
    obtain ⟨k, hk1, hk2, rfl, hup, hb⟩ := hrel
    have HB := Lib.hid hb
    have HU := Lib.hid hup
    clear hb hup
    by_cases hlt : k < ps.length
    · obtain ⟨m, rfl⟩ : ∃ m, k = m + 1 := ⟨k - 1, by omega⟩
      obtain ⟨g, rfl, _, hg, _, hcl⟩ := HX.out (by omega)
      obtain ⟨x, hx⟩ : ∃ x : ByteArray, strV ps[m + 1] = .string x := ⟨_, rfl⟩
      obtain ⟨y, hy⟩ : ∃ y : ByteArray, strV ps[m] = .string y := ⟨_, rfl⟩
      have c1 := (HB.out.cell (p := ⟨g, m + 1, none⟩) hg).trans (hcl (m + 1) hlt)
      have c2 := (HB.out.cell (p := ⟨g, m, none⟩) hg).trans (hcl m (by omega))
      rw [hx] at c1
      rw [hy] at c2
      have HXX : Hid ((ps.map tOf)[m + 1]'(by rw [HLEN.out]; exact hlt) = x) := Lib.hid (by
        rw [List.getElem_map]
        exact Value.string.inj hx)
      have HYY : Hid ((ps.map tOf)[m]'(by rw [HLEN.out]; omega) = y) := Lib.hid (by
        rw [List.getElem_map]
        exact Value.string.inj hy)
      have s1 : ((m : Int) + 1) < ps.length := by omega
      have s2 : (m : Int) < ps.length := by omega
      have s3 : (0 : Int) ≤ (m : Int) := by omega
      have s4 : (0 : Int) ≤ (m : Int) + 1 := by omega
      have hw1 : IntKind.i64.wrap (m : Int) = (m : Int) := by rw [IntKind.wrap_i64]; omega
      have hw2 : IntKind.i64.wrap ((m : Int) + 1 - 1) = (m : Int) := by rw [IntKind.wrap_i64]; omega
      clear hcl hx hy
      by_cases hle : y.toList < x.toList
      · have HN := Lib.hid hle
        have hq := leq_no hle
        clear hle
        go_wp2_with fail
        go_region
        all_goals go_wp2_with fail
        all_goals go_roundw
        case rel =>
          refine ⟨m + 2, by omega, Or.inl (by omega), by go_num, fun j h hj => ?_, HB.out.drew⟩
          by_cases e : j = m
          · subst e
            rw [HXX.out, HYY.out]
            exact HN.out
          · exact HU.out j h (by omega)
        case measure => simp [intOf]; omega
      · have HE : Hid (incS (ps.map tOf) = false) := Lib.hid (incS_no (by rw [HLEN.out]; exact hlt) (by rw [HXX.out, HYY.out]; exact hle))
        have hq := leq_yes hle
        clear hle
        go_wp2_with fail
        go_region
        all_goals go_wp2_with fail
        all_goals go_ret
        all_goals exact ⟨bool_end HE.out.symm, HB.out.drew⟩
    · have s1 : ¬ (k : Int) < ps.length := by omega
      have HE : Hid (incS (ps.map tOf) = true) := Lib.hid ((incS_iff _).2 fun j h => HU.out j h (by rw [HLEN.out] at h; omega))
      go_wp2
      go_ret
      exact ⟨bool_end HE.out.symm, HB.out⟩
end Go.Proofs.YtcaabnnkjnleeaaDoor
