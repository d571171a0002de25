/- RulesOK of the program and of the model: what they answer; the law's walk. No condition of its own. -/
import Derived.Test.YtcaabnnkjnleeaaDoorAnyFn
import Derived.Test.YtcaabnnkjnleeaaDoorDiff
import Derived.Test.YtcaabnnkjnleeaaDoorArgs
import Derived.Test.YtcaabnnkjnleeaaDoorBelowCls
import Derived.Deep.QuietTactic
import Derived.BigQuiet
import Derived.Stop.LaidErr
namespace Go.Proofs.YtcaabnnkjnleeaaDoor
open Go.ChangeShapes Go.WideShapes Go.ChangeAt Go.WideMaps Go.WideElems Go.RowKit

set_option maxHeartbeats 1000000 in
set_option maxRecDepth 100000 in
theorem implRules (v : Value) (B : Nat) (ps : List (List UInt8)) (w : World) (hv : RowT w B v ps) (hl : ps.length ≤ 1048576) (hm : ∀ x ∈ ps, x.length ≤ 1048576) (hT : TabAt w) : Calls Tryd.prog 57 #[v] w fun e w' => e = .returned (.bool (rulesL ps)) ∧ Below w.heap.size w w' := by
  have HV := Lib.hid hv
  have HM := Lib.hid hm
  have HT := Lib.hid hT
  obtain ⟨a, cap, rfl, _⟩ := hv
  clear hm hT
  by_cases h8 : ps.length ≤ 8
  · cases hr : ps.all ruleL with
    | false =>
      have HE : Hid (rulesL ps = false) := Lib.hid (by rw [rulesL, hr, decide_eq_true h8]; rfl)
      have HR := Lib.hid hr
      clear hr
      go_enter Tryd.func57, Tryd.ntmps57
      go_wp2_with (go_at_call 73; refine (containsRule_any _ B ps _ HV.out hl HM.out HT.out).mono ?_; rintro e w1 ⟨rfl, hb⟩; rw [HR.out]; have HB := Lib.hid hb; clear hb)
      go_ret
      exact ⟨bool_end HE.out.symm, HB.out⟩
    | true =>
      have HE : Hid (rulesL ps = diffL ps) := Lib.hid (by rw [rulesL, hr, decide_eq_true h8]; rfl)
      have HZ : Hid (∀ x ∈ ps, x.length ≤ 1000) := Lib.hid fun x hx => by
        have := (rule_size (List.all_eq_true.1 hr x hx)).1
        omega
      have HR := Lib.hid hr
      clear hr
      go_enter Tryd.func57, Tryd.ntmps57
      go_wp2_with (first
        | (go_at_call 73; refine (containsRule_any _ B ps _ HV.out hl HM.out HT.out).mono ?_; rintro e w1 ⟨rfl, hb⟩; rw [HR.out]; have HB := Lib.hid hb; clear hb)
        | (go_at_call 86; refine (allDifferent_any _ B ps _ (HV.out.below HB.out) (by omega) HZ.out).mono ?_; rintro e w2 ⟨rfl, hb⟩; have HB2 := Lib.hid hb; clear hb))
      go_ret
      exact ⟨bool_end HE.out.symm, HB.out.trans (HB2.out.mono HB.out.size)⟩
  · have HE : Hid (rulesL ps = false) := Lib.hid (by rw [rulesL, decide_eq_false h8]; rfl)
    go_enter Tryd.func57, Tryd.ntmps57
    go_wp2
    go_ret
    exact ⟨bool_end HE.out.symm, Below.refl _ _⟩
theorem has_not {ps : List (List UInt8)} {k : Nat} {x : List UInt8} (h : ∀ j (hj : j < ps.length), j < k → ps[j] ≠ x) (hk : ps.length ≤ k) : ps.contains x = false := by
  rw [← Bool.not_eq_true, List.contains_iff_mem]
  intro hm
  obtain ⟨j, hj, e⟩ := List.mem_iff_getElem.1 hm
  exact h j hj (by omega) e
theorem has_yes {ps : List (List UInt8)} {k : Nat} (hk : k < ps.length) : ps.contains ps[k] = true := List.contains_iff_mem.2 (List.getElem_mem hk)
set_option maxHeartbeats 1000000 in
set_option maxRecDepth 100000 in
theorem has_any (v : Value) (B : Nat) (ps : List (List UInt8)) (t : ByteArray) (w : World) (hv : RowT w B v ps) (hl : ps.length ≤ 1048576) : Calls Tryd.prog 84 #[v, .string t] w fun e w' => e = .returned (.bool (ps.contains t.data.toList)) ∧ w = w' := by
  obtain ⟨a, cap, rfl, hx⟩ := hv
  have HX := Lib.hid hx
  clear hx
  go_enter Tryd.func84, Tryd.ntmps84
  go_wp2
  go_loopw [5] (fun i wr => ∃ k : Nat, k ≤ ps.length ∧ i = .int .i64 k ∧ (∀ j (hj : j < ps.length), j < k → ps[j] ≠ t.data.toList) ∧ w = wr) (fun i _ => ps.length - (intOf i).toNat)
  case atStart => exact ⟨0, Nat.zero_le _, rfl, fun j hj h => by omega, rfl⟩
  case round =>
    obtain ⟨k, hk, rfl, hn, rfl⟩ := hrel
    have HN := Lib.hid hn
    clear hn
    by_cases hlt : k < ps.length
    · obtain ⟨g, rfl, _, hg2, _, hc⟩ := HX.out (by omega)
      obtain ⟨u, hu⟩ : ∃ u : ByteArray, strV ps[k] = .string u := ⟨_, rfl⟩
      have HU : Hid (u.data.toList = ps[k]) := Lib.hid (by
        have := Value.string.inj hu
        rw [← this])
      have c1 : w.cell? ⟨g, k, none⟩ = some (.string u) := by rw [← hu]; exact hc k hlt
      have s1 : (k : Int) < ps.length := by omega
      clear hc hu
      cases he : (u.toList == t.toList) with
      | true =>
        have HE : Hid (ps.contains t.data.toList = true) := Lib.hid (by
          rw [← seq_of he, HU.out]
          exact has_yes hlt)
        go_wp2
        go_ret
        exact ⟨bool_end HE.out.symm, rfl⟩
      | false =>
        have HE : Hid (ps[k] ≠ t.data.toList) := Lib.hid (by
          rw [← HU.out]
          intro e
          exact sne_of he (bytes_inj e))
        go_wp2
        go_roundw
        case rel =>
          refine ⟨k + 1, by omega, by go_num, fun j hj h => ?_, trivial⟩
          by_cases e : j = k
          · subst e
            exact HE.out
          · exact HN.out j hj (by omega)
        case measure => simp [intOf]; omega
    · have HE := Lib.hid (has_not HN.out (by omega : ps.length ≤ k))
      go_wp2
      go_ret
      exact ⟨bool_end HE.out.symm, rfl⟩
def OkRel (w : World) (ps : List (List UInt8)) (i : Value) (wr : World) : Prop := ∃ k : Nat, k ≤ ps.length ∧ i = .int .i64 k ∧ AllUpto ruleL ps k ∧ (∀ j, j < k → newAt ps j = true) ∧ Below w.heap.size w wr
theorem new_at {ps : List (List UInt8)} {k : Nat} (h : k < ps.length) : (ps.take k).contains ps[k] = !newAt ps k := by
  unfold newAt
  rw [List.getD_eq_getElem?_getD, List.getElem?_eq_getElem h]
  simp
set_option maxHeartbeats 4000000 in
set_option maxRecDepth 100000 in
theorem specRulesL (v : Value) (B : Nat) (ps : List (List UInt8)) (w : World) (hv : RowC w B v ps) (hl : ps.length ≤ 1048576) (hm : ∀ x ∈ ps, x.length ≤ 1048576) : Calls Tryd.prog 54 #[v] w fun e w' => e = .returned (.bool (rulesL ps)) ∧ Below w.heap.size w w' := by
  obtain ⟨hv, a, cap, rfl, hcl, hcm⟩ := hv
  have HV := Lib.hid hv
  have HM := Lib.hid hm
  clear hv hm
  unfold maxLen at hcm
  by_cases h8 : ps.length ≤ 8
  · go_enter Tryd.func54, Tryd.ntmps54
    go_wp2
    go_loopw [3] (fun i wr => OkRel w ps i wr) (fun i _ => ps.length - (intOf i).toNat)
    case atStart => exact ⟨0, Nat.zero_le _, rfl, fun j hj h => by omega, fun j h => by omega, Below.refl _ _⟩
    case round =>
      obtain ⟨k, hk, rfl, hg, hn, hb⟩ := hrel
      have HG := Lib.hid hg
      have HN := Lib.hid hn
      have HB := Lib.hid hb
      clear hg hn hb
      by_cases hlt : k < ps.length
      · have hrow := HV.out.below HB.out
        have HR := Lib.hid hrow
        obtain ⟨a2, cap2, e, hx⟩ := hrow
        injection e with e1 _ e3
        subst e1 e3
        obtain ⟨g, rfl, _, hg2, _, hc⟩ := hx (by omega)
        obtain ⟨u, hu⟩ : ∃ u : ByteArray, strV ps[k] = .string u := ⟨_, rfl⟩
        have HU : Hid (u.data.toList = ps[k]) := Lib.hid (by
          have := Value.string.inj hu
          rw [← this])
        have c0 : wr.cell? ⟨g, k, none⟩ = some (.string u) := by rw [← hu]; exact hc k hlt
        have hus : u.size ≤ 1048576 := by
          have h1 := HM.out _ (List.getElem_mem hlt)
          rw [← HU.out] at h1
          simpa using h1
        have q0 : ∀ i : BCl wr, i.w.cell? ⟨g, k, none⟩ = some (.string u) := BCl.cell c0
        have hN : Nonempty (BCl wr) := BCl.full wr
        have s1 : (k : Int) < ps.length := by omega
        have s2 : (k : Int) ≤ cap := by omega
        have A1 : Hid (∀ W : World, Calls Tryd.prog 83 #[.string u] W fun e w' => e = .returned (.bool (ruleB u)) ∧ Below W.heap.size W w') := Lib.hid fun W => specRuleL u W hus
        have A2 : Hid (∀ i : BCl wr, Calls Tryd.prog 84 #[.slice (some ⟨g, 0, none⟩) k cap, .string u] i.w fun e w' => e = .returned (.bool (!newAt ps k)) ∧ i.w = w') := Lib.hid fun i => by
          have h := has_any _ B (ps.take k) u i.w ((HR.out.below i.below).front (by omega) cap) (by rw [List.length_take]; omega)
          rw [HU.out, new_at hlt] at h
          exact h
        clear hx hc hu c0
        cases hr : ruleB u with
        | false =>
          have HE : Hid (rulesL ps = false) := Lib.hid (by
            rw [rulesL, all_not hlt (by rw [← HU.out]; exact hr), Bool.false_and, Bool.and_false])
          go_wp2_with fail
          refine wp_region_below (fun w' => ∃ i : BCl wr, w' = i.w) (by kernel_rfl) (by kernel_rfl) (BCl.start wr) ?_
          repeat (go_big_quiet_step (first | (go_at_call 83; rename_i i; exact (A1.out i.w).mono fun e w' h => ⟨by rw [h.1, hr], i.next h.2⟩)))
          refine wpQuiet_nil ?_
          intro _ hw'
          obtain ⟨i, rfl⟩ := hw'
          clear q0
          go_wp2_with fail
          go_ret
          exact ⟨bool_end HE.out.symm, HB.out.trans (i.below.mono HB.out.size)⟩
        | true =>
          cases hn : newAt ps k with
          | false =>
            have HE : Hid (rulesL ps = false) := Lib.hid (by
              rw [rulesL, diff_bad hlt hn, Bool.and_false, Bool.and_false])
            go_wp2_with fail
            refine wp_region_below (fun w' => ∃ i : BCl wr, w' = i.w) (by kernel_rfl) (by kernel_rfl) (BCl.start wr) ?_
            repeat (go_big_quiet_step (first | (go_at_call 83; rename_i i; exact (A1.out i.w).mono fun e w' h => ⟨by rw [h.1, hr], i.next h.2⟩) | (go_at_call 84; rename_i i; exact (A2.out i).mono fun e w' h => ⟨by rw [h.1, hn], i.same h.2⟩)))
            refine wpQuiet_nil ?_
            intro _ hw'
            obtain ⟨i, rfl⟩ := hw'
            clear q0
            go_wp2_with fail
            go_ret
            exact ⟨bool_end HE.out.symm, HB.out.trans (i.below.mono HB.out.size)⟩
          | true =>
            have HR2 := Lib.hid hr
            have HN2 := Lib.hid hn
            go_wp2_with fail
            refine wp_region_below (fun w' => ∃ i : BCl wr, w' = i.w) (by kernel_rfl) (by kernel_rfl) (BCl.start wr) ?_
            repeat (go_big_quiet_step (first | (go_at_call 83; rename_i i; exact (A1.out i.w).mono fun e w' h => ⟨by rw [h.1, hr], i.next h.2⟩) | (go_at_call 84; rename_i i; exact (A2.out i).mono fun e w' h => ⟨by rw [h.1, hn], i.same h.2⟩)))
            refine wpQuiet_nil ?_
            intro _ hw'
            obtain ⟨i, rfl⟩ := hw'
            clear q0 hr hn
            go_wp2_with fail
            go_roundw
            case rel =>
              refine ⟨k + 1, by omega, by go_num, all_succ HG.out hlt (by rw [← HU.out]; exact HR2.out), fun j hj => ?_, HB.out.trans (i.below.mono HB.out.size)⟩
              by_cases e : j = k
              · subst e
                exact HN2.out
              · exact HN.out j (by omega)
            case measure => simp [intOf]; omega
      · have HE : Hid (rulesL ps = true) := Lib.hid (by
          rw [rulesL, all_of HG.out (by omega), diff_all HN.out (by omega), decide_eq_true h8]
          rfl)
        go_wp2
        go_ret
        exact ⟨bool_end HE.out.symm, HB.out⟩
  · have HE : Hid (rulesL ps = false) := Lib.hid (by rw [rulesL, decide_eq_false h8]; rfl)
    go_enter Tryd.func54, Tryd.ntmps54
    go_wp2
    go_ret
    exact ⟨bool_end HE.out.symm, Below.refl _ _⟩
theorem weigh_small {ps : List (List UInt8)} (h : weighL ps ≤ 1048576) : ps.length ≤ 1048576 ∧ ∀ x ∈ ps, x.length ≤ 1048576 := by
  unfold weighL at h
  refine ⟨by omega, fun x hx => ?_⟩
  have := lenL_mem hx
  omega
end Go.Proofs.YtcaabnnkjnleeaaDoor
