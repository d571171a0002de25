/- slices.ContainsFunc at the tests of this program on texts: what it answers. No condition of its own. -/
import Derived.Test.YtcaabnnkjnleeaaDoorRule
import Derived.Test.YtcaabnnkjnleeaaDoorText
import Derived.Test.YtcaabnnkjnleeaaDoorUpto
namespace Go.Proofs.YtcaabnnkjnleeaaDoor
open Go.ChangeShapes Go.WideShapes Go.ChangeAt Go.WideMaps Go.WideElems Go.RowKit

theorem isNoRule_any (t : ByteArray) (w : World) (hs : t.size ≤ maxLen) (hT : TabAt w) : Calls Tryd.prog 85 #[.string t] w fun e w' => e = .returned (.bool (!ruleB t)) ∧ Below w.heap.size w w' := by
  have HS := Lib.hid hs
  have HT := Lib.hid hT
  clear hs hT
  go_enter Tryd.func85, Tryd.ntmps85
  go_wp2_with fail
  refine (implRule t _ HS.out HT.out).mono ?_
  rintro e w1 ⟨rfl, hb⟩
  have HB := Lib.hid hb
  clear hb
  go_wp2_with fail
  go_ret
  exact ⟨rfl, HB.out⟩
def shortL (l : List UInt8) : Bool := decide (l.length ≤ 65536)
theorem long_is (t : ByteArray) : decide ((65536 : Int) < t.size) = !shortL t.data.toList := by
  have e : t.data.toList.length = t.size := by simp
  rw [shortL, e]
  by_cases h : t.size ≤ 65536
  · rw [decide_eq_true h, decide_eq_false (by omega)]
    rfl
  · rw [decide_eq_false h, decide_eq_true (by omega)]
    rfl
set_option maxRecDepth 100000 in
theorem indexRule_any (v : Value) (B : Nat) (ps : List (List UInt8)) (w : World) (hv : RowT w B v ps) (hl2 : ps.length ≤ 1048576) (hl : ∀ x ∈ ps, x.length ≤ 1048576) (hN : TabAt w) : Calls Tryd.prog 97 #[v, .func (.func 85) #[] #[]] w (FoundPost w (!ps.all ruleL)) := by
  obtain ⟨a, cap, rfl, hcells⟩ := hv
  have HC := Lib.hid hcells
  have HL := Lib.hid hl
  have HN := Lib.hid hN
  have hlen : ps.length ≤ 1048576 := hl2
  clear hl2
  clear hcells hl hN
  go_enter Tryd.func97, Tryd.ntmps97
  go_wp2
  go_loopw [8] (fun i wr => ∃ k : Nat, k ≤ ps.length ∧ i = .int .i64 k ∧ AllUpto ruleL ps k ∧ Below w.heap.size w wr) (fun i _ => ps.length - (intOf i).toNat)
  case atStart => exact ⟨0, Nat.zero_le _, rfl, fun j hj h => by omega, Below.refl _ _⟩
  case round =>
    obtain ⟨k, hk, rfl, hup, hb⟩ := hrel
    have HU := Lib.hid hup
    have HB := Lib.hid hb
    clear hup hb
    by_cases hlt : k < ps.length
    · obtain ⟨g, rfl, _, hg2, _, hcl⟩ := HC.out (by omega)
      obtain ⟨u, hu⟩ : ∃ u : ByteArray, u = ⟨ps[k].toArray⟩ := ⟨_, rfl⟩
      have hud : u.data.toList = ps[k] := by rw [hu]
      have hcell : wr.cell? ⟨g, k, none⟩ = some (.string u) := by
        refine (HB.out.cell (p := ⟨g, k, none⟩) hg2).trans ?_
        rw [hcl k hlt, hu]
        rfl
      have hus : u.size ≤ 1048576 := by
        have h := HL.out ps[k] (List.getElem_mem hlt)
        rw [← hud] at h
        simpa using h
      have HD := Lib.hid hud
      have s1 : (k : Int) < ps.length := by omega
      clear hu hud hcl
      cases ho : ruleB u with
      | true =>
        have HO := Lib.hid ho
        clear ho
        go_wp2_with (go_at_call 85; refine (isNoRule_any u _ (by unfold maxLen; omega) (HN.out.below HB.out)).mono ?_; rintro e w' ⟨rfl, hb⟩; rw [HO.out]; have HB2 := Lib.hid hb; clear hb)
        go_roundw
        case rel => exact ⟨k + 1, by omega, by go_num, all_succ HU.out hlt (by rw [← HD.out]; exact  HO.out), HB.out.trans (HB2.out.mono HB.out.size)⟩
        case measure => simp [intOf]; omega
      | false =>
        have HO := Lib.hid ho
        clear ho
        go_wp2_with (go_at_call 85; refine (isNoRule_any u _ (by unfold maxLen; omega) (HN.out.below HB.out)).mono ?_; rintro e w' ⟨rfl, hb⟩; rw [HO.out]; have HB2 := Lib.hid hb; clear hb)
        go_ret
        refine ⟨(k : Int), rfl, ?_, HB.out.trans (HB2.out.mono HB.out.size)⟩
        rw [all_not hlt (by rw [← HD.out]; exact  HO.out)]
        exact decide_eq_true (by omega)
    · go_wp2
      go_ret
      refine ⟨-1, rfl, ?_, HB.out⟩
      rw [all_of HU.out (by omega)]
      rfl
set_option maxRecDepth 100000 in
theorem containsRule_any (v : Value) (B : Nat) (ps : List (List UInt8)) (w : World) (hv : RowT w B v ps) (hl2 : ps.length ≤ 1048576) (hl : ∀ x ∈ ps, x.length ≤ 1048576) (hN : TabAt w) : Calls Tryd.prog 73 #[v, .func (.func 85) #[] #[]] w fun e w' => e = .returned (.bool (!ps.all ruleL)) ∧ Below w.heap.size w w' := by
  have HV := Lib.hid hv
  have HL := Lib.hid hl
  have HN := Lib.hid hN
  clear hv hl hN
  go_enter Tryd.func73, Tryd.ntmps73
  go_wp2_with (go_at_call 97; refine (indexRule_any v B ps _ HV.out hl2 HL.out HN.out).mono ?_; rintro e w1 ⟨r, rfl, hr, hb⟩; have HR := Lib.hid hr; have HB := Lib.hid hb; clear hr hb)
  go_ret
  exact ⟨bool_end HR.out, HB.out⟩
end Go.Proofs.YtcaabnnkjnleeaaDoor
