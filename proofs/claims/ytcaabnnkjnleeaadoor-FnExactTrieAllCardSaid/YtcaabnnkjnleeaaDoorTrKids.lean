/- A node in memory; whether it leads to nothing; what the program asks of its kids. No condition of its own. -/
import Derived.Test.YtcaabnnkjnleeaaDoorTrLook
import Derived.Test.YtcaabnnkjnleeaaDoorRowOwn
import Derived.Test.YtcaabnnkjnleeaaDoorTrArg
namespace Go.Proofs.YtcaabnnkjnleeaaDoor
open Go.ChangeShapes Go.WideShapes Go.ChangeAt Go.WideMaps Go.WideElems Go.RowKit

/-- A node in the block g from off on; what it leads to lies in blocks from A on and below B. -/
def NodeAt (w : World) (C A B n : Nat) (z : Bool) (g off : Nat) (t : Tr) : Prop :=
  t.l.size ≤ maxLen ∧ g < C ∧ w.cell? ⟨g, off, none⟩ = some (.string t.l) ∧ ∃ ui uk, w.cell? ⟨g, off + 1, none⟩ = some ui ∧ w.cell? ⟨g, off + 2, none⟩ = some uk ∧ NodeIn w A B z n t ui uk
theorem NodeAt.below {w w' : World} {C A B D n g off : Nat} {z : Bool} {t : Tr} (h : NodeAt w C A B n z g off t) (hb : Below D w w') (hC : C ≤ D) (hB : B ≤ D) : NodeAt w' C A B n z g off t := by
  obtain ⟨h1, h2, h3, ui, uk, h4, h5, h6⟩ := h
  exact ⟨h1, h2, (hb.cell (p := ⟨g, off, none⟩) (by show g < D; omega)).trans h3, ui, uk, (hb.cell (p := ⟨g, off + 1, none⟩) (by show g < D; omega)).trans h4, (hb.cell (p := ⟨g, off + 2, none⟩) (by show g < D; omega)).trans h5, h6.below hb hB⟩
theorem NodeAt.kid {w : World} {C A B n g off : Nat} {z : Bool} {t : Tr} (h : NodeAt w C A B (n + 1) z g off t) (hB : B ≤ C) : ∃ a cap, w.cell? ⟨g, off + 2, none⟩ = some (.slice a t.ks.length cap) ∧ t.ks.length ≤ cap ∧ cap ≤ maxLen ∧ (0 < t.ks.length → ∃ g2 off2, a = some ⟨g2, off2, none⟩ ∧ g2 < B ∧ ∀ j (hj : j < t.ks.length), NodeAt w C A B n z g2 (off2 + j * 3) t.ks[j]) := by
  obtain ⟨_, _, _, ui, uk, _, h5, hi, a, cap, rfl, h7, h8, h9⟩ := h
  refine ⟨a, cap, h5, h7, h8, fun h0 => ?_⟩
  obtain ⟨g2, off2, rfl, hA, hg, hk⟩ := h9 h0
  refine ⟨g2, off2, rfl, hg, fun j hj => ?_⟩
  obtain ⟨k1, _, k3, vi, vk, k4, k5, k6⟩ := hk j hj
  exact ⟨k1, by omega, k3, vi, vk, k4, k5, k6⟩
theorem NodeAt.ids {w : World} {C A B n g off : Nat} {z : Bool} {t : Tr} (h : NodeAt w C A B (n + 1) z g off t) : ∃ v, w.cell? ⟨g, off + 1, none⟩ = some v ∧ IntsIn w A B z v t.ids := by
  obtain ⟨_, _, _, ui, uk, h4, _, hi, _⟩ := h
  exact ⟨ui, h4, hi⟩
theorem full_not (t : Tr) : (!fullB t) = (decide ((t.ids.length : Int) = 0) && decide ((t.ks.length : Int) = 0)) := by
  unfold fullB
  cases h1 : t.ids <;> cases h2 : t.ks <;> simp <;> omega
set_option maxRecDepth 100000 in
theorem isEmpty_any (C A B n g off : Nat) (z : Bool) (t : Tr) (w : World) (h : NodeAt w C A B (n + 1) z g off t) (hB : B ≤ C) : Calls Tryd.prog 43 #[.pointer (some ⟨g, off, none⟩)] w fun e w' => e = .returned (.bool (!fullB t)) ∧ Below w.heap.size w w' := by
  obtain ⟨_, c1, ai, ci, rfl, _, hm1, _⟩ := h.ids
  obtain ⟨ak, ck, c2, hk1, hk2, _⟩ := h.kid hB
  clear h
  have HE := Lib.hid (full_not t)
  unfold maxLen at hm1 hk2
  by_cases h1 : t.ids.length = 0
  · by_cases h2 : t.ks.length = 0
    · have hh1 : (t.ids.length : Int) = 0 := by omega
      have hh2 : (t.ks.length : Int) = 0 := by omega
      go_enter Tryd.func43, Tryd.ntmps43
      go_wp2
      go_ret
      exact ⟨bool_end (by rw [HE.out, hh1, hh2]; rfl), Below.refl _ _⟩
    · have hh1 : (t.ids.length : Int) = 0 := by omega
      have hh2 : ¬ (t.ks.length : Int) = 0 := by omega
      go_enter Tryd.func43, Tryd.ntmps43
      go_wp2
      go_ret
      exact ⟨bool_end (by rw [HE.out, decide_eq_false hh2, Bool.and_false]; exact beq_eq_false_iff_ne.2 hh2), Below.refl _ _⟩
  · have hh1 : ¬ (t.ids.length : Int) = 0 := by omega
    go_enter Tryd.func43, Tryd.ntmps43
    go_wp2
    go_ret
    exact ⟨bool_end (by rw [HE.out, decide_eq_false hh1, Bool.false_and]), Below.refl _ _⟩
theorem node_weighs {w : World} {A B n : Nat} {z : Bool} {t : Tr} {vi vk : Value} (h : NodeIn w A B z n t vi vk) : t.l.data.toList.length ≤ wtT n t := by
  cases n with
  | zero => exact h.elim
  | succ n =>
    have h2 : wtT (n + 1) t = t.l.size + t.ids.length + (t.ks.length + (t.ks.map (wtT n)).sum) := rfl
    have h3 : t.l.data.toList.length = t.l.size := by simp
    omega
/-- The labels of a node's kids. -/
def labsT (t : Tr) : List (List UInt8) := t.ks.map fun k => k.l.data.toList
theorem labs_len (t : Tr) : (labsT t).length = t.ks.length := by simp [labsT]
theorem labs_all (t : Tr) : ((labsT t).all fun l => lbB (tOf l)) = t.ks.all fun k => lbB k.l := by
  simp only [labsT, List.all_map]
  rfl
theorem labs_inc (t : Tr) : (labsT t).map tOf = t.ks.map Tr.l := by
  simp only [labsT, List.map_map]
  rfl
def LabRel (w : World) (t : Tr) (v i : Value) (wr : World) : Prop := ∃ k : Nat, k ≤ t.ks.length ∧ i = .int .i64 k ∧ wr.ownsRow w.heap.size 9 1 v k (((labsT t).take k).map strV) ∧ Below w.heap.size w wr
set_option maxHeartbeats 2000000 in
set_option maxRecDepth 100000 in
theorem kidsOK_any (C A B n g off : Nat) (z : Bool) (t : Tr) (w : World) (h : NodeAt w C A B (n + 1) z g off t) (hB : B ≤ C) (hC : C ≤ w.heap.size) (hwt : wtT (n + 1) t ≤ 1048576) (hT : TabAt w) : Calls Tryd.prog 44 #[.pointer (some ⟨g, off, none⟩)] w fun e w' => e = .returned (.bool (kidsB t)) ∧ Below w.heap.size w w' := by
  obtain ⟨ak, ck, c2, hk1, hk2, hkid⟩ := h.kid hB
  clear h
  have HT := Lib.hid hT
  clear hT
  by_cases h16 : t.ks.length ≤ 16
  · have s0 : ¬ (16 : Int) < t.ks.length := by omega
    have HK := Lib.hid hkid
    clear hkid
    obtain ⟨i0, hi, hz0, hz1, hz2⟩ := info_parts info_string
    go_enter Tryd.func44, Tryd.ntmps44
    go_wp2_with fail
    go_loopw [3, 17] (fun v i wr => LabRel w t v i wr) (fun _ i _ => t.ks.length - (intOf i).toNat)
    case atStart => exact ⟨0, Nat.zero_le _, rfl, World.ownsRow_nil _ _ _ _, Below.refl _ _⟩
    case round =>
      obtain ⟨k, hk, rfl, hown, hb⟩ := hrel
      have HB2 := Lib.hid hb
      have HO := Lib.hid hown
      clear hown hb
      by_cases hlt : k < t.ks.length
      · obtain ⟨g2, off2, rfl, hg2, hcell⟩ := HK.out (by omega)
        obtain ⟨q, hq⟩ : ∃ q, t.ks[k] = q := ⟨_, rfl⟩
        have hc := hcell k hlt
        rw [hq] at hc
        have hc := hc.below HB2.out hC (by omega)
        obtain ⟨hqs, _, c3, ui, uk, c4, c5, hN⟩ := hc
        obtain ⟨⟨a1, l1, e1, rfl⟩, a2, l2, e2, rfl⟩ := hN.forms
        clear hN
        have HQ : Hid ((labsT t).take (k + 1) = (labsT t).take k ++ [q.l.data.toList]) := Lib.hid (by
          rw [List.take_succ_eq_append_getElem (by rw [labs_len]; exact hlt)]
          simp only [labsT, List.getElem_map, hq])
        have s1 : (k : Int) < t.ks.length := by omega
        have hsz := HB2.out.size
        clear hcell hq
        go_wp2_with (at_builtin; refine wpList_append_own _ rfl (.tmp 21) (.tmp 24) 42 rfl w.heap.size 9 i0 (.string ByteArray.empty) 1 16 Tryd.underlying42 hi hz0 hz1 hz2 rfl (by decide) _ _ _ rfl ((HO.out.alloc _).alloc _) ⟨wr.heap.size + 1, 0, none⟩ 1 1 [.string q.l] rfl rfl ?c1 ?c2 ?c3 ?c4 ?c5 ?_; rotate_left 5; intro v' w1 hown' hgrow _)
        case c1 =>
          intro j u hu
          have h := cell_new (wr.alloc (.cells #[.string q.l, .slice a1 l1 e1, .slice a2 l2 e2] 30)) (.string q.l) 9 j u hu
          rw [World.size_alloc] at h
          exact h
        case c2 => exact one_str _
        case c3 => unfold maxLen; omega
        case c4 => omega
        case c5 => simp; omega
        go_roundw
        case rel =>
          refine ⟨k + 1, by omega, by go_num, ?_, below_own (HB2.out.alloc hsz _) (HO.out.alloc _) (Nat.le_refl _) hgrow⟩
          rw [strV_data] at hown'
          rw [HQ.out, List.map_append, List.map_singleton]
          exact hown'
        case measure => simp [intOf]; omega
      · obtain rfl : k = t.ks.length := by omega
        have hown2 := HO.out
        rw [List.take_of_length_le (by rw [labs_len]; exact Nat.le_refl _), ← labs_len t] at hown2
        have hrow := row_of_own hown2
        have hlen : (labsT t).length ≤ 16 := by rw [labs_len]; exact h16
        have HR := Lib.hid hrow
        have HL := Lib.hid (labs_len t)
        have HM : Hid (∀ x ∈ labsT t, x.length ≤ 1048576) := Lib.hid (fun x hx => by
          obtain ⟨q, hq, rfl⟩ := List.mem_map.1 hx
          have h1 := kid_weighs (n := n) hq
          have h2 : wtT (n + 1) t = t.l.size + t.ids.length + (t.ks.length + (t.ks.map (wtT n)).sum) := rfl
          obtain ⟨j, hj, rfl⟩ := List.mem_iff_getElem.1 hq
          obtain ⟨g2, off2, _, _, hcell⟩ := HK.out (by omega)
          obtain ⟨_, _, _, _, _, _, _, hN⟩ := hcell j hj
          have h3 := node_weighs hN
          omega)
        clear hown2 hrow
        cases hl : t.ks.all (fun k => lbB k.l) with
        | false =>
          have HE : Hid (kidsB t = false) := Lib.hid (by rw [kidsB, hl]; simp)
          have HA : Hid (((labsT t).all fun l => lbB (tOf l)) = false) := Lib.hid (by rw [labs_all]; exact hl)
          clear hl
          go_wp2_with (go_at_call 73; refine (containsLabel_any _ _ (labsT t) _ HR.out (by omega) HM.out (HT.out.below HB2.out)).mono ?_; rintro e w1 ⟨rfl, hb⟩; rw [HA.out]; have HB3 := Lib.hid (HB2.out.trans (hb.mono HB2.out.size)); clear hb)
          go_ret
          exact ⟨bool_end HE.out.symm, HB3.out⟩
        | true =>
          have HE : Hid (kidsB t = incS ((labsT t).map tOf)) := Lib.hid (by rw [kidsB, hl, decide_eq_true h16, labs_inc]; rfl)
          have HA : Hid (((labsT t).all fun l => lbB (tOf l)) = true) := Lib.hid (by rw [labs_all]; exact hl)
          clear hl
          go_wp2_with (first
            | (go_at_call 73; refine (containsLabel_any _ _ (labsT t) _ HR.out (by omega) HM.out (HT.out.below HB2.out)).mono ?_; rintro e w1 ⟨rfl, hb⟩; rw [HA.out]; have HB3 := Lib.hid (HB2.out.trans (hb.mono HB2.out.size)); have HR3 := Lib.hid (HR.out.below hb); clear hb)
            | (go_at_call 75; refine (risingS_any _ _ (labsT t) _ (by omega) HR3.out).mono ?_; rintro e w2 ⟨rfl, hb⟩; have HB4 := Lib.hid (HB3.out.trans (hb.mono HB3.out.size)); clear hb))
          go_ret
          exact ⟨bool_end HE.out.symm, HB4.out⟩
  · have HE : Hid (kidsB t = false) := Lib.hid (by rw [kidsB, decide_eq_false h16]; rfl)
    have s0 : (16 : Int) < t.ks.length := by omega
    go_enter Tryd.func44, Tryd.ntmps44
    go_wp2_with fail
    go_ret
    exact ⟨bool_end HE.out.symm, Below.refl _ _⟩
end Go.Proofs.YtcaabnnkjnleeaaDoor
