/- FnHosts: the walk of the law over drawn hosts. No condition of its own. -/
import Derived.Test.YtmmmipkccnmmdaaDoorCanon
import Derived.Test.YtmmmipkccnmmdaaDoorMatch
import Derived.Test.YtmmmipkccnmmdaaDoorJoin
import Derived.Test.YtmmmipkccnmmdaaDoorHostDraw
import Derived.Deep.DeepCutAuto
namespace Go.Proofs.YtmmmipkccnmmdaaDoor
open Go.ChangeShapes Go.WideShapes Go.ChangeAt Go.WideMaps Go.WideElems Go.RowKit

set_option maxRecDepth 100000 in
theorem sameTexts_any (va vb : Value) (ps : List (List UInt8)) (B C : Nat) (w : World) (hl : ps.length ≤ 1000000) (ha : RowT w B va ps) (hb : RowT w C vb ps) : Calls Tryd.prog 18 #[va, vb] w fun e w' => e = .returned (.bool true) ∧ Below w.heap.size w w' := by
  obtain ⟨a, ca, rfl, ha⟩ := ha
  obtain ⟨b, cb, rfl, hb⟩ := hb
  have HA := Lib.hid ha
  have HB := Lib.hid hb
  clear ha hb
  go_enter Tryd.func18, Tryd.ntmps18
  go_wp2
  go_loopw [5] (fun i wr => ∃ j : Nat, j ≤ ps.length ∧ i = .int .i64 j ∧ Below w.heap.size w wr) (fun i _ => ps.length - (intOf i).toNat)
  case atStart => exact ⟨0, Nat.zero_le _, rfl, Below.refl _ _⟩
  case round =>
    obtain ⟨j, hj, rfl, hbel⟩ := hrel
    have HX := Lib.hid hbel
    clear hbel
    by_cases hlt : j < ps.length
    · obtain ⟨g, rfl, _, hg2, _, hc⟩ := HA.out (by omega)
      obtain ⟨g', rfl, _, hg2', _, hc'⟩ := HB.out (by omega)
      obtain ⟨u, hu⟩ : ∃ u : ByteArray, strV ps[j] = .string u := ⟨_, rfl⟩
      have c1 : wr.cell? ⟨g, j, none⟩ = some (.string u) := by rw [← hu]; exact (HX.out.cell (p := ⟨g, j, none⟩) hg2).trans (hc j hlt)
      have c2 : wr.cell? ⟨g', j, none⟩ = some (.string u) := by rw [← hu]; exact (HX.out.cell (p := ⟨g', j, none⟩) hg2').trans (hc' j hlt)
      have e1 : (u.toList == u.toList) = true := by simp
      have e2 : (u.toList != u.toList) = false := by simp
      have s1 : (j : Int) < ps.length := by omega
      clear hc hc' hu
      go_wp2
      go_quiet (fail)
      go_wp2
      go_roundw
      case rel => exact ⟨j + 1, by omega, by go_num, below_drewN HX.out _⟩
      case measure => simp [intOf]; omega
    · go_wp2
      go_ret
      exact ⟨rfl, HX.out⟩
theorem low_host {b : UInt8} (h : labelB b = true ∨ b = 46) : lowB b = b := by
  refine low_other ?_
  rcases h with h | rfl
  · have := (label_iff b).1 h
    omega
  · decide
theorem canon_again {s : ByteArray} (h : hostB s = true) : canonC (s ++ ⟨#[46]⟩) = 0 ∧ canonS (s ++ ⟨#[46]⟩) = s := by
  have h40 := (host_size h).2
  have hz : (s ++ ⟨#[46]⟩ : ByteArray).size = s.size + 1 := by rw [ByteArray.size_append]; rfl
  have e1 : (s ++ ⟨#[46]⟩ : ByteArray).data.toList = s.data.toList ++ [46] := by simp
  have ef : foldL (s ++ ⟨#[46]⟩ : ByteArray).data.toList = s ++ ⟨#[46]⟩ := by
    apply bytes_inj
    rw [foldL, e1]
    show ((s.data.toList ++ [46]).map lowB) = _
    rw [List.map_append]
    have : s.data.toList.map lowB = s.data.toList := by
      conv => rhs; rw [← List.map_id s.data.toList]
      exact List.map_congr_left fun b hb => low_host (host_bytes h b hb)
    rw [this]
    rfl
  have hs : Lib.hasSuffix (s ++ ⟨#[46]⟩ : ByteArray).data.toList [46] = true := by
    rw [e1, Lib.hasSuffix, List.isSuffixOf_iff_suffix]
    exact List.suffix_append _ _
  have ec : canonP (foldL (s ++ ⟨#[46]⟩ : ByteArray).data.toList) = s := by
    rw [ef, canonP_yes hs, hz]
    apply bytes_inj
    rw [Lib.extract_data, e1, List.drop_zero]
    simp
  have hok : canonOK (s ++ ⟨#[46]⟩) = true := by rw [canonOK, ec]; exact h
  exact ⟨by rw [canonC, if_pos (by omega), if_pos hok], by rw [canonS, if_pos ⟨by omega, hok⟩, ec]⟩
theorem canon_host {t : ByteArray} (h : canonC t = 0) : hostB (canonS t) = true := by
  unfold canonC at h
  split at h
  · rename_i hl
    split at h
    · rename_i hok
      rw [canonS, if_pos ⟨hl, hok⟩]
      exact hok
    · cases h
  · cases h
theorem match_self {s : ByteArray} (h : hostB s = true) : matchB s s = true := by simp [matchB, matchL, h]
theorem match_end {s : ByteArray} {k : Nat} (h : hostB s = true) (hk : k < (cutL 46 s.data.toList).length) (h0 : 0 < k) : matchB s (endB s k) = !isAddr s := by
  have hne : s ≠ endB s k := by
    intro e
    have h1 := end_size h0 hk
    have h2 := congrArg ByteArray.size e
    omega
  have hb : belowB s (endB s k) = true := by
    rw [belowB, Lib.hasSuffix, List.isSuffixOf_iff_suffix]
    exact end_below h0 hk
  rw [matchB, h, end_host h hk, matchL, decide_eq_false hne, hb, isAddr, h]
  simp
theorem match_anti {x y : ByteArray} (h1 : matchB x y = true) (h2 : matchB y x = true) : x = y := by
  rw [matchB, Bool.and_eq_true, matchL, Bool.or_eq_true] at h1 h2
  rcases h1.2 with h | h
  · exact of_decide_eq_true h
  · rcases h2.2 with h' | h'
    · exact (of_decide_eq_true h').symm
    · rw [Bool.and_eq_true] at h h'
      have a1 : ¬ x.size ≤ y.size := fun hle => by rw [below_short hle] at h; cases h.1
      have a2 : ¬ y.size ≤ x.size := fun hle => by rw [below_short hle] at h'; cases h'.1
      omega
theorem labs_host {s : ByteArray} (h : hostB s = true) : labsL s = cutL 46 s.data.toList ∧ labsC s = 0 := by
  have := (host_size h).2
  exact ⟨if_pos ⟨by omega, h⟩, by rw [labsC, if_pos (by omega), if_pos h]⟩
/-- What stands in 'end' ahead of the k-th label. -/
def tailB (s : ByteArray) (k : Nat) : ByteArray := if k < (cutL 46 s.data.toList).length then ⟨#[46]⟩ ++ endB s k else ⟨#[]⟩
theorem tail_step {s u : ByteArray} {k : Nat} (hk : k < (cutL 46 s.data.toList).length) (hu : u.data.toList = (cutL 46 s.data.toList)[k]) : u ++ tailB s (k + 1) = endB s k := by
  apply bytes_inj
  rw [endB_data, end_step hk, tailB]
  by_cases h : k + 1 < (cutL 46 s.data.toList).length
  · rw [if_pos h, if_pos h]
    simp [hu, endB_data]
  · rw [if_neg h, if_neg h]
    simp [hu]
def HostsRel (W : World) (s : ByteArray) (e i : Value) (wr : World) : Prop :=
  ∃ k : Nat, k ≤ (cutL 46 s.data.toList).length ∧ i = .int .i64 ((k : Int) - 1) ∧ e = .string (tailB s k) ∧ Below W.heap.size W wr
theorem end_le (s : ByteArray) (k : Nat) (hk : k < (cutL 46 s.data.toList).length) : (endB s k).size ≤ s.size := by
  rcases Nat.eq_zero_or_pos k with rfl | h0
  · rw [end_zero]
    exact Nat.le_refl _
  · exact Nat.le_of_lt (end_size h0 hk)
theorem tail_le (s : ByteArray) (k : Nat) : (tailB s k).size ≤ s.size + 1 := by
  rw [tailB]
  split
  · rename_i h
    have := end_le s k h
    rw [ByteArray.size_append]
    show 1 + _ ≤ _
    omega
  · exact Nat.zero_le _
set_option maxHeartbeats 8000000 in
set_option maxRecDepth 100000 in
theorem walk_FnHosts (W : World) (a0 : Option Addr) (len0 cap0 : Nat) (hm0 : len0 ≤ cap0 ∧ cap0 ≤ maxLen ∧ (a0 = none → cap0 = 0)) (hc0 : len0 ≤ 4611686018427387904 → CodeIn W (.slice a0 len0 cap0) len0) (a1 : Option Addr) (len1 cap1 : Nat) (hm1 : len1 ≤ cap1 ∧ cap1 ≤ maxLen ∧ (a1 = none → cap1 = 0)) (hc1 : len1 ≤ 4611686018427387904 → CodeIn W (.slice a1 len1 cap1) len1)
    (hL : laidMetH Tryd.prog Rows.fnHostsRow.laid W) (hSh : W.ShapedOpen Tryd.prog) :
    Calls Tryd.prog 3 #[.slice a0 len0 cap0, .slice a1 len1 cap1] W fun e w' => e = .returned (.bool true) ∧ Below W.heap.size W w' := by
  rw [MakeChecks.laidMetH_plain _ _ _ (by kernel_rfl)] at hL
  obtain ⟨hT, hN⟩ := laid8 hL
  have HT := Lib.hid hT
  have HN := Lib.hid hN
  have HM := Lib.hid (max_of hSh)
  clear hL hT hN
  unfold maxLen at hm0 hm1
  obtain ⟨hm0, hk0, _⟩ := hm0
  obtain ⟨hm1, hk1, _⟩ := hm1
  by_cases h0 : 1048576 < len0
  · clear hc0 hc1
    go_enter Tryd.func3, Tryd.ntmps3
    go_wp2
    go_ret
    exact ⟨rfl, Below.refl _ _⟩
  by_cases h1 : 1048576 < len1
  · clear hc0 hc1
    go_enter Tryd.func3, Tryd.ntmps3
    go_wp2
    go_ret
    exact ⟨rfl, Below.refl _ _⟩
  have C0 := Lib.hid (hc0 (by omega))
  have C1 := Lib.hid (hc1 (by omega))
  clear hc0 hc1
  go_enter Tryd.func3, Tryd.ntmps3
  go_wp2_with fail
  refine (anyDrawn_any _ _ _ C0.out).mono ?_
  rintro e w1 ⟨t, rfl, ht, hb⟩
  have B1 := Lib.hid hb
  have mt : Hid (t.size ≤ maxLen) := by show t.size ≤ maxLen; unfold maxLen; omega
  clear hb
  go_wp2_with fail
  refine (implCanon t _ mt.out (HT.out.below B1.out)).mono ?_
  rintro e w2 ⟨rfl, hb⟩
  have B2 := Lib.hid (B1.out.trans (hb.mono B1.out.size))
  clear hb B1
  go_wp2_with fail
  refine (specCanon t _ mt.out).mono ?_
  rintro e w3 ⟨rfl, hb⟩
  have B3 := Lib.hid (B2.out.trans (hb.mono B2.out.size))
  clear hb B2
  have n1 : (canonC t != canonC t) = false := by simp
  have n2 : ((canonS t).toList != (canonS t).toList) = false := by simp
  have n3 : (hostB t != hostB t) = false := by simp
  have n4 : (isAddr t != isAddr t) = false := by simp
  go_wp2_with fail
  refine (implHostOK t _ mt.out (HT.out.below B3.out)).mono ?_
  rintro e w4 ⟨rfl, hb⟩
  have B4 := Lib.hid (B3.out.trans (hb.mono B3.out.size))
  clear hb B3
  go_wp2_with fail
  refine (specHost t _ mt.out).mono ?_
  rintro e w5 ⟨rfl, hb⟩
  have B5 := Lib.hid (B4.out.trans (hb.mono B4.out.size))
  clear hb B4
  go_wp2_with fail
  refine (implIsAddr t _ mt.out (HT.out.below B5.out) (HM.out.below B5.out) (HN.out.below B5.out)).mono ?_
  rintro e w6 ⟨rfl, hb⟩
  have B6 := Lib.hid (B5.out.trans (hb.mono B5.out.size))
  clear hb B5
  go_wp2_with fail
  refine (specIsAddr t _ mt.out).mono ?_
  rintro e w7 ⟨rfl, hb⟩
  have B7 := Lib.hid (B6.out.trans (hb.mono B6.out.size))
  clear hb B6
  go_upto_if 63 with fail
  go_cut [16] (fun _ wx => Below W.heap.size W wx)
  case first =>
    cases f0 : (canonC t == 0) with
    | false =>
      go_wp2_with fail
      go_meet
      exact B7.out
    | true =>
      have hc0 : canonC t = 0 := eq_of_beq f0
      have hh := canon_host hc0
      have HC := Lib.hid hc0
      have HH := Lib.hid hh
      have h40 := (host_size hh).2
      have ms : Hid ((canonS t).size ≤ maxLen) := by show (canonS t).size ≤ maxLen; unfold maxLen; omega
      have ms2 : Hid ((canonS t ++ ⟨#[46]⟩ : ByteArray).size ≤ maxLen) := by
        show (canonS t ++ ⟨#[46]⟩ : ByteArray).size ≤ maxLen
        rw [ByteArray.size_append]
        show (canonS t).size + 1 ≤ maxLen
        unfold maxLen
        omega
      have CA := Lib.hid (canon_again hh)
      have LA := Lib.hid (labs_host hh)
      clear hh hc0 n1 n2 n3 n4
      generalize canonS t = s at *
      go_wp2_with fail
      refine (implCanon _ _ ms2.out (HT.out.below B7.out)).mono ?_
      rintro e w8 ⟨rfl, hb⟩
      have B8 := Lib.hid (B7.out.trans (hb.mono B7.out.size))
      clear hb B7
      rw [CA.out.1, CA.out.2]
      have hps : (cutL 46 s.data.toList).length ≤ 6 := (parts_of HH.out).1
      have hp1 := cutL_pos 46 s.data.toList
      go_wp2_with fail
      refine (implLabels s _ ms.out (HT.out.below B8.out) (HM.out.below B8.out)).mono ?_
      rintro e w9 ⟨v1, rfl, hr, hb⟩
      rw [LA.out.1] at hr
      rw [LA.out.2]
      have R1 := Lib.hid hr
      have B9 := Lib.hid (B8.out.trans (hb.mono B8.out.size))
      clear hr hb B8
      go_wp2_with fail
      refine (specLabels s _ ms.out).mono ?_
      rintro e w10 ⟨v2, rfl, hr, hb⟩
      rw [LA.out.1] at hr
      have R2 := Lib.hid hr
      have R12 := Lib.hid (R1.out.below hb)
      have B10 := Lib.hid (B9.out.trans (hb.mono B9.out.size))
      clear hr hb B9
      have n2 : (s.toList != s.toList) = false := by simp
      obtain ⟨a, cap, rfl, hcells⟩ := R2.out
      obtain ⟨g, rfl, _, hg, _, hcell⟩ := hcells (by omega)
      have HG := Lib.hid hcell
      clear hcell
      go_wp2_with fail
      refine (sameTexts_any v1 _ (cutL 46 s.data.toList) _ _ _ (by omega) R12.out R2.out).mono ?_
      rintro e w11 ⟨rfl, hb⟩
      have B11 := Lib.hid (B10.out.trans (hb.mono B10.out.size))
      have HG2 : Hid (∀ j (hj : j < (cutL 46 s.data.toList).length), w11.cell? ⟨g, j, none⟩ = some (strV (cutL 46 s.data.toList)[j])) := fun j hj => (hb.cell (p := ⟨g, j, none⟩) hg).trans (HG.out j hj)
      have hg2 : g < w11.heap.size := Nat.lt_of_lt_of_le hg hb.size
      clear hb B10 HG
      go_wp2_with fail
      refine (implMatch s s _ ms.out ms.out (HT.out.below B11.out) (HM.out.below B11.out) (HN.out.below B11.out)).mono ?_
      rintro e w12 ⟨rfl, hb⟩
      rw [match_self HH.out]
      have B12 := Lib.hid (B11.out.trans (hb.mono B11.out.size))
      have HG3 : Hid (∀ j (hj : j < (cutL 46 s.data.toList).length), w12.cell? ⟨g, j, none⟩ = some (strV (cutL 46 s.data.toList)[j])) := fun j hj => (hb.cell (p := ⟨g, j, none⟩) hg2).trans (HG2.out j hj)
      have hg3 : g < w12.heap.size := Nat.lt_of_lt_of_le hg2 hb.size
      clear hb B11 HG2
      have hz0 : s.size ≤ 40 := h40
      go_wp2_with fail
      go_loopw [16, 17] (fun e i wr => HostsRel W s e i wr ∧ ∀ j (hj : j < (cutL 46 s.data.toList).length), wr.cell? ⟨g, j, none⟩ = some (strV (cutL 46 s.data.toList)[j]) ∧ g < wr.heap.size) (fun _ i _ => (intOf i + 1).toNat)
      case atStart => exact ⟨⟨(cutL 46 s.data.toList).length, Nat.le_refl _, rfl, by rw [tailB, if_neg (by omega)], B12.out⟩, fun j hj => ⟨HG3.out j hj, hg3⟩⟩
      case round =>
        obtain ⟨⟨k, hk, hi, rfl, hb⟩, hcell⟩ := hrel
        have HB := Lib.hid hb
        have HX := Lib.hid hcell
        clear hb hcell HG3 B12
        cases k with
        | zero =>
          have hi2 := hi.trans (show Value.int .i64 (((0 : Nat) : Int) - 1) = .int .i64 (-1) from rfl)
          clear hi
          subst hi2
          go_wp2_with fail
          go_meet
          exact HB.out
        | succ j =>
          have hi2 := hi.trans (show Value.int .i64 (((j + 1 : Nat) : Int) - 1) = .int .i64 (j : Int) by congr 1; omega)
          clear hi
          subst hi2
          have hj : j < (cutL 46 s.data.toList).length := by omega
          obtain ⟨u, hu⟩ : ∃ u : ByteArray, u = ⟨(cutL 46 s.data.toList)[j].toArray⟩ := ⟨_, rfl⟩
          have hud : u.data.toList = (cutL 46 s.data.toList)[j] := by rw [hu]
          have c1 : wr.cell? ⟨g, j, none⟩ = some (.string u) := by
            rw [(HX.out j hj).1, hu]
            rfl
          have HTS := Lib.hid (tail_step hj hud)
          have hus : u.size ≤ 40 := by
            have h := cutL_mem (List.getElem_mem hj)
            rw [← hud] at h
            simp at h
            omega
          have hts := tail_le s (j + 1)
          have hel := end_le s j hj
          have me : Hid ((endB s j).size ≤ maxLen) := by show (endB s j).size ≤ maxLen; unfold maxLen; omega
          have s1 : (j : Int) < (cutL 46 s.data.toList).length := by omega
          have s2 : (0 : Int) ≤ j := by omega
          clear hu hud
          go_wp2_with fail
          rw [HTS.out]
          refine (implMatch s (endB s j) _ ms.out me.out (HT.out.below HB.out) (HM.out.below HB.out) (HN.out.below HB.out)).mono ?_
          rintro e w13 ⟨rfl, hb⟩
          have B13 := Lib.hid (HB.out.trans (hb.mono HB.out.size))
          have HX2 : Hid (∀ j (hj : j < (cutL 46 s.data.toList).length), w13.cell? ⟨g, j, none⟩ = some (strV (cutL 46 s.data.toList)[j]) ∧ g < w13.heap.size) := fun j hj => ⟨(hb.cell (p := ⟨g, j, none⟩) (HX.out j hj).2).trans (HX.out j hj).1, Nat.lt_of_lt_of_le (HX.out j hj).2 hb.size⟩
          clear hb c1 HX HB
          by_cases hj0 : 0 < j
          · have f1 : ((j : Int) == 0) = false := by
              rw [beq_eq_false_iff_ne]
              omega
            have HME := Lib.hid (match_end HH.out hj hj0)
            rw [HME.out]
            go_wp2_with fail
            refine (specIsAddr s _ ms.out).mono ?_
            rintro e w14 ⟨rfl, hb⟩
            have B14 := Lib.hid (B13.out.trans (hb.mono B13.out.size))
            have HX3 : Hid (∀ j (hj : j < (cutL 46 s.data.toList).length), w14.cell? ⟨g, j, none⟩ = some (strV (cutL 46 s.data.toList)[j]) ∧ g < w14.heap.size) := fun j hj => ⟨(hb.cell (p := ⟨g, j, none⟩) (HX2.out j hj).2).trans (HX2.out j hj).1, Nat.lt_of_lt_of_le (HX2.out j hj).2 hb.size⟩
            clear hb HX2 B13
            cases isAddr s
            all_goals
              go_wp2_with fail
              go_roundw
              case rel => exact ⟨⟨j, by omega, by go_num, by rw [tailB, if_pos hj], B14.out⟩, HX3.out⟩
              case measure => simp [intOf]
          · have hj00 : j ≤ 0 := by omega
            have f1 : ((j : Int) == 0) = true := by
              rw [beq_iff_eq]
              omega
            have HME : Hid (matchB s (endB s j) = true) := by
              show _ = true
              rw [show j = 0 by omega, end_zero]
              exact match_self HH.out
            rw [HME.out]
            go_wp2_with fail
            go_roundw
            case rel => exact ⟨⟨j, by omega, by go_num, by rw [tailB, if_pos hj], B13.out⟩, HX2.out⟩
            case measure => simp [intOf]
  case rest =>
    have B9 := Lib.hid hcut
    clear hcut B7 n1 n2 n3 n4
    go_wp2_with fail
    refine (hostDrawn_any _ _ _ (C1.out.below B9.out)).mono ?_
    rintro e w15 ⟨x, rfl, hx, hb⟩
    have B15 := Lib.hid (B9.out.trans (hb.mono B9.out.size))
    have mx : Hid (x.size ≤ maxLen) := by show x.size ≤ maxLen; unfold maxLen; omega
    clear hb B9
    go_wp2_with fail
    refine (hostDrawn_any _ _ _ (C0.out.below B15.out)).mono ?_
    rintro e w16 ⟨y, rfl, hy, hb⟩
    have B16 := Lib.hid (B15.out.trans (hb.mono B15.out.size))
    have my : Hid (y.size ≤ maxLen) := by show y.size ≤ maxLen; unfold maxLen; omega
    clear hb B15
    go_wp2_with fail
    refine (implMatch x y _ mx.out my.out (HT.out.below B16.out) (HM.out.below B16.out) (HN.out.below B16.out)).mono ?_
    rintro e w17 ⟨rfl, hb⟩
    have B17 := Lib.hid (B16.out.trans (hb.mono B16.out.size))
    clear hb B16
    have n1 : (matchB x y == matchB x y) = true := by simp
    go_wp2_with fail
    refine (specMatch x y _ mx.out my.out).mono ?_
    rintro e w18 ⟨rfl, hb⟩
    have B18 := Lib.hid (B17.out.trans (hb.mono B17.out.size))
    clear hb B17
    go_wp2_with fail
    refine (specMatch x y _ mx.out my.out).mono ?_
    rintro e w19 ⟨rfl, hb⟩
    have B19 := Lib.hid (B18.out.trans (hb.mono B18.out.size))
    clear hb B18 n1
    cases g1 : matchB x y with
    | false =>
      clear g1
      go_wp2_with fail
      go_ret
      exact ⟨rfl, B19.out⟩
    | true =>
      have G1 := Lib.hid g1
      clear g1
      go_wp2_with fail
      refine (implMatch y x _ my.out mx.out (HT.out.below B19.out) (HM.out.below B19.out) (HN.out.below B19.out)).mono ?_
      rintro e w20 ⟨rfl, hb⟩
      have B20 := Lib.hid (B19.out.trans (hb.mono B19.out.size))
      clear hb B19
      cases g2 : matchB y x with
      | false =>
        clear g2
        go_wp2_with fail
        go_ret
        exact ⟨rfl, B20.out⟩
      | true =>
        have fe := seq_true (match_anti G1.out g2)
        clear g2
        go_wp2_with fail
        go_ret
        exact ⟨rfl, B20.out⟩
end Go.Proofs.YtmmmipkccnmmdaaDoor
