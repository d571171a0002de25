/- FnBytes: the walk of the law over drawn texts. No condition of its own. -/
import Derived.Test.YtijhaljmccfcoaaDoorDecimal
import Derived.Test.YtijhaljmccfcoaaDoorFold
import Derived.Test.YtijhaljmccfcoaaDoorTrim
import Derived.Test.YtijhaljmccfcoaaDoorSplit
import Derived.Test.YtijhaljmccfcoaaDoorDraws
import Derived.Deep.RegionHeld3
import Derived.Deep.DeepCutAuto
import Derived.Stop.LaidErr
namespace Go.Proofs.YtijhaljmccfcoaaDoor
open Go.ChangeShapes Go.WideShapes Go.ChangeAt Go.WideMaps Go.WideElems Go.RowKit

theorem low_idem (b : UInt8) : lowB (lowB b) = lowB b := by
  have h : ∀ n : Fin 256, lowB (lowB (UInt8.ofNat n)) = lowB (UInt8.ofNat n) := by decide +kernel
  have := h ⟨b.toNat, b.toNat_lt⟩
  simpa using this
theorem fold_size (s : ByteArray) (h : s.size ≤ 65536) : (foldB s).size = s.size := by
  rw [foldB, if_pos h]
  show (s.data.toList.map lowB).toArray.size = _
  simp
theorem fold_idem (s : ByteArray) (h : s.size ≤ 65536) : foldB (foldB s) = foldB s := by
  have hz := fold_size s h
  rw [foldB, if_pos (by omega)]
  rw [foldB, if_pos h]
  simp only [foldL]
  congr 2
  rw [List.map_map]
  exact List.map_congr_left fun b _ => low_idem b
theorem trim_le (s : ByteArray) : (trimB s).size ≤ s.size := by
  rw [trimB]
  split
  · exact trim_size s
  · exact Nat.zero_le _
theorem left_idem : ∀ l : List UInt8, leftL (leftL l) = leftL l
  | [] => rfl
  | b :: l => by
    cases hb : blankB b with
    | true =>
      have e : leftL (b :: l) = leftL l := by rw [leftL, List.dropWhile_cons, if_pos hb]; rfl
      rw [e]
      exact left_idem l
    | false =>
      have e : leftL (b :: l) = b :: l := by rw [leftL, List.dropWhile_cons, if_neg (by simp [hb])]
      rw [e, e]
theorem right_idem (l : List UInt8) : rightL (rightL l) = rightL l := by
  have h := left_idem l.reverse
  simp only [leftL] at h
  simp only [rightL, List.reverse_reverse]
  rw [h]
theorem trim_idem (s : ByteArray) (h : s.size ≤ 65536) : trimB (trimB s) = trimB s := by
  have hz := trim_le s
  have e : trimB s = ⟨(rightL (leftL s.data.toList)).toArray⟩ := by rw [trimB, if_pos h]
  rw [trimB, if_pos (by omega), e]
  congr 2
  show rightL (leftL (rightL (leftL s.data.toList))) = _
  rw [left_right (leftL s.data.toList), left_idem, right_idem]
theorem right_snoc2 (l : List UInt8) : rightL (l ++ [9, 32]) = rightL l := by
  rw [show l ++ [9, 32] = (l ++ [9]) ++ [32] by simp, right_snoc_blank (by decide), right_snoc_blank (by decide)]
theorem trim_pad (s : ByteArray) (h : s.size ≤ 60000) : trimB ((⟨#[32, 9]⟩ ++ s) ++ ⟨#[9, 32]⟩) = trimB s := by
  have hz : ((⟨#[32, 9]⟩ ++ s) ++ ⟨#[9, 32]⟩ : ByteArray).size ≤ 65536 := by
    rw [ByteArray.size_append, ByteArray.size_append]
    show (2 + s.size) + 2 ≤ _
    omega
  rw [trimB, if_pos hz, trimB, if_pos (by omega)]
  congr 2
  have e : ((⟨#[32, 9]⟩ ++ s) ++ ⟨#[9, 32]⟩ : ByteArray).data.toList = [32, 9] ++ (s.data.toList ++ [9, 32]) := by
    simp
  rw [e, left_all (by decide), ← left_right, right_snoc2, left_right]
theorem split_join (t : ByteArray) (c : UInt8) (h : cutB t c = true) : (leftB t c ++ ⟨#[c]⟩) ++ rightB t c = t := by
  have h2 : t.size ≤ 65536 ∧ findB t c < t.size := by simpa [cutB] using h
  have hk : findB t c < t.data.toList.length := by simpa using h2.2
  rw [leftB, if_pos h2.1, if_pos h2.2, rightB, if_pos h2]
  apply bytes_inj
  have e : ((t.extract 0 (findB t c) ++ ⟨#[c]⟩) ++ t.extract (findB t c + 1) t.size).data.toList = (t.extract 0 (findB t c)).data.toList ++ ([c] ++ (t.extract (findB t c + 1) t.size).data.toList) := by
    simp
  rw [e, Lib.extract_data, Lib.extract_to_end, List.drop_zero, Nat.sub_zero]
  have hc : t.data.toList[findB t c] = c := by
    have := List.findIdx_getElem (xs := t.data.toList) (p := (· == c)) (w := hk)
    exact eq_of_beq this
  have e2 : [c] ++ t.data.toList.drop (findB t c + 1) = t.data.toList.drop (findB t c) := by
    rw [List.drop_eq_getElem_cons hk, hc]
    rfl
  rw [e2, List.take_append_drop]
theorem split_whole (t : ByteArray) (c : UInt8) (h : cutB t c = false) (hl : t.size ≤ 65536) : leftB t c = t := by
  have h2 : ¬ findB t c < t.size := by simpa [cutB, hl] using h
  rw [leftB, if_pos hl, if_neg h2]
theorem left_size (t : ByteArray) (c : UInt8) : (leftB t c).size ≤ t.size := by
  rw [leftB]
  split
  · split
    · simp
      omega
    · exact Nat.le_refl _
  · exact Nat.zero_le _
theorem right_size (t : ByteArray) (c : UInt8) : (rightB t c).size ≤ t.size := by
  rw [rightB]
  split
  · simp
  · exact Nat.zero_le _
/-- 'string(x)' of a part of a slice that came in. -/
theorem part_string {W : World} {a : Option Addr} {len cap k : Nat} (h : CodeIn W (.slice a len cap) len) (hk : k ≤ len) : ∃ T : ByteArray, T.size = k ∧ ∀ w' cap', Below W.heap.size W w' → (convert 22 9 (.slice a k cap')).run Tryd.prog w' = .ok (.string T) w' := by
  obtain ⟨_, a2, cap2, hv, hc⟩ := h
  injection hv with e1 _ e2
  subst e1
  rcases Nat.eq_zero_or_pos k with rfl | hk0
  · refine ⟨⟨#[]⟩, rfl, fun w' cap' _ => ?_⟩
    show (convert 22 9 (.slice a 0 cap')).run Tryd.prog w' = .ok (.string ByteArray.empty) w'
    rw [run_convert_bytes_string w' 22 9 5 _ 0 cap' Tryd.underlying22 Tryd.underlying5 Tryd.underlying9]
    cases a <;> simp [Conv.bytesToString, loadCells, loadCellsFrom]
  · obtain ⟨cb, off, rfl, hlt, hz⟩ := hc (by omega)
    have hex : ∃ l : List UInt8, l.length = k ∧ ∀ j (hj : j < l.length), W.cell? ⟨cb, off + j, none⟩ = some (.int .u8 (l[j].toNat : Int)) := by
      clear hk0
      induction k with
      | zero => exact ⟨[], rfl, fun j hj => by cases hj⟩
      | succ k ih =>
        obtain ⟨l, hl, hl2⟩ := ih (by omega)
        obtain ⟨z, h0, h1, h2⟩ := hz k (by omega)
        refine ⟨l ++ [UInt8.ofNat z.toNat], by simp [hl], fun j hj => ?_⟩
        by_cases e : j < l.length
        · rw [List.getElem_append_left e]
          exact hl2 j e
        · have : j = k := by simp at hj; omega
          subst this
          rw [List.getElem_append_right (by omega)]
          simp [hl]
          rw [h2]
          congr 2
          omega
    obtain ⟨l, hl, hl2⟩ := hex
    refine ⟨⟨l.toArray⟩, by show l.toArray.size = k; simp [hl], fun w' cap' hb => ?_⟩
    have := run_convert_bytes_back (P := Tryd.prog) w' 22 9 5 ⟨cb, off, none⟩ cap' l Tryd.underlying22 Tryd.underlying5 Tryd.underlying9 (fun j hj => by
      have e : Addr.add ⟨cb, off, none⟩ j = ⟨cb, off + j, none⟩ := by cases j <;> simp [Addr.add]
      rw [e]
      exact (hb.cell (p := ⟨cb, off + j, none⟩) hlt).trans (hl2 j hj))
    rw [hl] at this
    exact this
/-- The three drawn texts, in a block of the call's own. -/
def ThreeTexts (W : World) (v : Value) (wx : World) : Prop :=
  ∃ (nb : Nat) (f : Nat → ByteArray), v = .slice (some ⟨nb, 0, none⟩) 3 3 ∧ W.heap.size ≤ nb ∧ nb < wx.heap.size ∧ (∀ j, (f j).size ≤ 80) ∧ (∀ j, j < 3 → wx.cell? ⟨nb, j, none⟩ = some (.string (f j))) ∧ Below W.heap.size W wx
theorem three_mk {W w' : World} {s0 s1 s2 : ByteArray} (hb : Below W.heap.size W w') (h0 : s0.size ≤ 80) (h1 : s1.size ≤ 80) (h2 : s2.size ≤ 80) : ThreeTexts W (.slice (some ⟨w'.heap.size, 0, none⟩) 3 3) (w'.alloc (.cells #[.string s0, .string s1, .string s2] 9)) := by
  refine ⟨w'.heap.size, fun j => if j = 0 then s0 else if j = 1 then s1 else s2, rfl, hb.size, by simp, fun j => ?_, fun j hj => ?_, hb.alloc hb.size _⟩
  · dsimp only
    split
    · exact h0
    · split
      · exact h1
      · exact h2
  · rw [World.cell?_alloc_at _ _ _ _ rfl]
    rcases (show j = 0 ∨ j = 1 ∨ j = 2 by omega) with rfl | rfl | rfl <;> rfl
/-- 'string([]byte with one byte)', right behind its making. -/
theorem one_byte (c : UInt8) : ∀ W' : World, (convert 22 9 (.slice (some ⟨W'.heap.size, 0, none⟩) 1 1)).run Tryd.prog (W'.alloc (.cells #[.int .u8 c.toNat] 5)) = .ok (.string ⟨#[c]⟩) (W'.alloc (.cells #[.int .u8 c.toNat] 5)) := fun W' =>
  run_convert_bytes_back (P := Tryd.prog) _ 22 9 5 ⟨W'.heap.size, 0, none⟩ 1 [c] Tryd.underlying22 Tryd.underlying5 Tryd.underlying9 (fun j hj => by
    obtain rfl : j = 0 := by simp at hj; exact hj
    rw [add_off, World.cell?_alloc_at _ _ _ _ rfl]
    rfl)
def OctLoop (W : World) (nb : Nat) (f : Nat → ByteArray) (i : Value) (wr : World) : Prop :=
  ∃ j : Nat, j ≤ 3 ∧ i = .int .i64 j ∧ (∀ j, j < 3 → wr.cell? ⟨nb, j, none⟩ = some (.string (f j))) ∧ nb < wr.heap.size ∧ Below W.heap.size W wr
set_option maxHeartbeats 4000000 in
set_option maxRecDepth 100000 in
theorem walk_FnBytes (W : World) (a0 : Option Addr) (len0 cap0 : Nat) (hm0 : len0 ≤ cap0 ∧ cap0 ≤ maxLen ∧ (a0 = none → cap0 = 0)) (hc0 : len0 ≤ 4611686018427387904 → CodeIn W (.slice a0 len0 cap0) len0) (a1 : Option Addr) (len1 cap1 : Nat) (hm1 : len1 ≤ cap1 ∧ cap1 ≤ maxLen ∧ (a1 = none → cap1 = 0)) (hc1 : len1 ≤ 4611686018427387904 → CodeIn W (.slice a1 len1 cap1) len1)
    (hL : laidMetH Tryd.prog Rows.fnBytesRow.laid W) (_ : W.ShapedOpen Tryd.prog) :
    Calls Tryd.prog 3 #[.slice a0 len0 cap0, .slice a1 len1 cap1] W fun e w' => e = .returned (.bool true) ∧ Below W.heap.size W w' := by
  have hT : Hid (TabAt W) := by
    rw [MakeChecks.laidMetH_plain _ _ _ (by kernel_rfl)] at hL
    exact tab_of_laid (laidMet.tail hL)
  clear hL
  unfold maxLen at hm0 hm1
  obtain ⟨hm0, hk0, _⟩ := hm0
  obtain ⟨hm1, hk1, hnil⟩ := hm1
  by_cases h0 : 1048576 < len0
  · clear hc0 hc1
    go_enter Tryd.func3, Tryd.ntmps3
    go_wp2
    go_ret
    exact ⟨rfl, Below.refl _ _⟩
  by_cases h1 : 1048576 < len1
  · clear hc0 hc1
    go_enter Tryd.func3, Tryd.ntmps3
    go_wp2
    go_ret
    exact ⟨rfl, Below.refl _ _⟩
  have C0 := Lib.hid (hc0 (by omega))
  have C1 := Lib.hid (hc1 (by omega))
  clear hc0 hc1
  obtain ⟨k, hmin, hk1, hk2⟩ : ∃ k : Nat, min (len1 : Int) 80 = k ∧ k ≤ len1 ∧ k ≤ 80 := ⟨min len1 80, by omega, by omega, by omega⟩
  obtain ⟨T, hTs, hcv⟩ := part_string (k := k) C1.out hk1
  have h3 : (0 : Int) ≤ k := by omega
  have h4 : (k : Int) ≤ cap1 := by omega
  have h5 : T.size ≤ 80 := by omega
  go_enter Tryd.func3, Tryd.ntmps3
  go_upto_region 3 with fail
  go_cut [5] (fun v wx => ThreeTexts W v wx)
  case first =>
    cases a1 with
    | none =>
      obtain rfl : cap1 = 0 := hnil rfl
      obtain rfl : len1 = 0 := by omega
      obtain rfl : k = 0 := by omega
      have hmin0 : min (0 : Int) 80 = 0 := by decide
      go_region_held3 (fun w' => Below W.heap.size W w' ∧ (convert 22 9 (.slice none 0 0)).run Tryd.prog w' = .ok (.string T) w') (first | (assumption) | exact (Below.refl _ _).drew | exact hcv _ _ (Below.refl _ _).drew | exact ⟨(Below.refl _ _).drew, hcv _ _ (Below.refl _ _).drew⟩ | exact ⟨by assumption, by assumption⟩ | exact ⟨Below.alloc (by assumption) (Below.size (B := W.heap.size) (by assumption)) _, hcv _ _ (Below.alloc (by assumption) (Below.size (B := W.heap.size) (by assumption)) _)⟩)
        (first | (go_at_call 12; refine (octetsDrawn_any _ _ _ (by first | exact CodeIn.below C0.out (by assumption) | exact CodeIn.below C1.out (by assumption) | exact CodeIn.below C0.out (Below.refl _ _).drew | exact CodeIn.below C1.out (Below.refl _ _).drew)).mono ?_; rintro e w' ⟨s, rfl, hs, hb⟩; have hS : Below W.heap.size W w' := Below.trans (by first | assumption | exact (Below.refl _ _).drew) (Below.mono hb (Below.size (B := W.heap.size) (by first | assumption | exact (Below.refl _ _).drew))); have hC := hcv w' 0 hS; clear hb))
      all_goals
        go_wp2_with fail
        go_meet
        exact three_mk (by assumption) (by omega) (by omega) (by omega)
    | some ad =>
      go_region_held3 (fun w' => Below W.heap.size W w' ∧ (convert 22 9 (.slice (some ad) k cap1)).run Tryd.prog w' = .ok (.string T) w') (first | (assumption) | exact (Below.refl _ _).drew | exact hcv _ _ (Below.refl _ _).drew | exact ⟨(Below.refl _ _).drew, hcv _ _ (Below.refl _ _).drew⟩ | exact ⟨by assumption, by assumption⟩ | exact ⟨Below.alloc (by assumption) (Below.size (B := W.heap.size) (by assumption)) _, hcv _ _ (Below.alloc (by assumption) (Below.size (B := W.heap.size) (by assumption)) _)⟩)
        (first | (go_at_call 12; refine (octetsDrawn_any _ _ _ (by first | exact CodeIn.below C0.out (by assumption) | exact CodeIn.below C1.out (by assumption) | exact CodeIn.below C0.out (Below.refl _ _).drew | exact CodeIn.below C1.out (Below.refl _ _).drew)).mono ?_; rintro e w' ⟨s, rfl, hs, hb⟩; have hS : Below W.heap.size W w' := Below.trans (by first | assumption | exact (Below.refl _ _).drew) (Below.mono hb (Below.size (B := W.heap.size) (by first | assumption | exact (Below.refl _ _).drew))); have hC := hcv w' cap1 hS; clear hb))
      all_goals
        go_wp2_with fail
        go_meet
        exact three_mk (by assumption) (by omega) (by omega) (by omega)
  case rest =>
    obtain ⟨nb, f, rfl, hnb, hnl, hf, hcells, hb⟩ := hcut
    have HF := Lib.hid hf
    have HC := Lib.hid hcells
    have HB := Lib.hid hb
    clear hcv hmin h3 h4 h5 hTs hf hcells hb
    go_wp2
    go_loopw [6] (fun i wr => OctLoop W nb f i wr) (fun i _ => 3 - (intOf i).toNat)
    case atStart => exact ⟨0, by omega, rfl, HC.out, hnl, HB.out⟩
    case round =>
      obtain ⟨j, hj, rfl, hcells, hnl2, hb⟩ := hrel
      clear HC HB
      have HC := Lib.hid hcells
      have HB := Lib.hid hb
      clear hcells hb
      by_cases hlt : j < 3
      · have hcell := HC.out j hlt
        obtain ⟨t, ht⟩ : ∃ t, t = f j := ⟨_, rfl⟩
        rw [← ht] at hcell
        have hz : t.size ≤ 80 := by rw [ht]; exact HF.out j
        clear ht
        have hm : Hid (t.size ≤ maxLen) := by show t.size ≤ maxLen; unfold maxLen; omega
        have hf1 : Hid ((foldB t).size ≤ maxLen) := by show (foldB t).size ≤ maxLen; rw [fold_size t (by omega)]; exact hm.out
        have hf2 : Hid (foldB (foldB t) = foldB t) := fold_idem t (by omega)
        have hf3 : (foldB t).size = t.size := fold_size t (by omega)
        have ht1 : Hid ((trimB t).size ≤ maxLen) := Nat.le_trans (trim_le t) hm.out
        have ht2 : Hid (trimB (trimB t) = trimB t) := trim_idem t (by omega)
        have e1 : ((foldB t).toList == (foldB t).toList) = true := seq_true rfl
        have e2 : ((trimB t).toList == (trimB t).toList) = true := seq_true rfl
        have hTr : Hid (TabAt wr) := hT.out.below HB.out
        have C1r : Hid (CodeIn wr (.slice a1 len1 cap1) len1) := C1.out.below HB.out
        go_wp2_with fail
        refine (implFold t _ hm.out hTr.out).mono ?_
        rintro e w1 ⟨rfl, hb1⟩
        have B1 := Lib.hid hb1
        clear hb1
        go_wp2_with fail
        refine (implTrim t _ hm.out).mono ?_
        rintro e w2 ⟨rfl, hb1⟩
        have B2 := Lib.hid (B1.out.trans (hb1.mono B1.out.size))
        clear hb1
        go_wp2_with fail
        refine (at_any _ len1 j 4 _ (by omega) (by omega) (by omega) (C1r.out.below B2.out)).mono ?_
        rintro e w3 ⟨r, rfl, hr, q, rfl⟩
        go_wp2_with fail
        have B3 := Lib.hid (below_drewN B2.out q)
        generalize w2.drewN q = w3 at *
        generalize hcc : ((⟨#[61, 59, 97, 32]⟩ : ByteArray)[r]'(by show r < 4; omega)) = c
        clear hcc hr
        refine (implSplit t c _ hm.out).mono ?_
        rintro e w4 ⟨rfl, hb1⟩
        have B4 := Lib.hid (B3.out.trans (hb1.mono B3.out.size))
        clear hb1 B3
        go_wp2_with fail
        refine (specSplit t c _ hm.out).mono ?_
        rintro e w5 ⟨rfl, hb1⟩
        have B5 := Lib.hid (B4.out.trans (hb1.mono B4.out.size))
        clear hb1 B4
        go_wp2_with fail
        refine (implDecimal t _ hm.out (hTr.out.below B5.out)).mono ?_
        rintro e w6 ⟨rfl, hb1⟩
        have B6 := Lib.hid (B5.out.trans (hb1.mono B5.out.size))
        clear hb1 B5
        go_wp2_with fail
        refine (specDecimal t _ hm.out).mono ?_
        rintro e w' ⟨rfl, rfl⟩
        go_wp2_with fail
        refine (specFold t _ hm.out).mono ?_
        rintro e w7 ⟨rfl, hb1⟩
        have B7 := Lib.hid (B6.out.trans (hb1.mono B6.out.size))
        clear hb1 B6
        go_wp2_with fail
        refine (implFold (foldB t) _ hf1.out (hTr.out.below B7.out)).mono ?_
        rintro e w8 ⟨rfl, hb1⟩
        have B8 := Lib.hid (B7.out.trans (hb1.mono B7.out.size))
        clear hb1 B7
        rw [hf2.out]
        go_wp2_with fail
        refine (specTrim t _ hm.out).mono ?_
        rintro e w' ⟨rfl, rfl⟩
        go_wp2_with fail
        refine (implTrim (trimB t) _ ht1.out).mono ?_
        rintro e w9 ⟨rfl, hb1⟩
        have B9 := Lib.hid (B8.out.trans (hb1.mono B8.out.size))
        clear hb1 B8
        rw [ht2.out]
        go_wp2_with fail
        refine (implTrim _ _ ?_).mono ?_
        · rw [ByteArray.size_append, ByteArray.size_append]
          show (2 + t.size) + 2 ≤ maxLen
          unfold maxLen
          omega
        rintro e w10 ⟨rfl, hb1⟩
        have B10 := Lib.hid (B9.out.trans (hb1.mono B9.out.size))
        clear hb1 B9
        have h7 := trim_pad t (by omega)
        rw [h7]
        clear h7
        go_wp2_with fail
        refine (implControl t _ hm.out (hTr.out.below B10.out)).mono ?_
        rintro e w11 ⟨rfl, hb1⟩
        have B11 := Lib.hid (B10.out.trans (hb1.mono B10.out.size))
        clear hb1 B10
        go_wp2_with fail
        refine (specHas t _ hm.out).mono ?_
        rintro e w' ⟨rfl, rfl⟩
        go_wp2_with fail
        refine (implIsToken t _ hm.out (hTr.out.below B11.out)).mono ?_
        rintro e w12 ⟨rfl, hb1⟩
        have B12 := Lib.hid (B11.out.trans (hb1.mono B11.out.size))
        clear hb1 B11
        go_wp2_with fail
        refine (specIsToken t _ hm.out).mono ?_
        rintro e w' ⟨rfl, rfl⟩
        have hls := left_size t c
        have hrs := right_size t c
        cases hcut : cutB t c with
        | true =>
          have hcvc := one_byte c
          have hl1 : (leftB t c).size ≤ 80 := by omega
          have hr1 : (rightB t c).size ≤ 80 := by omega
          have hl2 : (leftB t c ++ ⟨#[c]⟩).size ≤ 81 := by
            rw [ByteArray.size_append]
            show (leftB t c).size + 1 ≤ 81
            omega
          have hj := split_join t c hcut
          have e5 : (t.toList == t.toList) = true := seq_true rfl
          clear hls hrs
          go_wp2_with fail
          go_roundw
          case rel =>
            have hb2 := B12.out.alloc B12.out.size (.cells #[.int .u8 c.toNat] 5)
            exact ⟨j + 1, by omega, by go_num, fun i hi => cell_kept hb2 (HC.out i hi), Nat.lt_of_lt_of_le hnl2 hb2.size, HB.out.trans (hb2.mono HB.out.size)⟩
          case measure => simp [intOf]; omega
        | false =>
          have e5 : ((leftB t c).toList == t.toList) = true := seq_true (split_whole t c hcut (by omega))
          clear hls hrs
          go_wp2_with fail
          go_roundw
          case rel =>
            have hb2 := B12.out
            exact ⟨j + 1, by omega, by go_num, fun i hi => cell_kept hb2 (HC.out i hi), Nat.lt_of_lt_of_le hnl2 hb2.size, HB.out.trans (hb2.mono HB.out.size)⟩
          case measure => simp [intOf]; omega
      · go_wp2
        go_ret
        exact ⟨rfl, HB.out⟩
end Go.Proofs.YtijhaljmccfcoaaDoor
