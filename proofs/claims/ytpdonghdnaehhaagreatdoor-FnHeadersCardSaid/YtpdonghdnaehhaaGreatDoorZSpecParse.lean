/- ParseSet of the model: what it answers. No condition of its own. -/
import Derived.Test.YtpdonghdnaehhaaGreatDoorZSpecAttr
namespace Go.Proofs.YtpdonghdnaehhaaGreatDoor
open Go.ChangeShapes Go.WideShapes Go.ChangeAt Go.WideMaps Go.WideElems Go.RowKit

theorem spec_attr (q : Ps) (nm t : ByteArray) (w : World) (hn : nm.size ≤ 65536) (ht : t.size ≤ 1048576) : Calls Tryz.prog 186 #[psV q, .string nm, .string t] w fun e w' => e = .returned (psV (if t.size ≤ 60 then doA q (atN (foldB nm)) t else q)) ∧ Below w.heap.size w w' :=
  specAttr q.n q.v q.d q.p q.he q.ha q.hp q.x q.a q.s q.sc q.ho nm t w hn ht
theorem PsB.putOther {w : World} {B R : Nat} {n v d p : ByteArray} {he ha hp : Bool} {x a s : Int} {sc ho : Bool} (h : PsB w R n v d p he ha hp x a s sc ho) (hne : B ≠ R) (n' v' d' p' : ByteArray) (he' ha' hp' : Bool) (x' a' s' : Int) (sc' ho' : Bool) : PsB ((((((((((((w.setCell ⟨B, 0, none⟩ (.string n')).setCell ⟨B, 1, none⟩ (.string v')).setCell ⟨B, 2, none⟩ (.string d')).setCell ⟨B, 3, none⟩ (.string p')).setCell ⟨B, 4, none⟩ (.bool he')).setCell ⟨B, 5, none⟩ (.bool ha')).setCell ⟨B, 6, none⟩ (.bool hp')).setCell ⟨B, 7, none⟩ (.int .i64 x')).setCell ⟨B, 8, none⟩ (.int .i64 a')).setCell ⟨B, 9, none⟩ (.int .i64 s')).setCell ⟨B, 10, none⟩ (.bool sc')).setCell ⟨B, 11, none⟩ (.bool ho')) R n v d p he ha hp x a s sc ho :=
  (((((((((((h.other hne).other hne).other hne).other hne).other hne).other hne).other hne).other hne).other hne).other hne).other hne).other hne
/-- What is still to be read: the parts from k on. -/
def RestP (ps : List (List UInt8)) (k : Nat) (r : ByteArray) (more : Bool) : Prop := if more then ps.drop k = cutL 59 r.data.toList else k = ps.length
theorem rest_split {ps : List (List UInt8)} {k : Nat} {r : ByteArray} (h : ps.drop k = cutL 59 r.data.toList) (hr : r.size ≤ 65536) : ∃ hk : k < ps.length, (⟨ps[k].toArray⟩ : ByteArray) = leftB r 59 ∧ RestP ps (k + 1) (rightB r 59) (cutB r 59) := by
  have hpos : 1 ≤ (cutL 59 r.data.toList).length := cutL_pos _ _
  have hk : k < ps.length := by
    rw [← h, List.length_drop] at hpos
    omega
  refine ⟨hk, ?_⟩
  rw [List.drop_eq_getElem_cons hk] at h
  have hfd : findB r 59 = r.data.toList.findIdx (· == 59) := rfl
  have hsz : r.data.toList.length = r.size := by simp
  by_cases hf : r.data.toList.findIdx (· == 59) < r.data.toList.length
  · rw [cut_at hf] at h
    injection h with h1 h2
    have hcut : cutB r 59 = true := decide_eq_true ⟨hr, by rw [hfd]; omega⟩
    refine ⟨?_, ?_⟩
    · rw [h1, leftB, if_pos hr, if_pos (by rw [hfd]; omega)]
      apply bytes_inj
      rw [Lib.extract_data, List.drop_zero, hfd, Nat.sub_zero]
    · rw [RestP, hcut, if_pos rfl, h2, rightB, if_pos ⟨hr, by rw [hfd]; omega⟩, Lib.extract_data, List.take_of_length_le (by simp), hfd]
  · rw [cut_whole hf] at h
    injection h with h1 h2
    have hcut : cutB r 59 = false := decide_eq_false (fun h3 => hf (by rw [← hfd]; omega))
    refine ⟨?_, ?_⟩
    · rw [h1, leftB, if_pos hr, if_neg (by rw [hfd]; omega)]
    · rw [RestP, hcut, if_neg Bool.false_ne_true]
      have := congrArg List.length h2
      rw [List.length_drop, List.length_nil] at this
      omega
def SpRel (w : World) (B R : Nat) (q0 : Ps) (ps : List (List UInt8)) (rest more : Value) (wr : World) : Prop :=
  ∃ (k : Nat) (r : ByteArray) (b : Bool), k + 1 ≤ ps.length ∧ rest = .string r ∧ r.size ≤ 65536 ∧ more = .bool b ∧ RestP ps (k + 1) r b ∧ PsQ wr B (foldP q0 ((ps.drop 1).take k)) ∧ PsQ wr R psZ ∧ Below w.heap.size w wr
theorem cut_less (r : ByteArray) (c : UInt8) (h : cutB r c = true) : (rightB r c).size + 1 < r.size + 1 := by
  have h2 := of_decide_eq_true h
  rw [rightB, if_pos ⟨h2.1, by omega⟩]
  simp
  omega
def leftP : Value → Value → Nat
  | .string t, .bool true => t.size + 1
  | _, _ => 0
theorem control_is {t : ByteArray} (h : t.size ≤ 65536) : controlOK t = !allB t plainB := by rw [controlOK, decide_eq_true h, Bool.true_and]
set_option maxHeartbeats 8000000 in
set_option maxRecDepth 100000 in
theorem specParseL (t : ByteArray) (w : World) (hl : t.size ≤ 65536) : Calls Tryz.prog 84 #[.string t] w fun e w' => e = .returned (.tuple #[psV (parP t), .int .i64 (parC t)]) ∧ Below w.heap.size w w' := by
  have hs : t.size ≤ maxLen := by unfold maxLen; omega
  have B0 := Lib.hid ((Below.refl w.heap.size w).alloc (Nat.le_refl _) (.cells #[.string ⟨#[]⟩, .string ⟨#[]⟩, .string ⟨#[]⟩, .string ⟨#[]⟩, .bool false, .bool false, .bool false, .int .i64 0, .int .i64 0, .int .i64 0, .bool false, .bool false] 24))
  have P0 := Lib.hid (PsQ.zero w)
  have hci := control_is hl
  cases hctl : controlOK t with
  | true =>
    have hC : parC t = 1 := by rw [parC, if_neg (by omega), hctl, if_pos rfl]
    have HC := Lib.hid hC
    have HV : Hid (parP t = psZ) := Lib.hid (by rw [parP, if_neg (by rw [hC]; decide)])
    have HT : Hid ((!allB t plainB) = true) := Lib.hid (by rw [← hci]; exact hctl)
    clear hC hctl hci
    go_enter Tryz.func84, Tryz.ntmps84
    go_wp2_with (go_at_call 184; refine (specControl t _ hs).mono ?_; rintro e w1 ⟨rfl, rfl⟩; rw [HT.out])
    refine bodyPost_ret (v := .tuple #[.agg #[.string ⟨#[]⟩, .string ⟨#[]⟩, .string ⟨#[]⟩, .string ⟨#[]⟩, .bool false, .bool false, .bool false, .int .i64 0, .int .i64 0, .int .i64 0, .bool false, .bool false], .int .i64 1]) (by simp [results, Tryz.results84, go_sem]) rfl ?_
    exact ⟨by rw [HV.out, HC.out]; rfl, B0.out⟩
  | false =>
    have HT : Hid ((!allB t plainB) = false) := Lib.hid (by rw [← hci]; exact hctl)
    have htl : t.data.toList.length = t.size := by simp
    obtain ⟨hk0, hl0, hr0⟩ := rest_split (ps := partsL t) (k := 0) (r := t) rfl hl
    have hhd := head_part t hk0
    rw [hl0] at hhd
    have hhs : (headT t).size ≤ 65536 := by rw [hhd]; exact Nat.le_trans (left_le t 59) hl
    have HHD := Lib.hid hhd
    have HR0 := Lib.hid hr0
    have hrs : (rightB t 59).size ≤ 65536 := Nat.le_trans (right_le t 59) hl
    clear hhd hl0 hr0 hci
    go_enter Tryz.func84, Tryz.ntmps84
    go_wp2_with fail
    refine (specControl t _ hs).mono ?_
    rintro e w1 ⟨rfl, rfl⟩
    rw [HT.out]
    go_wp2_with fail
    refine (specCut t 59 _ hs hl).mono ?_
    rintro e w2 ⟨rfl, hb⟩
    rw [← HHD.out]
    have B2 := Lib.hid (B0.out.trans (hb.mono B0.out.size))
    have P2 := Lib.hid (P0.out.stays hb)
    clear hb B0 P0
    go_wp2_with fail
    refine (specCut (headT t) 61 _ (by unfold maxLen; omega) hhs).mono ?_
    rintro e w3 ⟨rfl, hb⟩
    have B3 := Lib.hid (B2.out.trans (hb.mono B2.out.size))
    have P3 := Lib.hid (P2.out.stays hb)
    clear hb B2 P2
    have hn1 := nB_le (headT t)
    have hv1 := vB_le (headT t)
    go_upto_if 31 with fail
    go_cut [7, 8, 9] (fun u7 u8 _ wx => u7 = .string (nB (headT t)) ∧ u8 = .string (vB (headT t)) ∧ w3 = wx)
    case first =>
      cases hcb : cutB (headT t) 61 with
      | true =>
        have e1 : nB (headT t) = leftB (headT t) 61 := by rw [nB, hcb, if_pos rfl]
        have e2 : vB (headT t) = rightB (headT t) 61 := by rw [vB, hcb, if_pos rfl]
        go_wp2_with fail
        go_meet
        exact ⟨by rw [e1], by rw [e2], rfl⟩
      | false =>
        have e1 : nB (headT t) = ⟨#[]⟩ := by rw [nB, hcb, if_neg Bool.false_ne_true]
        have e2 : vB (headT t) = leftB (headT t) 61 := by rw [vB, hcb, if_neg Bool.false_ne_true]
        go_wp2_with fail
        go_meet
        exact ⟨by rw [e1], by rw [e2], rfl⟩
    case rest =>
      obtain ⟨rfl, rfl, rfl⟩ := hcut
      have hsn := trim_le (s := nB (headT t)) (by omega)
      have hsv := trim_le (s := vB (headT t)) (by omega)
      have hTN : (⟨(rightL (leftL (nB (headT t)).data.toList)).toArray⟩ : ByteArray) = trimB (nB (headT t)) := by rw [trimB, if_pos (by omega)]
      have hTV : (⟨(rightL (leftL (vB (headT t)).data.toList)).toArray⟩ : ByteArray) = trimB (vB (headT t)) := by rw [trimB, if_pos (by omega)]
      obtain ⟨N, hNN⟩ : ∃ N, trimB (nB (headT t)) = N := ⟨_, rfl⟩
      obtain ⟨V, hVV⟩ : ∃ V, trimB (vB (headT t)) = V := ⟨_, rfl⟩
      have HN : Hid (hN t = N) := Lib.hid hNN
      have HVV : Hid (hV t = V) := Lib.hid hVV
      rw [hNN] at hsn hTN
      rw [hVV] at hsv hTV
      have HTN := Lib.hid hTN
      have HTV := Lib.hid hTV
      have hcode : parC t = if N.size + V.size = 0 then 5 else if 100 < N.size + V.size then 8 else 0 := by
        rw [parC, if_neg (by omega), hctl, if_neg Bool.false_ne_true, HN.out, HVV.out]
      have HCO := Lib.hid hcode
      clear hNN hVV hcode hctl hTN hTV
      go_wp2_with fail
      refine (specTrimL (nB (headT t)) _ (by unfold maxLen; omega)).mono ?_
      rintro e w4 ⟨rfl, rfl⟩
      rw [HTN.out]
      go_wp2_with fail
      refine (specTrimL (vB (headT t)) _ (by unfold maxLen; omega)).mono ?_
      rintro e w4 ⟨rfl, rfl⟩
      rw [HTV.out]
      have P6 := Lib.hid (PsB.new w3 N V ⟨#[]⟩ ⟨#[]⟩ false false false 0 0 4 false false)
      have R6 := Lib.hid (PsB.alloc P3.out (.cells #[.string N, .string V, .string ⟨#[]⟩, .string ⟨#[]⟩, .bool false, .bool false, .bool false, .int .i64 0, .int .i64 0, .int .i64 4, .bool false, .bool false] 24))
      have B6 := Lib.hid (B3.out.alloc B3.out.size (.cells #[.string N, .string V, .string ⟨#[]⟩, .string ⟨#[]⟩, .bool false, .bool false, .bool false, .int .i64 0, .int .i64 0, .int .i64 4, .bool false, .bool false] 24))
      have b6c := P6.out.at
      obtain ⟨a0, a1, a2, a3, a4, a5, a6, a7, a8, a9, a10, a11⟩ := b6c
      have hRlt := P3.out.lt
      by_cases hz : N.size + V.size = 0
      · have e1 : N.toList.isEmpty = true := by
          cases he : N.toList.isEmpty with
          | true => rfl
          | false => have := some_size he; omega
        have e2 : V.toList.isEmpty = true := by
          cases he : V.toList.isEmpty with
          | true => rfl
          | false => have := some_size he; omega
        have HC : Hid (parC t = 5) := Lib.hid (by rw [HCO.out, if_pos hz])
        have HV : Hid (parP t = psZ) := Lib.hid (by rw [parP, if_neg (by rw [HC.out]; decide)])
        obtain ⟨r0, r1, r2, r3, r4, r5, r6, r7, r8, r9, r10, r11⟩ := (show PsB _ w.heap.size ⟨#[]⟩ ⟨#[]⟩ ⟨#[]⟩ ⟨#[]⟩ false false false 0 0 0 false false from P3.out).at
        have f0 := PsB.free P3.out 0
        have f1 := PsB.free P3.out 1
        have f2 := PsB.free P3.out 2
        have f3 := PsB.free P3.out 3
        have f4 := PsB.free P3.out 4
        have f5 := PsB.free P3.out 5
        have f6 := PsB.free P3.out 6
        have f7 := PsB.free P3.out 7
        have f8 := PsB.free P3.out 8
        have f9 := PsB.free P3.out 9
        have f10 := PsB.free P3.out 10
        have f11 := PsB.free P3.out 11
        go_wp2
        obtain ⟨q0, q1, q2, q3, q4, q5, q6, q7, q8, q9, q10, q11⟩ := ((PsB.put (show PsB _ w.heap.size ⟨#[]⟩ ⟨#[]⟩ ⟨#[]⟩ ⟨#[]⟩ false false false 0 0 0 false false from P3.out) ⟨#[]⟩ ⟨#[]⟩ ⟨#[]⟩ ⟨#[]⟩ false false false 0 0 0 false false).alloc (.cells #[.string N, .string V, .string ⟨#[]⟩, .string ⟨#[]⟩, .bool false, .bool false, .bool false, .int .i64 0, .int .i64 0, .int .i64 4, .bool false, .bool false] 24)).at
        refine bodyPost_ret (v := .tuple #[.agg #[.string ⟨#[]⟩, .string ⟨#[]⟩, .string ⟨#[]⟩, .string ⟨#[]⟩, .bool false, .bool false, .bool false, .int .i64 0, .int .i64 0, .int .i64 0, .bool false, .bool false], .int .i64 5]) (by simp [results, Tryz.results84, go_sem, q0, q1, q2, q3, q4, q5, q6, q7, q8, q9, q10, q11]) rfl ?_
        have hpb := putBelow B3.out (Nat.le_refl _) ⟨#[]⟩ ⟨#[]⟩ ⟨#[]⟩ ⟨#[]⟩ false false false 0 0 0 false false
        exact ⟨by rw [HV.out, HC.out]; rfl, hpb.alloc hpb.size _⟩
      · by_cases hbig : 100 < N.size + V.size
        · have HC : Hid (parC t = 8) := Lib.hid (by rw [HCO.out, if_neg hz, if_pos hbig])
          have HV : Hid (parP t = psZ) := Lib.hid (by rw [parP, if_neg (by rw [HC.out]; decide)])
          obtain ⟨r0, r1, r2, r3, r4, r5, r6, r7, r8, r9, r10, r11⟩ := (show PsB _ w.heap.size ⟨#[]⟩ ⟨#[]⟩ ⟨#[]⟩ ⟨#[]⟩ false false false 0 0 0 false false from P3.out).at
          have f0 := PsB.free P3.out 0
          have f1 := PsB.free P3.out 1
          have f2 := PsB.free P3.out 2
          have f3 := PsB.free P3.out 3
          have f4 := PsB.free P3.out 4
          have f5 := PsB.free P3.out 5
          have f6 := PsB.free P3.out 6
          have f7 := PsB.free P3.out 7
          have f8 := PsB.free P3.out 8
          have f9 := PsB.free P3.out 9
          have f10 := PsB.free P3.out 10
          have f11 := PsB.free P3.out 11
          cases e1 : N.toList.isEmpty with
          | false =>
            go_wp2
            obtain ⟨q0, q1, q2, q3, q4, q5, q6, q7, q8, q9, q10, q11⟩ := ((PsB.put (show PsB _ w.heap.size ⟨#[]⟩ ⟨#[]⟩ ⟨#[]⟩ ⟨#[]⟩ false false false 0 0 0 false false from P3.out) ⟨#[]⟩ ⟨#[]⟩ ⟨#[]⟩ ⟨#[]⟩ false false false 0 0 0 false false).alloc (.cells #[.string N, .string V, .string ⟨#[]⟩, .string ⟨#[]⟩, .bool false, .bool false, .bool false, .int .i64 0, .int .i64 0, .int .i64 4, .bool false, .bool false] 24)).at
            refine bodyPost_ret (v := .tuple #[.agg #[.string ⟨#[]⟩, .string ⟨#[]⟩, .string ⟨#[]⟩, .string ⟨#[]⟩, .bool false, .bool false, .bool false, .int .i64 0, .int .i64 0, .int .i64 0, .bool false, .bool false], .int .i64 8]) (by simp [results, Tryz.results84, go_sem, q0, q1, q2, q3, q4, q5, q6, q7, q8, q9, q10, q11]) rfl ?_
            have hpb := putBelow B3.out (Nat.le_refl _) ⟨#[]⟩ ⟨#[]⟩ ⟨#[]⟩ ⟨#[]⟩ false false false 0 0 0 false false
            exact ⟨by rw [HV.out, HC.out]; rfl, hpb.alloc hpb.size _⟩
          | true =>
            have e2 : V.toList.isEmpty = false := by
              cases he : V.toList.isEmpty with
              | false => rfl
              | true => have h1 := empty_size e1; have h2 := empty_size he; omega
            go_wp2
            obtain ⟨q0, q1, q2, q3, q4, q5, q6, q7, q8, q9, q10, q11⟩ := ((PsB.put (show PsB _ w.heap.size ⟨#[]⟩ ⟨#[]⟩ ⟨#[]⟩ ⟨#[]⟩ false false false 0 0 0 false false from P3.out) ⟨#[]⟩ ⟨#[]⟩ ⟨#[]⟩ ⟨#[]⟩ false false false 0 0 0 false false).alloc (.cells #[.string N, .string V, .string ⟨#[]⟩, .string ⟨#[]⟩, .bool false, .bool false, .bool false, .int .i64 0, .int .i64 0, .int .i64 4, .bool false, .bool false] 24)).at
            refine bodyPost_ret (v := .tuple #[.agg #[.string ⟨#[]⟩, .string ⟨#[]⟩, .string ⟨#[]⟩, .string ⟨#[]⟩, .bool false, .bool false, .bool false, .int .i64 0, .int .i64 0, .int .i64 0, .bool false, .bool false], .int .i64 8]) (by simp [results, Tryz.results84, go_sem, q0, q1, q2, q3, q4, q5, q6, q7, q8, q9, q10, q11]) rfl ?_
            have hpb := putBelow B3.out (Nat.le_refl _) ⟨#[]⟩ ⟨#[]⟩ ⟨#[]⟩ ⟨#[]⟩ false false false 0 0 0 false false
            exact ⟨by rw [HV.out, HC.out]; rfl, hpb.alloc hpb.size _⟩
        · have HC : Hid (parC t = 0) := Lib.hid (by rw [HCO.out, if_neg hz, if_neg hbig])
          have HV : Hid (parP t = foldP (ps0 N V) ((partsL t).drop 1)) := Lib.hid (by rw [parP, if_pos HC.out, HN.out, HVV.out])
          have hcase : N.toList.isEmpty = false ∨ (N.toList.isEmpty = true ∧ V.toList.isEmpty = false) := by
            cases e1 : N.toList.isEmpty with
            | false => exact .inl rfl
            | true =>
              refine .inr ⟨rfl, ?_⟩
              cases he : V.toList.isEmpty with
              | false => rfl
              | true => have h1 := empty_size e1; have h2 := empty_size he; omega
          have hsum : N.size + V.size ≤ 100 := by omega
          clear hz hbig B3 P3 HCO hsn hsv hn1 hv1
          go_upto_region 9 with fail
          go_cut [45] (fun u wx => u = .bool false ∧ wx = w3.alloc (.cells #[.string N, .string V, .string ⟨#[]⟩, .string ⟨#[]⟩, .bool false, .bool false, .bool false, .int .i64 0, .int .i64 0, .int .i64 4, .bool false, .bool false] 24))
          case first =>
            rcases hcase with e1 | ⟨e1, e2⟩
            · go_wp2_with fail
              go_meet
              exact ⟨rfl, rfl⟩
            · go_wp2_with fail
              go_meet
              exact ⟨rfl, rfl⟩
          case rest =>
            obtain ⟨rfl, rfl⟩ := hcut
            clear hcase
            go_wp2_with fail
            obtain ⟨ps, hps⟩ : ∃ ps, partsL t = ps := ⟨_, rfl⟩
            have HPS := Lib.hid hps
            have hHR := HR0.out
            rw [hps] at hHR hk0
            clear hps HR0 a0 a1 a2 a3 a4 a5 a6 a7 a8 a9 a10 a11
            go_loopw [5, 6] (fun rest more wr => SpRel w w3.heap.size w.heap.size (ps0 N V) ps rest more wr) (fun rest more _ => leftP rest more)
            case atStart => exact ⟨0, _, _, by omega, rfl, hrs, rfl, hHR, P6.out, R6.out, B6.out⟩
            case round =>
              obtain ⟨k, r, b, hk, rfl, hr5, rfl, hRP, hP, hR, hb⟩ := hrel
              have HR := Lib.hid hR
              have HB := Lib.hid hb
              clear hR hb P6 R6 B6 hHR hrs
              obtain ⟨q, hq⟩ : ∃ q, foldP (ps0 N V) ((ps.drop 1).take k) = q := ⟨_, rfl⟩
              rw [hq] at hP
              have HP := Lib.hid hP
              cases b with
              | true =>
                rw [RestP, if_pos rfl] at hRP
                obtain ⟨hk1, hone, hrest⟩ := rest_split hRP hr5
                have hNX : foldP (ps0 N V) ((ps.drop 1).take (k + 1)) = attrP q (leftB r 59) := by
                  rw [fold_next (by rw [List.length_drop]; omega), hq, ← hone]
                  simp only [List.getElem_drop]
                  congr 2
                  simp only [show 1 + k = k + 1 by omega]
                have hl1 := left_le r 59
                have hr1 := right_le r 59
                obtain ⟨u, hu⟩ : ∃ u, leftB r 59 = u := ⟨_, rfl⟩
                rw [hu] at hNX hl1
                have hl2 := left_le u 61
                have hr2 := right_le u 61
                have ht1 := trim_le (s := leftB u 61) (by omega)
                have ht2 := trim_le (s := rightB u 61) (by omega)
                have hT1 : (⟨(rightL (leftL (leftB u 61).data.toList)).toArray⟩ : ByteArray) = trimB (leftB u 61) := by rw [trimB, if_pos (by omega)]
                have hT2 : (⟨(rightL (leftL (rightB u 61).data.toList)).toArray⟩ : ByteArray) = trimB (rightB u 61) := by rw [trimB, if_pos (by omega)]
                have hAP : attrP q u = if (trimB (rightB u 61)).size ≤ 60 then doA q (atN (foldB (trimB (leftB u 61)))) (trimB (rightB u 61)) else q := rfl
                rw [hAP] at hNX
                clear hAP hone hq hP
                obtain ⟨q2, hq2⟩ : ∃ q2, (if (trimB (rightB u 61)).size ≤ 60 then doA q (atN (foldB (trimB (leftB u 61)))) (trimB (rightB u 61)) else q) = q2 := ⟨_, rfl⟩
                rw [hq2] at hNX
                have HNX := Lib.hid hNX
                have hle1 : cutB r 59 = true → (rightB r 59).size + 1 < r.size + 1 := cut_less r 59
                have HLE := Lib.hid hle1
                have HRS := Lib.hid hrest
                clear hNX hrest hRP hle1
                go_wp2_with fail
                refine (specCut r 59 _ (by unfold maxLen; omega) hr5).mono ?_
                rintro e w8 ⟨rfl, hb8⟩
                rw [hu]
                have B8 := Lib.hid (HB.out.trans (hb8.mono HB.out.size))
                have P8 := Lib.hid (HP.out.stays hb8)
                have R8 := Lib.hid (HR.out.stays hb8)
                clear hb8 HB HP HR hu
                go_wp2_with fail
                refine (specCut u 61 _ (by unfold maxLen; omega) (by omega)).mono ?_
                rintro e w9 ⟨rfl, hb9⟩
                have B9 := Lib.hid (B8.out.trans (hb9.mono B8.out.size))
                have P9 := Lib.hid (P8.out.stays hb9)
                have R9 := Lib.hid (R8.out.stays hb9)
                clear hb9 B8 P8 R8
                obtain ⟨X1, hX1⟩ : ∃ X1, leftB u 61 = X1 := ⟨_, rfl⟩
                obtain ⟨X2, hX2⟩ : ∃ X2, rightB u 61 = X2 := ⟨_, rfl⟩
                rw [hX1] at hl2 ht1 hT1 hq2 ⊢
                rw [hX2] at hr2 ht2 hT2 hq2 ⊢
                obtain ⟨Y1, hY1⟩ : ∃ Y1, trimB X1 = Y1 := ⟨_, rfl⟩
                obtain ⟨Y2, hY2⟩ : ∃ Y2, trimB X2 = Y2 := ⟨_, rfl⟩
                rw [hY1] at ht1 hT1 hq2
                rw [hY2] at ht2 hT2 hq2
                have HT1 := Lib.hid hT1
                have HT2 := Lib.hid hT2
                have HQ2 := Lib.hid hq2
                clear hX1 hX2 hY1 hY2 hT1 hT2 hq2
                obtain ⟨n', v', d', p', he', ha', hp', x', a', s', sc', ho'⟩ := q
                obtain ⟨n2, v2, d2, p2, he2, ha2, hp2, x2, a2, s2, sc2, ho2⟩ := q2
                obtain ⟨k0, k1, k2, k3, k4, k5, k6, k7, k8, k9, k10, k11⟩ := PsB.at P9.out
                have hy1 : Y1.size ≤ 65536 := by omega
                have hy2 : Y2.size ≤ 1048576 := by omega
                have hx1 : X1.size ≤ maxLen := by unfold maxLen; omega
                have hx2 : X2.size ≤ maxLen := by unfold maxLen; omega
                have hsa : ∀ W' : World, Calls Tryz.prog 186 #[.agg #[.string n', .string v', .string d', .string p', .bool he', .bool ha', .bool hp', .int .i64 x', .int .i64 a', .int .i64 s', .bool sc', .bool ho'], .string Y1, .string Y2] W' fun e w' => e = .returned (.agg #[.string n2, .string v2, .string d2, .string p2, .bool he2, .bool ha2, .bool hp2, .int .i64 x2, .int .i64 a2, .int .i64 s2, .bool sc2, .bool ho2]) ∧ Below W'.heap.size W' w' := by
                  intro W'
                  have h := specAttr n' v' d' p' he' ha' hp' x' a' s' sc' ho' Y1 Y2 W' hy1 hy2
                  rw [HQ2.out] at h
                  exact h
                have HSA := Lib.hid hsa
                have ht1 : ∀ W' : World, Calls Tryz.prog 185 #[.string X1] W' fun e w' => e = .returned (.string Y1) ∧ W' = w' := by
                  intro W'
                  have h := specTrimL X1 W' hx1
                  rw [HT1.out] at h
                  exact h
                have ht2 : ∀ W' : World, Calls Tryz.prog 185 #[.string X2] W' fun e w' => e = .returned (.string Y2) ∧ W' = w' := by
                  intro W'
                  have h := specTrimL X2 W' hx2
                  rw [HT2.out] at h
                  exact h
                have HTR1 := Lib.hid ht1
                have HTR2 := Lib.hid ht2
                clear hsa ht1 ht2
                go_wp2_with fail
                go_region_with (first
                  | (go_at_call 186; refine (HSA.out _).mono ?_; rintro e wa ⟨rfl, hb⟩; have hPa := PsB.stays P9.out.drew hb; have hRa := PsB.stays R9.out.drew hb; have hBa := B9.out.drew.trans (hb.mono B9.out.drew.size); have PA := Lib.hid hPa; have RA := Lib.hid hRa; have BA := Lib.hid hBa; obtain ⟨e0, e1, e2, e3, e4, e5, e6, e7, e8, e9, e10, e11⟩ := PsB.at hPa; have f0 := PsB.free hPa 0; have f1 := PsB.free hPa 1; have f2 := PsB.free hPa 2; have f3 := PsB.free hPa 3; have f4 := PsB.free hPa 4; have f5 := PsB.free hPa 5; have f6 := PsB.free hPa 6; have f7 := PsB.free hPa 7; have f8 := PsB.free hPa 8; have f9 := PsB.free hPa 9; have f10 := PsB.free hPa 10; have f11 := PsB.free hPa 11; clear hb hRa hBa k0 k1 k2 k3 k4 k5 k6 k7 k8 k9 k10 k11)
                  | (go_at_call 185; with_reducible refine (HTR1.out _).mono ?_; rintro e wa ⟨rfl, rfl⟩)
                  | (go_at_call 185; with_reducible refine (HTR2.out _).mono ?_; rintro e wa ⟨rfl, rfl⟩))
                all_goals
                  go_roundw
                  case rel =>
                    refine ⟨_, _, _, _, _, _, _, _, _, _, _, _, _, _, _, _, _, _, _, _, _, _, _, _, _, ?_, rfl⟩
                    refine ⟨k + 1, _, _, by omega, rfl, by omega, rfl, HRS.out, ?_, ?_, ?_⟩
                    · rw [HNX.out]
                      exact PsB.put PA.out n2 v2 d2 p2 he2 ha2 hp2 x2 a2 s2 sc2 ho2
                    · exact PsB.putOther (show PsB _ w.heap.size ⟨#[]⟩ ⟨#[]⟩ ⟨#[]⟩ ⟨#[]⟩ false false false 0 0 0 false false from RA.out) (by omega) n2 v2 d2 p2 he2 ha2 hp2 x2 a2 s2 sc2 ho2
                    · exact putBelow BA.out (by omega) n2 v2 d2 p2 he2 ha2 hp2 x2 a2 s2 sc2 ho2
                  case measure =>
                    cases hc : cutB r 59 with
                    | true => exact HLE.out hc
                    | false => exact Nat.succ_pos _
              | false =>
                rw [RestP, if_neg Bool.false_ne_true] at hRP
                have hall : foldP (ps0 N V) (ps.drop 1) = q := by
                  rw [← hq, List.take_of_length_le (by rw [List.length_drop]; omega)]
                have HAL : Hid (parP t = q) := Lib.hid (by rw [HV.out, HPS.out, hall])
                clear hq hall hP
                obtain ⟨n', v', d', p', he', ha', hp', x', a', s', sc', ho'⟩ := q
                obtain ⟨k0, k1, k2, k3, k4, k5, k6, k7, k8, k9, k10, k11⟩ := PsB.at HP.out
                obtain ⟨r0, r1, r2, r3, r4, r5, r6, r7, r8, r9, r10, r11⟩ := (show PsB _ w.heap.size ⟨#[]⟩ ⟨#[]⟩ ⟨#[]⟩ ⟨#[]⟩ false false false 0 0 0 false false from HR.out).at
                have f0 := PsB.free HR.out 0
                have f1 := PsB.free HR.out 1
                have f2 := PsB.free HR.out 2
                have f3 := PsB.free HR.out 3
                have f4 := PsB.free HR.out 4
                have f5 := PsB.free HR.out 5
                have f6 := PsB.free HR.out 6
                have f7 := PsB.free HR.out 7
                have f8 := PsB.free HR.out 8
                have f9 := PsB.free HR.out 9
                have f10 := PsB.free HR.out 10
                have f11 := PsB.free HR.out 11
                go_wp2_with fail
                obtain ⟨q0, q1, q2, q3, q4, q5, q6, q7, q8, q9, q10, q11⟩ := (PsB.put (show PsB _ w.heap.size ⟨#[]⟩ ⟨#[]⟩ ⟨#[]⟩ ⟨#[]⟩ false false false 0 0 0 false false from HR.out) n' v' d' p' he' ha' hp' x' a' s' sc' ho').at
                refine bodyPost_ret (v := .tuple #[.agg #[.string n', .string v', .string d', .string p', .bool he', .bool ha', .bool hp', .int .i64 x', .int .i64 a', .int .i64 s', .bool sc', .bool ho'], .int .i64 0]) (by simp [results, Tryz.results84, go_sem, q0, q1, q2, q3, q4, q5, q6, q7, q8, q9, q10, q11]) rfl ?_
                exact ⟨by rw [HAL.out, HC.out]; rfl, putBelow HB.out (Nat.le_refl _) n' v' d' p' he' ha' hp' x' a' s' sc' ho'⟩
set_option maxHeartbeats 4000000 in
set_option maxRecDepth 100000 in
theorem specParse (t : ByteArray) (w : World) : Calls Tryz.prog 15 #[.string t] w fun e w' => e = .returned (.tuple #[psV (parP t), .int .i64 (parC t)]) ∧ Below w.heap.size w w' := by
  have B0 := Lib.hid ((Below.refl w.heap.size w).alloc (Nat.le_refl _) (.cells #[.string ⟨#[]⟩, .string ⟨#[]⟩, .string ⟨#[]⟩, .string ⟨#[]⟩, .bool false, .bool false, .bool false, .int .i64 0, .int .i64 0, .int .i64 0, .bool false, .bool false] 24))
  have P0 := Lib.hid (PsQ.zero w)
  by_cases hl : t.size ≤ 65536
  · go_enter Tryz.func15, Tryz.ntmps15
    go_wp2_with fail
    refine (specParseL t _ hl).mono ?_
    rintro e w1 ⟨rfl, hb⟩
    have B1 := Lib.hid (B0.out.trans (hb.mono B0.out.size))
    have P1 := Lib.hid (P0.out.stays hb)
    clear hb B0 P0
    obtain ⟨q, hq⟩ : ∃ q, parP t = q := ⟨_, rfl⟩
    obtain ⟨c, hc⟩ : ∃ c, parC t = c := ⟨_, rfl⟩
    rw [hq, hc]
    obtain ⟨n', v', d', p', he', ha', hp', x', a', s', sc', ho'⟩ := q
    have HQ := Lib.hid hq
    have HC := Lib.hid hc
    clear hq hc
    obtain ⟨r0, r1, r2, r3, r4, r5, r6, r7, r8, r9, r10, r11⟩ := (show PsB _ w.heap.size ⟨#[]⟩ ⟨#[]⟩ ⟨#[]⟩ ⟨#[]⟩ false false false 0 0 0 false false from P1.out).at
    have f0 := PsB.free P1.out 0
    have f1 := PsB.free P1.out 1
    have f2 := PsB.free P1.out 2
    have f3 := PsB.free P1.out 3
    have f4 := PsB.free P1.out 4
    have f5 := PsB.free P1.out 5
    have f6 := PsB.free P1.out 6
    have f7 := PsB.free P1.out 7
    have f8 := PsB.free P1.out 8
    have f9 := PsB.free P1.out 9
    have f10 := PsB.free P1.out 10
    have f11 := PsB.free P1.out 11
    unfold psV
    go_wp2_with fail
    obtain ⟨q0, q1, q2, q3, q4, q5, q6, q7, q8, q9, q10, q11⟩ := (PsB.put (show PsB _ w.heap.size ⟨#[]⟩ ⟨#[]⟩ ⟨#[]⟩ ⟨#[]⟩ false false false 0 0 0 false false from P1.out) n' v' d' p' he' ha' hp' x' a' s' sc' ho').at
    refine bodyPost_ret (v := .tuple #[.agg #[.string n', .string v', .string d', .string p', .bool he', .bool ha', .bool hp', .int .i64 x', .int .i64 a', .int .i64 s', .bool sc', .bool ho'], .int .i64 c]) (by simp [results, Tryz.results15, go_sem, q0, q1, q2, q3, q4, q5, q6, q7, q8, q9, q10, q11]) rfl ?_
    exact ⟨by rw [HQ.out, HC.out]; rfl, putBelow B1.out (Nat.le_refl _) n' v' d' p' he' ha' hp' x' a' s' sc' ho'⟩
  · have HC : Hid (parC t = 2) := Lib.hid (by rw [parC, if_pos (by omega)])
    have HV : Hid (parP t = psZ) := Lib.hid (by rw [parP, if_neg (by rw [HC.out]; decide)])
    go_enter Tryz.func15, Tryz.ntmps15
    go_wp2
    refine bodyPost_ret (v := .tuple #[.agg #[.string ⟨#[]⟩, .string ⟨#[]⟩, .string ⟨#[]⟩, .string ⟨#[]⟩, .bool false, .bool false, .bool false, .int .i64 0, .int .i64 0, .int .i64 0, .bool false, .bool false], .int .i64 2]) (by simp [results, Tryz.results15, go_sem]) rfl ?_
    exact ⟨by rw [HV.out, HC.out]; rfl, (Below.refl _ _).alloc (Nat.le_refl _) _⟩
end Go.Proofs.YtpdonghdnaehhaaGreatDoor
