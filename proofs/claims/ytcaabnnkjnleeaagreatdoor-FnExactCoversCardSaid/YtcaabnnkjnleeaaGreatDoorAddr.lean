/- IsAddress of the program and of the model: what they answer; the law's walk. No condition of its own. -/
import Derived.Test.YtcaabnnkjnleeaaGreatDoorNumber
import Derived.Test.YtcaabnnkjnleeaaGreatDoorLabels
import Derived.Lib.AtoiErrMem
namespace Go.Proofs.YtcaabnnkjnleeaaGreatDoor
open Go.ChangeShapes Go.WideShapes Go.ChangeAt Go.WideMaps Go.WideElems Go.RowKit

theorem head_neg {t : ByteArray} (h : negB t = true) : octB t.data.toList = false := by
  have hh : t.data.toList.head? = some 45 := by simpa [negB] using h
  cases e : t.data.toList with
  | nil => rw [e] at hh; cases hh
  | cons b l =>
    rw [e] at hh
    obtain rfl : b = 45 := by simpa using hh
    have : dB 45 = false := by decide
    simp [octB, canonL, this]
theorem num_oct (t : ByteArray) : (numOK t && inRange (numV t) 0 255) = octB t.data.toList := by
  cases hn : negB t with
  | true =>
    rw [head_neg hn]
    cases hk : numOK t with
    | false => rfl
    | true =>
      have hk2 := hk
      obtain ⟨_, _, _, _, _, hu, hsg⟩ := neg_true hn
      rw [numOK, hn] at hk2
      simp only [Bool.or_true, Bool.and_true, Bool.and_eq_true, decide_eq_true_eq, Bool.not_eq_true'] at hk2
      obtain ⟨⟨⟨h1, _⟩, hz⟩, hd⟩ := hk2
      have hne : (restB t).data.toList ≠ [] := by
        intro e
        have := congrArg List.length e
        simp at this
        rw [this] at h1
        exact absurd h1 (by decide)
      have hv := (canon_dec (restB t).data.toList (by rw [dB_digit]; exact hd) hne (by
        intro e
        rw [zeroB, e] at hz
        exact absurd hz (by decide))).1
      have e : inRange (numV t) 0 255 = false := by
        rw [numV, hk, if_pos rfl, hsg]
        exact decide_eq_false (by omega)
      rw [e]
      rfl
  | false =>
    obtain ⟨hu, hsg, _, _⟩ := neg_false hn
    have hlen : t.data.toList.length = t.size := by simp
    have hemp : t.data.toList.isEmpty = decide (t.size = 0) := by
      rw [Bool.eq_iff_iff, List.isEmpty_iff, decide_eq_true_eq, ← hlen]
      exact List.length_eq_zero_iff.symm
    have hk : numOK t = (canonL t.data.toList && decide (t.data.toList.length ≤ 18)) := by
      rw [numOK, hu, hn, canonL, hemp, hlen, dB_digit, zeroB, allB]
      have h1 : (t.data.toList.head? != some 48) = !(t.data.toList.head? == some 48) := rfl
      rw [h1]
      generalize (t.data.toList.head? == some 48) = z
      generalize (t.data.toList.all digitB) = d
      cases z <;> cases d <;> rw [Bool.eq_iff_iff] <;> simp only [Bool.and_eq_true, Bool.not_eq_true', decide_eq_true_eq, decide_eq_false_iff_not, Bool.or_false, Bool.and_false, Bool.false_and, Bool.true_and, Bool.and_true, Bool.not_false, Bool.not_true, Bool.true_or, Bool.false_or, Bool.false_eq_true] <;> omega
    rw [octB, ← hk]
    cases hkk : numOK t with
    | false => rfl
    | true =>
      have hv : numV t = (valL t.data.toList : Int) := by
        rw [numV, hkk, if_pos rfl, hsg, hu]
        omega
      rw [hv, inRange, Bool.eq_iff_iff]
      simp only [Bool.true_and, decide_eq_true_eq]
      omega
def addrL (ps : List (List UInt8)) : Bool := decide (ps.length = 4) && ps.all octB
def addrB (s : ByteArray) : Bool := addrL (cutL 46 s.data.toList)
def OctUpto (ps : List (List UInt8)) (k : Nat) : Prop := ∀ j (hj : j < ps.length), j < k → octB ps[j] = true
theorem oct_succ {ps : List (List UInt8)} {k : Nat} (h : OctUpto ps k) (hk : k < ps.length) (hg : octB ps[k] = true) : OctUpto ps (k + 1) := fun j hj h2 => by
  by_cases e : j = k
  · subst e
    exact hg
  · exact h j hj (by omega)
theorem oct_all {ps : List (List UInt8)} {k : Nat} (h : OctUpto ps k) (hk : ps.length ≤ k) : ps.all octB = true := by
  rw [List.all_eq_true]
  intro x hx
  obtain ⟨j, hj, rfl⟩ := List.mem_iff_getElem.1 hx
  exact h j hj (by omega)
theorem oct_not {ps : List (List UInt8)} {k : Nat} (hk : k < ps.length) (hg : octB ps[k] = false) : ps.all octB = false := by
  rw [List.all_eq_false]
  exact ⟨ps[k], List.getElem_mem hk, by simp [hg]⟩
set_option maxHeartbeats 1000000 in
set_option maxRecDepth 100000 in
theorem specAddr (s : ByteArray) (w : World) (hs : s.size ≤ 1048576) : Calls Tryz.prog 121 #[.string s] w fun e w' => e = .returned (.bool (addrB s)) ∧ Below w.heap.size w w' := by
  have hp1 := cutL_pos 46 s.data.toList
  have HM : Hid (∀ x ∈ cutL 46 s.data.toList, x.length ≤ 1048576) := fun x hx => by
    have := cutL_mem hx
    simp at this
    omega
  have HP : Hid (addrB s = addrL (cutL 46 s.data.toList)) := rfl
  have hn4 : ∀ n : Nat, (((n : Int) != 4) = true ∧ n ≠ 4) ∨ (((n : Int) != 4) = false ∧ n = 4) := fun n => by
    by_cases e : n = 4
    · subst e
      exact .inr ⟨rfl, rfl⟩
    · refine .inl ⟨?_, e⟩
      rw [bne_iff_ne]
      omega
  rcases hn4 (cutL 46 s.data.toList).length with ⟨f4, h4⟩ | ⟨f4, h4⟩
  · have HE : Hid (addrB s = false) := by show _ = _; rw [addrB, addrL, decide_eq_false h4]; rfl
    clear h4
    go_enter Tryz.func121, Tryz.ntmps121
    go_wp2_with (go_at_call 97; refine (cut_any s 46 _ hs).mono ?_; rintro e w1 ⟨v, rfl, hown, hb⟩; have HB := Lib.hid hb; have HT := Lib.hid (texts_of_own hp1 hown); clear hown hb; generalize hps : cutL 46 s.data.toList = ps at *; obtain ⟨g, cap, rfl, hg1, hg2, hcap, hcm, _, hcells⟩ := HT.out; have HC := Lib.hid hcells; have HQ := Lib.hid hps; clear hcells hps)
    go_ret
    exact ⟨bool_end HE.out.symm, HB.out⟩
  · have H4 := Lib.hid h4
    clear h4
    go_enter Tryz.func121, Tryz.ntmps121
    go_wp2_with (go_at_call 97; refine (cut_any s 46 _ hs).mono ?_; rintro e w1 ⟨v, rfl, hown, hb⟩; have HB := Lib.hid hb; have HT := Lib.hid (texts_of_own hp1 hown); clear hown hb; generalize hps : cutL 46 s.data.toList = ps at *; obtain ⟨g, cap, rfl, hg1, hg2, hcap, hcm, _, hcells⟩ := HT.out; have HC := Lib.hid hcells; have HQ := Lib.hid hps; clear hcells hps)
    clear f4
    go_loop [4] (fun i => ∃ k : Nat, k ≤ 4 ∧ i = .int .i64 k ∧ OctUpto ps k) (fun i => 4 - (intOf i).toNat)
    case atStart => exact ⟨0, Nat.zero_le _, rfl, fun j hj h => by omega⟩
    case round =>
      obtain ⟨k, hk, rfl, hup⟩ := hrel
      have HU := Lib.hid hup
      clear hup
      by_cases hlt : k < 4
      · have hkp : k < ps.length := by rw [H4.out]; exact hlt
        obtain ⟨u, hu⟩ : ∃ u : ByteArray, u = ⟨ps[k].toArray⟩ := ⟨_, rfl⟩
        have hud : u.data.toList = ps[k] := by rw [hu]
        have hcell : w1.cell? ⟨g, k, none⟩ = some (.string u) := by
          rw [HC.out k hkp, hu]
          rfl
        have HUS : Hid (u.size ≤ maxLen) := by
          have h := HM.out ps[k] (List.getElem_mem hkp)
          rw [← hud] at h
          show u.size ≤ maxLen
          unfold maxLen
          simp at h
          omega
        have HO := Lib.hid (num_oct u)
        have HD := Lib.hid hud
        clear hu hud
        cases hk1 : numOK u with
        | false =>
          have HX : Hid (addrB s = false) := by
            show _ = _
            rw [HP.out, addrL, oct_not hkp (by rw [← HD.out, ← HO.out, hk1]; rfl)]
            simp
          have HK := Lib.hid hk1
          clear hk1
          go_wp2_with (go_at_call 174; refine (number_any _ _ HUS.out).mono ?_; rintro e w' ⟨rfl, rfl⟩; rw [HK.out])
          go_ret
          exact ⟨bool_end HX.out.symm, HB.out⟩
        | true =>
          cases hr : inRange (numV u) 0 255 with
          | false =>
            have HX : Hid (addrB s = false) := by
              show _ = _
              rw [HP.out, addrL, oct_not hkp (by rw [← HD.out, ← HO.out, hr]; simp)]
              simp
            have HK := Lib.hid hk1
            have HR := Lib.hid hr
            clear hk1 hr
            go_wp2_with (first
              | (go_at_call 174; refine (number_any _ _ HUS.out).mono ?_; rintro e w' ⟨rfl, rfl⟩; rw [HK.out])
              | (go_at_call 41; refine (within_any _ _ _ _).mono ?_; rintro e w' ⟨rfl, rfl⟩; rw [HR.out]))
            go_ret
            exact ⟨bool_end HX.out.symm, HB.out⟩
          | true =>
            have HY : Hid (octB ps[k] = true) := by
              show _ = _
              rw [← HD.out, ← HO.out, hk1, hr]
              rfl
            have HK := Lib.hid hk1
            have HR := Lib.hid hr
            clear hk1 hr
            go_wp2_with (first
              | (go_at_call 174; refine (number_any _ _ HUS.out).mono ?_; rintro e w' ⟨rfl, rfl⟩; rw [HK.out])
              | (go_at_call 41; refine (within_any _ _ _ _).mono ?_; rintro e w' ⟨rfl, rfl⟩; rw [HR.out]))
            go_round
            case rel => exact ⟨k + 1, by omega, by go_num, oct_succ HU.out hkp HY.out⟩
            case measure => simp [intOf]; omega
      · go_wp2
        go_ret
        refine ⟨bool_end ?_, HB.out⟩
        rw [HP.out, addrL, oct_all HU.out (by rw [H4.out]; omega), decide_eq_true H4.out]
        rfl
/-! The program's side. -/
theorem var_below {P : Program} {w w' : World} {n : String} {cs : Array Value} (hb : Below w.heap.size w w') (h : w.var? P n = some cs) : w'.var? P n = some cs := by
  unfold World.var? at h ⊢
  cases hg : P.globalNamed n with
  | none => simp [hg] at h
  | some g =>
    simp only [hg, Option.bind_some] at h ⊢
    have hlt : g < w.heap.size := by
      rcases Nat.lt_or_ge g w.heap.size with h' | h'
      · exact h'
      · simp [Array.getElem?_eq_none h'] at h
    rw [hb.block g hlt]
    exact h
/-- What the library's numerals read: the powers of ten, and two errors. -/
def NumAt (w : World) : Prop := Lib.TabIs Tryz.prog w "internal/strconv.uint64pow10" .u64 Lib.pow10Tab ∧ (∃ t p, w.cell? ⟨4, 0, none⟩ = some (.iface t p)) ∧ ∃ t p, w.cell? ⟨5, 0, none⟩ = some (.iface t p)
theorem NumAt.below {w w' : World} (h : NumAt w) (hb : Below w.heap.size w w') : NumAt w' := by
  obtain ⟨h1, ⟨t, p, h2⟩, ⟨t', p', h3⟩⟩ := h
  exact ⟨var_below hb h1, ⟨t, p, cell_kept hb h2⟩, ⟨t', p', cell_kept hb h3⟩⟩
theorem below_grow {w w' : World} (h : ∃ k os, w' = Go.Sort.grow (w.drewN k) os) : Below w.heap.size w w' := by
  obtain ⟨k, os, rfl⟩ := h
  refine ⟨rfl, rfl, rfl, by simp [Go.Sort.grow], fun j hj => ?_⟩
  show (w.heap ++ os)[j]? = w.heap[j]?
  rw [Array.getElem?_append_left hj]
theorem itoa_any (n : Int) (w : World) (h0 : 0 ≤ n) (h1 : n ≤ 255) (hN : NumAt w) : Calls Tryz.prog 216 #[.int .i64 n] w fun e w' => e = .returned (.string ⟨(Lib.itoa n).toArray⟩) ∧ Below w.heap.size w w' := by
  refine (Tryz.strconv_Itoa n (by omega) (by omega) w hN.1).mono ?_
  rintro e w' ⟨rfl, hw⟩
  exact ⟨rfl, below_grow hw⟩
theorem notOctet_any (s : ByteArray) (w : World) (hs : s.size ≤ 1048576) (hN : NumAt w) : Calls Tryz.prog 184 #[.string s] w fun e w' => e = .returned (.bool (!octB s.data.toList)) ∧ Below w.heap.size w w' := by
  have HN := Lib.hid hN
  have HS := Lib.hid (oct_same s.data.toList)
  clear hN
  cases ha : Lib.atoiAll s.data.toList
  · rename_i v
    have HA := Lib.hid ha
    have HO : Hid (octB s.data.toList = (decide (0 ≤ v) && decide (v ≤ 255) && (Lib.itoa v == s.data.toList))) := by
      show _ = _
      rw [← HS.out, octP, ha]
    clear ha
    by_cases h0 : 0 ≤ v
    · by_cases h1 : v ≤ 255
      · go_enter Tryz.func184, Tryz.ntmps184
        go_wp2_with (first
          | (go_at_call 215; refine (Tryz.strconv_Atoi_ok s (by omega) v HA.out _).mono ?_; rintro e w1 ⟨rfl, hw⟩; have HB : Hid (Below w.heap.size w w1) := (by rcases hw with rfl | ⟨t, rfl⟩ <;> first | exact Below.refl _ _ | exact Lib.bytesWorld_below _ _ _); clear hw)
          | (go_at_call 216; refine (itoa_any v _ h0 h1 (HN.out.below HB.out)).mono ?_; rintro e w2 ⟨rfl, hb2⟩; have HB2 := Lib.hid hb2; clear hb2))
        go_ret
        refine ⟨bool_end ?_, HB.out.trans (HB2.out.mono HB.out.size)⟩
        rw [HO.out, decide_eq_true h0, decide_eq_true h1, decide_eq_false (by omega), decide_eq_false (by omega), ByteArray.toList_eq]
        rfl
      · have HE : Hid (octB s.data.toList = false) := by show _ = _; rw [HO.out, decide_eq_false h1]; simp
        go_enter Tryz.func184, Tryz.ntmps184
        go_wp2_with (go_at_call 215; refine (Tryz.strconv_Atoi_ok s (by omega) v HA.out _).mono ?_; rintro e w1 ⟨rfl, hw⟩; have HB : Hid (Below w.heap.size w w1) := (by rcases hw with rfl | ⟨t, rfl⟩ <;> first | exact Below.refl _ _ | exact Lib.bytesWorld_below _ _ _); clear hw)
        go_ret
        exact ⟨bool_end (by rw [HE.out]; rfl), HB.out⟩
    · have HE : Hid (octB s.data.toList = false) := by show _ = _; rw [HO.out, decide_eq_false h0]; rfl
      go_enter Tryz.func184, Tryz.ntmps184
      go_wp2_with (go_at_call 215; refine (Tryz.strconv_Atoi_ok s (by omega) v HA.out _).mono ?_; rintro e w1 ⟨rfl, hw⟩; have HB : Hid (Below w.heap.size w w1) := (by rcases hw with rfl | ⟨t, rfl⟩ <;> first | exact Below.refl _ _ | exact Lib.bytesWorld_below _ _ _); clear hw)
      go_ret
      exact ⟨bool_end (by rw [HE.out]; rfl), HB.out⟩
  · have HA := Lib.hid ha
    have HE : Hid (octB s.data.toList = false) := by show _ = _; rw [← HS.out, octP, ha]
    obtain ⟨t, p, hv⟩ := HN.out.2.1
    have HV := Lib.hid hv
    clear ha hv
    go_enter Tryz.func184, Tryz.ntmps184
    go_wp2_with (go_at_call 215; refine (Any.strconv_Atoi_syntax Tryz.laysC172 s (by omega) HA.out _ _ HV.out (.inr ⟨t, p, rfl⟩)).mono ?_; rintro e w1 ⟨N, rfl, -, -, hb⟩; have HB := Lib.hid hb; clear hb)
    go_ret
    exact ⟨bool_end (by rw [HE.out]; rfl), HB.out⟩
  · have HA := Lib.hid ha
    have HE : Hid (octB s.data.toList = false) := by show _ = _; rw [← HS.out, octP, ha]
    obtain ⟨t, p, hv⟩ := HN.out.2.2
    have HV := Lib.hid hv
    clear ha hv
    go_enter Tryz.func184, Tryz.ntmps184
    go_wp2_with (go_at_call 215; refine (Tryz.strconv_Atoi_range s (by omega) HA.out _ _ HV.out (.inr ⟨t, p, rfl⟩)).mono ?_; rintro e w1 ⟨N, rfl, -, -, hb⟩; have HB := Lib.hid hb; clear hb)
    go_ret
    exact ⟨bool_end (by rw [HE.out]; rfl), HB.out⟩
def FindPost (w : World) (b : Bool) (e : Ending) (w' : World) : Prop := ∃ r : Int, e = .returned (.int .i64 r) ∧ decide (0 ≤ r) = b ∧ Below w.heap.size w w'
theorem indexFunc_any (v : Value) (B : Nat) (ps : List (List UInt8)) (w : World) (hv : TextsIn w B v ps) (hl : ∀ x ∈ ps, x.length ≤ 1048576) (hN : NumAt w) : Calls Tryz.prog 175 #[v, .func (.func 184) #[] #[]] w (FindPost w (!ps.all octB)) := by
  obtain ⟨g, cap, rfl, _, hg2, hcap, hcm, _, hcells⟩ := hv
  have HC := Lib.hid hcells
  have HL := Lib.hid hl
  have HN := Lib.hid hN
  unfold maxLen at hcm
  clear hcells hl hN
  go_enter Tryz.func175, Tryz.ntmps175
  go_wp2
  go_loopw [8] (fun i wr => ∃ k : Nat, k ≤ ps.length ∧ i = .int .i64 k ∧ OctUpto ps k ∧ Below w.heap.size w wr) (fun i _ => ps.length - (intOf i).toNat)
  case atStart => exact ⟨0, Nat.zero_le _, rfl, fun j hj h => by omega, Below.refl _ _⟩
  case round =>
    obtain ⟨k, hk, rfl, hup, hb⟩ := hrel
    have HU := Lib.hid hup
    have HB := Lib.hid hb
    clear hup hb
    by_cases hlt : k < ps.length
    · obtain ⟨u, hu⟩ : ∃ u : ByteArray, u = ⟨ps[k].toArray⟩ := ⟨_, rfl⟩
      have hud : u.data.toList = ps[k] := by rw [hu]
      have hcell : wr.cell? ⟨g, k, none⟩ = some (.string u) := by
        refine (HB.out.cell (p := ⟨g, k, none⟩) hg2).trans ?_
        rw [HC.out k hlt, hu]
        rfl
      have hus : u.size ≤ 1048576 := by
        have h := HL.out ps[k] (List.getElem_mem hlt)
        rw [← hud] at h
        simpa using h
      have HD := Lib.hid hud
      have s1 : (k : Int) < ps.length := by omega
      clear hu hud
      cases ho : octB u.data.toList with
      | true =>
        have HO := Lib.hid ho
        clear ho
        go_wp2_with (go_at_call 184; refine (notOctet_any u _ hus (HN.out.below HB.out)).mono ?_; rintro e w' ⟨rfl, hb⟩; rw [HO.out]; have HB2 := Lib.hid hb; clear hb)
        go_roundw
        case rel => exact ⟨k + 1, by omega, by go_num, oct_succ HU.out hlt (by rw [← HD.out]; exact HO.out), HB.out.trans (HB2.out.mono HB.out.size)⟩
        case measure => simp [intOf]; omega
      | false =>
        have HO := Lib.hid ho
        clear ho
        go_wp2_with (go_at_call 184; refine (notOctet_any u _ hus (HN.out.below HB.out)).mono ?_; rintro e w' ⟨rfl, hb⟩; rw [HO.out]; have HB2 := Lib.hid hb; clear hb)
        go_ret
        refine ⟨(k : Int), rfl, ?_, HB.out.trans (HB2.out.mono HB.out.size)⟩
        rw [oct_not hlt (by rw [← HD.out]; exact HO.out)]
        exact decide_eq_true (by omega)
    · go_wp2
      go_ret
      refine ⟨-1, rfl, ?_, HB.out⟩
      rw [oct_all HU.out (by omega)]
      rfl
set_option maxRecDepth 100000 in
theorem containsFunc_any (v : Value) (B : Nat) (ps : List (List UInt8)) (w : World) (hv : TextsIn w B v ps) (hl : ∀ x ∈ ps, x.length ≤ 1048576) (hN : NumAt w) : Calls Tryz.prog 123 #[v, .func (.func 184) #[] #[]] w fun e w' => e = .returned (.bool (!ps.all octB)) ∧ Below w.heap.size w w' := by
  have HV := Lib.hid hv
  have HL := Lib.hid hl
  have HN := Lib.hid hN
  clear hv hl hN
  go_enter Tryz.func123, Tryz.ntmps123
  go_wp2_with (go_at_call 175; refine (indexFunc_any v B ps _ HV.out HL.out HN.out).mono ?_; rintro e w1 ⟨r, rfl, hr, hb⟩; have HR := Lib.hid hr; have HB := Lib.hid hb; clear hr hb)
  go_ret
  exact ⟨bool_end HR.out, HB.out⟩
set_option maxRecDepth 100000 in
theorem isAddress_any (s : ByteArray) (w : World) (hs : s.size ≤ 65536) (hm : MaxAt w) (hN : NumAt w) : Calls Tryz.prog 139 #[.string s] w fun e w' => e = .returned (.bool (addrB s)) ∧ Below w.heap.size w w' := by
  have HM := Lib.hid hm
  have HN := Lib.hid hN
  have HL : Hid (∀ x ∈ cutL 46 s.data.toList, x.length ≤ 1048576) := fun x hx => by
    have := cutL_mem hx
    simp at this
    omega
  have HP : Hid (addrB s = (decide ((cutL 46 s.data.toList).length = 4) && (cutL 46 s.data.toList).all octB)) := rfl
  clear hm hN
  have hn4 : ∀ n : Nat, (((n : Int) == 4) = true ∧ n = 4) ∨ (((n : Int) == 4) = false ∧ n ≠ 4) := fun n => by
    by_cases e : n = 4
    · subst e
      exact .inl ⟨rfl, rfl⟩
    · refine .inr ⟨?_, e⟩
      rw [beq_eq_false_iff_ne]
      omega
  rcases hn4 (cutL 46 s.data.toList).length with ⟨f4, h4⟩ | ⟨f4, h4⟩
  · have HE : Hid (addrB s = (cutL 46 s.data.toList).all octB) := by show _ = _; rw [HP.out, decide_eq_true h4]; rfl
    clear h4
    go_enter Tryz.func139, Tryz.ntmps139
    go_wp2_with (first
      | (go_at_call 60; refine (labels_any s _ hs HM.out).mono ?_; rintro e w1 ⟨v, rfl, ht, hb⟩; have HT := Lib.hid ht; have HB := Lib.hid hb; clear ht hb; generalize hps : cutL 46 s.data.toList = ps at *; obtain ⟨g, cap, rfl, _⟩ := HT.out; have HQ := Lib.hid hps; clear hps)
      | (go_at_call 123; refine (containsFunc_any _ _ ps _ HT.out HL.out (HN.out.below HB.out)).mono ?_; rintro e w2 ⟨rfl, hb2⟩; have HB2 := Lib.hid hb2; clear hb2))
    go_ret
    exact ⟨bool_end (by rw [HE.out]), HB.out.trans (HB2.out.mono HB.out.size)⟩
  · have HE : Hid (addrB s = false) := by show _ = _; rw [HP.out, decide_eq_false h4]; rfl
    clear h4
    go_enter Tryz.func139, Tryz.ntmps139
    go_wp2_with (go_at_call 60; refine (labels_any s _ hs HM.out).mono ?_; rintro e w1 ⟨v, rfl, ht, hb⟩; have HT := Lib.hid ht; have HB := Lib.hid hb; clear ht hb; generalize hps : cutL 46 s.data.toList = ps at *; obtain ⟨g, cap, rfl, _⟩ := HT.out; have HQ := Lib.hid hps; clear hps)
    go_ret
    exact ⟨bool_end HE.out.symm, HB.out⟩
/-- What IsAddress answers. -/
def isAddr (s : ByteArray) : Bool := hostB s && addrB s
theorem implIsAddr (s : ByteArray) (w : World) (hs : s.size ≤ maxLen) (hT : TabAt w) (hm : MaxAt w) (hN : NumAt w) : Calls Tryz.prog 128 #[.string s] w fun e w' => e = .returned (.bool (isAddr s)) ∧ Below w.heap.size w w' := by
  have HS := Lib.hid hs
  have HT := Lib.hid hT
  have HM := Lib.hid hm
  have HN := Lib.hid hN
  clear hT hm hN
  unfold maxLen at hs
  cases hh : hostB s with
  | true =>
    have h40 := (host_size hh).2
    have HE : Hid (isAddr s = addrB s) := by show _ = _; rw [isAddr, hh]; rfl
    have HH := Lib.hid hh
    have hs6 : s.size ≤ 65536 := by omega
    clear hh
    go_enter Tryz.func128, Tryz.ntmps128
    go_wp2_with (first
      | (go_at_call 99; refine (implHostOK _ _ HS.out HT.out).mono ?_; rintro e w1 ⟨rfl, hb⟩; have HB := Lib.hid hb; clear hb; rw [HH.out])
      | (go_at_call 139; refine (isAddress_any s _ hs6 (HM.out.below HB.out) (HN.out.below HB.out)).mono ?_; rintro e w2 ⟨rfl, hb⟩; have HB2 := Lib.hid hb; clear hb))
    go_ret
    exact ⟨bool_end HE.out.symm, HB.out.trans (HB2.out.mono HB.out.size)⟩
  | false =>
    have HE : Hid (isAddr s = false) := by show _ = _; rw [isAddr, hh]; rfl
    have HH := Lib.hid hh
    clear hh
    go_enter Tryz.func128, Tryz.ntmps128
    go_wp2_with (go_at_call 99; refine (implHostOK _ _ HS.out HT.out).mono ?_; rintro e w1 ⟨rfl, hb⟩; have HB := Lib.hid hb; clear hb; rw [HH.out])
    go_ret
    exact ⟨bool_end HE.out.symm, HB.out⟩
theorem pow_list : Lib.pow10Tab = [1, 10, 100, 1000, 10000, 100000, 1000000, 10000000, 100000000, 1000000000, 10000000000, 100000000000, 1000000000000, 10000000000000, 100000000000000, 1000000000000000, 10000000000000000, 100000000000000000, 1000000000000000000, 10000000000000000000] := by decide +kernel
theorem star : "*" ++ "errors.errorString" = "*errors.errorString" := by decide
theorem row_err (u : TypeId) (h : Tryz.prog.typeName? 3 u = some "*errors.errorString") : u = 249 :=
  typeName_ptr_named (nm := "errors.errorString") (by rw [star]; kernel_rfl) (by kernel_rfl) (by decide) u (by rw [star]; exact h)
theorem num_of_laid {W : World} {r1 r2 r3 : List (String × DataW Unit)} (h1 : laidMet Tryz.prog (("internal/strconv.uint64pow10", Rows.laid_internal_strconv_uint64pow10) :: r1) W) (h2 : laidMet Tryz.prog (("strconv.ErrSyntax", Rows.laid_strconv_ErrSyntax) :: r2) W) (h3 : laidMet Tryz.prog (("strconv.ErrRange", Rows.laid_strconv_ErrRange) :: r3) W) : NumAt W := by
  refine ⟨?_, ?_, ?_⟩
  · rw [pow_list]
    exact Lib.tabIs_of_head (zs := [1, 10, 100, 1000, 10000, 100000, 1000000, 10000000, 100000000, 1000000000, 10000000000, 100000000000, 1000000000000, 10000000000000, 100000000000000, 1000000000000000, 10000000000000000, 100000000000000000, 1000000000000000000, 10000000000000000000]) (k := .u64) (rest := r1) (g := 6) (t := 253) (by kernel_rfl) (by kernel_rfl) Tryz.underlying253 Tryz.underlying163 (by kernel_rfl) (by kernel_rfl) h1
  · obtain ⟨a, s, hv, _⟩ := laid_sentinel (g := 4) (ti := 192) h2 (by kernel_rfl) (by kernel_rfl) Tryz.underlying192 row_err Tryz.underlying249 Tryz.underlying251 rfl rfl Tryz.underlying9 (by kernel_rfl) (by kernel_rfl)
    have := World.var?_cell (g := 4) (by kernel_rfl) hv 0
    exact ⟨_, _, by simpa using this⟩
  · obtain ⟨a, s, hv, _⟩ := laid_sentinel (g := 5) (ti := 192) h3 (by kernel_rfl) (by kernel_rfl) Tryz.underlying192 row_err Tryz.underlying249 Tryz.underlying251 rfl rfl Tryz.underlying9 (by kernel_rfl) (by kernel_rfl)
    have := World.var?_cell (g := 5) (by kernel_rfl) hv 0
    exact ⟨_, _, by simpa using this⟩
theorem laid8 {W : World} {x0 x1 x3 : String × DataW Unit} {rest : List (String × DataW Unit)} (h : laidMet Tryz.prog (x0 :: x1 :: ("internal/strconv.uint64pow10", Rows.laid_internal_strconv_uint64pow10) :: x3 :: ("strconv.ErrRange", Rows.laid_strconv_ErrRange) :: ("strconv.ErrSyntax", Rows.laid_strconv_ErrSyntax) :: ("loop.example/g00803/impl.byteClasses", Rows.laid_loop_example_g00803_impl_byteClasses) :: rest) W) : TabAt W ∧ NumAt W := by
  have h3 := h.tail.tail
  have h5 := h3.tail.tail
  have h6 := h5.tail
  exact ⟨tab_of_laid h6.tail, num_of_laid h3 h6 h5⟩
end Go.Proofs.YtcaabnnkjnleeaaGreatDoor
