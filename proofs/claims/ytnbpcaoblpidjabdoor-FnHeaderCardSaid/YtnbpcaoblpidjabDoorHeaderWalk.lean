/- The walk of the law on the header that tells cookies. No condition of its own. -/
import Derived.Test.YtnbpcaoblpidjabDoorCksDraw
import Derived.Test.YtnbpcaoblpidjabDoorCkHead
import Derived.Test.YtnbpcaoblpidjabDoorPairs
import Derived.Test.YtnbpcaoblpidjabDoorSame
import Derived.RegionTactic
import Derived.Deep.QuietTactic
import Derived.BigQuiet
namespace Go.Proofs.YtnbpcaoblpidjabDoor
open Go.ChangeShapes Go.WideShapes Go.ChangeAt Go.WideMaps Go.WideElems Go.RowKit

/-- A cookie with a name. -/
def nam (q : Ck) : Ck := if q.n.size = 0 then { q with n := ⟨#[110]⟩ } else q
theorem n_pairs : ∀ v ∈ valTexts, pairOKB ⟨#[110]⟩ v = true := by decide +kernel
theorem name_bytes : ∀ n ∈ nameTexts, (61 : UInt8) ∉ n.data.toList ∧ (59 : UInt8) ∉ n.data.toList := by decide +kernel
theorem val_bytes : ∀ v ∈ valTexts, (59 : UInt8) ∉ v.data.toList := by decide +kernel
theorem nam_facts {q : Ck} (h : CkDrawn q) : ckOK (nam q) = true ∧ 0 < (nam q).n.size ∧ (61 : UInt8) ∉ (nam q).n.data.toList ∧ (59 : UInt8) ∉ (nam q).n.data.toList ∧ (59 : UInt8) ∉ (nam q).v.data.toList ∧ wtC (nam q) ≤ 40 := by
  obtain ⟨h1, h2, h3, h4, h5⟩ := h
  have a1 := name_texts _ h2
  have a2 := val_texts _ h3
  have a3 := host_sizes _ h4
  have a4 := (path_texts _ h5).2
  unfold nam
  split
  · rename_i h0
    refine ⟨?_, by show 0 < 1; omega, by show (61 : UInt8) ∉ [110]; decide, by show (59 : UInt8) ∉ [110]; decide, val_bytes _ h3, by unfold wtC; show 1 + q.v.size + q.d.size + q.p.size ≤ 40; omega⟩
    unfold ckOK at h1 ⊢
    simp only [Bool.and_eq_true] at h1 ⊢
    exact ⟨h1.1, n_pairs _ h3, h1.2.2⟩
  · exact ⟨h1, by omega, (name_bytes _ h2).1, (name_bytes _ h2).2, val_bytes _ h3, by unfold wtC; omega⟩
theorem ckAt_name {w : World} {g o : Nat} {q : Ck} (h : CkAt w g o q) (y : ByteArray) : CkAt (w.setCell ⟨g, o + 1, none⟩ (.string y)) g o { q with n := y } := by
  obtain ⟨c0, c1, c2, c3, c4, c5, c6, c7, c8, c9, c10, c11⟩ := h
  exact ⟨(cell_put_ne (by omega)).trans c0, cell_put_eq c1, (cell_put_ne (by omega)).trans c2, (cell_put_ne (by omega)).trans c3, (cell_put_ne (by omega)).trans c4, (cell_put_ne (by omega)).trans c5, (cell_put_ne (by omega)).trans c6, (cell_put_ne (by omega)).trans c7, (cell_put_ne (by omega)).trans c8, (cell_put_ne (by omega)).trans c9, (cell_put_ne (by omega)).trans c10, (cell_put_ne (by omega)).trans c11⟩
theorem ckAt_far {w : World} {g o t : Nat} {q : Ck} {u : Value} (h : CkAt w g t q) (ht : t + 12 ≤ o ∨ o + 12 ≤ t) : CkAt (w.setCell ⟨g, o + 1, none⟩ u) g t q := by
  obtain ⟨c0, c1, c2, c3, c4, c5, c6, c7, c8, c9, c10, c11⟩ := h
  exact ⟨(cell_put_ne (by omega)).trans c0, (cell_put_ne (by omega)).trans c1, (cell_put_ne (by omega)).trans c2, (cell_put_ne (by omega)).trans c3, (cell_put_ne (by omega)).trans c4, (cell_put_ne (by omega)).trans c5, (cell_put_ne (by omega)).trans c6, (cell_put_ne (by omega)).trans c7, (cell_put_ne (by omega)).trans c8, (cell_put_ne (by omega)).trans c9, (cell_put_ne (by omega)).trans c10, (cell_put_ne (by omega)).trans c11⟩
/-- The first k cookies have names. -/
def NmRel (W : World) (a : Option Addr) (qs : List Ck) (i : Value) (wr : World) : Prop :=
  ∃ k : Nat, k ≤ qs.length ∧ i = .int .i64 k ∧ Below W.heap.size W wr ∧ (0 < qs.length → ∃ g, a = some ⟨g, 0, none⟩ ∧ W.heap.size ≤ g ∧ g < wr.heap.size ∧ (∀ t, t < qs.length * 12 → wr.frozen? ⟨g, t, none⟩ = false) ∧ ∀ j (hj : j < qs.length), CkAt wr g (j * 12) (if j < k then nam qs[j] else qs[j]))
theorem nm_row {W : World} {a : Option Addr} {cap : Nat} {qs : List Ck} {wr : World} (hc : qs.length ≤ cap) (hm : cap ≤ maxLen) (h : 0 < qs.length → ∃ g, a = some ⟨g, 0, none⟩ ∧ W.heap.size ≤ g ∧ g < wr.heap.size ∧ (∀ t, t < qs.length * 12 → wr.frozen? ⟨g, t, none⟩ = false) ∧ ∀ j (hj : j < qs.length), CkAt wr g (j * 12) (if j < qs.length then nam qs[j] else qs[j])) : RowCk wr W.heap.size (.slice a qs.length cap) (qs.map nam) := by
  refine ⟨a, cap, by rw [List.length_map], by rw [List.length_map]; exact hc, hm, fun h0 => ?_⟩
  rw [List.length_map] at h0
  obtain ⟨g, rfl, h1, h2, h3, h4⟩ := h h0
  refine ⟨g, rfl, h1, h2, fun t ht => h3 t (by rw [List.length_map] at ht; exact ht), fun j hj => ?_⟩
  have hj2 : j < qs.length := by rw [List.length_map] at hj; exact hj
  have := h4 j hj2
  rw [if_pos hj2] at this
  rw [List.getElem_map]
  exact this
theorem wt_small : ∀ qs : List Ck, (∀ q ∈ qs, wtC q ≤ 40) → wtL qs ≤ 40 * qs.length
  | [], _ => Nat.le_refl _
  | q :: qs, h => by
    have h1 := h q (by simp)
    have h2 := wt_small qs (fun x hx => h x (by simp [hx]))
    simp only [wtL, List.map_cons, List.foldr_cons, List.length_cons] at h2 ⊢
    omega
/-- What is told of cookies with names is read back. -/
def tellL (qs : List Ck) : List (List UInt8) := (nvC qs).flatMap fun p => [p.1, p.2]
theorem tell_length (qs : List Ck) : (tellL qs).length = 2 * qs.length := by
  induction qs with
  | nil => rfl
  | cons q qs ih =>
    simp only [tellL, nvC, List.map_cons, List.flatMap_cons, List.length_append, List.length_cons, List.length_nil] at ih ⊢
    omega
theorem tell_get : ∀ (qs : List Ck) (j : Nat) (hj : j < qs.length), (tellL qs)[2 * j]? = some qs[j].n.data.toList ∧ (tellL qs)[2 * j + 1]? = some qs[j].v.data.toList
  | q :: qs, 0, _ => ⟨rfl, rfl⟩
  | q :: qs, j + 1, hj => by
    have h := tell_get qs j (by simpa using hj)
    have e : tellL (q :: qs) = [q.n.data.toList, q.v.data.toList] ++ tellL qs := rfl
    rw [e, List.getElem?_append_right (by simp; omega), List.getElem?_append_right (by simp; omega)]
    simpa [show 2 * (j + 1) - 2 = 2 * j by omega, show 2 * (j + 1) + 1 - 2 = 2 * j + 1 by omega] using h
theorem read_told {qs : List Ck} (h5 : qs.length ≤ 5) (h : ∀ q ∈ qs, CkDrawn q) : prsC (headT (qs.map nam) qs.length) = 0 ∧ prsL (headT (qs.map nam) qs.length) = tellL (qs.map nam) := by
  have hlen : (qs.map nam).length = qs.length := List.length_map _
  have hw : wtL (qs.map nam) ≤ 40 * qs.length := by
    have := wt_small (qs.map nam) (fun x hx => by
      obtain ⟨q, hq, rfl⟩ := List.mem_map.1 hx
      exact (nam_facts (h q hq)).2.2.2.2.2)
    omega
  have hs := headT_size (qs.map nam) qs.length (by omega)
  have ht := wtL_take_le (qs.map nam) qs.length
  have hall : headT (qs.map nam) qs.length = ⟨(headL (nvC (qs.map nam))).toArray⟩ := by rw [← hlen, headT_all]
  have hd : (headT (qs.map nam) qs.length).data.toList = headL (nvC (qs.map nam)) := by rw [hall]
  have hp : ∀ p ∈ nvC (qs.map nam), p.1.isEmpty = false ∧ (61 : UInt8) ∉ p.1 ∧ (59 : UInt8) ∉ p.1 ∧ (59 : UInt8) ∉ p.2 := fun p hp => by
    obtain ⟨x, hx, rfl⟩ := List.mem_map.1 hp
    obtain ⟨q, hq, rfl⟩ := List.mem_map.1 hx
    obtain ⟨_, f2, f3, f4, f5, _⟩ := nam_facts (h q hq)
    exact ⟨noE f2, f3, f4, f5⟩
  by_cases h0 : 0 < qs.length
  · have h0' : 0 < (nvC (qs.map nam)).length := by simpa [nvC] using h0
    have hsemi : semi (headT (qs.map nam) qs.length) = cutL 59 (32 :: headL (nvC (qs.map nam))) := by rw [semi, hd]
    have hpart : ∀ p ∈ nvC (qs.map nam), (59 : UInt8) ∉ partL p.1 p.2 := fun p hx => by
      obtain ⟨f1, f2, f3, f4⟩ := hp p hx
      unfold partL
      rw [if_neg (by simp [f1])]
      simp [f3, f4]
    have hok : allOK (headT (qs.map nam) qs.length) = true := by rw [allOK, hsemi]; exact ok_head h0' hpart
    have hpos : 0 < (headT (qs.map nam) qs.length).size := by
      have hz : (headT (qs.map nam) qs.length).size = (headL (nvC (qs.map nam))).length := by rw [hall]; simp [ByteArray.size]
      rw [hz]
      cases hq : qs with
      | nil => rw [hq] at h0; simp at h0
      | cons q rest =>
        have f := (nam_facts (h q (by rw [hq]; simp))).2.1
        have hne := noE f
        simp only [List.map_cons, nvC, headL, rawL, List.flatMap_cons, List.cons_append, List.drop_succ_cons, List.drop_zero, List.length_append]
        unfold partL
        rw [if_neg (by simp [hne])]
        simp
        omega
    refine ⟨?_, ?_⟩
    · rw [prsC, if_pos (by omega), if_pos hpos, if_pos hok]
    · rw [prsL, if_pos ⟨by omega, hpos, hok⟩, hsemi]
      exact pairs_head h0' hp
  · have : qs = [] := List.eq_nil_of_length_eq_zero (by omega)
    subst this
    exact ⟨by decide +kernel, by decide +kernel⟩
theorem text_of {l : List UInt8} {s : ByteArray} (h : l = s.data.toList) : strV l = .string s := by rw [h, strV_data]
set_option maxHeartbeats 8000000 in
set_option maxRecDepth 100000 in
theorem walk_FnHeader (W : World) (a0 : Option Addr) (len0 cap0 : Nat) (hm0 : len0 ≤ cap0 ∧ cap0 ≤ maxLen ∧ (a0 = none → cap0 = 0)) (hc0 : len0 ≤ 4611686018427387904 → CodeIn W (.slice a0 len0 cap0) len0) (a1 : Option Addr) (len1 cap1 : Nat) (hm1 : len1 ≤ cap1 ∧ cap1 ≤ maxLen ∧ (a1 = none → cap1 = 0)) (_ : len1 ≤ 4611686018427387904 → CodeIn W (.slice a1 len1 cap1) len1)
    (hL : laidMetH Tryd.prog Rows.fnHeaderRow.laid W) (hSh : W.ShapedOpen Tryd.prog) :
    Calls Tryd.prog 3 #[.slice a0 len0 cap0, .slice a1 len1 cap1] W fun e w' => e = .returned (.bool true) ∧ Below W.heap.size W w' := by
  rw [MakeChecks.laidMetH_plain _ _ _ (by kernel_rfl)] at hL
  have HT := Lib.hid (tab_of_laid (laidMet.tail hL))
  have HM := Lib.hid (max_now hSh)
  clear hL
  unfold maxLen at hm0 hm1
  obtain ⟨hm0, hk0, _⟩ := hm0
  obtain ⟨hm1, hk1, _⟩ := hm1
  by_cases h0 : 1048576 < len0
  · clear hc0
    go_enter Tryd.func3, Tryd.ntmps3
    go_wp2
    go_ret
    exact ⟨rfl, Below.refl _ _⟩
  by_cases h1 : 1048576 < len1
  · clear hc0
    go_enter Tryd.func3, Tryd.ntmps3
    go_wp2
    go_ret
    exact ⟨rfl, Below.refl _ _⟩
  have C0 := Lib.hid (hc0 (by omega))
  clear hc0
  go_enter Tryd.func3, Tryd.ntmps3
  go_wp2_with fail
  refine (cksDrawn_any _ _ _ C0.out).mono ?_
  rintro e w1 ⟨v, qs, rfl, hrow, hl5, hdr, hb⟩
  obtain ⟨a, cap, rfl, hcap1, hcap2, hrow⟩ := hrow
  have B1 := Lib.hid hb
  have R1 := Lib.hid hrow
  have HD := Lib.hid hdr
  have HCAP := Lib.hid hcap2
  unfold maxLen at hcap2
  clear hb hrow hdr
  go_wp2_with fail
  go_loopw [6] (fun i wr => NmRel W a qs i wr) (fun i _ => qs.length - (intOf i).toNat)
  case atStart => exact ⟨0, Nat.zero_le _, rfl, B1.out, fun h => by
    obtain ⟨g, rfl, h1, h2, h3, h4⟩ := R1.out h
    exact ⟨g, rfl, h1, h2, h3, fun j hj => by rw [if_neg (by omega)]; exact h4 j hj⟩⟩
  case round =>
    obtain ⟨k, hk, rfl, hb, hx⟩ := hrel
    have HB := Lib.hid hb
    have HX := Lib.hid hx
    clear hb hx
    by_cases hlt : k < qs.length
    · obtain ⟨g, rfl, hg1, hg2, hfz, hcl⟩ := HX.out (by omega)
      have hck := hcl k hlt
      rw [if_neg (by omega)] at hck
      obtain ⟨q, hq⟩ : ∃ q : Ck, qs[k] = q := ⟨_, rfl⟩
      rw [hq] at hck
      have HQ := Lib.hid hq
      have HCL := Lib.hid hcl
      have HFZ := Lib.hid hfz
      have HCK := Lib.hid hck
      have f1 := hfz (k * 12 + 1) (by omega)
      obtain ⟨c0, c1, c2, c3, c4, c5, c6, c7, c8, c9, c10, c11⟩ := hck
      have s1 : (k : Int) < qs.length := by omega
      clear hcl hq hfz
      cases en : q.n.toList.isEmpty with
      | true =>
        have h0' := empty_size en
        go_wp2_with fail
        go_roundw
        case rel =>
          refine ⟨k + 1, by omega, by go_num, HB.out.setCell (p := ⟨g, k * 12 + 1, none⟩) hg1 _, fun _ => ⟨g, rfl, hg1, by simpa [World.setCell] using hg2, fun t ht => by rw [World.frozen?_setCell]; exact HFZ.out t ht, fun j hj => ?_⟩⟩
          by_cases e : j = k
          · subst e
            rw [if_pos (by omega), HQ.out, nam, if_pos h0']
            exact ckAt_name HCK.out _
          · have h := HCL.out j hj
            have hif : (if j < k + 1 then nam qs[j] else qs[j]) = (if j < k then nam qs[j] else qs[j]) := by
              by_cases hj2 : j < k
              · rw [if_pos hj2, if_pos (by omega)]
              · rw [if_neg hj2, if_neg (by omega)]
            rw [hif]
            exact ckAt_far h (by omega)
        case measure => simp [intOf]; omega
      | false =>
        have h0' := some_size en
        go_wp2_with fail
        go_roundw
        case rel =>
          refine ⟨k + 1, by omega, by go_num, HB.out, fun _ => ⟨g, rfl, hg1, hg2, HFZ.out, fun j hj => ?_⟩⟩
          by_cases e : j = k
          · subst e
            rw [if_pos (by omega), HQ.out, nam, if_neg (by omega)]
            exact HCK.out
          · have h := HCL.out j hj
            have hif : (if j < k + 1 then nam qs[j] else qs[j]) = (if j < k then nam qs[j] else qs[j]) := by
              by_cases hj2 : j < k
              · rw [if_pos hj2, if_pos (by omega)]
              · rw [if_neg hj2, if_neg (by omega)]
            rw [hif]
            exact h
        case measure => simp [intOf]; omega
    · obtain rfl : k = qs.length := by omega
      have hlen : (qs.map nam).length = qs.length := List.length_map _
      have V2 := Lib.hid (nm_row hcap1 HCAP.out HX.out)
      have hw : wtL (qs.map nam) ≤ 1048576 := by
        have := wt_small (qs.map nam) (fun x hx => by
          obtain ⟨q, hq, rfl⟩ := List.mem_map.1 hx
          exact (nam_facts (HD.out q hq)).2.2.2.2.2)
        omega
      have hcode : codeL (qs.map nam) = 0 := by
        unfold codeL allC
        rw [if_neg (by omega), if_pos]
        rw [List.all_eq_true]
        intro x hx
        obtain ⟨q, hq, rfl⟩ := List.mem_map.1 hx
        exact (nam_facts (HD.out q hq)).1
      have hval : hdV (qs.map nam) = headT (qs.map nam) qs.length := by unfold hdV; rw [if_pos hcode, hlen]
      obtain ⟨hpc, hpl⟩ := read_told hl5 HD.out
      have hss : (headT (qs.map nam) qs.length).size ≤ 2000000 := by
        have h1 := headT_size (qs.map nam) qs.length (by omega)
        have h2 := wtL_take_le (qs.map nam) qs.length
        omega
      obtain ⟨s, hs⟩ : ∃ s, headT (qs.map nam) qs.length = s := ⟨_, rfl⟩
      rw [hs] at hval hpc hpl hss
      have A1 : Hid (∀ (w : World), RowCk w W.heap.size (.slice a qs.length cap) (qs.map nam) → TabAt w → Calls Tryd.prog 5 #[.slice a qs.length cap] w fun e w' => e = .returned (.tuple #[.string s, .int .i64 0]) ∧ Below w.heap.size w w') := Lib.hid fun w hr hT => by
        have h := implHead_any _ _ _ w hr (by omega) hw hT
        rwa [hval, hcode] at h
      have A2 : Hid (∀ (w : World), RowCk w W.heap.size (.slice a qs.length cap) (qs.map nam) → Calls Tryd.prog 6 #[.slice a qs.length cap] w fun e w' => e = .returned (.tuple #[.string s, .int .i64 0]) ∧ Below w.heap.size w w') := Lib.hid fun w hr => by
        have h := specHeadOf_any _ _ _ w hr (by omega) hw
        rwa [hval, hcode] at h
      obtain ⟨ts, hts⟩ : ∃ ts, tellL (qs.map nam) = ts := ⟨_, rfl⟩
      have htl : ts.length = 2 * qs.length := by rw [← hts, tell_length, hlen]
      have HTG : Hid (∀ j (hj : j < qs.length), ts[2 * j]? = some (nam qs[j]).n.data.toList ∧ ts[2 * j + 1]? = some (nam qs[j]).v.data.toList) := Lib.hid fun j hj => by
        have h := tell_get (qs.map nam) j (by omega)
        rw [hts, List.getElem_map] at h
        exact h
      rw [hts] at hpl
      have hmx : s.size ≤ maxLen := by unfold maxLen; omega
      have A3 : Hid (∀ (w : World), MaxNow w → Calls Tryd.prog 7 #[.string s] w fun e w' => ∃ v, e = .returned (.tuple #[v, .int .i64 0]) ∧ RowT w' w.heap.size v ts ∧ Below w.heap.size w w') := Lib.hid fun w hm => by
        have h := implPairs s w hmx hm
        unfold PairsPost at h
        rwa [hpc, hpl] at h
      have A4 : Hid (∀ (w : World), Calls Tryd.prog 8 #[.string s] w fun e w' => ∃ v, e = .returned (.tuple #[v, .int .i64 0]) ∧ RowT w' w.heap.size v ts ∧ Below w.heap.size w w') := Lib.hid fun w => by
        have h := specPairs s w hmx
        unfold PairsPost at h
        rwa [hpc, hpl] at h
      have HTL := Lib.hid htl
      have B2 := Lib.hid HB.out
      clear hcode hval hpc hpl hs hw hlen hts htl HX R1 HB hmx
      have n1 : (s.toList != s.toList) = false := by simp
      have n3 : ((ts.length : Int) != 2 * (qs.length : Int)) = false := by
        have := HTL.out
        rw [bne_eq_false_iff_eq]
        omega
      go_wp2_with fail
      refine (A1.out _ V2.out (HT.out.below B2.out)).mono ?_
      rintro e w3 ⟨rfl, hb⟩
      have B3 := Lib.hid (B2.out.trans (hb.mono B2.out.size))
      have V3 := Lib.hid (V2.out.below hb)
      clear hb
      go_wp2_with fail
      refine (A2.out _ V3.out).mono ?_
      rintro e w4 ⟨rfl, hb⟩
      have B4 := Lib.hid (B3.out.trans (hb.mono B3.out.size))
      have V4 := Lib.hid (V3.out.below hb)
      clear hb
      go_wp2_with fail
      refine (A3.out _ (HM.out.below B4.out)).mono ?_
      rintro e w5 ⟨v1, rfl, hr, hb⟩
      obtain ⟨x1, y1, rfl, _⟩ := id hr
      have B5 := Lib.hid (B4.out.trans (hb.mono B4.out.size))
      have V5 := Lib.hid (V4.out.below hb)
      have T5 := Lib.hid hr
      clear hb hr
      go_wp2_with fail
      refine (A4.out _).mono ?_
      rintro e w6 ⟨v2, rfl, hr, hb⟩
      have B6 := Lib.hid (B5.out.trans (hb.mono B5.out.size))
      have V6 := Lib.hid (V5.out.below hb)
      have T6 := Lib.hid (T5.out.below hb)
      have U6 := Lib.hid hr
      clear hb hr
      go_wp2_with fail
      refine (sameTexts_any _ _ ts _ _ _ (by have := HTL.out; omega) T6.out U6.out).mono ?_
      rintro e w7 ⟨rfl, hb⟩
      have B7 := Lib.hid (B6.out.trans (hb.mono B6.out.size))
      have V7 := Lib.hid (V6.out.below hb)
      have T7 := Lib.hid (T6.out.below hb)
      clear hb
      go_wp2_with fail
      go_loopw [15] (fun i wr => ∃ k : Nat, k ≤ qs.length ∧ i = .int .i64 k ∧ Below w7.heap.size w7 wr) (fun i _ => qs.length - (intOf i).toNat)
      case atStart => exact ⟨0, Nat.zero_le _, rfl, Below.refl _ _⟩
      case round =>
        obtain ⟨k, hk, rfl, hb⟩ := hrel
        have HB := Lib.hid hb
        by_cases hlt : k < qs.length
        · obtain ⟨a2, cap2, e2, _, _, hcells⟩ := V7.out.below hb
          injection e2 with e3 e4 e5
          subst e3 e5
          obtain ⟨g, rfl, _, hg2, _, hcl⟩ := hcells (by rw [List.length_map]; omega)
          obtain ⟨a3, cap3, e2', hcells2⟩ := T7.out.below hb
          injection e2' with e3' e4' e5'
          subst e3' e5'
          have htl := HTL.out
          obtain ⟨g2, rfl, _, hg3, _, hcl2⟩ := hcells2 (by omega)
          have hck := hcl k (by rw [List.length_map]; omega)
          rw [List.getElem_map] at hck
          obtain ⟨g3a, g3b⟩ := HTG.out k hlt
          obtain ⟨hn1, hn2⟩ := List.getElem?_eq_some_iff.1 g3a
          obtain ⟨hv1, hv2⟩ := List.getElem?_eq_some_iff.1 g3b
          have t1 := hcl2 (2 * k) hn1
          have t2 := hcl2 (2 * k + 1) hv1
          rw [text_of hn2] at t1
          rw [text_of hv2] at t2
          obtain ⟨q, hq⟩ : ∃ q : Ck, nam qs[k] = q := ⟨_, rfl⟩
          rw [hq] at hck t1 t2
          obtain ⟨c0, c1, c2, c3, c4, c5, c6, c7, c8, c9, c10, c11⟩ := hck
          have s1 : (k : Int) < qs.length := by omega
          have s2 : (2 : Int) * (k : Int) < ts.length := by omega
          have s3 : (2 : Int) * (k : Int) + 1 < ts.length := by omega
          have m1 : (q.n.toList != q.n.toList) = false := by simp
          have m2 : (q.v.toList != q.v.toList) = false := by simp
          clear hcl hcl2 hq hcells hcells2 e4 e4' hn1 hn2 hv1 hv2 g3a g3b htl hb
          go_wp2_with fail
          go_quiet (fail)
          go_wp2_with fail
          go_roundw
          case rel => exact ⟨k + 1, by omega, by go_num, below_drewN HB.out _⟩
          case measure => simp [intOf]; omega
        · obtain rfl : k = qs.length := by omega
          go_wp2_with fail
          go_ret
          exact ⟨rfl, B7.out.trans (HB.out.mono B7.out.size)⟩
end Go.Proofs.YtnbpcaoblpidjabDoor
