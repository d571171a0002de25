/- What each reader of an attribute does to the header that its box leads to. No condition of its own. -/
import Derived.Test.YtpdonghdnaehhaaGreatDoorZGj
import Derived.Test.YtpdonghdnaehhaaGreatDoorZGi
import Derived.Test.YtpdonghdnaehhaaGreatDoorZGb
namespace Go.Proofs.YtpdonghdnaehhaaGreatDoor
open Go.ChangeShapes Go.WideShapes Go.ChangeAt Go.WideMaps Go.WideElems Go.RowKit

/-- The tables that a header's reading takes. -/
def PrAt (w : World) : Prop := TabAt w ∧ MonthsAt w ∧ MaxIs w ∧ SitesAt w
theorem PrAt.below {w w' : World} (h : PrAt w) (hb : Below w.heap.size w w') : PrAt w' := ⟨h.1.below hb, h.2.1.below hb, h.2.2.1.below hb, h.2.2.2.below hb⟩
theorem PsB.drew {w : World} {B : Nat} {n v d p : ByteArray} {he ha hp : Bool} {x a s : Int} {sc ho : Bool} (h : PsB w B n v d p he ha hp x a s sc ho) : PsB w.drew B n v d p he ha hp x a s sc ho := h
theorem grown_drew {w w' : World} {r : Option Nat} (h : w.drew.grownBy w' r) : w.grownBy w' r := ⟨h.os, h.tape, h.output, h.size, h.block⟩
theorem box_keep {w w' : World} {g B : Nat} (hb : Below w.heap.size w w') (h : w.cell? ⟨g, 0, none⟩ = some (.pointer (some ⟨B, 0, none⟩))) : w'.cell? ⟨g, 0, none⟩ = some (.pointer (some ⟨B, 0, none⟩)) := cell_kept hb h
theorem cell_apart {w : World} {g B i : Nat} {u x : Value} (h : w.cell? ⟨g, 0, none⟩ = some x) (hne : g ≠ B) : (w.setCell ⟨B, i, none⟩ u).cell? ⟨g, 0, none⟩ = some x := by
  rw [World.cell?_setCell_other _ _ _ _ (fun e => hne (by injection e with e1; exact e1.symm))]
  exact h
def AttrPost (w : World) (B : Nat) (n v d p : ByteArray) (he ha hp : Bool) (x a s : Int) (sc ho : Bool) (e : Ending) (w' : World) : Prop := e = .returned (.tuple #[]) ∧ PsB w' B n v d p he ha hp x a s sc ho ∧ w.grownBy w' (some B)
set_option maxHeartbeats 2000000 in
set_option maxRecDepth 100000 in
theorem attr5_any (B g : Nat) (n v d p : ByteArray) (he ha hp : Bool) (x a s : Int) (sc ho : Bool) (t : ByteArray) (w : World) (hP : PsB w B n v d p he ha hp x a s sc ho) (hc : w.cell? ⟨g, 0, none⟩ = some (.pointer (some ⟨B, 0, none⟩))) : Calls Tryz.prog 176 #[.string t, .pointer (some ⟨g, 0, none⟩)] w (AttrPost w B n v d p he ha hp x a s true ho) := by
  have HP := Lib.hid hP
  have ci := hP.at
  obtain ⟨c0, c1, c2, c3, c4, c5, c6, c7, c8, c9, c10, c11⟩ := ci
  have fi := hP.free 10
  clear hP
  go_enter Tryz.func176, Tryz.ntmps176
  go_wp2
  refine bodyPost_end (v := .tuple #[]) (by simp [results, Tryz.results176, go_sem]) rfl ?_
  exact ⟨rfl, HP.out.set10 true, grown_put _ _ _ _⟩
set_option maxHeartbeats 2000000 in
set_option maxRecDepth 100000 in
theorem attr6_any (B g : Nat) (n v d p : ByteArray) (he ha hp : Bool) (x a s : Int) (sc ho : Bool) (t : ByteArray) (w : World) (hP : PsB w B n v d p he ha hp x a s sc ho) (hc : w.cell? ⟨g, 0, none⟩ = some (.pointer (some ⟨B, 0, none⟩))) : Calls Tryz.prog 177 #[.string t, .pointer (some ⟨g, 0, none⟩)] w (AttrPost w B n v d p he ha hp x a s sc true) := by
  have HP := Lib.hid hP
  have ci := hP.at
  obtain ⟨c0, c1, c2, c3, c4, c5, c6, c7, c8, c9, c10, c11⟩ := ci
  have fi := hP.free 11
  clear hP
  go_enter Tryz.func177, Tryz.ntmps177
  go_wp2
  refine bodyPost_end (v := .tuple #[]) (by simp [results, Tryz.results177, go_sem]) rfl ?_
  exact ⟨rfl, HP.out.set11 true, grown_put _ _ _ _⟩
set_option maxHeartbeats 2000000 in
set_option maxRecDepth 100000 in
theorem attr7_any (B g : Nat) (n v d p : ByteArray) (he ha hp : Bool) (x a s : Int) (sc ho : Bool) (t : ByteArray) (w : World) (hP : PsB w B n v d p he ha hp x a s sc ho) (hc : w.cell? ⟨g, 0, none⟩ = some (.pointer (some ⟨B, 0, none⟩))) (hs : t.size ≤ 60) (hA : PrAt w) : Calls Tryz.prog 178 #[.string t, .pointer (some ⟨g, 0, none⟩)] w (AttrPost w B n v d p he ha hp x a (siteN (foldB t)) sc ho) := by
  have HP := Lib.hid hP
  have HC := Lib.hid hc
  have HA := Lib.hid hA
  have hsv : siteV t = siteN (foldB t) := by rw [siteV, if_pos (by omega)]
  have HS := Lib.hid hsv
  have hd := (Below.refl w.heap.size w).drew
  have HD := Lib.hid hd
  have hs1 : t.size ≤ maxLen := by unfold maxLen; omega
  obtain ⟨c0, c1, c2, c3, c4, c5, c6, c7, c8, c9, c10, c11⟩ := hP.at
  have fi := hP.free 9
  clear hP hA hsv hd
  go_enter Tryz.func178, Tryz.ntmps178
  go_wp2_with fail
  go_region_with (go_at_call 21; refine (implSite t _ hs1 (HA.out.1.below HD.out) (HA.out.2.2.2.below HD.out)).mono ?_; rintro e w1 ⟨rfl, hb⟩; rw [HS.out]; have hP1 := HP.out.drew.stays hb; have hc1 := box_keep hb (show w.drew.cell? ⟨g, 0, none⟩ = _ from HC.out); have P1 := Lib.hid hP1; have B1 := Lib.hid hb; obtain ⟨e0, e1, e2, e3, e4, e5, e6, e7, e8, e9, e10, e11⟩ := hP1.at; have f9 := hP1.free 9; clear hb hP1)
  all_goals
    go_wp2
    refine bodyPost_end (v := .tuple #[]) (by simp [results, Tryz.results178, go_sem]) rfl ?_
    exact ⟨rfl, P1.out.set9 _, grown_drew (grown_then (grown_of_below B1.out _) (grown_put _ _ _ _))⟩
theorem dec_zero {t : ByteArray} (hs : t.size ≤ 60) (h : decOK t = true) : dN t = decN t ∧ dC t = 0 := by
  unfold dN dC
  rw [if_pos ⟨by omega, h⟩, if_pos (by omega), if_pos h]
  exact ⟨rfl, rfl⟩
theorem dec_three {t : ByteArray} (hs : t.size ≤ 60) (h : decOK t = false) : dN t = 0 ∧ dC t = 3 := by
  unfold dN dC
  rw [if_neg (fun h2 => by rw [h] at h2; exact Bool.false_ne_true h2.2), if_pos (by omega), if_neg (by rw [h]; exact Bool.false_ne_true)]
  exact ⟨rfl, rfl⟩
set_option maxHeartbeats 2000000 in
set_option maxRecDepth 100000 in
theorem attr2_any (B g : Nat) (n v d p : ByteArray) (he ha hp : Bool) (x a s : Int) (sc ho : Bool) (t : ByteArray) (w : World) (hP : PsB w B n v d p he ha hp x a s sc ho) (hc : w.cell? ⟨g, 0, none⟩ = some (.pointer (some ⟨B, 0, none⟩))) (hs : t.size ≤ 60) (hA : PrAt w) : Calls Tryz.prog 172 #[.string t, .pointer (some ⟨g, 0, none⟩)] w (AttrPost w B n v d p he (decOK t || ha) hp x (if decOK t then decN t else a) s sc ho) := by
  have HP := Lib.hid hP
  have HC := Lib.hid hc
  have HA := Lib.hid hA
  have hs1 : t.size ≤ maxLen := by unfold maxLen; omega
  clear hP hA hc
  cases hd : decOK t with
  | true =>
    obtain ⟨hn, hz⟩ := dec_zero hs hd
    have HN := Lib.hid hn
    have HZ := Lib.hid hz
    clear hd hn hz
    go_enter Tryz.func172, Tryz.ntmps172
    go_wp2_with fail
    refine (implAge t _ hs1 HA.out.1).mono ?_
    rintro e w1 ⟨rfl, hb⟩
    rw [HN.out, HZ.out]
    have hP1 := HP.out.stays hb
    have hc1 := box_keep hb HC.out
    have P1 := Lib.hid hP1
    have B1 := Lib.hid hb
    obtain ⟨e0, e1, e2, e3, e4, e5, e6, e7, e8, e9, e10, e11⟩ := hP1.at
    have f5 := hP1.free 5
    have f8 := hP1.free 8
    clear hb hP1
    go_wp2_with fail
    go_region
    all_goals
      go_wp2
      refine bodyPost_end (v := .tuple #[]) (by simp [results, Tryz.results172, go_sem]) rfl ?_
      exact ⟨rfl, (P1.out.drew.set8 _).set5 _, grown_then (grown_of_below B1.out _) (grown_drew (grown_then (grown_put _ _ _ _) (grown_put _ _ _ _)))⟩
  | false =>
    obtain ⟨hn, hz⟩ := dec_three hs hd
    have HN := Lib.hid hn
    have HZ := Lib.hid hz
    clear hd hn hz
    go_enter Tryz.func172, Tryz.ntmps172
    go_wp2_with fail
    refine (implAge t _ hs1 HA.out.1).mono ?_
    rintro e w1 ⟨rfl, hb⟩
    rw [HN.out, HZ.out]
    have P1 := Lib.hid (HP.out.stays hb)
    have B1 := Lib.hid hb
    clear hb
    go_wp2
    refine bodyPost_end (v := .tuple #[]) (by simp [results, Tryz.results172, go_sem]) rfl ?_
    exact ⟨rfl, P1.out, grown_of_below B1.out _⟩
set_option maxRecDepth 100000 in
theorem undot_any (t : ByteArray) (w : World) : Calls Tryz.prog 174 #[.string t, .string ⟨#[46]⟩] w fun e w' => e = .returned (.string (undotB t)) ∧ w = w' := by
  refine (Tryz.strings_TrimPrefix t ⟨#[46]⟩ w).mono ?_
  rintro e w' ⟨rfl, rfl⟩
  refine ⟨?_, rfl⟩
  show Ending.returned (.string ⟨(Lib.trimPrefix t.data.toList [46]).toArray⟩) = _
  have hp : Lib.hasPrefix t.data.toList [46] = dotB t := by
    unfold Lib.hasPrefix dotB
    cases t.data.toList with
    | nil => rfl
    | cons b l =>
      simp only [List.isPrefixOf, Bool.and_true, List.head?_cons, Option.some_beq_some]
      exact Bool.beq_comm
  rw [undotB, Lib.trimPrefix, hp]
  cases dotB t with
  | false => rfl
  | true =>
    simp only [if_true]
    refine congrArg (fun s => Ending.returned (Value.string s)) (bytes_inj ?_)
    rw [Lib.extract_data, List.take_of_length_le (by simp)]
    simp
theorem undot_size (t : ByteArray) : (undotB t).size ≤ t.size := by
  unfold undotB
  split
  · simp
  · exact Nat.le_refl _
theorem fold_size {t : ByteArray} (h : t.size ≤ 65536) : (foldB t).size = t.size := by
  rw [foldB, if_pos h, foldL]
  show (t.data.toList.map lowB).toArray.size = t.data.size
  rw [List.size_toArray, List.length_map, Array.length_toList]
set_option maxHeartbeats 2000000 in
set_option maxRecDepth 100000 in
theorem attr3_any (B g : Nat) (n v d p : ByteArray) (he ha hp : Bool) (x a s : Int) (sc ho : Bool) (t : ByteArray) (w : World) (hP : PsB w B n v d p he ha hp x a s sc ho) (hc : w.cell? ⟨g, 0, none⟩ = some (.pointer (some ⟨B, 0, none⟩))) (hs : t.size ≤ 60) (hA : PrAt w) : Calls Tryz.prog 173 #[.string t, .pointer (some ⟨g, 0, none⟩)] w (AttrPost w B n v (trimB (foldB (undotB t))) p he ha hp x a s sc ho) := by
  have HP := Lib.hid hP
  have HC := Lib.hid hc
  have HA := Lib.hid hA
  have hu := undot_size t
  have hf : (foldB (undotB t)).size ≤ maxLen := by rw [fold_size (by omega)]; unfold maxLen; omega
  have hu1 : (undotB t).size ≤ maxLen := by unfold maxLen; omega
  have hd := (Below.refl w.heap.size w).drew
  have HD := Lib.hid hd
  obtain ⟨c0, c1, c2, c3, c4, c5, c6, c7, c8, c9, c10, c11⟩ := hP.at
  have fi := hP.free 2
  clear hP hA hd
  go_enter Tryz.func173, Tryz.ntmps173
  go_wp2_with fail
  go_region_with (first
    | (go_at_call 174; refine (undot_any t _).mono ?_; rintro e w1 ⟨rfl, rfl⟩)
    | (go_at_call 77; refine (implFold (undotB t) _ hu1 (HA.out.1.below HD.out)).mono ?_; rintro e w1 ⟨rfl, hb⟩; have hP1 := HP.out.drew.stays hb; have hc1 := box_keep hb (show w.drew.cell? ⟨g, 0, none⟩ = _ from HC.out); have P1 := Lib.hid hP1; have B1 := Lib.hid hb; obtain ⟨e0, e1, e2, e3, e4, e5, e6, e7, e8, e9, e10, e11⟩ := hP1.at; have f1 := hP1.free 2; clear hb hP1)
    | (go_at_call 74; refine (implTrim (foldB (undotB t)) _ hf).mono ?_; rintro e w2 ⟨rfl, hb⟩; have hP2 := P1.out.stays hb; have hc2 := box_keep hb hc1; have P2 := Lib.hid hP2; have B2 := Lib.hid hb; obtain ⟨k0, k1, k2, k3, k4, k5, k6, k7, k8, k9, k10, k11⟩ := hP2.at; have f2 := hP2.free 2; clear hb hP2))
  all_goals
    go_wp2
    refine bodyPost_end (v := .tuple #[]) (by simp [results, Tryz.results173, go_sem]) rfl ?_
    exact ⟨rfl, P2.out.set2 _, grown_drew (grown_then (grown_of_below B1.out _) (grown_then (grown_of_below B2.out _) (grown_put _ _ _ _)))⟩
set_option maxHeartbeats 2000000 in
set_option maxRecDepth 100000 in
theorem attr4_any (B g : Nat) (n v d p : ByteArray) (he ha hp : Bool) (x a s : Int) (sc ho : Bool) (t : ByteArray) (w : World) (hP : PsB w B n v d p he ha hp x a s sc ho) (hc : w.cell? ⟨g, 0, none⟩ = some (.pointer (some ⟨B, 0, none⟩))) (hne : g ≠ B) : Calls Tryz.prog 175 #[.string t, .pointer (some ⟨g, 0, none⟩)] w (AttrPost w B n v d (if slashB t then t else ⟨#[]⟩) he ha (slashB t) x a s sc ho) := by
  have HP := Lib.hid hP
  have HC := Lib.hid hc
  obtain ⟨c0, c1, c2, c3, c4, c5, c6, c7, c8, c9, c10, c11⟩ := hP.at
  have f3 := hP.free 3
  have f6 := hP.free 6
  clear hP
  cases hsl : slashB t with
  | true =>
    have HSL : Hid ((t.data.toList.head? == some 47) = true) := Lib.hid hsl
    clear hsl
    go_enter Tryz.func175, Tryz.ntmps175
    go_wp2_with fail
    go_region_with (go_at_call 156; refine (prefix_any t 47 _).mono ?_; rintro e w1 ⟨rfl, rfl⟩; rw [HSL.out])
    all_goals
      have hP2 := (HP.out.drew.set3 ⟨#[]⟩).set6 true
      have hc2 : ((w.drew.setCell ⟨B, 3, none⟩ (.string ⟨#[]⟩)).setCell ⟨B, 6, none⟩ (.bool true)).cell? ⟨g, 0, none⟩ = _ := cell_apart (cell_apart (show w.drew.cell? ⟨g, 0, none⟩ = _ from HC.out) hne) hne
      have P2 := Lib.hid hP2
      obtain ⟨k0, k1, k2, k3, k4, k5, k6, k7, k8, k9, k10, k11⟩ := hP2.at
      have g3 := hP2.free 3
      clear hP2
      go_wp2
      refine bodyPost_end (v := .tuple #[]) (by simp [results, Tryz.results175, go_sem]) rfl ?_
      exact ⟨rfl, P2.out.set3 _, grown_drew (grown_then (grown_then (grown_put _ _ _ _) (grown_put _ _ _ _)) (grown_put _ _ _ _))⟩
  | false =>
    have HSL : Hid ((t.data.toList.head? == some 47) = false) := Lib.hid hsl
    clear hsl
    go_enter Tryz.func175, Tryz.ntmps175
    go_wp2_with fail
    go_region_with (go_at_call 156; refine (prefix_any t 47 _).mono ?_; rintro e w1 ⟨rfl, rfl⟩; rw [HSL.out])
    all_goals
      have hP2 := (HP.out.drew.set3 ⟨#[]⟩).set6 false
      have hc2 : ((w.drew.setCell ⟨B, 3, none⟩ (.string ⟨#[]⟩)).setCell ⟨B, 6, none⟩ (.bool false)).cell? ⟨g, 0, none⟩ = _ := cell_apart (cell_apart (show w.drew.cell? ⟨g, 0, none⟩ = _ from HC.out) hne) hne
      have P2 := Lib.hid hP2
      obtain ⟨k0, k1, k2, k3, k4, k5, k6, k7, k8, k9, k10, k11⟩ := hP2.at
      clear hP2
      go_wp2
      refine bodyPost_end (v := .tuple #[]) (by simp [results, Tryz.results175, go_sem]) rfl ?_
      exact ⟨rfl, P2.out, grown_drew (grown_then (grown_put _ _ _ _) (grown_put _ _ _ _))⟩
theorem dateR_ok {r : Rd} {d : Dt} (h : dateR r = some d) : okB d = true := by
  unfold dateR at h
  split at h
  · split at h
    · rename_i hok
      cases h
      exact hok
    · cases h
  · cases h
/-- What a value does as a date. -/
def expX (t : ByteArray) (x : Int) : Int := match dateR (readL t.data.toList) with | some d => secsN d | none => x
def expH (t : ByteArray) (he : Bool) : Bool := match dateR (readL t.data.toList) with | some _ => true | none => he
set_option maxHeartbeats 2000000 in
set_option maxRecDepth 100000 in
theorem attr1_any (B g : Nat) (n v d p : ByteArray) (he ha hp : Bool) (x a s : Int) (sc ho : Bool) (t : ByteArray) (w : World) (hP : PsB w B n v d p he ha hp x a s sc ho) (hc : w.cell? ⟨g, 0, none⟩ = some (.pointer (some ⟨B, 0, none⟩))) (hne : g ≠ B) (hs : t.size ≤ 60) (hA : PrAt w) : Calls Tryz.prog 169 #[.string t, .pointer (some ⟨g, 0, none⟩)] w (AttrPost w B n v d p (expH t he) ha hp (expX t x) a s sc ho) := by
  have HP := Lib.hid hP
  have HC := Lib.hid hc
  have HA := Lib.hid hA
  have hs1 : t.size ≤ maxLen := by unfold maxLen; omega
  clear hP hA hc
  cases hd : dateR (readL t.data.toList) with
  | none =>
    have hz : rdC t = 10 := by simp [rdC, hd, show t.size ≤ 65536 by omega]
    have ha' : rdA t = ⟨0, 0, 0, 0, 0, 0⟩ := by simp [rdA, hd, show t.size ≤ 65536 by omega, zeroD]
    have HX : Hid (expX t x = x) := Lib.hid (by rw [expX, hd])
    have HH : Hid (expH t he = he) := Lib.hid (by rw [expH, hd])
    have HR := Lib.hid (implRead t w hs1 HA.out.1 HA.out.2.1 HA.out.2.2.1)
    unfold ReadPost at HR
    rw [hz, ha'] at HR
    rw [HX.out, HH.out]
    clear hd hz ha'
    go_enter Tryz.func169, Tryz.ntmps169
    go_wp2_with fail
    refine HR.out.mono ?_
    rintro e w1 ⟨rfl, hb⟩
    have P1 := Lib.hid ((HP.out.stays hb).alloc (.cells #[.int .i64 0, .int .i64 0, .int .i64 0, .int .i64 0, .int .i64 0, .int .i64 0] 158))
    have B1 := Lib.hid (hb.alloc hb.size (.cells #[.int .i64 0, .int .i64 0, .int .i64 0, .int .i64 0, .int .i64 0, .int .i64 0] 158))
    clear hb
    go_wp2
    refine bodyPost_ret (results_none rfl _ _ _) rfl ?_
    exact ⟨rfl, P1.out, grown_of_below B1.out _⟩
  | some dt =>
    have hok := dateR_ok hd
    obtain ⟨y, m, dd, h, q, z⟩ := dt
    have hz : rdC t = 0 := by simp [rdC, hd, show t.size ≤ 65536 by omega]
    have ha' : rdA t = ⟨y, m, dd, h, q, z⟩ := by simp [rdA, hd, show t.size ≤ 65536 by omega]
    have HX : Hid (expX t x = secV ⟨y, m, dd, h, q, z⟩) := Lib.hid (by rw [expX, hd, secV, if_pos hok])
    have HH : Hid (expH t he = true) := Lib.hid (by rw [expH, hd])
    have HR := Lib.hid (implRead t w hs1 HA.out.1 HA.out.2.1 HA.out.2.2.1)
    unfold ReadPost at HR
    rw [hz, ha'] at HR
    rw [HX.out, HH.out]
    clear hd hz ha' hok
    go_enter Tryz.func169, Tryz.ntmps169
    go_wp2_with fail
    refine HR.out.mono ?_
    rintro e w1 ⟨rfl, hb⟩
    have hB1 := hb.alloc hb.size (.cells #[.int .i64 y, .int .i64 m, .int .i64 dd, .int .i64 h, .int .i64 q, .int .i64 z] 158)
    have hP1 := (HP.out.stays hb).alloc (.cells #[.int .i64 y, .int .i64 m, .int .i64 dd, .int .i64 h, .int .i64 q, .int .i64 z] 158)
    have hc1 := box_keep hB1 HC.out
    obtain ⟨b0, b1, b2, b3, b4, b5⟩ := (Blk.new w1 y m dd h q z).at
    have P1 := Lib.hid hP1
    have B1 := Lib.hid hB1
    clear hb hB1 hP1
    go_wp2_with fail
    go_region_with (go_at_call 171; refine (implSecs y m dd h q z _).mono ?_; rintro e w3 ⟨rfl, hb⟩; have hP3 := P1.out.drew.stays hb; have hc3 := box_keep hb (show (w1.alloc (.cells #[.int .i64 y, .int .i64 m, .int .i64 dd, .int .i64 h, .int .i64 q, .int .i64 z] 158)).drew.cell? ⟨g, 0, none⟩ = _ from hc1); have P3 := Lib.hid hP3; have B3 := Lib.hid hb; obtain ⟨e0, e1, e2, e3, e4, e5, e6, e7, e8, e9, e10, e11⟩ := hP3.at; have f7 := hP3.free 7; clear hb hP3)
    all_goals
      have hP4 := P3.out.set7 (secV ⟨y, m, dd, h, q, z⟩)
      have hc4 : (w3.setCell ⟨B, 7, none⟩ (.int .i64 (secV ⟨y, m, dd, h, q, z⟩))).cell? ⟨g, 0, none⟩ = _ := cell_apart hc3 hne
      have P4 := Lib.hid hP4
      obtain ⟨k0, k1, k2, k3, k4, k5, k6, k7, k8, k9, k10, k11⟩ := hP4.at
      have g4 := hP4.free 4
      clear hP4
      go_wp2
      refine bodyPost_end (v := .tuple #[]) (by simp [results, Tryz.results169, go_sem]) rfl ?_
      exact ⟨rfl, P4.out.set4 _, grown_then (grown_of_below B1.out _) (grown_drew (grown_then (grown_of_below B3.out _) (grown_then (grown_put _ _ _ _) (grown_put _ _ _ _))))⟩
end Go.Proofs.YtpdonghdnaehhaaGreatDoor
