/- ReadSite of the program and of the model; the law's walk. No condition of its own. -/
import Derived.Test.YtpdonghdnaehhaaGreatDoorZFold
import Derived.Stop.LaidErr
namespace Go.Proofs.YtpdonghdnaehhaaGreatDoor
open Go.ChangeShapes Go.WideShapes Go.ChangeAt Go.WideMaps Go.WideElems Go.RowKit

def siteNames : List (List UInt8) := [[], [78, 111, 110, 101], [76, 97, 120], [83, 116, 114, 105, 99, 116]]
def noneT : ByteArray := ⟨#[110, 111, 110, 101]⟩
def laxT : ByteArray := ⟨#[108, 97, 120]⟩
def strictT : ByteArray := ⟨#[115, 116, 114, 105, 99, 116]⟩
/-- The number of a word that is folded already. -/
def siteN (u : ByteArray) : Int := if u.toList == [110, 111, 110, 101] then 1 else if u.toList == [108, 97, 120] then 2 else if u.toList == [115, 116, 114, 105, 99, 116] then 3 else 4
/-- What ReadSite answers. -/
def siteV (t : ByteArray) : Int := if t.size ≤ 65536 then siteN (foldB t) else 0
def SitesAt (w : World) : Prop := TextsAt Tryz.prog w "loop.example/g00803/impl.siteWords" siteNames
theorem gSite : Tryz.prog.globalNamed "loop.example/g00803/impl.siteWords" = some 0 := by kernel_rfl
theorem tSite : (Tryz.prog.globals[0]?).map (·.type) = some 82 := by kernel_rfl
theorem SitesAt.below {w w' : World} (h : SitesAt w) (hb : Below w.heap.size w w') : SitesAt w' := by
  unfold SitesAt TextsAt World.var? at *
  rw [gSite, Option.bind_some] at *
  split at h
  · rename_i cs t fr hh
    rw [hb.block _ (Array.getElem?_eq_some_iff.1 hh).1, hh]
    exact h
  · cases h
theorem SitesAt.cell {w : World} (h : SitesAt w) (i : Nat) (hi : i < 4) : w.cell? ⟨0, i, none⟩ = some (.string ⟨(siteNames.getD i []).toArray⟩) := TextsAt.cell h gSite i hi
theorem sites_laid {W : World} {rest : List (String × DataW Unit)} (h : laidMet Tryz.prog (("loop.example/g00803/impl.siteWords", Rows.laid_loop_example_g00803_impl_siteWords) :: rest) W) : SitesAt W :=
  texts_of_head (zs := siteNames) (rest := rest) gSite tSite Tryz.underlying82 Tryz.underlying9 (by kernel_rfl) (by kernel_rfl) h
theorem fold_none : foldB ⟨#[78, 111, 110, 101]⟩ = noneT := by decide +kernel
theorem fold_lax : foldB ⟨#[76, 97, 120]⟩ = laxT := by decide +kernel
theorem fold_strict : foldB ⟨#[83, 116, 114, 105, 99, 116]⟩ = strictT := by decide +kernel
/-- What is still to be tried from the k-th word on. -/
def siteK (k : Nat) (u : ByteArray) : Int := if k ≤ 1 then siteN u else if k = 2 then (if u.toList == [108, 97, 120] then 2 else if u.toList == [115, 116, 114, 105, 99, 116] then 3 else 4) else if k = 3 then (if u.toList == [115, 116, 114, 105, 99, 116] then 3 else 4) else 4
theorem beq_turn (a b : ByteArray) : (a.toList == b.toList) = (b.toList == a.toList) := by
  cases h : (a.toList == b.toList) with
  | true => exact (seq_true (seq_of h).symm).symm
  | false => exact (seq_false (Ne.symm (sne_of h))).symm
theorem none_turn (u : ByteArray) : (noneT.toList == u.toList) = (u.toList == [110, 111, 110, 101]) := by
  rw [beq_turn, ByteArray.toList_eq (bs := noneT)]
  rfl
theorem lax_turn (u : ByteArray) : (laxT.toList == u.toList) = (u.toList == [108, 97, 120]) := by
  rw [beq_turn, ByteArray.toList_eq (bs := laxT)]
  rfl
theorem strict_turn (u : ByteArray) : (strictT.toList == u.toList) = (u.toList == [115, 116, 114, 105, 99, 116]) := by
  rw [beq_turn, ByteArray.toList_eq (bs := strictT)]
  rfl
def SiteRel (w : World) (u : ByteArray) (i : Value) (wr : World) : Prop := ∃ k : Nat, 1 ≤ k ∧ k ≤ 4 ∧ i = .int .i64 k ∧ siteN u = siteK k u ∧ Below w.heap.size w wr
theorem implSite (t : ByteArray) (w : World) (hs : t.size ≤ maxLen) (hT : TabAt w) (hW : SitesAt w) : Calls Tryz.prog 21 #[.string t] w fun e w' => e = .returned (.int .i64 (siteV t)) ∧ Below w.heap.size w w' := by
  have HT := Lib.hid hT
  have HW := Lib.hid hW
  have hs0 := Lib.hid hs
  clear hT hW
  unfold maxLen at hs
  by_cases hl : t.size ≤ 65536
  · have HV : Hid (siteV t = siteN (foldB t)) := Lib.hid (if_pos hl)
    go_enter Tryz.func21, Tryz.ntmps21
    go_wp2_with (go_at_call 77; refine (implFold _ _ hs0.out HT.out).mono ?_; rintro e w1 ⟨rfl, hb⟩; have HB := Lib.hid hb; clear hb)
    generalize foldB t = u at *
    go_loopw [4] (fun i wr => SiteRel w u i wr) (fun i _ => 4 - (intOf i).toNat)
    case atStart => exact ⟨1, by omega, by omega, rfl, rfl, HB.out⟩
    case round =>
      obtain ⟨k, hk1, hk4, rfl, hr, hb⟩ := hrel
      have HR := Lib.hid hr
      have HX := Lib.hid hb
      clear hr hb
      rcases (show k = 1 ∨ k = 2 ∨ k = 3 ∨ k = 4 by omega) with rfl | rfl | rfl | rfl
      · have c1 : wr.cell? ⟨0, 1, none⟩ = some (.string ⟨#[78, 111, 110, 101]⟩) := (HW.out.below HX.out).cell 1 (by omega)
        cases g : (noneT.toList == u.toList) with
        | true =>
          have HG := Lib.hid g
          go_wp2_with (go_at_call 77; refine (implFold _ _ (by decide) (HT.out.below HX.out)).mono ?_; rintro e w2 ⟨rfl, hb⟩; rw [fold_none]; have HB2 := Lib.hid hb; clear hb)
          go_ret
          exact ⟨by rw [HV.out, HR.out]; simp only [siteK, siteN, ← none_turn, HG.out]; rfl, HX.out.trans (HB2.out.mono HX.out.size)⟩
        | false =>
          have HG := Lib.hid g
          go_wp2_with (go_at_call 77; refine (implFold _ _ (by decide) (HT.out.below HX.out)).mono ?_; rintro e w2 ⟨rfl, hb⟩; rw [fold_none]; have HB2 := Lib.hid hb; clear hb)
          go_roundw
          case rel => exact ⟨2, by omega, by omega, rfl, by rw [HR.out]; simp only [siteK, siteN, ← none_turn, HG.out]; rfl, HX.out.trans (HB2.out.mono HX.out.size)⟩
          case measure => decide
      · have c1 : wr.cell? ⟨0, 2, none⟩ = some (.string ⟨#[76, 97, 120]⟩) := (HW.out.below HX.out).cell 2 (by omega)
        cases g : (laxT.toList == u.toList) with
        | true =>
          have HG := Lib.hid g
          go_wp2_with (go_at_call 77; refine (implFold _ _ (by decide) (HT.out.below HX.out)).mono ?_; rintro e w2 ⟨rfl, hb⟩; rw [fold_lax]; have HB2 := Lib.hid hb; clear hb)
          go_ret
          exact ⟨by rw [HV.out, HR.out]; simp only [siteK, siteN, ← lax_turn, HG.out]; rfl, HX.out.trans (HB2.out.mono HX.out.size)⟩
        | false =>
          have HG := Lib.hid g
          go_wp2_with (go_at_call 77; refine (implFold _ _ (by decide) (HT.out.below HX.out)).mono ?_; rintro e w2 ⟨rfl, hb⟩; rw [fold_lax]; have HB2 := Lib.hid hb; clear hb)
          go_roundw
          case rel => exact ⟨3, by omega, by omega, rfl, by rw [HR.out]; simp only [siteK, siteN, ← lax_turn, HG.out]; rfl, HX.out.trans (HB2.out.mono HX.out.size)⟩
          case measure => decide
      · have c1 : wr.cell? ⟨0, 3, none⟩ = some (.string ⟨#[83, 116, 114, 105, 99, 116]⟩) := (HW.out.below HX.out).cell 3 (by omega)
        cases g : (strictT.toList == u.toList) with
        | true =>
          have HG := Lib.hid g
          go_wp2_with (go_at_call 77; refine (implFold _ _ (by decide) (HT.out.below HX.out)).mono ?_; rintro e w2 ⟨rfl, hb⟩; rw [fold_strict]; have HB2 := Lib.hid hb; clear hb)
          go_ret
          exact ⟨by rw [HV.out, HR.out]; simp only [siteK, siteN, ← strict_turn, HG.out]; rfl, HX.out.trans (HB2.out.mono HX.out.size)⟩
        | false =>
          have HG := Lib.hid g
          go_wp2_with (go_at_call 77; refine (implFold _ _ (by decide) (HT.out.below HX.out)).mono ?_; rintro e w2 ⟨rfl, hb⟩; rw [fold_strict]; have HB2 := Lib.hid hb; clear hb)
          go_roundw
          case rel => exact ⟨4, by omega, by omega, rfl, by rw [HR.out]; simp only [siteK, siteN, ← strict_turn, HG.out]; rfl, HX.out.trans (HB2.out.mono HX.out.size)⟩
          case measure => decide
      · go_wp2
        go_ret
        exact ⟨by rw [HV.out, HR.out]; rfl, HX.out⟩
  · go_enter Tryz.func21, Tryz.ntmps21
    go_wp2
    go_ret
    exact ⟨by simp [siteV, hl], Below.refl _ _⟩
theorem specSiteL (t : ByteArray) (w : World) (hl : t.size ≤ 65536) : Calls Tryz.prog 89 #[.string t] w fun e w' => e = .returned (.int .i64 (siteN (foldB t))) ∧ Below w.heap.size w w' := by
  have HF : Hid (foldL t.data.toList = foldB t) := Lib.hid (by rw [foldB, if_pos hl])
  cases g1 : ((foldB t).toList == [110, 111, 110, 101]) with
  | true =>
    have HG := Lib.hid g1
    go_enter Tryz.func89, Tryz.ntmps89
    go_wp2_with (go_at_call 158; refine (specFoldL _ _ hl).mono ?_; rintro e w1 ⟨rfl, hb⟩; rw [HF.out]; have HB := Lib.hid hb; clear hb)
    go_ret
    exact ⟨by simp only [siteN, HG.out]; rfl, HB.out⟩
  | false =>
    have HG := Lib.hid g1
    cases g2 : ((foldB t).toList == [108, 97, 120]) with
    | true =>
      have HG2 := Lib.hid g2
      go_enter Tryz.func89, Tryz.ntmps89
      go_wp2_with (go_at_call 158; refine (specFoldL _ _ hl).mono ?_; rintro e w1 ⟨rfl, hb⟩; rw [HF.out]; have HB := Lib.hid hb; clear hb)
      go_ret
      exact ⟨by simp only [siteN, HG.out, HG2.out]; rfl, HB.out⟩
    | false =>
      have HG2 := Lib.hid g2
      cases g3 : ((foldB t).toList == [115, 116, 114, 105, 99, 116]) with
      | true =>
        have HG3 := Lib.hid g3
        go_enter Tryz.func89, Tryz.ntmps89
        go_wp2_with (go_at_call 158; refine (specFoldL _ _ hl).mono ?_; rintro e w1 ⟨rfl, hb⟩; rw [HF.out]; have HB := Lib.hid hb; clear hb)
        go_ret
        exact ⟨by simp only [siteN, HG.out, HG2.out, HG3.out]; rfl, HB.out⟩
      | false =>
        have HG3 := Lib.hid g3
        go_enter Tryz.func89, Tryz.ntmps89
        go_wp2_with (go_at_call 158; refine (specFoldL _ _ hl).mono ?_; rintro e w1 ⟨rfl, hb⟩; rw [HF.out]; have HB := Lib.hid hb; clear hb)
        go_ret
        exact ⟨by simp only [siteN, HG.out, HG2.out, HG3.out]; rfl, HB.out⟩
theorem specSite (t : ByteArray) (w : World) (hs : t.size ≤ maxLen) : Calls Tryz.prog 22 #[.string t] w fun e w' => e = .returned (.int .i64 (siteV t)) ∧ Below w.heap.size w w' := by
  unfold maxLen at hs
  by_cases hl : t.size ≤ 65536
  · have HV : Hid (siteV t = siteN (foldB t)) := Lib.hid (if_pos hl)
    go_enter Tryz.func22, Tryz.ntmps22
    go_wp2_with (go_at_call 89; refine (specSiteL _ _ hl).mono ?_; rintro e w1 ⟨rfl, hb⟩; have HB := Lib.hid hb; clear hb)
    go_ret
    exact ⟨by rw [HV.out]; rfl, HB.out⟩
  · go_enter Tryz.func22, Tryz.ntmps22
    go_wp2
    go_ret
    exact ⟨by simp [siteV, hl], Below.refl _ _⟩
end Go.Proofs.YtpdonghdnaehhaaGreatDoor
