/- The model's drawn headers. No condition of its own. -/
import Derived.Test.YtpdonghdnaehhaaGreatDoorZDateLine
namespace Go.Proofs.YtpdonghdnaehhaaGreatDoor
open Go.ChangeShapes Go.WideShapes Go.ChangeAt Go.WideMaps Go.WideElems Go.RowKit

def cknTexts : List ByteArray := [⟨#[115, 105, 100]⟩, ⟨#[115, 105, 100]⟩, ⟨#[108, 97, 110, 103]⟩, ⟨#[97]⟩, ⟨#[95, 95, 83, 101, 99, 117, 114, 101, 45, 120]⟩, ⟨#[95, 95, 72, 111, 115, 116, 45, 121]⟩, ⟨#[95, 95, 104, 111, 115, 116, 45, 122]⟩, ⟨#[]⟩]
theorem cknTexts_sizes : ∀ s ∈ cknTexts, s.size ≤ 10 := by decide +kernel
def ageTexts : List ByteArray := [⟨#[48]⟩, ⟨#[53]⟩, ⟨#[45, 49]⟩, ⟨#[49, 48, 48]⟩, ⟨#[57, 57, 57, 57, 57, 57, 57, 57, 57, 57, 57, 57, 57, 57]⟩, ⟨#[120]⟩, ⟨#[]⟩, ⟨#[43, 53]⟩, ⟨#[53, 120]⟩]
theorem ageTexts_sizes : ∀ s ∈ ageTexts, s.size ≤ 14 := by decide +kernel
def domTexts : List ByteArray := [⟨#[46, 97, 46, 101, 120, 97, 109, 112, 108, 101]⟩, ⟨#[97, 46, 101, 120, 97, 109, 112, 108, 101]⟩, ⟨#[69, 88, 65, 77, 80, 76, 69]⟩, ⟨#[]⟩, ⟨#[46]⟩, ⟨#[46, 46, 97]⟩, ⟨#[99, 107]⟩, ⟨#[99, 111, 46, 99, 107]⟩, ⟨#[119, 119, 119, 46, 99, 107]⟩, ⟨#[122, 97, 112, 46, 116, 101, 115, 116]⟩, ⟨#[98, 46, 97, 46, 101, 120, 97, 109, 112, 108, 101]⟩]
theorem domTexts_sizes : ∀ s ∈ domTexts, s.size ≤ 11 := by decide +kernel
def patTexts : List ByteArray := [⟨#[47]⟩, ⟨#[47, 97]⟩, ⟨#[47, 97, 47, 98]⟩, ⟨#[97]⟩, ⟨#[]⟩, ⟨#[47, 98]⟩]
theorem patTexts_sizes : ∀ s ∈ patTexts, s.size ≤ 4 := by decide +kernel
def secTexts : List ByteArray := [⟨#[83, 101, 99, 117, 114, 101]⟩, ⟨#[115, 101, 99, 117, 114, 101, 61, 120]⟩, ⟨#[32, 83, 69, 67, 85, 82, 69, 32]⟩]
theorem secTexts_sizes : ∀ s ∈ secTexts, s.size ≤ 8 := by decide +kernel
def htoTexts : List ByteArray := [⟨#[72, 116, 116, 112, 79, 110, 108, 121]⟩, ⟨#[104, 116, 116, 112, 111, 110, 108, 121, 61]⟩]
theorem htoTexts_sizes : ∀ s ∈ htoTexts, s.size ≤ 9 := by decide +kernel
def sitTexts : List ByteArray := [⟨#[78, 111, 110, 101]⟩, ⟨#[108, 97, 120]⟩, ⟨#[83, 84, 82, 73, 67, 84]⟩, ⟨#[120]⟩, ⟨#[]⟩]
theorem sitTexts_sizes : ∀ s ∈ sitTexts, s.size ≤ 6 := by decide +kernel
def oddAttrs : List ByteArray := [⟨#[]⟩, ⟨#[61]⟩, ⟨#[102, 111, 111, 61, 98, 97, 114]⟩, ⟨#[80, 97, 116, 104, 32, 61, 32, 47, 97, 32]⟩, ⟨#[68, 111, 109, 97, 105, 110]⟩, ⟨#[77, 97, 120, 45, 65, 103, 101, 61, 55, 61, 56]⟩]
theorem oddAttrs_sizes : ∀ s ∈ oddAttrs, s.size ≤ 11 := by decide +kernel
def eqTexts : List ByteArray := [⟨#[61]⟩, ⟨#[32, 61, 32]⟩, ⟨#[61]⟩]
theorem eqTexts_sizes : ∀ s ∈ eqTexts, s.size ≤ 3 := by decide +kernel
def vlTexts : List ByteArray := [⟨#[49]⟩, ⟨#[118, 50]⟩, ⟨#[]⟩, ⟨#[97, 61, 98]⟩, ⟨#[120, 32, 121]⟩, ⟨#[34, 113, 34]⟩]
theorem vlTexts_sizes : ∀ s ∈ vlTexts, s.size ≤ 3 := by decide +kernel
def sepTexts : List ByteArray := [⟨#[59]⟩, ⟨#[59, 32]⟩, ⟨#[32, 59, 32]⟩]
theorem sepTexts_sizes : ∀ s ∈ sepTexts, s.size ≤ 3 := by decide +kernel
def badTexts : List ByteArray := [⟨#[0]⟩, ⟨#[10]⟩, ⟨#[9]⟩, ⟨#[59]⟩, ⟨#[61]⟩, ⟨#[127]⟩, ⟨#[128]⟩]
theorem badTexts_sizes : ∀ s ∈ badTexts, s.size ≤ 1 := by decide +kernel
def HdPost (b : Nat) (v : Value) (len m N : Nat) (w : World) (e : Ending) (w' : World) : Prop := ∃ s : ByteArray, e = .returned (.string s) ∧ s.size ≤ N ∧ LG b v len m w w'
theorem LG.then {b : Nat} {v : Value} {len m n : Nat} {w w1 w2 : World} (h : w.grownBy w1 (some b)) (k : LG b v len n w1 w2) (hm : n ≤ m) : LG b v len m w w2 := ⟨grown_trans h k.1, k.2.choose, by have := k.2.choose_spec.1; omega, k.2.choose_spec.2⟩
theorem LG.mk' {b : Nat} {v : Value} {len m n : Nat} {w w1 : World} (h : w.grownBy w1 (some b)) (k : Src b v len n w1) (hm : n ≤ m) : LG b v len m w w1 := ⟨h, n, hm, k⟩
theorem ckName_any (b : Nat) (v : Value) (len n : Nat) (w : World) (hn : n < 900000) (h : Src b v len n w) (hb : b < w.heap.size) : Calls Tryz.prog 234 #[.pointer (some ⟨b, 0, none⟩)] w (SrcText b v len (n + 1) cknTexts w) := by
  have HS := Lib.hid h
  clear h
  go_enter Tryz.func234, Tryz.ntmps234
  go_wp2_with (go_at_call 183; refine (pick_new b v len n w cknTexts _ _ _ rfl rfl (by decide) (by decide) (by omega) HS.out hb).mono ?_; rintro e w' ⟨s, hs, rfl, hsrc, hg⟩; have HX := Lib.hid hsrc; have HG := Lib.hid hg; have HM := Lib.hid hs; clear hsrc hg hs)
  go_ret
  exact ⟨s, HM.out, rfl, HX.out, HG.out⟩
set_option maxHeartbeats 8000000 in
set_option maxRecDepth 100000 in
theorem attr_any (b : Nat) (v : Value) (len n : Nat) (w : World) (hn : n < 600000) (h : Src b v len n w) (hb : b < w.heap.size) : Calls Tryz.prog 235 #[.pointer (some ⟨b, 0, none⟩)] w (HdPost b v len (n + 40) 220 w) := by
  have HS := Lib.hid h
  clear h
  go_enter Tryz.func235, Tryz.ntmps235
  go_wp2_with fail
  refine (next_small b v len n _ 12 (by omega) (by omega) (by omega) HS.out).mono ?_
  rintro e w1 ⟨r, rfl, hr, hsrc, hg⟩
  have HX := Lib.hid hsrc
  have HG := Lib.hid hg
  have hz := hg.size
  clear hsrc hg
  have hb1 : b < w1.heap.size := by omega
  rcases (show r = 0 ∨ r = 1 ∨ r = 2 ∨ r = 3 ∨ r = 4 ∨ r = 5 ∨ r = 6 ∨ r = 7 ∨ r = 8 ∨ r = 9 ∨ r = 10 ∨ r = 11 by omega) with h0 | h0 | h0 | h0 | h0 | h0 | h0 | h0 | h0 | h0 | h0 | h0
  · have f0 : ((r : Int) == 0) = true := by
      rw [beq_iff_eq]
      omega
    clear h0 hr
    go_wp2_with fail
    refine (dateLine_any b v len (n + 1) _ (by omega) HX.out hb1).mono ?_
    rintro e w2 ⟨s, rfl, hs, hlg⟩
    have HL := Lib.hid hlg
    clear hlg
    go_wp2_with fail
    go_ret
    exact ⟨_, rfl, by rw [ByteArray.size_append]; show 8 + _ ≤ _; omega, LG.then HG.out HL.out (by omega)⟩
  · have f0 : ((r : Int) == 0) = false := by
      rw [beq_eq_false_iff_ne]
      omega
    have f1 : ((r : Int) == 1) = true := by
      rw [beq_iff_eq]
      omega
    clear h0 hr
    go_wp2_with fail
    refine (pick_new b v len (n + 1) w1 ageTexts _ _ _ rfl rfl (by decide) (by decide) (by omega) HX.out hb1).mono ?_
    rintro e w2 ⟨s, hs, rfl, hsrc, hg⟩
    have hsz := ageTexts_sizes s hs
    have HX2 := Lib.hid hsrc
    have HG2 := Lib.hid (grown_trans HG.out hg)
    clear hsrc hg hs
    go_wp2_with fail
    go_ret
    exact ⟨_, rfl, by rw [ByteArray.size_append]; show 8 + _ ≤ _; omega, LG.mk' HG2.out HX2.out (by omega)⟩
  · have f0 : ((r : Int) == 0) = false := by
      rw [beq_eq_false_iff_ne]
      omega
    have f1 : ((r : Int) == 1) = false := by
      rw [beq_eq_false_iff_ne]
      omega
    have f2 : ((r : Int) == 2) = true := by
      rw [beq_iff_eq]
      omega
    clear h0 hr
    go_wp2_with fail
    refine (pick_new b v len (n + 1) w1 domTexts _ _ _ rfl rfl (by decide) (by decide) (by omega) HX.out hb1).mono ?_
    rintro e w2 ⟨s, hs, rfl, hsrc, hg⟩
    have hsz := domTexts_sizes s hs
    have HX2 := Lib.hid hsrc
    have HG2 := Lib.hid (grown_trans HG.out hg)
    clear hsrc hg hs
    go_wp2_with fail
    go_ret
    exact ⟨_, rfl, by rw [ByteArray.size_append]; show 7 + _ ≤ _; omega, LG.mk' HG2.out HX2.out (by omega)⟩
  · have f0 : ((r : Int) == 0) = false := by
      rw [beq_eq_false_iff_ne]
      omega
    have f1 : ((r : Int) == 1) = false := by
      rw [beq_eq_false_iff_ne]
      omega
    have f2 : ((r : Int) == 2) = false := by
      rw [beq_eq_false_iff_ne]
      omega
    have f3 : ((r : Int) == 3) = true := by
      rw [beq_iff_eq]
      omega
    clear h0 hr
    go_wp2_with fail
    refine (pick_new b v len (n + 1) w1 domTexts _ _ _ rfl rfl (by decide) (by decide) (by omega) HX.out hb1).mono ?_
    rintro e w2 ⟨s, hs, rfl, hsrc, hg⟩
    have hsz := domTexts_sizes s hs
    have HX2 := Lib.hid hsrc
    have HG2 := Lib.hid (grown_trans HG.out hg)
    clear hsrc hg hs
    go_wp2_with fail
    go_ret
    exact ⟨_, rfl, by rw [ByteArray.size_append]; show 7 + _ ≤ _; omega, LG.mk' HG2.out HX2.out (by omega)⟩
  · have f0 : ((r : Int) == 0) = false := by
      rw [beq_eq_false_iff_ne]
      omega
    have f1 : ((r : Int) == 1) = false := by
      rw [beq_eq_false_iff_ne]
      omega
    have f2 : ((r : Int) == 2) = false := by
      rw [beq_eq_false_iff_ne]
      omega
    have f3 : ((r : Int) == 3) = false := by
      rw [beq_eq_false_iff_ne]
      omega
    have f4 : ((r : Int) == 4) = true := by
      rw [beq_iff_eq]
      omega
    clear h0 hr
    go_wp2_with fail
    refine (pick_new b v len (n + 1) w1 patTexts _ _ _ rfl rfl (by decide) (by decide) (by omega) HX.out hb1).mono ?_
    rintro e w2 ⟨s, hs, rfl, hsrc, hg⟩
    have hsz := patTexts_sizes s hs
    have HX2 := Lib.hid hsrc
    have HG2 := Lib.hid (grown_trans HG.out hg)
    clear hsrc hg hs
    go_wp2_with fail
    go_ret
    exact ⟨_, rfl, by rw [ByteArray.size_append]; show 5 + _ ≤ _; omega, LG.mk' HG2.out HX2.out (by omega)⟩
  · have f0 : ((r : Int) == 0) = false := by
      rw [beq_eq_false_iff_ne]
      omega
    have f1 : ((r : Int) == 1) = false := by
      rw [beq_eq_false_iff_ne]
      omega
    have f2 : ((r : Int) == 2) = false := by
      rw [beq_eq_false_iff_ne]
      omega
    have f3 : ((r : Int) == 3) = false := by
      rw [beq_eq_false_iff_ne]
      omega
    have f4 : ((r : Int) == 4) = false := by
      rw [beq_eq_false_iff_ne]
      omega
    have f5 : ((r : Int) == 5) = true := by
      rw [beq_iff_eq]
      omega
    clear h0 hr
    go_wp2_with fail
    refine (pick_new b v len (n + 1) w1 patTexts _ _ _ rfl rfl (by decide) (by decide) (by omega) HX.out hb1).mono ?_
    rintro e w2 ⟨s, hs, rfl, hsrc, hg⟩
    have hsz := patTexts_sizes s hs
    have HX2 := Lib.hid hsrc
    have HG2 := Lib.hid (grown_trans HG.out hg)
    clear hsrc hg hs
    go_wp2_with fail
    go_ret
    exact ⟨_, rfl, by rw [ByteArray.size_append]; show 5 + _ ≤ _; omega, LG.mk' HG2.out HX2.out (by omega)⟩
  · have f0 : ((r : Int) == 0) = false := by
      rw [beq_eq_false_iff_ne]
      omega
    have f1 : ((r : Int) == 1) = false := by
      rw [beq_eq_false_iff_ne]
      omega
    have f2 : ((r : Int) == 2) = false := by
      rw [beq_eq_false_iff_ne]
      omega
    have f3 : ((r : Int) == 3) = false := by
      rw [beq_eq_false_iff_ne]
      omega
    have f4 : ((r : Int) == 4) = false := by
      rw [beq_eq_false_iff_ne]
      omega
    have f5 : ((r : Int) == 5) = false := by
      rw [beq_eq_false_iff_ne]
      omega
    have f6 : ((r : Int) == 6) = true := by
      rw [beq_iff_eq]
      omega
    clear h0 hr
    go_wp2_with fail
    refine (pick_new b v len (n + 1) w1 secTexts _ _ _ rfl rfl (by decide) (by decide) (by omega) HX.out hb1).mono ?_
    rintro e w2 ⟨s, hs, rfl, hsrc, hg⟩
    have hsz := secTexts_sizes s hs
    have HX2 := Lib.hid hsrc
    have HG2 := Lib.hid (grown_trans HG.out hg)
    clear hsrc hg hs
    go_wp2_with fail
    go_ret
    exact ⟨_, rfl, by omega, LG.mk' HG2.out HX2.out (by omega)⟩
  · have f0 : ((r : Int) == 0) = false := by
      rw [beq_eq_false_iff_ne]
      omega
    have f1 : ((r : Int) == 1) = false := by
      rw [beq_eq_false_iff_ne]
      omega
    have f2 : ((r : Int) == 2) = false := by
      rw [beq_eq_false_iff_ne]
      omega
    have f3 : ((r : Int) == 3) = false := by
      rw [beq_eq_false_iff_ne]
      omega
    have f4 : ((r : Int) == 4) = false := by
      rw [beq_eq_false_iff_ne]
      omega
    have f5 : ((r : Int) == 5) = false := by
      rw [beq_eq_false_iff_ne]
      omega
    have f6 : ((r : Int) == 6) = false := by
      rw [beq_eq_false_iff_ne]
      omega
    have f7 : ((r : Int) == 7) = true := by
      rw [beq_iff_eq]
      omega
    clear h0 hr
    go_wp2_with fail
    refine (pick_new b v len (n + 1) w1 htoTexts _ _ _ rfl rfl (by decide) (by decide) (by omega) HX.out hb1).mono ?_
    rintro e w2 ⟨s, hs, rfl, hsrc, hg⟩
    have hsz := htoTexts_sizes s hs
    have HX2 := Lib.hid hsrc
    have HG2 := Lib.hid (grown_trans HG.out hg)
    clear hsrc hg hs
    go_wp2_with fail
    go_ret
    exact ⟨_, rfl, by omega, LG.mk' HG2.out HX2.out (by omega)⟩
  · have f0 : ((r : Int) == 0) = false := by
      rw [beq_eq_false_iff_ne]
      omega
    have f1 : ((r : Int) == 1) = false := by
      rw [beq_eq_false_iff_ne]
      omega
    have f2 : ((r : Int) == 2) = false := by
      rw [beq_eq_false_iff_ne]
      omega
    have f3 : ((r : Int) == 3) = false := by
      rw [beq_eq_false_iff_ne]
      omega
    have f4 : ((r : Int) == 4) = false := by
      rw [beq_eq_false_iff_ne]
      omega
    have f5 : ((r : Int) == 5) = false := by
      rw [beq_eq_false_iff_ne]
      omega
    have f6 : ((r : Int) == 6) = false := by
      rw [beq_eq_false_iff_ne]
      omega
    have f7 : ((r : Int) == 7) = false := by
      rw [beq_eq_false_iff_ne]
      omega
    have f8 : ((r : Int) == 8) = true := by
      rw [beq_iff_eq]
      omega
    clear h0 hr
    go_wp2_with fail
    refine (pick_new b v len (n + 1) w1 sitTexts _ _ _ rfl rfl (by decide) (by decide) (by omega) HX.out hb1).mono ?_
    rintro e w2 ⟨s, hs, rfl, hsrc, hg⟩
    have hsz := sitTexts_sizes s hs
    have HX2 := Lib.hid hsrc
    have HG2 := Lib.hid (grown_trans HG.out hg)
    clear hsrc hg hs
    go_wp2_with fail
    go_ret
    exact ⟨_, rfl, by rw [ByteArray.size_append]; show 9 + _ ≤ _; omega, LG.mk' HG2.out HX2.out (by omega)⟩
  · have f0 : ((r : Int) == 0) = false := by
      rw [beq_eq_false_iff_ne]
      omega
    have f1 : ((r : Int) == 1) = false := by
      rw [beq_eq_false_iff_ne]
      omega
    have f2 : ((r : Int) == 2) = false := by
      rw [beq_eq_false_iff_ne]
      omega
    have f3 : ((r : Int) == 3) = false := by
      rw [beq_eq_false_iff_ne]
      omega
    have f4 : ((r : Int) == 4) = false := by
      rw [beq_eq_false_iff_ne]
      omega
    have f5 : ((r : Int) == 5) = false := by
      rw [beq_eq_false_iff_ne]
      omega
    have f6 : ((r : Int) == 6) = false := by
      rw [beq_eq_false_iff_ne]
      omega
    have f7 : ((r : Int) == 7) = false := by
      rw [beq_eq_false_iff_ne]
      omega
    have f8 : ((r : Int) == 8) = false := by
      rw [beq_eq_false_iff_ne]
      omega
    have f9 : ((r : Int) == 9) = true := by
      rw [beq_iff_eq]
      omega
    clear h0 hr
    go_wp2_with fail
    refine (pick_new b v len (n + 1) w1 sitTexts _ _ _ rfl rfl (by decide) (by decide) (by omega) HX.out hb1).mono ?_
    rintro e w2 ⟨s, hs, rfl, hsrc, hg⟩
    have hsz := sitTexts_sizes s hs
    have HX2 := Lib.hid hsrc
    have HG2 := Lib.hid (grown_trans HG.out hg)
    clear hsrc hg hs
    go_wp2_with fail
    go_ret
    exact ⟨_, rfl, by rw [ByteArray.size_append]; show 9 + _ ≤ _; omega, LG.mk' HG2.out HX2.out (by omega)⟩
  · have f0 : ((r : Int) == 0) = false := by
      rw [beq_eq_false_iff_ne]
      omega
    have f1 : ((r : Int) == 1) = false := by
      rw [beq_eq_false_iff_ne]
      omega
    have f2 : ((r : Int) == 2) = false := by
      rw [beq_eq_false_iff_ne]
      omega
    have f3 : ((r : Int) == 3) = false := by
      rw [beq_eq_false_iff_ne]
      omega
    have f4 : ((r : Int) == 4) = false := by
      rw [beq_eq_false_iff_ne]
      omega
    have f5 : ((r : Int) == 5) = false := by
      rw [beq_eq_false_iff_ne]
      omega
    have f6 : ((r : Int) == 6) = false := by
      rw [beq_eq_false_iff_ne]
      omega
    have f7 : ((r : Int) == 7) = false := by
      rw [beq_eq_false_iff_ne]
      omega
    have f8 : ((r : Int) == 8) = false := by
      rw [beq_eq_false_iff_ne]
      omega
    have f9 : ((r : Int) == 9) = false := by
      rw [beq_eq_false_iff_ne]
      omega
    have f10 : ((r : Int) == 10) = true := by
      rw [beq_iff_eq]
      omega
    clear h0 hr
    go_wp2_with fail
    refine (pick_new b v len (n + 1) w1 oddAttrs _ _ _ rfl rfl (by decide) (by decide) (by omega) HX.out hb1).mono ?_
    rintro e w2 ⟨s, hs, rfl, hsrc, hg⟩
    have hsz := oddAttrs_sizes s hs
    have HX2 := Lib.hid hsrc
    have HG2 := Lib.hid (grown_trans HG.out hg)
    clear hsrc hg hs
    go_wp2_with fail
    go_ret
    exact ⟨_, rfl, by omega, LG.mk' HG2.out HX2.out (by omega)⟩
  · have f0 : ((r : Int) == 0) = false := by
      rw [beq_eq_false_iff_ne]
      omega
    have f1 : ((r : Int) == 1) = false := by
      rw [beq_eq_false_iff_ne]
      omega
    have f2 : ((r : Int) == 2) = false := by
      rw [beq_eq_false_iff_ne]
      omega
    have f3 : ((r : Int) == 3) = false := by
      rw [beq_eq_false_iff_ne]
      omega
    have f4 : ((r : Int) == 4) = false := by
      rw [beq_eq_false_iff_ne]
      omega
    have f5 : ((r : Int) == 5) = false := by
      rw [beq_eq_false_iff_ne]
      omega
    have f6 : ((r : Int) == 6) = false := by
      rw [beq_eq_false_iff_ne]
      omega
    have f7 : ((r : Int) == 7) = false := by
      rw [beq_eq_false_iff_ne]
      omega
    have f8 : ((r : Int) == 8) = false := by
      rw [beq_eq_false_iff_ne]
      omega
    have f9 : ((r : Int) == 9) = false := by
      rw [beq_eq_false_iff_ne]
      omega
    have f10 : ((r : Int) == 10) = false := by
      rw [beq_eq_false_iff_ne]
      omega
    clear h0 hr
    go_wp2_with fail
    go_ret
    exact ⟨_, rfl, by decide +kernel, LG.mk' HG.out HX.out (by omega)⟩
def HsRel (b : Nat) (v : Value) (len n : Nat) (w : World) (t i : Value) (wr : World) : Prop := ∃ (s : ByteArray) (k : Nat), t = .string s ∧ i = .int .i64 k ∧ k ≤ 4 ∧ s.size + 230 * k ≤ 1000 ∧ LG b v len (n + 300 - 50 * k) w wr
def CutB (b : Nat) (v : Value) (len m : Nat) (w : World) (u : Value) (wx : World) : Prop := ∃ r : Bool, u = .bool r ∧ LG b v len m w wx
def CutT (b : Nat) (v : Value) (len m N : Nat) (w : World) (u : Value) (wx : World) : Prop := ∃ s : ByteArray, u = .string s ∧ s.size ≤ N ∧ LG b v len m w wx
theorem LG.lt {b : Nat} {v : Value} {len m : Nat} {w w1 : World} (h : LG b v len m w w1) : b < w1.heap.size := h.2.choose_spec.2.lt
set_option maxHeartbeats 8000000 in
set_option maxRecDepth 100000 in
theorem header_any (b : Nat) (v : Value) (len n : Nat) (w : World) (hn : n < 500000) (h : Src b v len n w) (hb : b < w.heap.size) : Calls Tryz.prog 152 #[.pointer (some ⟨b, 0, none⟩)] w (HdPost b v len (n + 300) 1000 w) := by
  have HS := Lib.hid h
  clear h
  go_enter Tryz.func152, Tryz.ntmps152
  go_wp2_with fail
  refine (ckName_any b v len n _ (by omega) HS.out hb).mono ?_
  rintro e w1 ⟨tn, htn, rfl, hsrc, hg⟩
  have htz := cknTexts_sizes tn htn
  have HX := Lib.hid hsrc
  have HG := Lib.hid hg
  have hb1 : b < w1.heap.size := by have := hg.size; omega
  clear hsrc hg htn
  go_upto_region 2 with fail
  go_cut [12] (fun u wx => CutB b v len (n + 2) w u wx)
  case first =>
    cases en : tn.toList.isEmpty with
    | false =>
      go_wp2_with fail
      go_meet
      exact ⟨_, rfl, LG.mk' HG.out HX.out (by omega)⟩
    | true =>
      go_wp2_with fail
      refine (chance_any b v len _ _ 2 (by omega) (by omega) (by omega) HX.out).mono ?_
      rintro e w2 ⟨r, rfl, hsrc, hg⟩
      have HX2 := Lib.hid hsrc
      have HG2 := Lib.hid (grown_trans HG.out hg)
      clear hsrc hg
      go_wp2_with fail
      go_meet
      exact ⟨_, rfl, LG.mk' HG2.out HX2.out (by omega)⟩
  case rest =>
    rename_i wc
    obtain ⟨r, rfl, hlg⟩ := hcut
    have HL := Lib.hid hlg
    have hbc := hlg.lt
    obtain ⟨hgc, kc, hkc, hsc⟩ := hlg
    have HXC := Lib.hid hsc
    have HGC := Lib.hid hgc
    clear hgc hsc HX HG hb1
    go_upto_if 12 with fail
    go_cut [3] (fun u wx => CutT b v len (n + 3) 20 w u wx)
    case first =>
      cases r with
      | false =>
        go_wp2_with fail
        go_meet
        exact ⟨tn, rfl, by omega, LG.mk' HGC.out HXC.out (by omega)⟩
      | true =>
        go_wp2_with fail
        refine (pick_new b v len kc wc eqTexts _ _ _ rfl rfl (by decide) (by decide) (by omega) HXC.out hbc).mono ?_
        rintro e w2 ⟨s, hs, rfl, hsrc, hg⟩
        have hsz := eqTexts_sizes s hs
        have HX2 := Lib.hid hsrc
        have HG2 := Lib.hid (grown_trans HGC.out hg)
        clear hsrc hg hs
        go_wp2_with fail
        go_meet
        exact ⟨_, rfl, by rw [ByteArray.size_append]; omega, LG.mk' HG2.out HX2.out (by omega)⟩
    case rest =>
      obtain ⟨s, rfl, hs, hlg⟩ := hcut
      have hbd := hlg.lt
      obtain ⟨hgd, kd, hkd, hsd⟩ := hlg
      have HXD := Lib.hid hsd
      have HGD := Lib.hid hgd
      clear hgd hsd HXC HGC HL hbc
      go_wp2_with fail
      refine (pick_new b v len kd _ vlTexts _ _ _ rfl rfl (by decide) (by decide) (by omega) HXD.out hbd).mono ?_
      rintro e w2 ⟨s2, hs2, rfl, hsrc, hg⟩
      have hsz := vlTexts_sizes s2 hs2
      have HX2 := Lib.hid hsrc
      have HG2 := Lib.hid (grown_trans HGD.out hg)
      clear hsrc hg hs2
      go_wp2_with fail
      refine (next_small b v len _ _ 5 (by omega) (by omega) (by omega) HX2.out).mono ?_
      rintro e w3 ⟨k, rfl, hk, hsrc, hg⟩
      have HX3 := Lib.hid hsrc
      have HG3 := Lib.hid (grown_trans HG2.out hg)
      have hcat : (s ++ s2).size ≤ 24 := by rw [ByteArray.size_append]; omega
      clear hsrc hg
      go_wp2_with fail
      go_loopw [3, 4] (fun t i wr => HsRel b v len n w t i wr) (fun _ i _ => (intOf i).toNat)
      case atStart => exact ⟨_, k, rfl, rfl, by omega, by omega, LG.mk' HG3.out HX3.out (by omega)⟩
      case round =>
        clear HX3 HG3 HX2 HG2 HXD HGD hk
        obtain ⟨x, k, rfl, rfl, hk4, hxs, hlg⟩ := hrel
        have hbr := hlg.lt
        obtain ⟨hgr, kr, hkr, hsr⟩ := hlg
        have HXR := Lib.hid hsr
        have HGR := Lib.hid hgr
        clear hgr hsr
        by_cases hk : 0 < k
        · have hki : (0 : Int) < (k : Int) := by omega
          go_wp2_with fail
          refine (pick_new b v len kr wr sepTexts _ _ _ rfl rfl (by decide) (by decide) (by omega) HXR.out hbr).mono ?_
          rintro e w4 ⟨s4, hs4, rfl, hsrc, hg⟩
          have hz4 := sepTexts_sizes s4 hs4
          have HX4 := Lib.hid hsrc
          have HG4 := Lib.hid (grown_trans HGR.out hg)
          have hb4 : b < w4.heap.size := by have := Src.lt hsrc; omega
          clear hsrc hg hs4
          go_wp2_with fail
          refine (attr_any b v len _ _ (by omega) HX4.out hb4).mono ?_
          rintro e w5 ⟨s5, rfl, hz5, hlg⟩
          have HL5 := Lib.hid (LG.then (m := n + 300 - 50 * (k - 1)) HG4.out hlg (by omega))
          clear hlg
          go_wp2_with fail
          go_roundw
          case rel => exact ⟨_, k - 1, rfl, by rw [Int.ofNat_sub hk]; rfl, by omega, by rw [ByteArray.size_append, ByteArray.size_append]; omega, HL5.out⟩
          case measure => simp [intOf]; omega
        · have hki : (k : Int) ≤ 0 := by omega
          go_wp2_with fail
          go_ret
          exact ⟨x, rfl, by omega, LG.mk' HGR.out HXR.out (by omega)⟩
theorem next_one (b : Nat) (w : World) : Calls Tryz.prog 182 #[.pointer (some ⟨b, 0, none⟩), .int .i64 1] w fun e w' => e = .returned (.int .i64 0) ∧ w = w' := by
  go_enter Tryz.func182, Tryz.ntmps182
  go_wp2_with fail
  go_ret
  exact ⟨rfl, rfl⟩
def NxPost (b : Nat) (v : Value) (len n m : Nat) (w : World) (e : Ending) (w' : World) : Prop := ∃ r : Nat, e = .returned (.int .i64 r) ∧ r < m ∧ LG b v len n w w'
theorem nextAny (b : Nat) (v : Value) (len n : Nat) (w : World) (m : Nat) (hm : 1 ≤ m) (hm2 : m ≤ 2000) (hn : n < 900000) (h : Src b v len n w) : Calls Tryz.prog 182 #[.pointer (some ⟨b, 0, none⟩), .int .i64 m] w (NxPost b v len (n + 3) m w) := by
  by_cases h1 : m = 1
  · subst h1
    refine (next_one b w).mono ?_
    rintro e w' ⟨rfl, rfl⟩
    exact ⟨0, rfl, by omega, grown_refl _ _, n, by omega, h⟩
  · by_cases h2 : m ≤ 256
    · refine (next_small b v len n w m (by omega) h2 (by omega) h).mono ?_
      rintro e w' ⟨r, rfl, hr, hs, hg⟩
      exact ⟨r, rfl, by omega, hg, _, by omega, hs⟩
    · refine (next_big b v len n w m (by omega) (by omega) (by omega) h).mono ?_
      rintro e w' ⟨r, rfl, hr, hs, hg⟩
      exact ⟨r, rfl, by omega, hg, _, by omega, hs⟩
set_option maxHeartbeats 8000000 in
set_option maxRecDepth 100000 in
theorem anyHeader_any (b : Nat) (v : Value) (len n : Nat) (w : World) (hn : n < 400000) (h : Src b v len n w) (hb : b < w.heap.size) : Calls Tryz.prog 83 #[.pointer (some ⟨b, 0, none⟩)] w (HdPost b v len (n + 320) 1010 w) := by
  have HS := Lib.hid h
  clear h
  go_enter Tryz.func83, Tryz.ntmps83
  go_wp2_with fail
  refine (header_any b v len n _ (by omega) HS.out hb).mono ?_
  rintro e w1 ⟨s, rfl, hs, ⟨hg, k1, hk1, hsrc⟩⟩
  have HX := Lib.hid hsrc
  have HG := Lib.hid hg
  clear hsrc hg
  go_wp2_with fail
  refine (next_small b v len k1 _ 8 (by omega) (by omega) (by omega) HX.out).mono ?_
  rintro e w2 ⟨r, rfl, hr, hsrc, hg⟩
  have HX2 := Lib.hid hsrc
  have HG2 := Lib.hid (grown_trans HG.out hg)
  clear hsrc hg
  rcases (show r = 0 ∨ r = 1 ∨ 2 ≤ r by omega) with h0 | h0 | h0
  · have f0 : ((r : Int) == 0) = true := by
      rw [beq_iff_eq]
      omega
    clear h0 hr
    go_wp2_with fail
    refine (nextAny b v len (k1 + 1) _ (s.size + 1) (by omega) (by omega) (by omega) HX2.out).mono ?_
    rintro e w3 ⟨c, rfl, hc, ⟨hg, k3, hk3, hsrc⟩⟩
    have HX3 := Lib.hid hsrc
    have HG3 := Lib.hid (grown_trans HG2.out hg)
    have hb3 : b < w3.heap.size := Src.lt hsrc
    clear hsrc hg
    have c1 : (0 : Int) ≤ c := by omega
    have c2 : (c : Int) ≤ s.size := by omega
    have c3 : c ≤ s.size := by omega
    go_wp2_with fail
    go_region_held3 (fun _ => True) (trivial)
      (first | (go_at_call 183; refine (pick_new b v len _ w3.drew badTexts _ _ _ rfl rfl (by decide) (by decide) (by omega) HX3.out hb3).mono ?_; rintro e w7 ⟨m, hm, rfl, hsrc7, hg7⟩; have hm1 := badTexts_sizes m hm; have ha1 := string_add (s.extract 0 c) m (by simp; omega); have ha2 := string_add (s.extract 0 c ++ m) (s.extract c s.size) (by simp; omega); have HG7 := Lib.hid hg7; have HX7 := Lib.hid hsrc7; clear hsrc7 hg7 hm))
    go_wp2_with fail
    go_ret
    refine ⟨_, rfl, ?_, grown_trans HG3.out (grown_trans (grown_drew1 _ _) HG7.out), _, ?_, HX7.out⟩
    · simp only [ByteArray.size_append, ByteArray.size_extract]
      omega
    · omega
  · have f0 : ((r : Int) == 0) = false := by
      rw [beq_eq_false_iff_ne]
      omega
    have f1 : ((r : Int) == 1) = true := by
      rw [beq_iff_eq]
      omega
    clear h0 hr
    go_wp2_with fail
    refine (next_small b v len _ _ 5 (by omega) (by omega) (by omega) HX2.out).mono ?_
    rintro e w3 ⟨c, rfl, hc, hsrc, hg⟩
    have HX3 := Lib.hid hsrc
    have HG3 := Lib.hid (grown_trans HG2.out hg)
    clear hsrc hg
    have e1 : (⟨#[110, 61]⟩ : ByteArray).size = 2 := rfl
    have e2 : (⟨#[59, 32, 83, 101, 99, 117, 114, 101]⟩ : ByteArray).size = 8 := rfl
    go_wp2_with fail
    go_ret
    refine ⟨_, rfl, ?_, LG.mk' HG3.out HX3.out (by omega)⟩
    simp only [ByteArray.size_append, ByteArray.size_extract, e1, e2]
    omega
  · have f0 : ((r : Int) == 0) = false := by
      rw [beq_eq_false_iff_ne]
      omega
    have f1 : ((r : Int) == 1) = false := by
      rw [beq_eq_false_iff_ne]
      omega
    clear h0 hr
    go_wp2_with fail
    go_ret
    exact ⟨s, rfl, by omega, LG.mk' HG2.out HX2.out (by omega)⟩
end Go.Proofs.YtpdonghdnaehhaaGreatDoor
