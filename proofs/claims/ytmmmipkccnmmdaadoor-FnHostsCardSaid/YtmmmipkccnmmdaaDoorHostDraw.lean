/- The model's drawn hosts: each is one of a few texts. No condition of its own. -/
import Derived.Test.YtmmmipkccnmmdaaDoorDraws
import Derived.Deep.RegionHeld3
namespace Go.Proofs.YtmmmipkccnmmdaaDoor
open Go.ChangeShapes Go.WideShapes Go.ChangeAt Go.WideMaps Go.WideElems Go.RowKit

def hostTexts : List ByteArray := [⟨#[97, 46, 101, 120, 97, 109, 112, 108, 101]⟩, ⟨#[98, 46, 97, 46, 101, 120, 97, 109, 112, 108, 101]⟩, ⟨#[99, 46, 98, 46, 97, 46, 101, 120, 97, 109, 112, 108, 101]⟩, ⟨#[101, 120, 97, 109, 112, 108, 101]⟩, ⟨#[120, 46, 99, 111, 46, 99, 107]⟩, ⟨#[119, 119, 119, 46, 99, 107]⟩, ⟨#[97, 46, 99, 107]⟩, ⟨#[49, 48, 46, 48, 46, 48, 46, 49]⟩, ⟨#[120, 97, 46, 101, 120, 97, 109, 112, 108, 101]⟩]
def oddTexts : List ByteArray := [⟨#[]⟩, ⟨#[46]⟩, ⟨#[65, 46, 69, 120, 97, 109, 112, 108, 101]⟩, ⟨#[97, 46, 101, 120, 97, 109, 112, 108, 101, 46]⟩, ⟨#[97, 46, 46, 98]⟩, ⟨#[46, 97]⟩, ⟨#[97, 46, 101, 120, 97, 109, 112, 108, 101, 46, 46]⟩, ⟨#[97, 32, 98]⟩, ⟨#[49, 46, 50, 46, 51, 46, 52]⟩, ⟨#[49, 46, 50, 46, 51, 46, 50, 53, 54]⟩, ⟨#[49, 46, 50, 46, 51]⟩, ⟨#[48, 49, 46, 50, 46, 51, 46, 52]⟩, ⟨#[97, 46, 98, 46, 99, 46, 100, 46, 101, 46, 102]⟩, ⟨#[97, 46, 98, 46, 99, 46, 100, 46, 101, 46, 102, 46, 103]⟩, ⟨#[97, 95, 98, 45, 99, 46, 120]⟩, ⟨#[97, 97, 97, 97, 97, 97, 97, 97, 97, 97, 97, 97, 97, 97, 97, 97, 97, 97, 97, 97, 97, 97, 97, 97, 97, 97, 97, 97, 97, 97, 97, 97, 97, 97, 97, 97, 97, 97, 97, 97]⟩, ⟨#[97, 97, 97, 97, 97, 97, 97, 97, 97, 97, 97, 97, 97, 97, 97, 97, 97, 97, 97, 97, 97, 97, 97, 97, 97, 97, 97, 97, 97, 97, 97, 97, 97, 97, 97, 97, 97, 97, 97, 97, 97]⟩, ⟨#[128]⟩, ⟨#[97, 47, 98]⟩]
def midTexts : List ByteArray := [⟨#[46]⟩, ⟨#[65]⟩, ⟨#[45]⟩, ⟨#[32]⟩, ⟨#[49]⟩]
theorem host_sizes : ∀ s ∈ hostTexts, s.size ≤ 13 := by decide +kernel
theorem odd_sizes : ∀ s ∈ oddTexts, s.size ≤ 41 := by decide +kernel
theorem mid_sizes : ∀ s ∈ midTexts, s.size ≤ 1 := by decide +kernel
theorem string_add (a b : ByteArray) (h : a.size + b.size ≤ 1000000) : Op.stringOp .add a b = pure (.string (a ++ b)) := by
  have hm : IntKind.i64.max = 9223372036854775807 := by decide
  unfold Op.stringOp
  simp only [hm]
  rw [if_neg (by omega)]
set_option maxRecDepth 100000 in
theorem host_any (b : Nat) (v : Value) (len n : Nat) (w : World) (hn : n < 900000) (h : Src b v len n w) (hb : b < w.heap.size) : Calls Tryd.prog 37 #[.pointer (some ⟨b, 0, none⟩)] w (SrcText b v len (n + 1) hostTexts w) := by
  have HS := Lib.hid h
  clear h
  go_enter Tryd.func37, Tryd.ntmps37
  go_wp2_with (go_at_call 41; refine (pick_new b v len n w hostTexts _ _ _ rfl rfl (by decide) (by decide) (by omega) HS.out hb).mono ?_; rintro e w' ⟨s, hs, rfl, hsrc, hg⟩; have HX := Lib.hid hsrc; have HG := Lib.hid hg; have HM := Lib.hid hs; clear hsrc hg hs)
  go_ret
  exact ⟨s, HM.out, rfl, HX.out, HG.out⟩
def AnyPost (b : Nat) (w : World) (e : Ending) (w' : World) : Prop := ∃ s : ByteArray, e = .returned (.string s) ∧ s.size ≤ 50 ∧ w.grownBy w' (some b)
set_option maxHeartbeats 1000000 in
set_option maxRecDepth 100000 in
theorem anyHost_any (b : Nat) (v : Value) (len n : Nat) (w : World) (hn : n < 800000) (h : Src b v len n w) (hb : b < w.heap.size) : Calls Tryd.prog 26 #[.pointer (some ⟨b, 0, none⟩)] w (AnyPost b w) := by
  have HS := Lib.hid h
  clear h
  go_enter Tryd.func26, Tryd.ntmps26
  go_wp2_with fail
  refine (next_small b v len n _ 5 (by omega) (by omega) (by omega) HS.out).mono ?_
  rintro e w1 ⟨r, rfl, hr, hsrc, hg⟩
  have HX := Lib.hid hsrc
  have HG := Lib.hid hg
  have hz := hg.size
  clear hsrc hg
  have hb1 : b < w1.heap.size := by omega
  rcases (show r = 0 ∨ r = 1 ∨ 2 ≤ r by omega) with h0 | h0 | h0
  · have f0 : ((r : Int) == 0) = true := by
      rw [beq_iff_eq]
      omega
    clear h0 hr
    go_wp2_with fail
    refine (pick_new b v len (n + 1) w1 oddTexts _ _ _ rfl rfl (by decide) (by decide) (by omega) HX.out hb1).mono ?_
    rintro e w2 ⟨s, hs, rfl, hsrc, hg⟩
    have HG2 := Lib.hid (grown_trans HG.out hg)
    have hsz := odd_sizes s hs
    clear hsrc hg hs
    go_wp2_with fail
    go_ret
    exact ⟨s, rfl, by omega, HG2.out⟩
  · have f0 : ((r : Int) == 0) = false := by
      rw [beq_eq_false_iff_ne]
      omega
    have f1 : ((r : Int) == 1) = true := by
      rw [beq_iff_eq]
      omega
    clear h0 hr
    go_wp2_with fail
    refine (host_any b v len (n + 1) _ (by omega) HX.out hb1).mono ?_
    rintro e w2 ⟨s, hs, rfl, hsrc, hg⟩
    have HX2 := Lib.hid hsrc
    have HG2 := Lib.hid (grown_trans HG.out hg)
    have hz2 := hg.size
    have hsz := host_sizes s hs
    have hs1 : 1 ≤ s.size := (show ∀ s ∈ hostTexts, 1 ≤ s.size by decide +kernel) s hs
    clear hsrc hg hs
    go_wp2_with fail
    refine (next_small b v len (n + 1 + 1) _ (s.size + 1) (by omega) (by omega) (by omega) HX2.out).mono ?_
    rintro e w3 ⟨k, rfl, hk, hsrc, hg⟩
    have HX3 := Lib.hid hsrc
    have HG3 := Lib.hid (grown_trans HG2.out hg)
    have hz3 := hg.size
    clear hsrc hg
    have hb3 : b < w3.heap.size := by omega
    have hk1 : (0 : Int) ≤ k := by omega
    have hk2 : (k : Int) ≤ s.size := by omega
    have hk3 : k ≤ s.size := by omega
    go_wp2_with fail
    go_region_held3 (fun _ => True) (trivial)
      (first | (go_at_call 41; refine (pick_new b v len (n + 1 + 1 + 1) w3.drew midTexts _ _ _ rfl rfl (by decide) (by decide) (by omega) HX3.out hb3).mono ?_; rintro e w4 ⟨m, hm, rfl, hsrc4, hg4⟩; have hm1 := mid_sizes m hm; have ha1 := string_add (s.extract 0 k) m (by simp; omega); have ha2 := string_add (s.extract 0 k ++ m) (s.extract k s.size) (by simp; omega); have HG4 := Lib.hid hg4; clear hsrc4 hg4 hm))
    go_wp2_with fail
    go_ret
    refine ⟨_, rfl, ?_, grown_trans HG3.out (grown_trans (grown_drew _ _) HG4.out)⟩
    simp only [ByteArray.size_append, ByteArray.size_extract]
    omega
  · have f0 : ((r : Int) == 0) = false := by
      rw [beq_eq_false_iff_ne]
      omega
    have f1 : ((r : Int) == 1) = false := by
      rw [beq_eq_false_iff_ne]
      omega
    clear h0 hr
    go_wp2_with fail
    refine (host_any b v len (n + 1) _ (by omega) HX.out hb1).mono ?_
    rintro e w2 ⟨s, hs, rfl, hsrc, hg⟩
    have HG2 := Lib.hid (grown_trans HG.out hg)
    have hsz := host_sizes s hs
    clear hsrc hg hs
    go_wp2_with fail
    go_ret
    exact ⟨s, rfl, by omega, HG2.out⟩
def HostPost (w : World) (e : Ending) (w' : World) : Prop := ∃ s : ByteArray, e = .returned (.string s) ∧ s.size ≤ 50 ∧ Below w.heap.size w w'
theorem hostDrawn_any (v : Value) (len : Nat) (w : World) (h : CodeIn w v len) : Calls Tryd.prog 20 #[v] w (HostPost w) := by
  have HC := Lib.hid h
  clear h
  go_enter Tryd.func20, Tryd.ntmps20
  go_wp2_with (first
    | (go_at_call 25; refine (source_any _ _ _ HC.out).mono ?_; rintro e w1 ⟨rfl, hsrc, hb⟩; have HX := Lib.hid hsrc; have HB := Lib.hid hb; clear hsrc hb)
    | (go_at_call 37; refine (host_any _ _ _ _ _ (by omega) HX.out (by have := Src.lt HX.out; omega)).mono ?_; rintro e w2 ⟨s, hs, rfl, _, hg⟩; have HG := Lib.hid hg; have HM := Lib.hid (host_sizes s hs); clear hg hs))
  go_ret
  exact ⟨s, rfl, Nat.le_trans HM.out (by decide), below_of_own HB.out HG.out⟩
theorem anyDrawn_any (v : Value) (len : Nat) (w : World) (h : CodeIn w v len) : Calls Tryd.prog 9 #[v] w (HostPost w) := by
  have HC := Lib.hid h
  clear h
  go_enter Tryd.func9, Tryd.ntmps9
  go_wp2_with (first
    | (go_at_call 25; refine (source_any _ _ _ HC.out).mono ?_; rintro e w1 ⟨rfl, hsrc, hb⟩; have HX := Lib.hid hsrc; have HB := Lib.hid hb; clear hsrc hb)
    | (go_at_call 26; refine (anyHost_any _ _ _ _ _ (by omega) HX.out (by have := Src.lt HX.out; omega)).mono ?_; rintro e w2 ⟨s, rfl, hs, hg⟩; have HG := Lib.hid hg; have HM := Lib.hid hs; clear hg hs))
  go_ret
  exact ⟨s, rfl, HM.out, below_of_own HB.out HG.out⟩
end Go.Proofs.YtmmmipkccnmmdaaDoor
