/- The model's drawn hosts: each is one of a few texts. No condition of its own. -/
import Derived.Test.YtpdonghdnaehhaaGreatDoorDraws
import Derived.Deep.RegionHeld3
namespace Go.Proofs.YtpdonghdnaehhaaGreatDoor
open Go.ChangeShapes Go.WideShapes Go.ChangeAt Go.WideMaps Go.WideElems Go.RowKit

def hostTexts : List ByteArray := [⟨#[97, 46, 101, 120, 97, 109, 112, 108, 101]⟩, ⟨#[98, 46, 97, 46, 101, 120, 97, 109, 112, 108, 101]⟩, ⟨#[99, 46, 98, 46, 97, 46, 101, 120, 97, 109, 112, 108, 101]⟩, ⟨#[101, 120, 97, 109, 112, 108, 101]⟩, ⟨#[120, 46, 99, 111, 46, 99, 107]⟩, ⟨#[119, 119, 119, 46, 99, 107]⟩, ⟨#[97, 46, 99, 107]⟩, ⟨#[49, 48, 46, 48, 46, 48, 46, 49]⟩, ⟨#[120, 97, 46, 101, 120, 97, 109, 112, 108, 101]⟩]
def oddTexts : List ByteArray := [⟨#[]⟩, ⟨#[46]⟩, ⟨#[65, 46, 69, 120, 97, 109, 112, 108, 101]⟩, ⟨#[97, 46, 101, 120, 97, 109, 112, 108, 101, 46]⟩, ⟨#[97, 46, 46, 98]⟩, ⟨#[46, 97]⟩, ⟨#[97, 46, 101, 120, 97, 109, 112, 108, 101, 46, 46]⟩, ⟨#[97, 32, 98]⟩, ⟨#[49, 46, 50, 46, 51, 46, 52]⟩, ⟨#[49, 46, 50, 46, 51, 46, 50, 53, 54]⟩, ⟨#[49, 46, 50, 46, 51]⟩, ⟨#[48, 49, 46, 50, 46, 51, 46, 52]⟩, ⟨#[97, 46, 98, 46, 99, 46, 100, 46, 101, 46, 102]⟩, ⟨#[97, 46, 98, 46, 99, 46, 100, 46, 101, 46, 102, 46, 103]⟩, ⟨#[97, 95, 98, 45, 99, 46, 120]⟩, ⟨#[97, 97, 97, 97, 97, 97, 97, 97, 97, 97, 97, 97, 97, 97, 97, 97, 97, 97, 97, 97, 97, 97, 97, 97, 97, 97, 97, 97, 97, 97, 97, 97, 97, 97, 97, 97, 97, 97, 97, 97]⟩, ⟨#[97, 97, 97, 97, 97, 97, 97, 97, 97, 97, 97, 97, 97, 97, 97, 97, 97, 97, 97, 97, 97, 97, 97, 97, 97, 97, 97, 97, 97, 97, 97, 97, 97, 97, 97, 97, 97, 97, 97, 97, 97]⟩, ⟨#[128]⟩, ⟨#[97, 47, 98]⟩]
def midTexts : List ByteArray := [⟨#[46]⟩, ⟨#[65]⟩, ⟨#[45]⟩, ⟨#[32]⟩, ⟨#[49]⟩]
theorem host_sizes : ∀ s ∈ hostTexts, s.size ≤ 13 := by decide +kernel
theorem odd_sizes : ∀ s ∈ oddTexts, s.size ≤ 41 := by decide +kernel
theorem mid_sizes : ∀ s ∈ midTexts, s.size ≤ 1 := by decide +kernel
theorem string_add (a b : ByteArray) (h : a.size + b.size ≤ 1000000) : Op.stringOp .add a b = pure (.string (a ++ b)) := by
  have hm : IntKind.i64.max = 9223372036854775807 := by decide
  unfold Op.stringOp
  simp only [hm]
  rw [if_neg (by omega)]
set_option maxRecDepth 100000 in
theorem host_any (b : Nat) (v : Value) (len n : Nat) (w : World) (hn : n < 900000) (h : Src b v len n w) (hb : b < w.heap.size) : Calls Tryz.prog 116 #[.pointer (some ⟨b, 0, none⟩)] w (SrcText b v len (n + 1) hostTexts w) := by
  have HS := Lib.hid h
  clear h
  go_enter Tryz.func116, Tryz.ntmps116
  go_wp2_with (go_at_call 183; refine (pick_new b v len n w hostTexts _ _ _ rfl rfl (by decide) (by decide) (by omega) HS.out hb).mono ?_; rintro e w' ⟨s, hs, rfl, hsrc, hg⟩; have HX := Lib.hid hsrc; have HG := Lib.hid hg; have HM := Lib.hid hs; clear hsrc hg hs)
  go_ret
  exact ⟨s, HM.out, rfl, HX.out, HG.out⟩
def AnyPost (b : Nat) (w : World) (e : Ending) (w' : World) : Prop := ∃ s : ByteArray, e = .returned (.string s) ∧ s.size ≤ 50 ∧ w.grownBy w' (some b)
def HostPost (w : World) (e : Ending) (w' : World) : Prop := ∃ s : ByteArray, e = .returned (.string s) ∧ s.size ≤ 50 ∧ Below w.heap.size w w'
theorem hostDrawn_any (v : Value) (len : Nat) (w : World) (h : CodeIn w v len) : Calls Tryz.prog 41 #[v] w (HostPost w) := by
  have HC := Lib.hid h
  clear h
  go_enter Tryz.func41, Tryz.ntmps41
  go_wp2_with (first
    | (go_at_call 64; refine (source_any _ _ _ HC.out).mono ?_; rintro e w1 ⟨rfl, hsrc, hb⟩; have HX := Lib.hid hsrc; have HB := Lib.hid hb; clear hsrc hb)
    | (go_at_call 116; refine (host_any _ _ _ _ _ (by omega) HX.out (by have := Src.lt HX.out; omega)).mono ?_; rintro e w2 ⟨s, hs, rfl, _, hg⟩; have HG := Lib.hid hg; have HM := Lib.hid (host_sizes s hs); clear hg hs))
  go_ret
  exact ⟨s, rfl, Nat.le_trans HM.out (by decide), below_of_own HB.out HG.out⟩
end Go.Proofs.YtpdonghdnaehhaaGreatDoor
