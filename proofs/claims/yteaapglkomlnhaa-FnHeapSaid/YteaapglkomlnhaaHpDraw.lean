/- The model's drawn heap: a list of its own. The source has been asked fewer than a thousand times. -/
import Derived.Test.YteaapglkomlnhaaDraws
import Derived.Test.YteaapglkomlnhaaHpPush
namespace Go.Proofs.Yteaapglkomlnhaa
open Go.ChangeShapes Go.WideShapes Go.ChangeAt Go.WideMaps Go.WideElems Go.RowKit

theorem grown_below {w w' : World} {C : Nat} (h : Below C w w') (hC : w.heap.size ≤ C) (r : Option Nat) : w.grownBy w' r := ⟨h.os, h.tape, h.output, h.size, fun k hk _ => h.block k (Nat.lt_of_lt_of_le hk hC)⟩
set_option maxRecDepth 100000 in
theorem room_any (b : Nat) (v : Value) (len n : Nat) (w : World) (h : Src b v len n w) : Calls Try.prog 70 #[.pointer (some ⟨b, 0, none⟩), .int .i64 12] w fun e w' => (∃ r : Nat, e = .returned (.int .i64 r) ∧ r ≤ 12 ∧ 1 ≤ r) ∧ w = w' := by
  obtain ⟨hcode, seed, hs0, hs1, hblk⟩ := h
  obtain ⟨hc0, hc1, hc2, hf1, hf2⟩ := Src.cells hblk
  obtain ⟨hl, a, cap, rfl, _⟩ := hcode
  obtain ⟨d, hd⟩ : ∃ d : Nat, len / 12 = d := ⟨_, rfl⟩
  have t1 : (len : Int).tdiv 12 = (d : Int) := by rw [← hd]; rfl
  have hdl : d ≤ len := by omega
  have sd : IntKind.i64.wrap (d : Int) = d := IntWalk.i64_in _ (by omega)
  have s1 : IntKind.i64.wrap (1 + (d : Int)) = 1 + (d : Int) := IntWalk.i64_in _ (by omega)
  have HD := Lib.hid hd
  clear hblk hd
  go_enter Try.func70, Try.ntmps70
  go_wp2_with fail
  have hmn : ((min (1 + d) 12 : Nat) : Int) = min (1 + (d : Int)) 12 := by omega
  refine bodyPost_ret (v := .int .i64 (min (1 + (d : Int)) 12)) (by simp [results, Try.results70, go_sem]) rfl ?_
  rw [← hmn]
  exact ⟨⟨min (1 + d) 12, rfl, by omega, by omega⟩, rfl⟩
theorem src_keptH {b : Nat} {v : Value} {len n : Nat} {w w' : World} (h : Src b v len n w) (hg : w.grownBy w' none) : Src b v len n w' := by
  obtain ⟨hc, seed, h0, h1, hb⟩ := h
  have hlt : b < w.heap.size := (Array.getElem?_eq_some_iff.1 hb).1
  have hg2 : w.grownBy w' (some b) := ⟨hg.1, hg.2, hg.3, hg.size, fun j hj _ => hg.block j hj (by simp)⟩
  exact src_of hc hg2 h0 h1 ((hg.block b hlt (by simp)).trans hb)
/-- A drawn heap lies past the source. -/
def HdRel (b : Nat) (v : Value) (len : Nat) (w : World) (hv iv : Value) (wr : World) : Prop :=
  ∃ (k m : Nat) (qs : List Sl) (A B : Nat), iv = .int .i64 ((k : Int) + 1) ∧ k ≤ 14 ∧ m ≤ 3 * k ∧ qs.length = k ∧ SlsIn wr A B true hv qs ∧ w.heap.size ≤ A ∧ B ≤ wr.heap.size ∧ Src b v len m wr ∧ w.grownBy wr (some b)
def HdPost (b : Nat) (w : World) (e : Ending) (w' : World) : Prop :=
  ∃ (hv : Value) (qs : List Sl) (A B : Nat), e = .returned hv ∧ qs.length ≤ 14 ∧ SlsIn w' A B true hv qs ∧ w.heap.size ≤ A ∧ B ≤ w'.heap.size ∧ w.grownBy w' (some b)
set_option maxRecDepth 100000 in
set_option maxHeartbeats 400000 in
theorem heapSrc_any (b : Nat) (v : Value) (len : Nat) (w : World) (h : Src b v len 0 w) (hb : b < w.heap.size) : Calls Try.prog 52 #[.pointer (some ⟨b, 0, none⟩)] w (HdPost b w) := by
  have HS := Lib.hid (src_keptH h (World.grownBy_alloc w (.cells #[] 33) none))
  clear h
  go_enter Try.func52, Try.ntmps52
  go_wp2_with fail
  go_loopw [3, 4] (fun hv iv wr => HdRel b v len w hv iv wr) (fun _ iv _ => 20 - (intOf iv).toNat)
  case atStart => exact ⟨0, 0, [], w.heap.size, w.heap.size + 1, rfl, Nat.zero_le _, Nat.le_refl _, rfl, nil_in _ _ _ _ _ _ (Nat.zero_le _), Nat.le_refl _, by simp, HS.out, World.grownBy_alloc _ _ _⟩
  case round =>
    clear HS
    obtain ⟨k, m, qs, A, B, rfl, hk, hm, hq, hs, hA, hB, hsrc, hg⟩ := hrel
    subst hq
    have HX := Lib.hid hsrc
    have HG := Lib.hid hg
    have HV := Lib.hid hs
    have hsz := hg.size
    have hbw : b < wr.heap.size := by omega
    obtain ⟨a, cap, rfl, _⟩ := hs
    clear hsrc hg
    go_wp2_with fail
    refine (room_any b v len m wr HX.out).mono ?_
    rintro e w1 ⟨⟨r, rfl, hr1, hr2⟩, rfl⟩
    have sw : IntKind.i64.wrap ((r : Int) + 3) = (r : Int) + 3 := IntWalk.i64_in _ (by omega)
    go_wp2_with fail
    refine (next_small b v len m wr (r + 3) (by omega) (by omega) (by omega) HX.out).mono ?_
    rintro e w2 ⟨u, rfl, hu, hsrc, hg⟩
    have HX2 := Lib.hid hsrc
    have HG2 := Lib.hid (grown_trans HG.out hg)
    have HV2 := Lib.hid (HV.out.keep (w' := w2) fun j h1 h2 => hg.block j (by omega) (by simp; omega))
    have hz2 := hg.size
    clear hsrc hg
    by_cases hle : (qs.length : Int) + 1 ≤ (u : Int)
    · go_wp2_with fail
      refine (next_small b v len (m + 1) w2 12 (by omega) (by omega) (by omega) HX2.out).mono ?_
      rintro e w3 ⟨y, rfl, hy, hsrc, hg⟩
      have HX3 := Lib.hid hsrc
      have HG3 := Lib.hid (grown_trans HG2.out hg)
      have HV3 := Lib.hid (HV2.out.keep (w' := w3) fun j h1 h2 => hg.block j (by omega) (by simp; omega))
      have hz3 := hg.size
      clear hsrc hg
      go_wp2_with fail
      refine (specPush8_any _ qs ⟨(y : Int), (qs.length : Int) + 1⟩ A B true w3 (by omega) (by omega) HV3.out).mono ?_
      rintro e w4 ⟨u4, rfl, ⟨g4, c4, rfl, n1, n2, n3, n4⟩, hb4⟩
      have HX4 := Lib.hid (src_keptH HX3.out (grown_below hb4 (Nat.le_refl _) none))
      have HG4 := Lib.hid (grown_trans HG3.out (grown_below hb4 (Nat.le_refl _) (some b)))
      have HV4 := Lib.hid (n4.in (A := w3.heap.size) (B := w4.heap.size) n3 n4.1 n1 n2)
      have hz4 := hb4.size
      have hpl := pushL_length qs ⟨(y : Int), (qs.length : Int) + 1⟩
      clear hb4 n4
      go_wp2_with fail
      go_roundw
      case rel => exact ⟨qs.length + 1, m + 1 + 1, pushL qs ⟨(y : Int), (qs.length : Int) + 1⟩, w3.heap.size, w4.heap.size, by go_num, by omega, by omega, by omega, by rw [← hpl]; exact HV4.out, by omega, Nat.le_refl _, HX4.out, HG4.out⟩
      case measure => simp [intOf]; omega
    · go_wp2_with fail
      refine bodyPost_ret (v := .slice a qs.length cap) (by simp [results, Try.results52, go_sem]) rfl ?_
      exact ⟨_, qs, A, B, rfl, by omega, HV2.out, hA, by omega, HG2.out⟩
theorem heapDrawn_any (v : Value) (len : Nat) (w : World) (h : CodeIn w v len) : Calls Try.prog 32 #[v] w fun e w' => ∃ (hv : Value) (qs : List Sl) (A B : Nat), e = .returned hv ∧ qs.length ≤ 14 ∧ SlsIn w' A B true hv qs ∧ w.heap.size ≤ A ∧ B ≤ w'.heap.size ∧ Below w.heap.size w w' := by
  have HC := Lib.hid h
  clear h
  go_enter Try.func32, Try.ntmps32
  go_wp2_with fail
  refine (source_any v len _ HC.out).mono ?_
  rintro e w1 ⟨rfl, hsrc, hb⟩
  have HX := Lib.hid hsrc
  have HB := Lib.hid hb
  have hz := hb.size
  clear hsrc hb
  go_wp2_with fail
  refine (heapSrc_any _ v len w1 HX.out HX.out.lt).mono ?_
  rintro e w2 ⟨hv, qs, A, B, rfl, hq, hs, hA, hB, hg⟩
  have HV := Lib.hid hs
  have HG := Lib.hid hg
  clear hs hg
  go_wp2_with fail
  go_ret
  exact ⟨_, qs, A, B, rfl, hq, HV.out, by omega, hB, below_of_own HB.out HG.out⟩
end Go.Proofs.Yteaapglkomlnhaa
