/- The model's drawn rules and hosts. No condition of its own. -/
import Derived.Test.YtihlflhgbnfkkaaGreatDoorSufFacts
import Derived.Test.YtihlflhgbnfkkaaGreatDoorHostDraw
import Derived.Test.YtihlflhgbnfkkaaGreatDoorSplitAny
namespace Go.Proofs.YtihlflhgbnfkkaaGreatDoor
open Go.ChangeShapes Go.WideShapes Go.ChangeAt Go.WideMaps Go.WideElems Go.RowKit

def ruleTexts : List ByteArray := [⟨#[101, 120, 97, 109, 112, 108, 101]⟩, ⟨#[99, 107]⟩, ⟨#[42, 46, 99, 107]⟩, ⟨#[33, 119, 119, 119, 46, 99, 107]⟩, ⟨#[99, 111, 46, 99, 107]⟩, ⟨#[97, 46, 101, 120, 97, 109, 112, 108, 101]⟩, ⟨#[42, 46, 97, 46, 101, 120, 97, 109, 112, 108, 101]⟩, ⟨#[33, 99, 46, 98, 46, 97, 46, 101, 120, 97, 109, 112, 108, 101]⟩]
theorem rule_texts : ∀ s ∈ ruleTexts, ruleL s.data.toList = true := by decide +kernel
theorem host_texts : ∀ s ∈ hostTexts, hostB s = true := by decide +kernel
theorem grown_new {w wr w1 : World} {b : Nat} {row : Option Nat} (h : w.grownBy wr (some b)) (k : wr.grownBy w1 row) (hr : ∀ r, row = some r → w.heap.size ≤ r) : w.grownBy w1 (some b) :=
  ⟨k.1.trans h.1, k.2.trans h.2, k.3.trans h.3, Nat.le_trans h.size k.size, fun j hj hne => (k.block j (Nat.lt_of_lt_of_le hj h.size) (fun e => by have := hr j e.symm; omega)).trans (h.block j hj hne)⟩
theorem diff_snoc {ps : List (List UInt8)} {x : List UInt8} (h : diffL ps = true) (hx : ps.contains x = false) : diffL (ps ++ [x]) = true := by
  rw [diffL, List.all_eq_true] at h ⊢
  intro j hj
  rw [List.mem_range, List.length_append] at hj
  by_cases hlt : j < ps.length
  · have h1 := h j (List.mem_range.2 hlt)
    rw [newAt] at h1 ⊢
    rw [List.take_append_of_le_length (by omega), List.getD_eq_getElem?_getD, List.getElem?_append_left hlt, ← List.getD_eq_getElem?_getD]
    exact h1
  · have he : j = ps.length := by simp at hj; omega
    subst he
    rw [newAt, List.take_left, List.getD_eq_getElem?_getD, List.getElem?_append_right (Nat.le_refl _), Nat.sub_self]
    simpa using hx
theorem rowC_owned {w : World} {B : Nat} {v : Value} {ps : List (List UInt8)} (h : w.ownsRow B 9 1 v ps.length (ps.map strV)) : RowC w B v ps := by
  refine ⟨row_owned h, ?_⟩
  obtain ⟨_, h | ⟨g, cap, cur, rfl, hge, hh, h2, h3, _, _⟩⟩ := h
  · obtain ⟨rfl, hn⟩ := h
    exact ⟨none, 0, by rw [hn], by omega, by unfold maxLen; omega⟩
  · exact ⟨_, cap, rfl, h2, h3⟩
def RdRel (b : Nat) (v : Value) (len n : Nat) (w : World) (out i : Value) (wr : World) : Prop :=
  ∃ (k q : Nat) (ps : List (List UInt8)), k + ps.length ≤ 4 ∧ i = .int .i64 k ∧ q + k ≤ n + 5 ∧ Src b v len q wr ∧ w.grownBy wr (some b) ∧ wr.ownsRow w.heap.size 9 1 out ps.length (ps.map strV) ∧ ps.all ruleL = true ∧ diffL ps = true
def RdPost (b : Nat) (w : World) (e : Ending) (w' : World) : Prop :=
  ∃ (v : Value) (ps : List (List UInt8)), e = .returned v ∧ RowC w' w.heap.size v ps ∧ rulesL ps = true ∧ w.grownBy w' (some b)
theorem own_off {w wr : World} {b : Nat} {v : Value} {e size n : Nat} {xs : List Value} (h : wr.ownsRow w.heap.size e size v n xs) (hb : b < w.heap.size) : v.ownBlock = none ∨ v.ownBlock ≠ some b := by
  right
  intro e
  have := (h.lt b e).1
  omega
set_option maxHeartbeats 2000000 in
set_option maxRecDepth 100000 in
theorem rulesSrc_any (b : Nat) (v : Value) (len n : Nat) (w : World) (hn : n < 800000) (h : Src b v len n w) (hb : b < w.heap.size) : Calls Tryz.prog 62 #[.pointer (some ⟨b, 0, none⟩)] w (RdPost b w) := by
  obtain ⟨i0, hi, hz0, hz1, hz2⟩ := info_parts info_string
  have HCA := Lib.hid h.1
  have HS := Lib.hid (src_of h.1 (World.grownBy_alloc w (.cells #[] 9) (some b)) h.2.choose_spec.1 h.2.choose_spec.2.1 ((Below.heap_alloc _ _ _ hb).trans h.2.choose_spec.2.2))
  clear h
  go_enter Tryz.func62, Tryz.ntmps62
  go_wp2_with (go_at_call 113; refine (next_small b v len n _ 5 (by omega) (by omega) (by omega) HS.out).mono ?_; rintro e w1 ⟨k, rfl, hr1, hsrc, hg⟩; have HX := Lib.hid hsrc; have HG := Lib.hid hg; clear hsrc hg)
  go_loopw [3, 4] (fun out i wr => RdRel b v len n w out i wr) (fun _ i _ => (intOf i).toNat)
  case atStart =>
    have hown : (w.alloc (.cells #[] 9)).ownsRow w.heap.size 9 1 (.slice (some ⟨w.heap.size, 0, none⟩) 0 0) 0 [] := ⟨rfl, .inr ⟨w.heap.size, 0, #[], rfl, Nat.le_refl _, heap_alloc_new _ _, Nat.le_refl _, Nat.zero_le _, rfl, rfl⟩⟩
    exact ⟨k, n + 1, [], by simpa using hr1, rfl, by omega, HX.out, grown_trans (World.grownBy_alloc _ _ _) HG.out, hown.kept HG.out (own_off hown hb), rfl, rfl⟩
  case round =>
    clear HX HG
    obtain ⟨k, q, ps, hk4, rfl, hq, hsrc, hg, hown, hru, hdi⟩ := hrel
    have HX := Lib.hid hsrc
    have HG := Lib.hid hg
    have HO := Lib.hid hown
    have HR := Lib.hid hru
    have HD := Lib.hid hdi
    have hsz := hg.size
    clear hsrc hg hown hru hdi
    by_cases hk : 0 < k
    · go_wp2_with fail
      refine (pick_new b v len q wr ruleTexts _ _ _ rfl rfl (by decide) (by decide) (by omega) HX.out (by omega)).mono ?_
      rintro e w2 ⟨s, hs, rfl, hsrc, hg2⟩
      have HX2 := Lib.hid hsrc
      have HG2 := Lib.hid (grown_trans HG.out hg2)
      have HO2 := Lib.hid (HO.out.kept hg2 (own_off HO.out hb))
      have HRU := Lib.hid (rule_texts s hs)
      have hsz2 := hg2.size
      have h42 := rule_size (rule_texts s hs)
      have hss : s.data.toList.length = s.size := by simp
      clear hsrc hg2 hs
      cases hc : ps.contains s.data.toList with
      | true =>
        have HCC := Lib.hid hc
        clear hc
        go_wp2_with (go_at_call 121; refine (has_any _ _ ps s _ (row_owned HO2.out) (by omega)).mono ?_; rintro e w3 ⟨rfl, rfl⟩; rw [HCC.out])
        go_roundw
        case rel => exact ⟨k - 1, q + 1, ps, by omega, by rw [Int.ofNat_sub hk]; rfl, by omega, HX2.out, HG2.out, HO2.out, HR.out, HD.out⟩
        case measure => simp [intOf]; omega
      | false =>
        have HCC := Lib.hid hc
        clear hc
        go_wp2_with (first
          | (go_at_call 121; refine (has_any _ _ ps s _ (row_owned HO2.out) (by omega)).mono ?_; rintro e w3 ⟨rfl, rfl⟩; rw [HCC.out])
          | (at_builtin; refine wpList_append_own _ rfl (.tmp 20) (.tmp 22) 32 rfl w.heap.size 9 i0 (.string ByteArray.empty) 1 16 Tryz.underlying32 hi hz0 hz1 hz2 rfl (by decide) _ _ _ rfl (HO2.out.alloc _) ⟨w2.heap.size, 0, none⟩ 1 1 [.string s] rfl rfl (cell_new _ _ _) ?c2 ?c3 ?c4 ?c5 ?_; rotate_left 4; intro v' w4 hown' hgrow _))
        case c2 => exact one_str _
        case c3 => unfold maxLen; omega
        case c4 => omega
        case c5 => first | (simp; omega) | omega
        go_roundw
        case rel =>
          have hlen : (ps ++ [s.data.toList]).length = ps.length + 1 := by simp
          have hga : w2.grownBy (w2.alloc (.cells #[.string s] 9)) (some b) := World.grownBy_alloc _ _ _
          have hg4 : w.grownBy w4 (some b) := grown_new (grown_trans HG2.out hga) hgrow (fun r e => (HO2.out.lt r e).1)
          obtain ⟨_, seed, s0, s1, hblk⟩ := HX2.out
          have hbl : w4.heap[b]? = _ := (hgrow.block b (by simp; omega) (fun e => by have := (HO2.out.lt b e.symm).1; omega)).trans ((Below.heap_alloc _ _ _ (by omega)).trans hblk)
          refine ⟨k - 1, q + 1, ps ++ [s.data.toList], by omega, by rw [Int.ofNat_sub hk]; rfl, by omega, src_of HCA.out hg4 s0 s1 hbl, hg4, ?_, ?_, diff_snoc HD.out HCC.out⟩
          · rw [List.length_append, List.map_append]
            rw [strV_data] at hown'
            exact hown'
          · rw [List.all_append, HR.out]
            simpa using HRU.out
        case measure => simp [intOf]; omega
    · go_wp2
      go_ret
      refine ⟨_, ps, rfl, rowC_owned HO.out, ?_, HG.out⟩
      rw [rulesL, decide_eq_true (by omega), HR.out, HD.out]
      rfl
def RulesPost (w : World) (e : Ending) (w' : World) : Prop := ∃ (v : Value) (ps : List (List UInt8)), e = .returned v ∧ RowC w' w.heap.size v ps ∧ rulesL ps = true ∧ Below w.heap.size w w'
theorem rulesDrawn_any (v : Value) (len : Nat) (w : World) (h : CodeIn w v len) : Calls Tryz.prog 20 #[v] w (RulesPost w) := by
  have HC := Lib.hid h
  clear h
  go_enter Tryz.func20, Tryz.ntmps20
  go_wp2_with (first
    | (go_at_call 36; refine (source_any _ _ _ HC.out).mono ?_; rintro e w1 ⟨rfl, hsrc, hb⟩; have HX := Lib.hid hsrc; have HB := Lib.hid hb; clear hsrc hb)
    | (go_at_call 62; refine (rulesSrc_any _ _ _ _ _ (by omega) HX.out (by have := Src.lt HX.out; omega)).mono ?_; rintro e w2 ⟨u, ps, rfl, hrow, hru, hg⟩; have HG := Lib.hid hg; have HRW := Lib.hid hrow; have HRU := Lib.hid hru; clear hg hrow hru))
  go_ret
  exact ⟨u, ps, rfl, HRW.out.more HB.out.size, HRU.out, below_of_own HB.out HG.out⟩
def HostIn (w : World) (e : Ending) (w' : World) : Prop := ∃ s : ByteArray, e = .returned (.string s) ∧ hostB s = true ∧ Below w.heap.size w w'
theorem hostIn_any (v : Value) (len : Nat) (w : World) (h : CodeIn w v len) : Calls Tryz.prog 21 #[v] w (HostIn w) := by
  have HC := Lib.hid h
  clear h
  go_enter Tryz.func21, Tryz.ntmps21
  go_wp2_with (first
    | (go_at_call 36; refine (source_any _ _ _ HC.out).mono ?_; rintro e w1 ⟨rfl, hsrc, hb⟩; have HX := Lib.hid hsrc; have HB := Lib.hid hb; clear hsrc hb)
    | (go_at_call 63; refine (host_any _ _ _ _ _ (by omega) HX.out (by have := Src.lt HX.out; omega)).mono ?_; rintro e w2 ⟨s, hs, rfl, _, hg⟩; have HG := Lib.hid hg; have HM := Lib.hid (host_texts s hs); clear hg hs))
  go_ret
  exact ⟨s, rfl, HM.out, below_of_own HB.out HG.out⟩
end Go.Proofs.YtihlflhgbnfkkaaGreatDoor
