/- SameTrie of the program and of the model: what they answer. No condition of its own. -/
import Derived.Test.YtcaabnnkjnleeaaDoorTrSame
namespace Go.Proofs.YtcaabnnkjnleeaaDoor
open Go.ChangeShapes Go.WideShapes Go.ChangeAt Go.WideMaps Go.WideElems Go.RowKit

def sameB (n : Nat) (a b : Tr) : Bool := trieB n a && (trieB n b && sameT n a b)
theorem NodeIn.deeper {w : World} {A B : Nat} {z : Bool} (d : Nat) : ∀ {n : Nat} {t : Tr} {vi vk : Value}, NodeIn w A B z n t vi vk → NodeIn w A B z (n + d) t vi vk
  | 0, _, _, _, h => h.elim
  | n + 1, t, vi, vk, ⟨hi, a, cap, hv, h1, h2, h3⟩ => by
    rw [show n + 1 + d = (n + d) + 1 by omega]
    refine ⟨hi, a, cap, hv, h1, h2, fun h0 => ?_⟩
    obtain ⟨g, off, rfl, h4, h5, h6⟩ := h3 h0
    refine ⟨g, off, rfl, h4, h5, fun j hj => ?_⟩
    obtain ⟨k1, k2, k3, ui, uk, k4, k5, k6⟩ := h6 j hj
    exact ⟨k1, k2, k3, ui, uk, k4, k5, NodeIn.deeper d k6⟩
set_option maxHeartbeats 4000000 in
set_option maxRecDepth 100000 in
theorem specSameTrie_any (A B A2 B2 n : Nat) (z z2 : Bool) (a b : Tr) (va ka vb kb : Value) (w : World) (ma : a.l.size ≤ maxLen) (mb : b.l.size ≤ maxLen) (wa : wtT n a ≤ 1048576) (wb : wtT n b ≤ 1048576) (hn : n ≤ 1100000) (hB : B ≤ w.heap.size) (hB2 : B2 ≤ w.heap.size) (ha : NodeIn w A B z n a va ka) (hb : NodeIn w A2 B2 z2 n b vb kb) :
    Calls Tryd.prog 22 #[.agg #[.string a.l, va, ka], .agg #[.string b.l, vb, kb]] w fun e w' => e = .returned (.bool (sameB n a b)) ∧ Below w.heap.size w w' := by
  obtain ⟨⟨a1, a2, a3, rfl⟩, a4, a5, a6, rfl⟩ := ha.forms
  obtain ⟨⟨b1, b2, b3, rfl⟩, b4, b5, b6, rfl⟩ := hb.forms
  have hb0 := ((Below.refl w.heap.size w).alloc (Nat.le_refl _) (.cells #[.string a.l, .slice a1 a2 a3, .slice a4 a5 a6] 30)).alloc (by simp) (.cells #[.string b.l, .slice b1 b2 b3, .slice b4 b5 b6] 30)
  have PA := (NdB.new w 30 a.l (.slice a1 a2 a3) (.slice a4 a5 a6)).alloc (.cells #[.string b.l, .slice b1 b2 b3, .slice b4 b5 b6] 30)
  have PB := NdB.new (w.alloc (.cells #[.string a.l, .slice a1 a2 a3, .slice a4 a5 a6] 30)) 30 b.l (.slice b1 b2 b3) (.slice b4 b5 b6)
  rw [World.size_alloc] at PB
  have hsz : w.heap.size ≤ ((w.alloc (.cells #[.string a.l, .slice a1 a2 a3, .slice a4 a5 a6] 30)).alloc (.cells #[.string b.l, .slice b1 b2 b3, .slice b4 b5 b6] 30)).heap.size := by simp; omega
  have HB0 := Lib.hid hb0
  have HPA := Lib.hid PA
  have HPB := Lib.hid PB
  have HA := Lib.hid (ha.below hb0 hB)
  have HBn := Lib.hid (hb.below hb0 hB2)
  obtain ⟨c0, c1, c2⟩ := PA.at
  obtain ⟨d0, d1, d2⟩ := PB.at
  have HO := Lib.hid (specOK_any A B n z a _ _ _ wa hn (Nat.le_trans hB hsz) HA.out)
  clear hb0 PA PB ha hb
  cases ga : trieB n a with
  | false =>
    have HE : Hid (sameB n a b = false) := Lib.hid (by rw [sameB, ga]; rfl)
    rw [ga] at HO
    clear ga
    go_enter Tryd.func22, Tryd.ntmps22
    go_wp2_with fail
    refine HO.out.mono ?_
    rintro e w1 ⟨rfl, hb⟩
    have HB1 := Lib.hid (HB0.out.trans (hb.mono HB0.out.size))
    clear hb
    go_wp2_with fail
    go_ret
    exact ⟨bool_end HE.out.symm, HB1.out⟩
  | true =>
    rw [ga] at HO
    go_enter Tryd.func22, Tryd.ntmps22
    go_wp2_with fail
    refine HO.out.mono ?_
    rintro e w1 ⟨rfl, hb⟩
    have HB1 := Lib.hid (HB0.out.trans (hb.mono HB0.out.size))
    have HPA1 := Lib.hid (HPA.out.stays hb)
    have HPB1 := Lib.hid (HPB.out.stays hb)
    have HA1 := Lib.hid (HA.out.below hb (Nat.le_trans hB hsz))
    have HBn1 := Lib.hid (HBn.out.below hb (Nat.le_trans hB2 hsz))
    have hs1 := Nat.le_trans hsz hb.size
    clear hb c0 c1 c2 d0 d1 d2
    obtain ⟨c0, c1, c2⟩ := HPA1.out.at
    obtain ⟨d0, d1, d2⟩ := HPB1.out.at
    go_wp2_with fail
    refine (specOK_any A2 B2 n z2 b _ _ w1 wb hn (Nat.le_trans hB2 hs1) HBn1.out).mono ?_
    rintro e w2 ⟨rfl, hb⟩
    have HB2 := Lib.hid (HB1.out.trans (hb.mono HB1.out.size))
    have HPA2 := Lib.hid (HPA1.out.stays hb)
    have HPB2 := Lib.hid (HPB1.out.stays hb)
    have HA2 := Lib.hid (HA1.out.below hb (Nat.le_trans hB hs1))
    have HBn2 := Lib.hid (HBn1.out.below hb (Nat.le_trans hB2 hs1))
    have hs2 := Nat.le_trans hs1 hb.size
    clear hb c0 c1 c2 d0 d1 d2
    obtain ⟨c0, c1, c2⟩ := HPA2.out.at
    obtain ⟨d0, d1, d2⟩ := HPB2.out.at
    cases gb : trieB n b with
    | false =>
      have HE : Hid (sameB n a b = false) := Lib.hid (by rw [sameB, ga, gb]; rfl)
      clear ga gb
      go_wp2_with fail
      go_ret
      exact ⟨bool_end HE.out.symm, HB2.out⟩
    | true =>
      have HE : Hid (sameB n a b = sameT n a b) := Lib.hid (by rw [sameB, ga, gb]; rfl)
      clear ga gb
      go_wp2_with fail
      refine (specSameT_any A B A2 B2 z z2 n a b _ _ _ _ w2 ma mb wa wb (Nat.le_trans hB hs2) (Nat.le_trans hB2 hs2) HA2.out HBn2.out).mono ?_
      rintro e w3 ⟨rfl, hb⟩
      have HB3 := Lib.hid (HB2.out.trans (hb.mono HB2.out.size))
      clear hb
      go_wp2_with fail
      go_ret
      exact ⟨bool_end HE.out.symm, HB3.out⟩
set_option maxHeartbeats 4000000 in
set_option maxRecDepth 100000 in
theorem implSameTrie_any (A B A2 B2 n : Nat) (z z2 : Bool) (a b : Tr) (va ka vb kb : Value) (w : World) (ma : a.l.size ≤ maxLen) (mb : b.l.size ≤ maxLen) (wa : wtT n a ≤ 1048576) (wb : wtT n b ≤ 1048576) (hn : n ≤ 1100000) (hB : B ≤ w.heap.size) (hB2 : B2 ≤ w.heap.size) (ha : NodeIn w A B z n a va ka) (hb : NodeIn w A2 B2 z2 n b vb kb) (hT : TabAt w) :
    Calls Tryd.prog 23 #[.agg #[.string a.l, va, ka], .agg #[.string b.l, vb, kb]] w fun e w' => e = .returned (.bool (sameB n a b)) ∧ Below w.heap.size w w' := by
  obtain ⟨⟨a1, a2, a3, rfl⟩, a4, a5, a6, rfl⟩ := ha.forms
  obtain ⟨⟨b1, b2, b3, rfl⟩, b4, b5, b6, rfl⟩ := hb.forms
  have hb0 := ((Below.refl w.heap.size w).alloc (Nat.le_refl _) (.cells #[.string a.l, .slice a1 a2 a3, .slice a4 a5 a6] 30)).alloc (by simp) (.cells #[.string b.l, .slice b1 b2 b3, .slice b4 b5 b6] 30)
  have PA := (NdB.new w 30 a.l (.slice a1 a2 a3) (.slice a4 a5 a6)).alloc (.cells #[.string b.l, .slice b1 b2 b3, .slice b4 b5 b6] 30)
  have PB := NdB.new (w.alloc (.cells #[.string a.l, .slice a1 a2 a3, .slice a4 a5 a6] 30)) 30 b.l (.slice b1 b2 b3) (.slice b4 b5 b6)
  rw [World.size_alloc] at PB
  have hsz : w.heap.size ≤ ((w.alloc (.cells #[.string a.l, .slice a1 a2 a3, .slice a4 a5 a6] 30)).alloc (.cells #[.string b.l, .slice b1 b2 b3, .slice b4 b5 b6] 30)).heap.size := by simp; omega
  have HB0 := Lib.hid hb0
  have HPA := Lib.hid PA
  have HPB := Lib.hid PB
  have HA := Lib.hid (ha.below hb0 hB)
  have HBn := Lib.hid (hb.below hb0 hB2)
  have HT := Lib.hid (hT.below hb0)
  obtain ⟨c0, c1, c2⟩ := PA.at
  obtain ⟨d0, d1, d2⟩ := PB.at
  have HO := Lib.hid (implTrieOK_any A B n z a _ _ _ ma wa hn (Nat.le_trans hB hsz) HA.out HT.out)
  clear hb0 PA PB ha hb
  cases ga : trieB n a with
  | false =>
    have HE : Hid (sameB n a b = false) := Lib.hid (by rw [sameB, ga]; rfl)
    rw [ga] at HO
    clear ga
    go_enter Tryd.func23, Tryd.ntmps23
    go_wp2_with fail
    refine HO.out.mono ?_
    rintro e w1 ⟨rfl, hb⟩
    have HB1 := Lib.hid (HB0.out.trans (hb.mono HB0.out.size))
    clear hb
    go_wp2_with fail
    go_ret
    exact ⟨bool_end HE.out.symm, HB1.out⟩
  | true =>
    rw [ga] at HO
    go_enter Tryd.func23, Tryd.ntmps23
    go_wp2_with fail
    refine HO.out.mono ?_
    rintro e w1 ⟨rfl, hb⟩
    have HB1 := Lib.hid (HB0.out.trans (hb.mono HB0.out.size))
    have HPA1 := Lib.hid (HPA.out.stays hb)
    have HPB1 := Lib.hid (HPB.out.stays hb)
    have HA1 := Lib.hid (HA.out.below hb (Nat.le_trans hB hsz))
    have HBn1 := Lib.hid (HBn.out.below hb (Nat.le_trans hB2 hsz))
    have hs1 := Nat.le_trans hsz hb.size
    have hb1 := Lib.hid hb
    clear hb c0 c1 c2 d0 d1 d2
    obtain ⟨c0, c1, c2⟩ := HPA1.out.at
    obtain ⟨d0, d1, d2⟩ := HPB1.out.at
    go_wp2_with fail
    refine (implTrieOK_any A2 B2 n z2 b _ _ w1 mb wb hn (Nat.le_trans hB2 hs1) HBn1.out (HT.out.below hb1.out)).mono ?_
    rintro e w2 ⟨rfl, hb⟩
    have HB2 := Lib.hid (HB1.out.trans (hb.mono HB1.out.size))
    have HPA2 := Lib.hid (HPA1.out.stays hb)
    have HPB2 := Lib.hid (HPB1.out.stays hb)
    have HA2 := Lib.hid (HA1.out.below hb (Nat.le_trans hB hs1))
    have HBn2 := Lib.hid (HBn1.out.below hb (Nat.le_trans hB2 hs1))
    have hs2 := Nat.le_trans hs1 hb.size
    clear hb c0 c1 c2 d0 d1 d2
    obtain ⟨c0, c1, c2⟩ := HPA2.out.at
    obtain ⟨d0, d1, d2⟩ := HPB2.out.at
    cases gb : trieB n b with
    | false =>
      have HE : Hid (sameB n a b = false) := Lib.hid (by rw [sameB, ga, gb]; rfl)
      clear ga gb
      go_wp2_with fail
      go_ret
      exact ⟨bool_end HE.out.symm, HB2.out⟩
    | true =>
      have HE : Hid (sameB n a b = sameT n a b) := Lib.hid (by rw [sameB, ga, gb]; rfl)
      clear ga gb
      go_wp2_with fail
      refine (sameNodes_any A B A2 B2 z z2 n a b _ _ _ _ w2 ma mb wa wb (Nat.le_trans hB hs2) (Nat.le_trans hB2 hs2) HA2.out HBn2.out).mono ?_
      rintro e w3 ⟨rfl, hb⟩
      have HB3 := Lib.hid (HB2.out.trans (hb.mono HB2.out.size))
      clear hb
      go_wp2_with fail
      go_ret
      exact ⟨bool_end HE.out.symm, HB3.out⟩
end Go.Proofs.YtcaabnnkjnleeaaDoor
