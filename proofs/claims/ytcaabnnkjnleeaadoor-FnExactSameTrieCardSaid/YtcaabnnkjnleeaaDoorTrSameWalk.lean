/- FnExactSameTrie: the law's walk. No condition of its own. -/
import Derived.Test.YtcaabnnkjnleeaaDoorTrSameOK
import Derived.Test.YtcaabnnkjnleeaaDoorRows
import Derived.Deep.DeepHandedRow
namespace Go.Proofs.YtcaabnnkjnleeaaDoor
open Go.ChangeShapes Go.WideShapes Go.ChangeAt Go.WideMaps Go.WideElems Go.RowKit

set_option maxRecDepth 100000 in
set_option maxHeartbeats 8000000 in
theorem walk_FnExactSameTrie (W : World) (na : Nat) (a : Tr) (va ka : Value) (ma : a.l.size ≤ maxLen) (hNa : NodeIn W 0 W.heap.size false na a va ka) (nb : Nat) (b : Tr) (vb kb : Value) (mb : b.l.size ≤ maxLen) (hNb : NodeIn W 0 W.heap.size false nb b vb kb) (hL : laidMetH Tryd.prog Rows.fnExactSameTrieRow.laid W) (_ : W.ShapedOpen Tryd.prog) :
    Calls Tryd.prog 6 #[.agg #[.string a.l, va, ka], .agg #[.string b.l, vb, kb]] W fun e w' => e = .returned (.bool true) ∧ Below W.heap.size W w' := by
  have HT := Lib.hid (tab_laid hL)
  clear hL
  obtain ⟨⟨a1, a2, a3, rfl⟩, a4, a5, a6, rfl⟩ := hNa.forms
  obtain ⟨⟨b1, b2, b3, rfl⟩, b4, b5, b6, rfl⟩ := hNb.forms
  have hb0 := ((Below.refl W.heap.size W).alloc (Nat.le_refl _) (.cells #[.string a.l, .slice a1 a2 a3, .slice a4 a5 a6] 25)).alloc (by simp) (.cells #[.string b.l, .slice b1 b2 b3, .slice b4 b5 b6] 25)
  have PA := (NdB.new W 25 a.l (.slice a1 a2 a3) (.slice a4 a5 a6)).alloc (.cells #[.string b.l, .slice b1 b2 b3, .slice b4 b5 b6] 25)
  have PB := NdB.new (W.alloc (.cells #[.string a.l, .slice a1 a2 a3, .slice a4 a5 a6] 25)) 25 b.l (.slice b1 b2 b3) (.slice b4 b5 b6)
  rw [World.size_alloc] at PB
  have HB0 := Lib.hid hb0
  have HPA := Lib.hid PA
  have HPB := Lib.hid PB
  obtain ⟨c0, c1, c2⟩ := PA.at
  obtain ⟨d0, d1, d2⟩ := PB.at
  have HSA := Lib.hid (szNode_any 0 W.heap.size false na a (.slice a1 a2 a3) (.slice a4 a5 a6) 1048576 _ (Nat.le_refl _) ma hb0.size (hNa.below hb0 (Nat.le_refl _)))
  by_cases hwa : wtT na a ≤ 1048576
  · have hwL : (0 : Int) ≤ ((1048576 - wtT na a : Nat) : Int) := by omega
    have HNA0 := Lib.hid hNa
    have HNB0 := Lib.hid hNb
    clear hb0 PA PB hNa hNb
    go_enter Tryd.func6, Tryd.ntmps6
    go_wp2_with fail
    refine HSA.out.mono ?_
    rintro e w1 ⟨r, rfl, hr, _, hb⟩
    obtain rfl := hr hwa
    have B1 := Lib.hid (HB0.out.trans (hb.mono HB0.out.size))
    have HPA1 := Lib.hid (HPA.out.stays hb)
    have HPB1 := Lib.hid (HPB.out.stays hb)
    clear hr hb c0 c1 c2 d0 d1 d2
    obtain ⟨c0, c1, c2⟩ := HPA1.out.at
    obtain ⟨d0, d1, d2⟩ := HPB1.out.at
    have HSB := Lib.hid (szNode_any 0 W.heap.size false nb b (.slice b1 b2 b3) (.slice b4 b5 b6) (1048576 - wtT na a) w1 (by omega) mb B1.out.size (HNB0.out.below B1.out (Nat.le_refl _)))
    by_cases hwb : wtT nb b ≤ 1048576 - wtT na a
    · have hwL2 : (0 : Int) ≤ ((1048576 - wtT na a - wtT nb b : Nat) : Int) := by omega
      go_wp2_with fail
      refine HSB.out.mono ?_
      rintro e w2 ⟨r, rfl, hr, _, hb⟩
      obtain rfl := hr hwb
      have B2 := Lib.hid (B1.out.trans (hb.mono B1.out.size))
      have HPA2 := Lib.hid (HPA1.out.stays hb)
      have HPB2 := Lib.hid (HPB1.out.stays hb)
      clear hr hb c0 c1 c2 d0 d1 d2
      obtain ⟨ea, hea, hwa2, hla⟩ := node_shallow HNA0.out hwa
      obtain ⟨eb, heb, hwb2, hlb⟩ := node_shallow HNB0.out (by omega)
      obtain ⟨n, hna, hnb, hn, hwna, hwnb⟩ : ∃ n, NodeIn W 0 W.heap.size false n a (.slice a1 a2 a3) (.slice a4 a5 a6) ∧ NodeIn W 0 W.heap.size false n b (.slice b1 b2 b3) (.slice b4 b5 b6) ∧ n ≤ 1100000 ∧ wtT n a ≤ 1048576 ∧ wtT n b ≤ 1048576 := by
        rcases Nat.le_total ea eb with h | h
        · have h1 := NodeIn.deeper (eb - ea) hea
          rw [show ea + (eb - ea) = eb by omega] at h1
          exact ⟨eb, h1, heb, by omega, by rw [wt_same eb ea a (node_deep h1) (node_deep hea), hwa2]; exact hwa, by omega⟩
        · have h1 := NodeIn.deeper (ea - eb) heb
          rw [show eb + (ea - eb) = ea by omega] at h1
          exact ⟨ea, hea, h1, by omega, by omega, by rw [wt_same ea eb b (node_deep h1) (node_deep heb), hwb2]; omega⟩
      have HNA := Lib.hid hna
      have HNB := Lib.hid hnb
      have TA : Hid (∀ wx : World, Below W.heap.size W wx → Calls Tryd.prog 11 #[.agg #[.string a.l, .slice a1 a2 a3, .slice a4 a5 a6]] wx fun e w' => ∃ ui uk, e = .returned (.agg #[.string a.l, ui, uk]) ∧ NodeIn w' 0 w'.heap.size true n a ui uk ∧ Below W.heap.size W w' ∧ Below wx.heap.size wx w') := Lib.hid (fun wx hx => (toNode_any 0 W.heap.size false n a _ _ wx ma hwna hx.size (HNA.out.below hx (Nat.le_refl _))).mono fun e w' h => by
        obtain ⟨ui, uk, h1, h2, h3⟩ := h
        exact ⟨ui, uk, h1, h2.more (Nat.zero_le _) (Nat.le_refl _), hx.trans (h3.mono hx.size), h3⟩)
      have TB : Hid (∀ wx : World, Below W.heap.size W wx → Calls Tryd.prog 11 #[.agg #[.string b.l, .slice b1 b2 b3, .slice b4 b5 b6]] wx fun e w' => ∃ ui uk, e = .returned (.agg #[.string b.l, ui, uk]) ∧ NodeIn w' 0 w'.heap.size true n b ui uk ∧ Below W.heap.size W w' ∧ Below wx.heap.size wx w') := Lib.hid (fun wx hx => (toNode_any 0 W.heap.size false n b _ _ wx mb hwnb hx.size (HNB.out.below hx (Nat.le_refl _))).mono fun e w' h => by
        obtain ⟨ui, uk, h1, h2, h3⟩ := h
        exact ⟨ui, uk, h1, h2.more (Nat.zero_le _) (Nat.le_refl _), hx.trans (h3.mono hx.size), h3⟩)
      clear hea heb hna hnb hwa2 hwb2 hwa hwb
      obtain ⟨c0, c1, c2⟩ := HPA2.out.at
      obtain ⟨d0, d1, d2⟩ := HPB2.out.at
      go_upto_region 8 with fail
      go_cut [6] (fun v wx => ∃ wz : World, wz = wx ∧ v = .bool (sameB n a b) ∧ Below w2.heap.size w2 wz)
      case first =>
        have HBd := Lib.hid (B2.out.drew)
        have hd0 : Below w2.heap.size w2 w2.drew := (Below.refl _ _).drew
        have HD0 := Lib.hid hd0
        clear hd0
        go_region_with (first
          | (go_at_call 11; with_reducible refine (TA.out _ HBd.out).mono ?_; rintro e wa ⟨ua, xa, rfl, hN1, hB1, hb1⟩; have HAF := Lib.hid hN1; have HBA := Lib.hid hB1; have HDA := Lib.hid (HD0.out.trans (hb1.mono HD0.out.size)); obtain ⟨f0, f1, f2⟩ := (HPB2.out.stays HDA.out).at; clear hN1 hB1 hb1)
          | (go_at_call 11; with_reducible refine (TB.out _ HBd.out).mono ?_; rintro e wb ⟨ub, xb, rfl, hN1, hB1, hb1⟩; have HBF := Lib.hid hN1; have HBB := Lib.hid hB1; have HDB := Lib.hid (HD0.out.trans (hb1.mono HD0.out.size)); obtain ⟨f0, f1, f2⟩ := (HPA2.out.stays HDB.out).at; clear hN1 hB1 hb1)
          | (go_at_call 11; with_reducible refine (TB.out _ HBA.out).mono ?_; rintro e wf ⟨ub, xb, rfl, hN1, hB1, hb1⟩; have HX := Lib.hid ((HAF.out.below hb1 (Nat.le_refl _)).more (Nat.le_refl _) hb1.size); have HY := Lib.hid hN1; have HDF := Lib.hid (HDA.out.trans (hb1.mono HDA.out.size)); clear hN1 hB1 hb1)
          | (go_at_call 11; with_reducible refine (TA.out _ HBB.out).mono ?_; rintro e wf ⟨ua, xa, rfl, hN1, hB1, hb1⟩; have HY := Lib.hid ((HBF.out.below hb1 (Nat.le_refl _)).more (Nat.le_refl _) hb1.size); have HX := Lib.hid hN1; have HDF := Lib.hid (HDB.out.trans (hb1.mono HDB.out.size)); clear hN1 hB1 hb1)
          | (go_at_call 22; with_reducible refine (specSameTrie_any _ _ _ _ n true true a b _ _ _ _ _ ma mb hwna hwnb hn (Nat.le_refl _) (Nat.le_refl _) HX.out HY.out).mono ?_; rintro e wz ⟨rfl, hb1⟩; have HDZ := Lib.hid (HDF.out.trans (hb1.mono HDF.out.size)); clear hb1)
          | fail)
        all_goals go_wp2_with fail
        all_goals go_meet
        all_goals exact ⟨_, rfl, rfl, HDZ.out⟩
      obtain ⟨w3, rfl, rfl, hb⟩ := hcut
      have B3 := Lib.hid (B2.out.trans (hb.mono B2.out.size))
      have HPA3 := Lib.hid (HPA2.out.stays hb)
      have HPB3 := Lib.hid (HPB2.out.stays hb)
      clear hb c0 c1 c2 d0 d1 d2
      obtain ⟨c0, c1, c2⟩ := HPA3.out.at
      obtain ⟨d0, d1, d2⟩ := HPB3.out.at
      go_wp2_with fail
      refine (TA.out w3 B3.out).mono ?_
      rintro e w4 ⟨u1, u2, rfl, hN4, hB4, hb⟩
      obtain ⟨⟨e1, e2, e3, rfl⟩, e4, e5, e6, rfl⟩ := hN4.forms
      have X5 := Lib.hid (NdB.new w4 30 a.l (.slice e1 e2 e3) (.slice e4 e5 e6))
      have hb5 := (Below.refl w4.heap.size w4).alloc (Nat.le_refl _) (.cells #[.string a.l, .slice e1 e2 e3, .slice e4 e5 e6] 30)
      have B5 := Lib.hid (hB4.trans (hb5.mono hB4.size))
      have HPA5 := Lib.hid ((HPA3.out.stays hb).stays hb5)
      have HPB5 := Lib.hid ((HPB3.out.stays hb).stays hb5)
      have HN5 := Lib.hid ((hN4.below hb5 (Nat.le_refl _)).more (Nat.le_refl _) hb5.size)
      clear hN4 hB4 hb hb5 c0 c1 c2 d0 d1 d2
      obtain ⟨c0, c1, c2⟩ := HPA5.out.at
      obtain ⟨d0, d1, d2⟩ := HPB5.out.at
      obtain ⟨f0, f1, f2⟩ := X5.out.at
      go_wp2_with fail
      refine (TB.out _ B5.out).mono ?_
      rintro e w6 ⟨v1, v2, rfl, hN6, hB6, hb⟩
      obtain ⟨⟨g1, g2, g3, rfl⟩, g4, g5, g6, rfl⟩ := hN6.forms
      have hb7 := (Below.refl w6.heap.size w6).alloc (Nat.le_refl _) (.cells #[.string b.l, .slice g1 g2 g3, .slice g4 g5 g6] 30)
      have X7 := Lib.hid ((X5.out.stays hb).stays hb7)
      have Y7 := Lib.hid (NdB.new w6 30 b.l (.slice g1 g2 g3) (.slice g4 g5 g6))
      have B7 := Lib.hid (hB6.trans (hb7.mono hB6.size))
      have HPA7 := Lib.hid ((HPA5.out.stays hb).stays hb7)
      have HPB7 := Lib.hid ((HPB5.out.stays hb).stays hb7)
      have HN7 := Lib.hid ((((HN5.out.below hb (Nat.le_refl _)).more (Nat.le_refl _) hb.size).below hb7 (Nat.le_refl _)).more (Nat.le_refl _) hb7.size)
      have HM7 := Lib.hid ((hN6.below hb7 (Nat.le_refl _)).more (Nat.le_refl _) hb7.size)
      clear hN6 hB6 hb hb7 c0 c1 c2 d0 d1 d2 f0 f1 f2
      obtain ⟨c0, c1, c2⟩ := X7.out.at
      obtain ⟨d0, d1, d2⟩ := Y7.out.at
      go_wp2_with fail
      refine (implSameTrie_any _ _ _ _ n true true a b _ _ _ _ _ ma mb hwna hwnb hn (Nat.le_refl _) (Nat.le_refl _) HN7.out HM7.out (HT.out.below B7.out)).mono ?_
      rintro e w8 ⟨rfl, hb⟩
      have B8 := Lib.hid (B7.out.trans (hb.mono B7.out.size))
      have HPA8 := Lib.hid (HPA7.out.stays hb)
      have HPB8 := Lib.hid (HPB7.out.stays hb)
      have X8 := Lib.hid (X7.out.stays hb)
      have Y8 := Lib.hid (Y7.out.stays hb)
      have HN8 := Lib.hid ((HN7.out.below hb (Nat.le_refl _)).more (Nat.le_refl _) hb.size)
      have HM8 := Lib.hid ((HM7.out.below hb (Nat.le_refl _)).more (Nat.le_refl _) hb.size)
      clear hb c0 c1 c2 d0 d1 d2
      have hne : (sameB n a b != sameB n a b) = false := by simp
      obtain ⟨c0, c1, c2⟩ := HPA8.out.at
      obtain ⟨d0, d1, d2⟩ := X8.out.at
      go_upto_region 14 with fail
      go_cut [39] (fun v wx => ∃ wz : World, wz = wx ∧ v = .bool false ∧ Below w8.heap.size w8 wz)
      case first =>
        have HBd := Lib.hid (B8.out.drew)
        have HD0 : Hid (Below w8.heap.size w8 w8.drew) := Lib.hid (Below.refl _ _).drew
        go_region_with (first
          | (go_at_call 11; with_reducible refine (TA.out _ HBd.out).mono ?_; rintro e wa ⟨ua, xa, rfl, hN1, hB1, hb1⟩; have HY := Lib.hid hN1; have HDA := Lib.hid (HD0.out.trans (hb1.mono HD0.out.size)); have HX := Lib.hid ((HN8.out.below HDA.out (Nat.le_refl _)).more (Nat.le_refl _) HDA.out.size); obtain ⟨f0, f1, f2⟩ := (X8.out.stays HDA.out).at; clear hN1 hB1 hb1)
          | (go_at_call 13; with_reducible refine (eqNode_any _ _ _ _ true true n a _ _ _ _ _ ma hwna (Nat.le_refl _) (Nat.le_refl _) HX.out HY.out).mono ?_; rintro e wz ⟨rfl, hb1⟩; have HDZ := Lib.hid (HDA.out.trans (hb1.mono HDA.out.size)); clear hb1)
          | fail)
        all_goals go_wp2_with fail
        all_goals go_meet
        all_goals exact ⟨_, rfl, rfl, HDZ.out⟩
      obtain ⟨w9, rfl, rfl, hb⟩ := hcut
      have B9 := Lib.hid (B8.out.trans (hb.mono B8.out.size))
      have HPB9 := Lib.hid (HPB8.out.stays hb)
      have Y9 := Lib.hid (Y8.out.stays hb)
      have HM9 := Lib.hid ((HM8.out.below hb (Nat.le_refl _)).more (Nat.le_refl _) hb.size)
      clear hb c0 c1 c2 d0 d1 d2
      obtain ⟨c0, c1, c2⟩ := HPB9.out.at
      obtain ⟨d0, d1, d2⟩ := Y9.out.at
      go_upto_region 16 with fail
      go_cut [44] (fun v wx => ∃ wz : World, wz = wx ∧ v = .bool false ∧ Below w9.heap.size w9 wz)
      case first =>
        have HBd := Lib.hid (B9.out.drew)
        have HD0 : Hid (Below w9.heap.size w9 w9.drew) := Lib.hid (Below.refl _ _).drew
        go_region_with (first
          | (go_at_call 11; with_reducible refine (TB.out _ HBd.out).mono ?_; rintro e wa ⟨ua, xa, rfl, hN1, hB1, hb1⟩; have HY := Lib.hid hN1; have HDA := Lib.hid (HD0.out.trans (hb1.mono HD0.out.size)); have HX := Lib.hid ((HM9.out.below HDA.out (Nat.le_refl _)).more (Nat.le_refl _) HDA.out.size); obtain ⟨f0, f1, f2⟩ := (Y9.out.stays HDA.out).at; clear hN1 hB1 hb1)
          | (go_at_call 13; with_reducible refine (eqNode_any _ _ _ _ true true n b _ _ _ _ _ mb hwnb (Nat.le_refl _) (Nat.le_refl _) HX.out HY.out).mono ?_; rintro e wz ⟨rfl, hb1⟩; have HDZ := Lib.hid (HDA.out.trans (hb1.mono HDA.out.size)); clear hb1)
          | fail)
        all_goals go_wp2_with fail
        all_goals go_meet
        all_goals exact ⟨_, rfl, rfl, HDZ.out⟩
      obtain ⟨w10, rfl, rfl, hb⟩ := hcut
      have B10 := Lib.hid (B9.out.trans (hb.mono B9.out.size))
      clear hb c0 c1 c2 d0 d1 d2
      go_wp2_with fail
      go_ret
      exact ⟨rfl, B10.out⟩
    · go_wp2_with fail
      refine HSB.out.mono ?_
      rintro e w2 ⟨r, rfl, _, hr, hb⟩
      obtain rfl := hr (by omega)
      have B2 := Lib.hid (B1.out.trans (hb.mono B1.out.size))
      clear hr hb
      go_wp2_with fail
      go_ret
      exact ⟨rfl, B2.out⟩
  · clear hb0 PA PB hNa hNb
    go_enter Tryd.func6, Tryd.ntmps6
    go_wp2_with fail
    refine HSA.out.mono ?_
    rintro e w1 ⟨r, rfl, _, hr, hb⟩
    obtain rfl := hr (by omega)
    have B1 := Lib.hid (HB0.out.trans (hb.mono HB0.out.size))
    clear hr hb
    go_wp2_with fail
    go_ret
    exact ⟨rfl, B1.out⟩
end Go.Proofs.YtcaabnnkjnleeaaDoor
