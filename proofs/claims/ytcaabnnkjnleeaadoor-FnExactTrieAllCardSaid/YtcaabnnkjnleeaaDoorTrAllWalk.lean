/- FnExactTrieAll: the law's walk. No condition of its own. -/
import Derived.Test.YtcaabnnkjnleeaaDoorTrList
import Derived.Test.YtcaabnnkjnleeaaDoorTrMark
import Derived.Test.YtcaabnnkjnleeaaDoorRows
import Derived.Deep.DeepHandedRow
namespace Go.Proofs.YtcaabnnkjnleeaaDoor
open Go.ChangeShapes Go.WideShapes Go.ChangeAt Go.WideMaps Go.WideElems Go.RowKit

theorem NdB.out {w w' : World} {A B b : Nat} {ty : TypeId} {l : ByteArray} {vi vk : Value} (h : NdB w b ty l vi vk) (ho : Out A B w w') (hd : b < A ∨ B ≤ b) : NdB w' b ty l vi vk := (ho.block b h.lt hd).trans h
theorem Out.low2 {A B C : Nat} {w w' : World} (h : Out A B w w') (hA : C ≤ A) (hz : C ≤ w.heap.size) : Below C w w' :=
  ⟨h.b0.os, h.b0.tape, h.b0.output, h.b0.size, fun k hk => h.block k (Nat.lt_of_lt_of_le hk hz) (Or.inl (by omega))⟩
set_option maxRecDepth 100000 in
set_option maxHeartbeats 8000000 in
theorem walk_FnExactTrieAll (W : World) (n0 : Nat) (t : Tr) (vi vk : Value) (hm : t.l.size ≤ maxLen) (hN : NodeIn W 0 W.heap.size false n0 t vi vk) (hL : laidMetH Tryd.prog Rows.fnExactTrieAllRow.laid W) (_ : W.ShapedOpen Tryd.prog) :
    Calls Tryd.prog 4 #[.agg #[.string t.l, vi, vk]] W fun e w' => e = .returned (.bool true) ∧ Below W.heap.size W w' := by
  have HT := Lib.hid (tab_laid hL)
  clear hL
  obtain ⟨⟨ai, li, ci, rfl⟩, ak, lk, ck, rfl⟩ := hN.forms
  have hb0 := (Below.refl W.heap.size W).alloc (Nat.le_refl _) (.cells #[.string t.l, .slice ai li ci, .slice ak lk ck] 25)
  have P0 := NdB.new W 25 t.l (.slice ai li ci) (.slice ak lk ck)
  by_cases hw : wtT n0 t ≤ 1048576
  · obtain ⟨n, hN, hwt, hn⟩ := node_shallow hN hw
    rw [← hwt] at hw
    have hwL : (0 : Int) ≤ ((1048576 - wtT n t : Nat) : Int) := by omega
    have HN := Lib.hid hN
    have HB0 := Lib.hid hb0
    have HP0 := Lib.hid P0
    obtain ⟨c0, c1, c2⟩ := P0.at
    clear hN hb0 P0 hwt
    have HS := Lib.hid (szNode_any 0 W.heap.size false n t (.slice ai li ci) (.slice ak lk ck) 1048576 _ (Nat.le_refl _) hm HB0.out.size (HN.out.below HB0.out (Nat.le_refl _)))
    have TA : Hid (∀ wx : World, Below W.heap.size W wx → Calls Tryd.prog 11 #[.agg #[.string t.l, .slice ai li ci, .slice ak lk ck]] wx fun e w' => ∃ ui uk, e = .returned (.agg #[.string t.l, ui, uk]) ∧ NodeIn w' wx.heap.size w'.heap.size true n t ui uk ∧ Below W.heap.size W w' ∧ Below wx.heap.size wx w') := Lib.hid (fun wx hx => (toNode_any 0 W.heap.size false n t _ _ wx hm hw hx.size (HN.out.below hx (Nat.le_refl _))).mono fun e w' h => by
      obtain ⟨ui, uk, h1, h2, h3⟩ := h
      exact ⟨ui, uk, h1, h2, hx.trans (h3.mono hx.size), h3⟩)
    have hla : (alV n t).length ≤ 16 := alV_len
    have hmk := mk_light n t
    go_enter Tryd.func4, Tryd.ntmps4
    go_wp2_with fail
    refine HS.out.mono ?_
    rintro e w1 ⟨r, rfl, hr, _, hb⟩
    obtain rfl := hr hw
    have B1 := Lib.hid (HB0.out.trans (hb.mono HB0.out.size))
    have P1 := Lib.hid (HP0.out.stays hb)
    have zP := P1.out.lt
    clear hr hb c0 c1 c2
    obtain ⟨c0, c1, c2⟩ := P1.out.at
    go_wp2_with fail
    refine (TA.out w1 B1.out).mono ?_
    rintro e w2 ⟨u1, u2, rfl, hN2, hB2, hb⟩
    have B2 := Lib.hid hB2
    have P2 := Lib.hid (P1.out.stays hb)
    have HN2 := Lib.hid hN2
    have z12 := hb.size
    clear hN2 hB2 hb c0 c1 c2
    go_wp2_with fail
    refine (specTrieAll_any _ _ n true t u1 u2 w2 hw (by omega) (Nat.le_refl _) HN2.out).mono ?_
    rintro e w3 ⟨v0, rfl, hv0, hb⟩
    obtain ⟨x1, x2, rfl, _, _, _⟩ := id hv0
    have B3 := Lib.hid (B2.out.trans (hb.mono B2.out.size))
    have P3 := Lib.hid (P2.out.stays hb)
    have V3 := Lib.hid hv0
    have z23 := hb.size
    clear hv0 hb
    obtain ⟨c0, c1, c2⟩ := P3.out.at
    go_wp2_with fail
    refine (TA.out w3 B3.out).mono ?_
    rintro e w4 ⟨y1, y2, rfl, hN4, hB4, hb⟩
    obtain ⟨⟨e1, e2, e3, rfl⟩, e4, e5, e6, rfl⟩ := hN4.forms
    have hb5 := (Below.refl w4.heap.size w4).alloc (Nat.le_refl _) (.cells #[.string t.l, .slice e1 e2 e3, .slice e4 e5 e6] 30)
    obtain ⟨w5, hw5⟩ : ∃ w5, w4.alloc (.cells #[.string t.l, .slice e1 e2 e3, .slice e4 e5 e6] 30) = w5 := ⟨_, rfl⟩
    have hX5 := NdB.new w4 30 t.l (.slice e1 e2 e3) (.slice e4 e5 e6)
    rw [hw5] at hb5 hX5
    have X5 := Lib.hid hX5
    have B5 := Lib.hid (hB4.trans (hb5.mono hB4.size))
    have P5 := Lib.hid ((P3.out.stays hb).stays hb5)
    have HN5 := Lib.hid (hN4.below hb5 (Nat.le_refl _))
    have V5 := Lib.hid ((V3.out.below hb (Nat.le_refl _)).below hb5 (by have := hb.size; omega))
    have z34 := hb.size
    have z45 : w4.heap.size < w5.heap.size := hX5.lt
    have HW5 := Lib.hid hw5
    clear hN4 hB4 hb hb5 hX5 hw5 c0 c1 c2
    go_upto_region 7 with fail
    rw [HW5.out]
    obtain ⟨c0, c1, c2⟩ := X5.out.at
    go_wp2_with fail
    refine (implTrieAll_any w3.heap.size w4.heap.size n true t _ _ w5 hm hw (by omega) (by omega) HN5.out (HT.out.below B5.out)).mono ?_
    rintro e w6 ⟨v1, rfl, hv1, hb⟩
    obtain ⟨x3, x4, rfl, _, _, _⟩ := id hv1
    have B6 := Lib.hid (B5.out.trans (hb.mono B5.out.size))
    have P6 := Lib.hid (P5.out.stays hb)
    have X6 := Lib.hid (X5.out.stays hb)
    have HN6 := Lib.hid (HN5.out.below hb (by omega))
    have V6 := Lib.hid (V5.out.below hb (by omega))
    have U6 := Lib.hid hv1
    have z56 := hb.size
    clear hv1 hb c0 c1 c2
    have hne : (alC n t != alC n t) = false := by simp
    go_wp2_with fail
    refine (eqNums_any _ _ _ _ _ _ true true (alV n t) w6 (by omega) (Nat.le_refl _) (by omega) U6.out V6.out).mono ?_
    rintro e w7 ⟨rfl, hb⟩
    have B7 := Lib.hid (B6.out.trans (hb.mono B6.out.size))
    have P7 := Lib.hid (P6.out.stays hb)
    have X7 := Lib.hid (X6.out.stays hb)
    have HN7 := Lib.hid (HN6.out.below hb (by omega))
    have V7 := Lib.hid (V6.out.below hb (by omega))
    have U7 := Lib.hid (U6.out.below hb (by omega))
    have z67 := hb.size
    clear hb
    obtain ⟨c0, c1, c2⟩ := P7.out.at
    obtain ⟨d0, d1, d2⟩ := X7.out.at
    go_upto_region 10 with fail
    go_cut [45] (fun v wx => ∃ wz : World, wz = wx ∧ v = .bool false ∧ Below w7.heap.size w7 wz)
    case first =>
      have HBd := Lib.hid (B7.out.drew)
      have HD0 : Hid (Below w7.heap.size w7 w7.drew) := Lib.hid (Below.refl _ _).drew
      go_region_with (first
        | (go_at_call 11; with_reducible refine (TA.out _ HBd.out).mono ?_; rintro e wa ⟨ua, xa, rfl, hN1, hB1, hb1⟩; have HY := Lib.hid hN1; have HDA := Lib.hid (HD0.out.trans (hb1.mono HD0.out.size)); have HX := Lib.hid (HN7.out.below HDA.out (by omega)); have hza := Nat.le_trans (show w4.heap.size ≤ w7.heap.size by omega) HDA.out.size; obtain ⟨f0, f1, f2⟩ := (X7.out.stays HDA.out).at; clear hN1 hB1 hb1)
        | (go_at_call 13; with_reducible refine (eqNode_any _ _ _ _ true true n t _ _ _ _ _ hm hw hza (Nat.le_refl _) HX.out HY.out).mono ?_; rintro e wz ⟨rfl, hb1⟩; have HDZ := Lib.hid (HDA.out.trans (hb1.mono HDA.out.size)); clear hb1)
        | fail)
      all_goals go_wp2_with fail
      all_goals go_meet
      all_goals exact ⟨_, rfl, rfl, HDZ.out⟩
    obtain ⟨w8, rfl, rfl, hb⟩ := hcut
    have B8 := Lib.hid (B7.out.trans (hb.mono B7.out.size))
    have P8 := Lib.hid (P7.out.stays hb)
    have X8 := Lib.hid (X7.out.stays hb)
    have HN8 := Lib.hid (HN7.out.below hb (by omega))
    have V8 := Lib.hid (V7.out.below hb (by omega))
    have U8 := Lib.hid (U7.out.below hb (by omega))
    have z78 := hb.size
    clear hb c0 c1 c2 d0 d1 d2
    obtain ⟨d0, d1, d2⟩ := X8.out.at
    go_wp2_with fail
    refine (markNode_any w3.heap.size w4.heap.size n 1 t _ _ w8 (by omega) (by omega) hw (by omega) HN8.out).mono ?_
    rintro e w9 ⟨rfl, ho⟩
    have B9 := Lib.hid (B8.out.trans (ho.low2 (by omega) B8.out.size))
    have P9 := Lib.hid (P8.out.out ho (Or.inl (by omega)))
    have V9 := Lib.hid (V8.out.out ho (by omega) (Or.inl (by omega)))
    have U9 := Lib.hid (U8.out.out ho (by omega) (Or.inr (by omega)))
    have z89 := ho.b0.size
    clear ho d0 d1 d2
    have hk0 : ¬ ((1 + mkT n t : Nat) : Int) < 0 := by omega
    go_wp2_with fail
    refine (eqNums_any _ _ _ _ _ _ true true (alV n t) w9 (by omega) (by omega) (by omega) U9.out V9.out).mono ?_
    rintro e w10 ⟨rfl, hb⟩
    have B10 := Lib.hid (B9.out.trans (hb.mono B9.out.size))
    have P10 := Lib.hid (P9.out.stays hb)
    have V10 := Lib.hid (V9.out.below hb (by omega))
    have U10 := Lib.hid (U9.out.below hb (by omega))
    have z910 := hb.size
    clear hb
    go_wp2_with fail
    refine (markI_any _ (alV n t) w5.heap.size w6.heap.size 1 w10 (by omega) (by omega) (by omega) (by omega) U10.out).mono ?_
    rintro e w11 ⟨rfl, hU, ho⟩
    have B11 := Lib.hid (B10.out.trans (ho.low2 (by omega) B10.out.size))
    have P11 := Lib.hid (P10.out.out ho (Or.inl (by omega)))
    have V11 := Lib.hid (V10.out.out ho (by omega) (Or.inl (by omega)))
    have U11 := Lib.hid hU
    have z1011 := ho.b0.size
    clear ho hU
    go_wp2_with fail
    have hqm0 : ¬ ((1 + (alV n t).length : Nat) : Int) < 0 := by omega
    have hqm : ((1 : Int) + ((alV n t).length : Int) != (1 : Int) + ((alV n t).length : Int)) = false := by simp
    refine (heldI_any _ (alV n t).length w5.heap.size w6.heap.size 1 w11 (by omega) (by omega) (by omega) (by omega) U11.out).mono ?_
    rintro e wq ⟨rfl, rfl⟩
    have zB11 := B11.out.size
    obtain ⟨c0, c1, c2⟩ := P11.out.at
    go_wp2_with fail
    refine (TA.out w11 B11.out).mono ?_
    rintro e w13 ⟨y7, y8, rfl, hN13, hB13, hb⟩
    have B13 := Lib.hid hB13
    have V13 := Lib.hid (V11.out.below hb (by omega))
    have U13 := Lib.hid (U11.out.below hb (by omega))
    have HN13 := Lib.hid hN13
    have z1113 := hb.size
    clear hN13 hB13 hb
    go_wp2_with fail
    refine (implTrieAll_any w11.heap.size w13.heap.size n true t _ _ w13 hm hw (by omega) (Nat.le_refl _) HN13.out (HT.out.below B13.out)).mono ?_
    rintro e w14 ⟨v2, rfl, hv2, hb⟩
    obtain ⟨x5, x6, rfl, _, _, _⟩ := id hv2
    have B14 := Lib.hid (B13.out.trans (hb.mono B13.out.size))
    have V14 := Lib.hid (V13.out.below hb (by omega))
    have U14 := Lib.hid (U13.out.below hb (by omega))
    have Y14 := Lib.hid hv2
    have z1314 := hb.size
    clear hv2 hb
    go_wp2_with fail
    refine (eqNums_any _ _ _ _ _ _ true true (alV n t) w14 (by omega) (Nat.le_refl _) (by omega) Y14.out V14.out).mono ?_
    rintro e w15 ⟨rfl, hb⟩
    have B15 := Lib.hid (B14.out.trans (hb.mono B14.out.size))
    have U15 := Lib.hid (U14.out.below hb (by omega))
    have z1415 := hb.size
    clear hb
    go_wp2_with fail
    refine (heldI_any _ (alV n t).length w5.heap.size w6.heap.size 1 w15 (by omega) (by omega) (by omega) (by omega) U15.out).mono ?_
    rintro e wq ⟨rfl, rfl⟩
    go_wp2_with fail
    go_ret
    exact ⟨rfl, B15.out⟩
  · have HS := Lib.hid (szNode_any 0 W.heap.size false n0 t (.slice ai li ci) (.slice ak lk ck) 1048576 _ (Nat.le_refl _) hm hb0.size (hN.below hb0 (Nat.le_refl _)))
    have HB0 := Lib.hid hb0
    obtain ⟨c0, c1, c2⟩ := P0.at
    clear hb0 P0 hN
    go_enter Tryd.func4, Tryd.ntmps4
    go_wp2_with fail
    refine HS.out.mono ?_
    rintro e w1 ⟨r, rfl, _, hr, hb⟩
    obtain rfl := hr (by omega)
    have B1 := Lib.hid (HB0.out.trans (hb.mono HB0.out.size))
    clear hr hb
    go_wp2_with fail
    go_ret
    exact ⟨rfl, B1.out⟩
end Go.Proofs.YtcaabnnkjnleeaaDoor
