/- FnExactTrieNodes: the law's walk. No condition of its own. -/
import Derived.Test.YtcaabnnkjnleeaaDoorTrCount
import Derived.Test.YtcaabnnkjnleeaaDoorRows
import Derived.Deep.DeepHandedRow
namespace Go.Proofs.YtcaabnnkjnleeaaDoor
open Go.ChangeShapes Go.WideShapes Go.ChangeAt Go.WideMaps Go.WideElems Go.RowKit

set_option maxRecDepth 100000 in
set_option maxHeartbeats 4000000 in
theorem walk_FnExactTrieNodes (W : World) (n0 : Nat) (t : Tr) (vi vk : Value) (hm : t.l.size ≤ maxLen) (hN : NodeIn W 0 W.heap.size false n0 t vi vk) (hL : laidMetH Tryd.prog Rows.fnExactTrieNodesRow.laid W) (_ : W.ShapedOpen Tryd.prog) :
    Calls Tryd.prog 5 #[.agg #[.string t.l, vi, vk]] W fun e w' => e = .returned (.bool true) ∧ Below W.heap.size W w' := by
  have HT := Lib.hid (tab_laid hL)
  clear hL
  obtain ⟨⟨ai, li, ci, rfl⟩, ak, lk, ck, rfl⟩ := hN.forms
  have hb0 := (Below.refl W.heap.size W).alloc (Nat.le_refl _) (.cells #[.string t.l, .slice ai li ci, .slice ak lk ck] 25)
  have P0 := NdB.new W 25 t.l (.slice ai li ci) (.slice ak lk ck)
  by_cases hw : wtT n0 t ≤ 1048576
  · obtain ⟨n, hN, hwt, hn⟩ := node_shallow hN hw
    rw [← hwt] at hw
    have hwL : (0 : Int) ≤ ((1048576 - wtT n t : Nat) : Int) := by omega
    have HN := Lib.hid hN
    have HB0 := Lib.hid hb0
    have HP0 := Lib.hid P0
    obtain ⟨c0, c1, c2⟩ := P0.at
    clear hN hb0 P0 hwt
    have HS := Lib.hid (szNode_any 0 W.heap.size false n t (.slice ai li ci) (.slice ak lk ck) 1048576 _ (Nat.le_refl _) hm HB0.out.size (HN.out.below HB0.out (Nat.le_refl _)))
    go_enter Tryd.func5, Tryd.ntmps5
    go_wp2_with fail
    refine HS.out.mono ?_
    rintro e w1 ⟨r, rfl, hr, _, hb⟩
    obtain rfl := hr hw
    have B1 := Lib.hid (HB0.out.trans (hb.mono HB0.out.size))
    have P1 := Lib.hid (HP0.out.stays hb)
    clear hr hb c0 c1 c2
    obtain ⟨c0, c1, c2⟩ := P1.out.at
    go_wp2_with fail
    refine (toNode_any 0 W.heap.size false n t _ _ w1 hm hw B1.out.size (HN.out.below B1.out (Nat.le_refl _))).mono ?_
    rintro e w2 ⟨ui, uk, rfl, hN2, hb⟩
    have B2 := Lib.hid (B1.out.trans (hb.mono B1.out.size))
    have P2 := Lib.hid (P1.out.stays hb)
    have HN2 := Lib.hid hN2
    clear hN2 hb c0 c1 c2
    go_wp2_with fail
    refine (specNodes_any w1.heap.size w2.heap.size n true t ui uk w2 hw (by omega) (Nat.le_refl _) HN2.out).mono ?_
    rintro e w3 ⟨rfl, hb⟩
    have B3 := Lib.hid (B2.out.trans (hb.mono B2.out.size))
    have P3 := Lib.hid (P2.out.stays hb)
    clear hb
    obtain ⟨c0, c1, c2⟩ := P3.out.at
    go_wp2_with fail
    refine (toNode_any 0 W.heap.size false n t _ _ w3 hm hw B3.out.size (HN.out.below B3.out (Nat.le_refl _))).mono ?_
    rintro e w4 ⟨xi, xk, rfl, hN4, hb⟩
    obtain ⟨⟨bi, mi, di, rfl⟩, bk, mk, dk, rfl⟩ := hN4.forms
    have hb4 := B3.out.trans (hb.mono B3.out.size)
    have B5 := Lib.hid (hb4.alloc hb4.size (.cells #[.string t.l, .slice bi mi di, .slice bk mk dk] 30))
    have P5 := Lib.hid ((P3.out.stays hb).alloc (.cells #[.string t.l, .slice bi mi di, .slice bk mk dk] 30))
    have X5 := Lib.hid (NdB.new w4 30 t.l (.slice bi mi di) (.slice bk mk dk))
    have HN5 := Lib.hid (hN4.below ((Below.refl w4.heap.size w4).alloc (Nat.le_refl _) (.cells #[.string t.l, .slice bi mi di, .slice bk mk dk] 30)) (Nat.le_refl _))
    have hz5 : w4.heap.size ≤ (w4.alloc (.cells #[.string t.l, .slice bi mi di, .slice bk mk dk] 30)).heap.size := by simp
    clear hN4 hb hb4 c0 c1 c2
    obtain ⟨c0, c1, c2⟩ := X5.out.at
    go_wp2_with fail
    refine (implNodes_any w3.heap.size w4.heap.size n true t _ _ _ hm hw (by omega) hz5 HN5.out (HT.out.below B5.out)).mono ?_
    rintro e w6 ⟨rfl, hb⟩
    have B6 := Lib.hid (B5.out.trans (hb.mono B5.out.size))
    have P6 := Lib.hid (P5.out.stays hb)
    have X6 := Lib.hid (X5.out.stays hb)
    have HN6 := Lib.hid (HN5.out.below (hb.mono hz5) (Nat.le_refl _))
    have hz6 := Nat.le_trans hz5 hb.size
    clear hb c0 c1 c2
    have hne : (nodV n t != nodV n t) = false := by simp
    have hne2 : (nodC n t != nodC n t) = false := by simp
    obtain ⟨c0, c1, c2⟩ := P6.out.at
    obtain ⟨d0, d1, d2⟩ := X6.out.at
    have HT7 : Hid (Calls Tryd.prog 11 #[.agg #[.string t.l, .slice ai li ci, .slice ak lk ck]] w6.drew fun e w8 => ∃ yi yk, e = .returned (.agg #[.string t.l, yi, yk]) ∧ Below W.heap.size W w8 ∧ NdB w8 w4.heap.size 30 t.l (.slice bi mi di) (.slice bk mk dk) ∧ NodeIn w8 w3.heap.size w4.heap.size true n t (.slice bi mi di) (.slice bk mk dk) ∧ NodeIn w8 w6.heap.size w8.heap.size true n t yi yk ∧ w4.heap.size ≤ w8.heap.size) := Lib.hid ((toNode_any 0 W.heap.size false n t (.slice ai li ci) (.slice ak lk ck) w6.drew hm hw B6.out.drew.size (HN.out.below B6.out.drew (Nat.le_refl _))).mono fun e w8 h => by
      obtain ⟨yi, yk, he, h1, hb⟩ := h
      have hb2 : Below w6.heap.size w6 w8 := ((Below.refl w6.heap.size w6).drew).trans hb
      exact ⟨yi, yk, he, B6.out.trans (hb2.mono B6.out.size), X6.out.stays hb2, HN6.out.below (hb2.mono hz6) (Nat.le_refl _), h1, Nat.le_trans hz6 hb2.size⟩)
    go_wp2_with fail
    go_region_with (first
      | (go_at_call 11; with_reducible refine HT7.out.mono ?_; rintro e w8 ⟨yi, yk, rfl, h8, hx8, hm8, hn8, hz8⟩; have B8 := Lib.hid h8; have HM8 := Lib.hid hm8; have HN8 := Lib.hid hn8; obtain ⟨f0, f1, f2⟩ := hx8.at; clear hm8 hn8 h8 hx8)
      | (go_at_call 13; with_reducible refine (eqNode_any w3.heap.size w4.heap.size w6.heap.size _ true true n t _ _ _ _ _ hm hw hz8 (Nat.le_refl _) HM8.out HN8.out).mono ?_; rintro e w9 ⟨rfl, hb⟩; have B9 := Lib.hid (B8.out.trans (hb.mono B8.out.size)); clear hb))
    all_goals go_wp2_with fail
    all_goals go_ret
    all_goals exact ⟨rfl, B9.out⟩
  · have HS := Lib.hid (szNode_any 0 W.heap.size false n0 t (.slice ai li ci) (.slice ak lk ck) 1048576 _ (Nat.le_refl _) hm hb0.size (hN.below hb0 (Nat.le_refl _)))
    have HB0 := Lib.hid hb0
    obtain ⟨c0, c1, c2⟩ := P0.at
    clear hb0 P0 hN
    go_enter Tryd.func5, Tryd.ntmps5
    go_wp2_with fail
    refine HS.out.mono ?_
    rintro e w1 ⟨r, rfl, _, hr, hb⟩
    obtain rfl := hr (by omega)
    have B1 := Lib.hid (HB0.out.trans (hb.mono HB0.out.size))
    clear hr hb
    go_wp2_with fail
    go_ret
    exact ⟨rfl, B1.out⟩
end Go.Proofs.YtcaabnnkjnleeaaDoor
