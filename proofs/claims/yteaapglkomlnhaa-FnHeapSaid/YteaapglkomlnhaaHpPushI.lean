/- A slot pushed, in the program. No condition of its own. -/
import Derived.Test.YteaapglkomlnhaaHpPushS
import Derived.Deep.RegionLaw
namespace Go.Proofs.Yteaapglkomlnhaa
open Go.ChangeShapes Go.WideShapes Go.ChangeAt Go.WideMaps Go.WideElems Go.RowKit

set_option maxRecDepth 100000 in
set_option maxHeartbeats 4000000 in
theorem implPush8_any (g p cap n Bs : Nat) (qs : List Sl) (x : Sl) (w : World) (hn : qs.length = n) (hl : n ≤ 1048575) (ho : OwnSl w Bs g cap qs) (hp : Boxed w p 57 (.slice (some ⟨g, 0, none⟩) n cap)) (hgp : g ≠ p) (hBp : Bs ≤ p) (hBw : Bs ≤ w.heap.size) : Calls Try.prog 47 #[.pointer (some ⟨p, 0, none⟩), .agg #[.int .i64 x.k, .int .i64 x.i]] w fun e w' => e = .returned (.tuple #[]) ∧ (∃ g' cap', BoxA w' p (.slice (some ⟨g', 0, none⟩) (n + 1) cap') ∧ n + 1 ≤ cap' ∧ cap' ≤ maxLen ∧ Bs ≤ g' ∧ RowSl w' g' (pushL qs x)) ∧ Below Bs w w' := by
  obtain ⟨w2, hw2⟩ : ∃ w2, w.alloc (.cells #[.int .i64 x.k, .int .i64 x.i] 33) = w2 := ⟨_, rfl⟩
  have hB2 : Below w.heap.size w w2 := by
    rw [← hw2]
    exact (Below.refl _ _).alloc (Nat.le_refl _) _
  have hK2 : BlkSl w2 w.heap.size x := by
    rw [← hw2]
    exact BlkSl.new w x _ rfl
  have hz2 : w.heap.size < w2.heap.size := by rw [← hw2]; simp
  have hg0 := ho.row.1
  have hgl := ho.row.2.2.2.1
  have hpl := hp.lt
  have hO2 : OwnSl w2 Bs g cap qs := ho.block (hB2.block g hgl)
  have hX2 : Boxed w2 p 57 (.slice (some ⟨g, 0, none⟩) n cap) := (hB2.block p hpl).trans hp
  have hP2 : BoxA w2 p (.slice (some ⟨g, 0, none⟩) n cap) := ⟨hX2.lt, hX2.cell, hX2.frozen⟩
  have HX2 := Lib.hid hX2
  have HO2 := Lib.hid hO2
  have HP2 := Lib.hid hP2
  have HK2 := Lib.hid hK2
  have HB2 := Lib.hid (hB2.mono hBw)
  have HW2 := Lib.hid hw2
  have HN := Lib.hid hn
  have HZ2 := Lib.hid hz2
  have HSX : Hid (∀ w', Below w2.heap.size w2 w' → w'.cell? ⟨w.heap.size, 0, none⟩ = some (.int .i64 x.k) ∧ w'.cell? ⟨w.heap.size, 1, none⟩ = some (.int .i64 x.i)) := Lib.hid fun w' h => by
    obtain ⟨c0, c1, _, _⟩ := (hK2.below h).cells
    exact ⟨c0, c1⟩
  obtain ⟨_, b1, b2⟩ := hP2
  have hp2 : p < w2.heap.size := by omega
  have hpg : p ≠ g := fun h => hgp h.symm
  have hpw : p ≠ w.heap.size := by omega
  obtain ⟨k0, k1, _, _⟩ := hK2.cells
  clear hB2 hK2 hw2 hO2 ho hp hn hz2 hX2
  go_enter Try.func47, Try.ntmps47
  go_upto_region 1 with fail
  rw [HW2.out]
  go_region_law
    (first
      | (refine step_append_sl (by rfl) _ _ _ (by rfl) Try.underlying57 Bs g cap n qs HN.out.symm (by rfl) (HO2.out.block (Below.heap_alloc _ _ g HO2.out.row.2.2.2.1)) w2.heap.size (w2.heap.size + 1) false _ 1 1 [x] (by rfl) (one_in (BlkSl.new w2 x w2.heap.size rfl)) (by have := HN.out; simp; omega) (by have := HB2.out.size; simp; omega) (n + 1) (by simp [HN.out]) ?_; intro g4 cp4 w4 hown4 hgrow4; have HO4 := Lib.hid hown4; have HG4 := Lib.hid hgrow4; have hP4 : BoxA w4 p (.slice (some ⟨g, 0, none⟩) n cap) := HP2.out.same (by have := hgrow4.size; simp at this; omega) ((hgrow4.block p (by simp <;> omega) (by simp; omega)).trans (Below.heap_alloc _ _ p hp2)); have HP4 := Lib.hid hP4; obtain ⟨_, e1, e2⟩ := hP4; have HS4 : w4.cell? ⟨w.heap.size, 0, none⟩ = some (.int .i64 x.k) ∧ w4.cell? ⟨w.heap.size, 1, none⟩ = some (.int .i64 x.i) := ⟨(World.cell?_of_block (w := w2) ((hgrow4.block w.heap.size (by have := HZ2.out; simp; omega) (by simp; omega)).trans (Below.heap_alloc _ _ _ HZ2.out))).trans k0, (World.cell?_of_block (w := w2) ((hgrow4.block w.heap.size (by have := HZ2.out; simp; omega) (by simp; omega)).trans (Below.heap_alloc _ _ _ HZ2.out))).trans k1⟩)
      | fail)
  all_goals
    have hlen : (qs ++ [x]).length = n + 1 := by simp [HN.out]
    have HLN := Lib.hid hlen
    obtain ⟨r2, r1, r3, r4⟩ := HO4.out.row
    have hcp : n + 1 ≤ cp4 := by omega
    have hsz4 : w2.heap.size ≤ w4.heap.size := by
      have := HG4.out.size
      simp at this
      omega
    have hb4 : Below Bs w w4 := grow_below (HB2.out.alloc (by have := HB2.out.size; omega) (.cells #[.int .i64 x.k, .int .i64 x.i] 33)).drew HG4.out hg0 (by have := HB2.out.size; simp; omega)
    have hX4 : Boxed w4 p 57 (.slice (some ⟨g, 0, none⟩) n cap) := ((HG4.out.block p (by simp <;> omega) (by simp; omega)).trans (Below.heap_alloc _ _ p hp2)).trans HX2.out
    have hg4p : g4 ≠ p := by
      intro e
      obtain ⟨_, hh | ⟨g', cap', cur, e3, _, hh, _⟩⟩ := HO4.out
      · cases hh.1
      · injection e3 with e4
        injection e4 with e5
        injection e5 with e6
        have h1 : w4.heap[p]? = some (.cells #[.slice (some ⟨g, 0, none⟩) n cap] 57 (0, 0)) := hX4
        rw [← e, e6, hh] at h1
        injection h1 with h2
        injection h2 with _ h3
        exact absurd h3 (by decide)
    have HR4 := Lib.hid r4
    have HB4 := Lib.hid hb4
    have sm : (n : Int) + 1 - 1 = (n : Int) := by omega
    have gwn : IntKind.i64.wrap (n : Int) = (n : Int) := by rw [IntKind.wrap_i64]; omega
    clear hlen r1 r4 hb4 hX4 hsz4
    go_wp2_with fail
    refine wp_name ?_
    intro wx hwx
    have hP5 : BoxA wx p (.slice (some ⟨g4, 0, none⟩) (n + 1) cp4) := by
      rw [hwx]
      exact HP4.out.set _
    have hR5 : RowSl wx g4 (qs ++ [x]) := by
      rw [hwx]
      exact HR4.out.box hg4p _
    have hB5 : Below Bs w wx := by
      rw [hwx]
      exact HB4.out.setCell (p := ⟨p, 0, none⟩) hBp _
    have HP5 : Hid (BoxA wx.drew p (.slice (some ⟨g4, 0, none⟩) (n + 1) cp4)) := Lib.hid hP5
    have HR5 := Lib.hid hR5.drew
    have HB5 := Lib.hid hB5.drew
    obtain ⟨_, b3, b4⟩ := hP5
    have hBx : Bs ≤ wx.heap.size := by have := hB5.size; omega
    clear hwx hR5 hB5
    go_region_with (go_at_call 66; refine (implUp_any g4 cp4 n (n + 1) (qs ++ [x]) _ HLN.out (by omega) (by omega) HR5.out).mono ?_; rintro e w7 ⟨rfl, hr, hb⟩; have HR7 := Lib.hid hr; have HP7 := Lib.hid (HP5.out.but hb (fun h => hg4p h.symm)); have HB7 := Lib.hid (HB5.out.trans (hb.below r2 hBx)); clear hr hb)
    all_goals go_wp2_with fail
    all_goals go_end0
    all_goals exact ⟨rfl, ⟨g4, cp4, HP7.out, hcp, r3, r2, by unfold pushL; rw [HN.out]; exact HR7.out⟩, HB7.out⟩
end Go.Proofs.Yteaapglkomlnhaa
