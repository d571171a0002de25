/- The model's TrieOK, from what its look at nodes answers. No condition of its own. -/
import Derived.Test.YtcaabnnkjnleeaaDoorTrWid
import Derived.Test.YtcaabnnkjnleeaaDoorTrRoom
namespace Go.Proofs.YtcaabnnkjnleeaaDoor
open Go.ChangeShapes Go.WideShapes Go.ChangeAt Go.WideMaps Go.WideElems Go.RowKit

def NodeLaw (A B n : Nat) (z : Bool) (t : Tr) (vi vk : Value) : Prop := ∀ w : World, B ≤ w.heap.size → NodeIn w A B z n t vi vk → Calls Tryd.prog 69 #[.agg #[.string t.l, vi, vk], .int .i64 6] w fun e w' => e = .returned (.bool (okT n t 6)) ∧ Below w.heap.size w w'
set_option maxHeartbeats 2000000 in
set_option maxRecDepth 100000 in
theorem specTrOK_of (A B n : Nat) (z : Bool) (t : Tr) (vi vk : Value) (w : World) (HL : NodeLaw A B n z t vi vk) (hwt : wtT n t ≤ 1048576) (hB : B ≤ w.heap.size) (h : NodeIn w A B z n t vi vk) : Calls Tryd.prog 39 #[.agg #[.string t.l, vi, vk]] w fun e w' => e = .returned (.bool (trieB n t)) ∧ Below w.heap.size w w' := by
  have HN := Lib.hid h
  have BA : Hid (Below w.heap.size w (w.alloc (.cells #[.string t.l, vi, vk] 30))) := Lib.hid ((Below.refl _ _).alloc (Nat.le_refl _) _)
  have H0 : Hid ((w.alloc (.cells #[.string t.l, vi, vk] 30)).heap[w.heap.size]? = _) := Lib.hid (heap_alloc_new _ _)
  have hlt0 : w.heap.size < (w.alloc (.cells #[.string t.l, vi, vk] 30)).heap.size := by simp
  have HNL := Lib.hid HL
  clear h HL
  obtain ⟨c0, c1, c2⟩ := node_cells H0.out
  have HWD := Lib.hid (specWidth_any A B z n t vi vk 97 _ hwt (by omega) (by omega) (Nat.le_trans hB BA.out.size) (HN.out.below BA.out hB))
  go_enter Tryd.func39, Tryd.ntmps39
  go_wp2_with fail
  · have hl : t.l.toList.isEmpty = true := by simp_all
    refine HWD.out.mono ?_
    rintro e w1 ⟨rfl, hb⟩
    have B1 := Lib.hid (BA.out.trans (hb.mono BA.out.size))
    have K0 := (hb.block w.heap.size hlt0).trans H0.out
    have hlt1 := Nat.lt_of_lt_of_le hlt0 hb.size
    clear c0 c1 c2 hb
    obtain ⟨c0, c1, c2⟩ := node_cells K0
    by_cases hw : widT n t 97 ≤ 97
    · go_wp2_with fail
      refine (HNL.out w1 (Nat.le_trans hB B1.out.size) (HN.out.below B1.out hB)).mono ?_
      rintro e w2 ⟨rfl, hb⟩
      have B2 := Lib.hid (B1.out.trans (hb.mono B1.out.size))
      have K0 := (hb.block w.heap.size hlt1).trans K0
      clear c0 c1 c2 hb
      obtain ⟨c0, c1, c2⟩ := node_cells K0
      cases hk : okT n t 6 with
      | false =>
        go_wp2_with fail
        go_ret
        exact ⟨bool_end (by unfold trieB; rw [hk]; simp), B2.out⟩
      | true =>
        go_wp2_with fail
        refine (specRoom_any A B n z t vi vk w2 hwt (Nat.le_trans hB B2.out.size) (HN.out.below B2.out hB)).mono ?_
        rintro e w3 ⟨rfl, hb⟩
        have B3 := Lib.hid (B2.out.trans (hb.mono B2.out.size))
        clear hb
        go_wp2_with fail
        go_ret
        exact ⟨bool_end (by unfold trieB; rw [hl, decide_eq_true hw, hk]; simp), B3.out⟩
    · go_wp2_with fail
      go_ret
      exact ⟨bool_end (by unfold trieB; rw [decide_eq_false (by omega : ¬ widT n t 97 ≤ 97)]; simp), B1.out⟩
  · have hl : t.l.toList.isEmpty = false := by simp_all
    go_ret
    exact ⟨bool_end (by unfold trieB; rw [hl]; simp), BA.out⟩
end Go.Proofs.YtcaabnnkjnleeaaDoor
