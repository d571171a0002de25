/- A node weighed by the law's helper. No condition of its own. -/
import Derived.Test.YtcaabnnkjnleeaaDoorTrIn
import Derived.Deep.DeepCutAuto
import Derived.BigQuiet
namespace Go.Proofs.YtcaabnnkjnleeaaDoor
open Go.ChangeShapes Go.WideShapes Go.ChangeAt Go.WideMaps Go.WideElems Go.RowKit

/-- What a node weighs. -/
def wtT : Nat → Tr → Nat
  | 0, _ => 0
  | n + 1, t => t.l.size + t.ids.length + (t.ks.length + (t.ks.map (wtT n)).sum)
def wtK (n : Nat) (l : List Tr) : Nat := (l.map (wtT n)).sum
def szP (w : World) (L wt : Nat) (e : Ending) (w' : World) : Prop := ∃ r : Int, e = .returned (.int .i64 r) ∧ (wt ≤ L → r = ((L - wt : Nat) : Int)) ∧ (L < wt → r = -1) ∧ Below w.heap.size w w'
theorem szInts_any (v : Value) (zs : List Int) (L A B : Nat) (z : Bool) (w : World) (hL : L ≤ 1048576) (h : IntsIn w A B z v zs) : Calls Tryd.prog 37 #[v, .int .i64 L] w (szP w L zs.length) := by
  obtain ⟨a, cap, rfl, h1, h2, _⟩ := h
  unfold maxLen at h2
  by_cases h0 : zs.length ≤ L
  · have hsub : (L : Int) - (zs.length : Int) = ((L - zs.length : Nat) : Int) := by omega
    have hpos : (0 : Int) ≤ ((L - zs.length : Nat) : Int) := by omega
    go_enter Tryd.func37, Tryd.ntmps37
    go_wp2
    go_ret
    exact ⟨_, rfl, fun _ => rfl, fun h => by omega, Below.refl _ _⟩
  · have hneg : (L : Int) - (zs.length : Int) < 0 := by omega
    have hlow : -9223372036854775808 ≤ (L : Int) - (zs.length : Int) := by omega
    go_enter Tryd.func37, Tryd.ntmps37
    go_wp2
    go_ret
    exact ⟨-1, rfl, fun h => by omega, fun _ => rfl, Below.refl _ _⟩
def SzKRel (w : World) (n : Nat) (ks : List Tr) (L : Nat) (left i : Value) (wr : World) : Prop := ∃ k : Nat, k ≤ ks.length ∧ i = .int .i64 k ∧ ks.length + wtK n (ks.take k) ≤ L ∧ left = .int .i64 ((L - ks.length - wtK n (ks.take k) : Nat) : Int) ∧ Below w.heap.size w wr
theorem sum_take {n : Nat} {ks : List Tr} {k : Nat} (h : k < ks.length) : wtK n (ks.take (k + 1)) = wtK n (ks.take k) + wtT n ks[k] := by
  unfold wtK
  rw [List.take_succ_eq_append_getElem h, List.map_append, List.sum_append]
  simp
theorem sum_take_le (n : Nat) (ks : List Tr) (k : Nat) : wtK n (ks.take k) ≤ wtK n ks := by
  have : wtK n ks = wtK n (ks.take k) + wtK n (ks.drop k) := by
    unfold wtK
    rw [← List.sum_append, ← List.map_append, List.take_append_drop]
  omega
set_option maxHeartbeats 2000000 in
set_option maxRecDepth 100000 in
theorem szKids_any (n A B : Nat) (z : Bool)
    (H : ∀ (t : Tr) (vi vk : Value) (L : Nat) (w : World), L ≤ 1048576 → t.l.size ≤ maxLen → B ≤ w.heap.size → NodeIn w A B z n t vi vk → Calls Tryd.prog 9 #[.agg #[.string t.l, vi, vk], .int .i64 L] w (szP w L (wtT n t)))
    (v : Value) (ks : List Tr) (L : Nat) (w : World) (hL : L ≤ 1048576) (hB : B ≤ w.heap.size) (hv : KidsIn w A B z n v ks) : Calls Tryd.prog 38 #[v, .int .i64 L] w (szP w L (ks.length + wtK n ks)) := by
  obtain ⟨a, cap, rfl, hl, hc, hx⟩ := hv
  have HX := Lib.hid hx
  have HH := Lib.hid H
  clear hx H
  unfold maxLen at hc
  by_cases h0 : ks.length ≤ L
  · have hsub : (L : Int) - (ks.length : Int) = ((L - ks.length : Nat) : Int) := by omega
    have hpos : (0 : Int) ≤ ((L - ks.length : Nat) : Int) := by omega
    go_enter Tryd.func38, Tryd.ntmps38
    go_wp2
    go_loopw [1, 5] (fun left i wr => SzKRel w n ks L left i wr) (fun _ i _ => ks.length - (intOf i).toNat)
    case atStart => exact ⟨0, Nat.zero_le _, rfl, by simpa [wtK] using h0, by simp [wtK], Below.refl _ _⟩
    case round =>
      obtain ⟨k, hk, rfl, hle, rfl, hb⟩ := hrel
      have HB := Lib.hid hb
      clear hb
      by_cases hlt : k < ks.length
      · obtain ⟨g, off, rfl, hg1, hg2, hcell⟩ := HX.out (by omega)
        obtain ⟨q, hq⟩ : ∃ q : Tr, ks[k] = q := ⟨_, rfl⟩
        obtain ⟨m1, _, c0, ui, uk, c1, c2, hN⟩ := hcell k hlt
        rw [hq] at m1 c0 hN
        have c0 := (HB.out.cell (p := ⟨g, off + k * 3, none⟩) (by show g < _; omega)).trans c0
        have c1 := (HB.out.cell (p := ⟨g, off + k * 3 + 1, none⟩) (by show g < _; omega)).trans c1
        have c2 := (HB.out.cell (p := ⟨g, off + k * 3 + 2, none⟩) (by show g < _; omega)).trans c2
        have HN := Lib.hid (hN.below HB.out hB)
        have ht := sum_take (n := n) hlt
        rw [hq] at ht
        have HTK := Lib.hid ht
        have hki : (k : Int) < ks.length := by omega
        have hBr := Nat.le_trans hB HB.out.size
        clear hq hcell hN ht
        go_wp2_with fail
        refine (HH.out q ui uk (L - ks.length - wtK n (ks.take k)) _ (by omega) m1 hBr HN.out).mono ?_
        rintro e w1 ⟨r, rfl, hr1, hr2, hb⟩
        have HB1 := Lib.hid (HB.out.trans (hb.mono HB.out.size))
        clear hb
        by_cases h2 : wtT n q ≤ L - ks.length - wtK n (ks.take k)
        · have er := hr1 h2; subst er
          clear hr1 hr2
          have hpos2 : (0 : Int) ≤ ((L - ks.length - wtK n (ks.take k) - wtT n q : Nat) : Int) := by omega
          go_wp2_with fail
          go_roundw
          case rel =>
            refine ⟨k + 1, by omega, by go_num, by rw [HTK.out]; omega, ?_, HB1.out⟩
            rw [HTK.out, Nat.sub_sub (L - ks.length)]
          case measure => simp [intOf]; omega
        · have er := hr2 (by omega); subst er
          clear hr1 hr2
          go_wp2_with fail
          go_ret
          have := sum_take_le n ks (k + 1)
          have := HTK.out
          exact ⟨-1, rfl, fun h => by omega, fun _ => rfl, HB1.out⟩
      · obtain rfl : k = ks.length := by omega
        rw [List.take_of_length_le (Nat.le_refl _)] at hle ⊢
        go_wp2
        go_ret
        exact ⟨_, rfl, fun _ => by rw [Nat.sub_sub], fun h => by omega, HB.out⟩
  · have hneg : (L : Int) - (ks.length : Int) < 0 := by omega
    have hlow : -9223372036854775808 ≤ (L : Int) - (ks.length : Int) := by omega
    go_enter Tryd.func38, Tryd.ntmps38
    go_wp2
    go_ret
    exact ⟨-1, rfl, fun h => by omega, fun _ => rfl, Below.refl _ _⟩
theorem node_cells {w : World} {b : Nat} {x y v : Value} {t : TypeId} (h : w.heap[b]? = some (.cells #[x, y, v] t (0, 0))) : w.cell? ⟨b, 0, none⟩ = some x ∧ w.cell? ⟨b, 1, none⟩ = some y ∧ w.cell? ⟨b, 2, none⟩ = some v := by
  simp [World.cell?, h]
set_option maxHeartbeats 2000000 in
set_option maxRecDepth 100000 in
theorem szNode_any (A B : Nat) (z : Bool) : ∀ (n : Nat) (t : Tr) (vi vk : Value) (L : Nat) (w : World), L ≤ 1048576 → t.l.size ≤ maxLen → B ≤ w.heap.size → NodeIn w A B z n t vi vk → Calls Tryd.prog 9 #[.agg #[.string t.l, vi, vk], .int .i64 L] w (szP w L (wtT n t)) := by
  intro n
  induction n with
  | zero => intro t vi vk L w _ _ _ h; exact h.elim
  | succ n ih =>
    intro t vi vk L w hL hm hB h
    obtain ⟨hi, hk⟩ := h.parts
    obtain ⟨l, hl⟩ : ∃ l, t.l = l := ⟨_, rfl⟩
    have hw : wtT (n + 1) t = l.size + t.ids.length + (t.ks.length + wtK n t.ks) := by rw [← hl]; rfl
    rw [hl] at hm ⊢
    rw [hw]
    obtain ⟨zs, hzs⟩ : ∃ zs, t.ids = zs := ⟨_, rfl⟩
    obtain ⟨ks, hks⟩ : ∃ ks, t.ks = ks := ⟨_, rfl⟩
    rw [hzs] at hi ⊢
    rw [hks] at hk ⊢
    have HI := Lib.hid hi
    have HK := Lib.hid hk
    have IH := Lib.hid ih
    obtain ⟨s, hs⟩ : ∃ s, wtK n ks = s := ⟨_, rfl⟩
    have HS := Lib.hid hs
    rw [hs]
    clear hi hk ih hl hw hzs hks hs h
    unfold maxLen at hm
    have B0 : Hid (Below w.heap.size w (w.alloc (.cells #[.string l, vi, vk] 25))) := Lib.hid ((Below.refl _ _).alloc (Nat.le_refl _) _)
    have HK0 : Hid ((w.alloc (.cells #[.string l, vi, vk] 25)).heap[w.heap.size]? = some (.cells #[.string l, vi, vk] 25 (0, 0))) := Lib.hid (heap_alloc_new _ _)
    by_cases h1 : l.size ≤ L
    · have e1 : (L : Int) - (l.size : Int) = ((L - l.size : Nat) : Int) := by omega
      have p1 : (0 : Int) ≤ ((L - l.size : Nat) : Int) := by omega
      obtain ⟨c0, c1, c2⟩ := node_cells HK0.out
      go_enter Tryd.func9, Tryd.ntmps9
      go_wp2_with fail
      refine (szInts_any vi zs (L - l.size) A B z _ (by omega) (HI.out.below B0.out hB)).mono ?_
      rintro e w1 ⟨r, rfl, hr1, hr2, hb⟩
      have B1 := Lib.hid (B0.out.trans (hb.mono B0.out.size))
      have HK1 := Lib.hid ((hb.block _ (by simp)).trans HK0.out)
      clear hb c0 c1 c2
      by_cases h2 : zs.length ≤ L - l.size
      · have er := hr1 h2; subst er
        clear hr1 hr2
        have p2 : (0 : Int) ≤ ((L - l.size - zs.length : Nat) : Int) := by omega
        obtain ⟨c0, c1, c2⟩ := node_cells HK1.out
        go_wp2_with fail
        refine (szKids_any n A B z IH.out vk ks (L - l.size - zs.length) _ (by omega) (Nat.le_trans hB B1.out.size) (HK.out.below B1.out hB)).mono ?_
        rintro e w2 ⟨r, rfl, hr1, hr2, hb⟩
        have B2 := Lib.hid (B1.out.trans (hb.mono B1.out.size))
        rw [HS.out] at hr1 hr2
        clear hb c0 c1 c2
        by_cases h3 : ks.length + s ≤ L - l.size - zs.length
        · have er := hr1 h3; subst er
          clear hr1 hr2
          have p3 : (0 : Int) ≤ ((L - l.size - zs.length - (ks.length + s) : Nat) : Int) := by omega
          go_wp2_with fail
          go_ret
          exact ⟨_, rfl, fun _ => by congr 1; omega, fun h => by omega, B2.out⟩
        · have er := hr2 (by omega); subst er
          clear hr1 hr2
          go_wp2_with fail
          go_ret
          exact ⟨-1, rfl, fun h => by omega, fun _ => rfl, B2.out⟩
      · have er := hr2 (by omega); subst er
        clear hr1 hr2
        go_wp2_with fail
        go_ret
        exact ⟨-1, rfl, fun h => by omega, fun _ => rfl, B1.out⟩
    · have e1 : (L : Int) - (l.size : Int) < 0 := by omega
      have e2 : -9223372036854775808 ≤ (L : Int) - (l.size : Int) := by omega
      go_enter Tryd.func9, Tryd.ntmps9
      go_wp2_with fail
      go_ret
      exact ⟨-1, rfl, fun h => by omega, fun _ => rfl, B0.out⟩
end Go.Proofs.YtcaabnnkjnleeaaDoor
