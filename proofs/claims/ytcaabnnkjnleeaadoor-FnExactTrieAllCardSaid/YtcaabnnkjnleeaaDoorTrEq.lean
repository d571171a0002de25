/- Two nodes that read as one compared by the law's helper. No condition of its own. -/
import Derived.Test.YtcaabnnkjnleeaaDoorTrTo
import Derived.Test.YtcaabnnkjnleeaaDoorBelowCls
import Derived.Deep.QuietTactic
import Derived.BigQuiet
namespace Go.Proofs.YtcaabnnkjnleeaaDoor
open Go.ChangeShapes Go.WideShapes Go.ChangeAt Go.WideMaps Go.WideElems Go.RowKit

set_option maxRecDepth 100000 in
theorem eqInts_any (u v : Value) (zs : List Int) (A B A2 B2 : Nat) (z z2 : Bool) (w : World) (hl : zs.length ≤ 1048576) (hB : B ≤ w.heap.size) (hB2 : B2 ≤ w.heap.size) (hu : IntsIn w A B z u zs) (hv : IntsIn w A2 B2 z2 v zs) : Calls Tryd.prog 16 #[u, v] w fun e w' => e = .returned (.bool true) ∧ Below w.heap.size w w' := by
  obtain ⟨a, ca, rfl, _, _, ha⟩ := hu
  obtain ⟨b, cb, rfl, _, _, hb⟩ := hv
  have HA := Lib.hid ha
  have HB := Lib.hid hb
  clear ha hb
  have hne : ((zs.length : Int) != (zs.length : Int)) = false := by simp
  go_enter Tryd.func16, Tryd.ntmps16
  go_wp2
  go_loopw [5] (fun i wr => ∃ j : Nat, j ≤ zs.length ∧ i = .int .i64 j ∧ Below w.heap.size w wr) (fun i _ => zs.length - (intOf i).toNat)
  case atStart => exact ⟨0, Nat.zero_le _, rfl, Below.refl _ _⟩
  case round =>
    obtain ⟨j, hj, rfl, hbel⟩ := hrel
    have HX := Lib.hid hbel
    clear hbel
    by_cases hlt : j < zs.length
    · obtain ⟨g, o, rfl, _, hg2, hc⟩ := HA.out (by omega)
      obtain ⟨g', o', rfl, _, hg2', hc'⟩ := HB.out (by omega)
      obtain ⟨x, hx⟩ : ∃ x : Int, zs[j] = x := ⟨_, rfl⟩
      have c1 : wr.cell? ⟨g, o + j, none⟩ = some (.int .i64 x) := by rw [← hx]; exact (HX.out.cell (p := ⟨g, o + j, none⟩) (by show g < _; omega)).trans (hc j hlt).1
      have c2 : wr.cell? ⟨g', o' + j, none⟩ = some (.int .i64 x) := by rw [← hx]; exact (HX.out.cell (p := ⟨g', o' + j, none⟩) (by show g' < _; omega)).trans (hc' j hlt).1
      have e2 : (x != x) = false := by simp
      have s1 : (j : Int) < zs.length := by omega
      clear hc hc' hx
      go_wp2
      go_quiet (fail)
      go_wp2
      go_roundw
      case rel => exact ⟨j + 1, by omega, by go_num, below_drewN HX.out _⟩
      case measure => simp [intOf]; omega
    · go_wp2
      go_ret
      exact ⟨rfl, HX.out⟩
set_option maxHeartbeats 2000000 in
set_option maxRecDepth 100000 in
theorem eqKids_any (n A B A2 B2 : Nat) (z z2 : Bool)
    (H : ∀ (t : Tr) (vi vk ui uk : Value) (w : World), t.l.size ≤ maxLen → wtT n t ≤ 1048576 → B ≤ w.heap.size → B2 ≤ w.heap.size → NodeIn w A B z n t vi vk → NodeIn w A2 B2 z2 n t ui uk → Calls Tryd.prog 13 #[.agg #[.string t.l, vi, vk], .agg #[.string t.l, ui, uk]] w fun e w' => e = .returned (.bool true) ∧ Below w.heap.size w w')
    (u v : Value) (ks : List Tr) (w : World) (hl : ks.length + wtK n ks ≤ 1048576) (hB : B ≤ w.heap.size) (hB2 : B2 ≤ w.heap.size) (hu : KidsIn w A B z n u ks) (hv : KidsIn w A2 B2 z2 n v ks) : Calls Tryd.prog 47 #[u, v] w fun e w' => e = .returned (.bool true) ∧ Below w.heap.size w w' := by
  obtain ⟨a, ca, rfl, _, _, ha⟩ := hu
  obtain ⟨b, cb, rfl, _, _, hb⟩ := hv
  have HA := Lib.hid ha
  have HB := Lib.hid hb
  have HH := Lib.hid H
  clear ha hb H
  have hne : ((ks.length : Int) != (ks.length : Int)) = false := by simp
  go_enter Tryd.func47, Tryd.ntmps47
  go_wp2_with fail
  go_loopw [5] (fun i wr => ∃ j : Nat, j ≤ ks.length ∧ i = .int .i64 j ∧ Below w.heap.size w wr) (fun i _ => ks.length - (intOf i).toNat)
  case atStart => exact ⟨0, Nat.zero_le _, rfl, Below.refl _ _⟩
  case round =>
    obtain ⟨j, hj, rfl, hbel⟩ := hrel
    have HX := Lib.hid hbel
    clear hbel
    by_cases hlt : j < ks.length
    · obtain ⟨g, o, rfl, _, hg2, hc⟩ := HA.out (by omega)
      obtain ⟨g', o', rfl, _, hg2', hc'⟩ := HB.out (by omega)
      obtain ⟨q, hq⟩ : ∃ q : Tr, ks[j] = q := ⟨_, rfl⟩
      obtain ⟨m1, _, c0, vi, vk, c1, c2, hN⟩ := hc j hlt
      obtain ⟨_, _, d0, ui, uk, d1, d2, hM⟩ := hc' j hlt
      have hwq : wtT n ks[j] ≤ wtK n ks := kid_light (List.getElem_mem hlt)
      rw [hq] at m1 c0 hN d0 hM hwq
      have c0 := (HX.out.cell (p := ⟨g, o + j * 3, none⟩) (by show g < _; omega)).trans c0
      have c1 := (HX.out.cell (p := ⟨g, o + j * 3 + 1, none⟩) (by show g < _; omega)).trans c1
      have c2 := (HX.out.cell (p := ⟨g, o + j * 3 + 2, none⟩) (by show g < _; omega)).trans c2
      have d0 := (HX.out.cell (p := ⟨g', o' + j * 3, none⟩) (by show g' < _; omega)).trans d0
      have d1 := (HX.out.cell (p := ⟨g', o' + j * 3 + 1, none⟩) (by show g' < _; omega)).trans d1
      have d2 := (HX.out.cell (p := ⟨g', o' + j * 3 + 2, none⟩) (by show g' < _; omega)).trans d2
      have HN := Lib.hid (hN.below HX.out hB)
      have HM := Lib.hid (hM.below HX.out hB2)
      have hBr := Nat.le_trans hB HX.out.size
      have hBr2 := Nat.le_trans hB2 HX.out.size
      have s1 : (j : Int) < ks.length := by omega
      have hNe : Nonempty (BCl wr) := BCl.full wr
      have q0 := BCl.cell c0
      have q1 := BCl.cell c1
      have q2 := BCl.cell c2
      have r0 := BCl.cell d0
      have r1 := BCl.cell d1
      have r2 := BCl.cell d2
      have HQ : Hid (∀ i : BCl wr, Calls Tryd.prog 13 #[.agg #[.string q.l, vi, vk], .agg #[.string q.l, ui, uk]] i.w fun e w' => e = .returned (.bool true) ∧ Below i.w.heap.size i.w w') := Lib.hid fun i => HH.out q vi vk ui uk i.w m1 (by omega) (Nat.le_trans hBr i.below.size) (Nat.le_trans hBr2 i.below.size) (HN.out.below i.below hBr) (HM.out.below i.below hBr2)
      clear hc hc' hq hN hM c0 c1 c2 d0 d1 d2
      go_wp2_with fail
      refine wp_region_below (fun w' => ∃ i : BCl wr, w' = i.w) (by kernel_rfl) (by kernel_rfl) (BCl.start wr) ?_
      repeat (go_big_quiet_step (first
        | (go_at_call 13; rename_i i; with_reducible refine (HQ.out i).mono ?_; intro e w' h; exact ⟨h.1, i.next h.2⟩)))
      refine wpQuiet_nil ?_
      intro _ hw'
      obtain ⟨i, rfl⟩ := hw'
      go_wp2_with fail
      go_roundw
      case rel => exact ⟨j + 1, by omega, by go_num, HX.out.trans (i.below.mono HX.out.size)⟩
      case measure => simp [intOf]; omega
    · go_wp2
      go_ret
      exact ⟨rfl, HX.out⟩
theorem two_blk (w : World) (o1 o2 : Obj) : ((w.alloc o1).alloc o2).heap[w.heap.size]? = some o1 ∧ ((w.alloc o1).alloc o2).heap[w.heap.size + 1]? = some o2 := by
  have h1 : (w.alloc o1).heap.size = w.heap.size + 1 := by simp
  refine ⟨?_, ?_⟩
  · rw [Below.heap_alloc _ _ _ (by omega)]
    exact heap_alloc_new _ _
  · rw [← h1]
    exact heap_alloc_new _ _
set_option maxHeartbeats 2000000 in
set_option maxRecDepth 100000 in
theorem eqNode_any (A B A2 B2 : Nat) (z z2 : Bool) : ∀ (n : Nat) (t : Tr) (vi vk ui uk : Value) (w : World), t.l.size ≤ maxLen → wtT n t ≤ 1048576 → B ≤ w.heap.size → B2 ≤ w.heap.size → NodeIn w A B z n t vi vk → NodeIn w A2 B2 z2 n t ui uk → Calls Tryd.prog 13 #[.agg #[.string t.l, vi, vk], .agg #[.string t.l, ui, uk]] w fun e w' => e = .returned (.bool true) ∧ Below w.heap.size w w' := by
  intro n
  induction n with
  | zero => intro t vi vk ui uk w _ _ _ _ h; exact h.elim
  | succ n ih =>
    intro t vi vk ui uk w hm hwt hB hB2 h h'
    have hw : wtT (n + 1) t = t.l.size + t.ids.length + (t.ks.length + wtK n t.ks) := rfl
    rw [hw] at hwt
    obtain ⟨hi, hk⟩ := h.parts
    obtain ⟨hi2, hk2⟩ := h'.parts
    obtain ⟨l, hl⟩ : ∃ l, t.l = l := ⟨_, rfl⟩
    rw [hl] at hwt ⊢
    have HI := Lib.hid hi
    have HK := Lib.hid hk
    have HI2 := Lib.hid hi2
    have HK2 := Lib.hid hk2
    have IH := Lib.hid ih
    clear hi hk hi2 hk2 ih h h' hw hm hl
    obtain ⟨b0, b1⟩ := two_blk w (.cells #[.string l, vi, vk] 30) (.cells #[.string l, ui, uk] 30)
    have BA : Hid (Below w.heap.size w ((w.alloc (.cells #[.string l, vi, vk] 30)).alloc (.cells #[.string l, ui, uk] 30))) := Lib.hid (((Below.refl _ _).alloc (Nat.le_refl _) _).alloc (by simp) _)
    have HW : Hid (((w.alloc (.cells #[.string l, vi, vk] 30)).alloc (.cells #[.string l, ui, uk] 30)).heap.size = w.heap.size + 2) := Lib.hid (by simp)
    have H0 := Lib.hid b0
    have H1 := Lib.hid b1
    obtain ⟨c0, c1, c2⟩ := node_cells b0
    obtain ⟨d0, d1, d2⟩ := node_cells b1
    have n1 : (l.toList != l.toList) = false := by simp
    clear b0 b1
    go_enter Tryd.func13, Tryd.ntmps13
    go_wp2_with fail
    refine (eqInts_any vi ui t.ids A B A2 B2 z z2 _ (by omega) (Nat.le_trans hB BA.out.size) (Nat.le_trans hB2 BA.out.size) (HI.out.below BA.out hB) (HI2.out.below BA.out hB2)).mono ?_
    rintro e w1 ⟨rfl, hb⟩
    have B1 := Lib.hid (BA.out.trans (hb.mono BA.out.size))
    have K0 := (hb.block w.heap.size (by rw [HW.out]; omega)).trans H0.out
    have K1 := (hb.block (w.heap.size + 1) (by rw [HW.out]; omega)).trans H1.out
    clear hb c0 c1 c2 d0 d1 d2
    obtain ⟨c0, c1, c2⟩ := node_cells K0
    obtain ⟨d0, d1, d2⟩ := node_cells K1
    clear K0 K1
    go_wp2_with fail
    refine (eqKids_any n A B A2 B2 z z2 IH.out vk uk t.ks _ (by omega) (Nat.le_trans hB B1.out.size) (Nat.le_trans hB2 B1.out.size) (HK.out.below B1.out hB) (HK2.out.below B1.out hB2)).mono ?_
    rintro e w2 ⟨rfl, hb⟩
    have B2 := Lib.hid (B1.out.trans (hb.mono B1.out.size))
    clear hb
    go_wp2_with fail
    go_ret
    exact ⟨rfl, B2.out⟩
end Go.Proofs.YtcaabnnkjnleeaaDoor
