/- Cookies sorted in place by the library's insertion from behind. At most 1000 of them. -/
import Derived.Test.YtpdonghdnaehhaaGreatDoorYCkCode
import Derived.Test.YtpdonghdnaehhaaGreatDoorSortMath
import Derived.Test.YtpdonghdnaehhaaGreatDoorYCkCmp
import Derived.BigRegion
namespace Go.Proofs.YtpdonghdnaehhaaGreatDoor
open Go.ChangeShapes Go.WideShapes Go.ChangeAt Go.WideMaps Go.WideElems Go.RowKit

/-- A block that holds n cookies, each of which may be stored. -/
def RowF (wr : World) (g n : Nat) (R : Nat → Ck) : Prop := (∀ t, t < n * 12 → wr.frozen? ⟨g, t, none⟩ = false) ∧ ∀ t, t < n → CkAt wr g (t * 12) (R t)
theorem RowF.below {w w' : World} {g n : Nat} {R : Nat → Ck} (h : RowF w g n R) (hb : Below w.heap.size w w') (hg : g < w.heap.size) : RowF w' g n R :=
  ⟨fun t ht => by rw [World.frozen?, hb.block g hg]; exact h.1 t ht, fun t ht => (h.2 t ht).below hb hg⟩
theorem RowF.congr {w : World} {g n : Nat} {R S : Nat → Ck} (h : RowF w g n R) (e : ∀ t, t < n → R t = S t) : RowF w g n S :=
  ⟨h.1, fun t ht => by rw [← e t ht]; exact h.2 t ht⟩
theorem RowF.drew {w : World} {g n : Nat} {R : Nat → Ck} (h : RowF w g n R) : RowF w.drew g n R := h
theorem lt_drew {w : World} {g : Nat} (h : g < w.heap.size) : g < w.drew.heap.size := h
theorem ckAt_some {w : World} {g o : Nat} {q : Ck} (h : CkAt w g o q) : ∀ f, f < 12 → ∃ u, w.cell? ⟨g, o + f, none⟩ = some u := by
  obtain ⟨c0, c1, c2, c3, c4, c5, c6, c7, c8, c9, c10, c11⟩ := h
  intro f hf
  match f, hf with
  | 0, _ => exact ⟨_, c0⟩
  | 1, _ => exact ⟨_, c1⟩
  | 2, _ => exact ⟨_, c2⟩
  | 3, _ => exact ⟨_, c3⟩
  | 4, _ => exact ⟨_, c4⟩
  | 5, _ => exact ⟨_, c5⟩
  | 6, _ => exact ⟨_, c6⟩
  | 7, _ => exact ⟨_, c7⟩
  | 8, _ => exact ⟨_, c8⟩
  | 9, _ => exact ⟨_, c9⟩
  | 10, _ => exact ⟨_, c10⟩
  | 11, _ => exact ⟨_, c11⟩
theorem RowF.swap {w : World} {g n j : Nat} {R S : Nat → Ck} (h : RowF w g n R) (h0 : j + 1 < n) (e : ∀ t, S t = if t = j then R (j + 1) else if t = j + 1 then R j else R t) : RowF (putCk (putCk w g ((j + 1) * 12) (R j)) g (j * 12) (R (j + 1))) g n S := by
  refine ⟨fun t ht => by rw [putCk_frozen, putCk_frozen]; exact h.1 t ht, fun t ht => ?_⟩
  have s1 : ∀ f, f < 12 → ∃ u, w.cell? ⟨g, (j + 1) * 12 + f, none⟩ = some u := ckAt_some (h.2 (j + 1) h0)
  have s0 : ∀ f, f < 12 → ∃ u, w.cell? ⟨g, j * 12 + f, none⟩ = some u := ckAt_some (h.2 j (by omega))
  rw [e t]
  by_cases h1 : t = j
  · rw [if_pos h1, h1]
    exact putCk_at fun f hf => putCk_some s1 (s0 f hf)
  · rw [if_neg h1]
    by_cases h2 : t = j + 1
    · rw [if_pos h2, h2]
      exact putCk_keeps (by omega) (putCk_at s1)
    · rw [if_neg h2]
      exact putCk_keeps (by omega) (putCk_keeps (by omega) (h.2 t ht))
theorem store_ck (W : World) (g o : Nat) (q : Ck) (h : ∀ f, f < 12 → ∃ u, W.cell? ⟨g, o + f, none⟩ = some u) (hf : ∀ f, f < 12 → W.frozen? ⟨g, o + f, none⟩ = false) : Sem.run Tryz.prog (storeCells ⟨g, o, none⟩ [.int .i64 q.i, .string q.n, .string q.v, .string q.d, .string q.p, .bool q.ho, .bool q.sc, .bool q.ht, .int .i64 q.s, .int .i64 q.x, .int .i64 q.m, .int .i64 q.u] 0) W = .ok () (putCk W g o q) := by
  have := run_storeCells_cells (P := Tryz.prog) g o [.int .i64 q.i, .string q.n, .string q.v, .string q.d, .string q.p, .bool q.ho, .bool q.sc, .bool q.ht, .int .i64 q.s, .int .i64 q.x, .int .i64 q.m, .int .i64 q.u] 0 W (fun j hj => by
    obtain ⟨u, hu⟩ := h j hj
    rw [Nat.add_zero, hu]
    rfl) (fun j hj => by
    rw [Nat.add_zero]
    exact hf j hj) (by
    intro u hu
    simp only [List.mem_cons, List.not_mem_nil, or_false] at hu
    rcases hu with rfl | rfl | rfl | rfl | rfl | rfl | rfl | rfl | rfl | rfl | rfl | rfl <;> rfl)
  rw [this]
  rfl
theorem send_lt (a b : Ck) : decide (sendI a b < 0) = firstB a b := send_first a b
def InsRel (w : World) (g B : Nat) (qs : List Ck) (i : Value) (wr : World) : Prop := ∃ k : Nat, 1 ≤ k ∧ (k ≤ qs.length ∨ k = 1) ∧ i = .int .i64 k ∧ RowF wr g qs.length (outF firstB qs k) ∧ Below B w wr ∧ g < wr.heap.size
def InRel (w : World) (g B : Nat) (qs : List Ck) (k : Nat) (i : Value) (wr : World) : Prop := ∃ j : Nat, j ≤ k ∧ i = .int .i64 j ∧ posB firstB qs[k]! (sortB firstB (qs.take k)) j = posB firstB qs[k]! (sortB firstB (qs.take k)) k ∧ RowF wr g qs.length (rowF (sortB firstB (qs.take k)) qs qs[k]! j) ∧ Below B w wr ∧ g < wr.heap.size
set_option maxHeartbeats 4000000 in
set_option maxRecDepth 100000 in
theorem insertion_any (g cap B : Nat) (qs : List Ck) (w : World) (hl : qs.length ≤ 1000) (hB : B ≤ g) (hg : g < w.heap.size) (hR : RowF w g qs.length (fun t => qs[t]!)) : Calls Tryz.prog 271 #[.slice (some ⟨g, 0, none⟩) qs.length cap, .int .i64 0, .int .i64 qs.length, .func (.func 95) #[] #[]] w fun e w' => e = .returned (.tuple #[]) ∧ RowF w' g qs.length (fun t => (sortB firstB qs)[t]!) ∧ Below B w w' ∧ g < w'.heap.size := by
  have HR := Lib.hid hR
  clear hR
  go_enter Tryz.func271, Tryz.ntmps271
  go_wp2
  go_loopw [8] (fun i wr => InsRel w g B qs i wr) (fun i _ => qs.length + 1 - (intOf i).toNat)
  case atStart =>
    refine ⟨1, Nat.le_refl _, Or.inr rfl, rfl, HR.out.congr fun t ht => ?_, Below.refl _ _, hg⟩
    exact (outF_one firstB qs t (by omega)).symm
  case round =>
    obtain ⟨k, hk1, hk2, rfl, hrow, hb, hg2⟩ := hrel
    have HW := Lib.hid hrow
    have HB := Lib.hid hb
    clear hrow hb
    by_cases hlt : k < qs.length
    · have s1 : (k : Int) < qs.length := by omega
      go_wp2
      go_loopw [9] (fun i wr => InRel w g B qs k i wr) (fun i _ => (intOf i).toNat)
      case atStart => exact ⟨k, Nat.le_refl _, rfl, rfl, HW.out.congr fun t ht => (rowF_start firstB hlt t).symm, HB.out, hg2⟩
      case round =>
        clear HW HB hg2
        obtain ⟨j, hjk, rfl, hpos, hrow, hb, hg2⟩ := hrel
        have HP := Lib.hid hpos
        have HW := Lib.hid hrow
        have HB := Lib.hid hb
        clear hpos hrow hb
        have hs : (sortB firstB (qs.take k)).length = k := by rw [sortB_length, List.length_take]; omega
        by_cases h0 : 0 < j
        · obtain ⟨jp, rfl⟩ : ∃ jp, j = jp + 1 := ⟨j - 1, by omega⟩
          have ckx := HW.out.2 (jp + 1) (by omega)
          have cky := HW.out.2 jp (by omega)
          obtain ⟨x, hx⟩ : ∃ x, rowF (sortB firstB (qs.take k)) qs qs[k]! (jp + 1) (jp + 1) = x := ⟨_, rfl⟩
          obtain ⟨y, hy⟩ : ∃ y, rowF (sortB firstB (qs.take k)) qs qs[k]! (jp + 1) jp = y := ⟨_, rfl⟩
          rw [hx] at ckx
          rw [hy] at cky
          have hxk : Hid (x = qs[k]!) := Lib.hid (by rw [← hx]; unfold rowF; simp)
          have hyk : Hid (y = (sortB firstB (qs.take k))[jp]!) := Lib.hid (by rw [← hy]; unfold rowF; simp)
          have CX := Lib.hid ckx
          have CY := Lib.hid cky
          have HX := Lib.hid hx
          have HY := Lib.hid hy
          clear hx hy
          have hfl := send_lt x y
          have hN : Nonempty (BCl wr) := BCl.full wr
          obtain ⟨c0, c1, c2, c3, c4, c5, c6, c7, c8, c9, c10, c11⟩ := ckx
          obtain ⟨d0, d1, d2, d3, d4, d5, d6, d7, d8, d9, d10, d11⟩ := cky
          have q0x := BCl.cell c0
          have q1x := BCl.cell c1
          have q2x := BCl.cell c2
          have q3x := BCl.cell c3
          have q4x := BCl.cell c4
          have q5x := BCl.cell c5
          have q6x := BCl.cell c6
          have q7x := BCl.cell c7
          have q8x := BCl.cell c8
          have q9x := BCl.cell c9
          have q10x := BCl.cell c10
          have q11x := BCl.cell c11
          have r0x := BCl.cell d0
          have r1x := BCl.cell d1
          have r2x := BCl.cell d2
          have r3x := BCl.cell d3
          have r4x := BCl.cell d4
          have r5x := BCl.cell d5
          have r6x := BCl.cell d6
          have r7x := BCl.cell d7
          have r8x := BCl.cell d8
          have r9x := BCl.cell d9
          have r10x := BCl.cell d10
          have r11x := BCl.cell d11
          clear c0 c1 c2 c3 c4 c5 c6 c7 c8 c9 c10 c11 d0 d1 d2 d3 d4 d5 d6 d7 d8 d9 d10 d11
          have gj : (0 : Int) < (jp : Int) + 1 := by omega
          have gj2 : (jp : Int) + 1 < (qs.length : Int) := by omega
          have gj3 : (jp : Int) < (qs.length : Int) := by omega
          have hN2 := hN
          obtain ⟨si, hsi⟩ : ∃ si, sendI x y = si := ⟨_, rfl⟩
          rw [hsi] at hfl
          have HSI := Lib.hid hsi
          go_wp2_with fail
          refine wp_region_below (fun w' => ∃ i : BCl wr, w' = i.w) (by kernel_rfl) (by kernel_rfl) (BCl.start wr) ?_
          repeat (go_big_quiet_step (first
            | (go_at_call 95; rename_i i; with_reducible refine (sending_any x y i.w).mono ?_; rw [HSI.out]; intro e w' h; exact ⟨h.1, i.next h.2⟩)))
          refine wpQuiet_nil ?_
          intro _ hw'
          obtain ⟨i, rfl⟩ := hw'
          clear q0x r0x q1x r1x q2x r2x q3x r3x q4x r4x q5x r5x q6x r6x q7x r7x q8x r8x q9x r9x q10x r10x q11x r11x
          have HB2 := Lib.hid (HB.out.trans (i.below.mono (Nat.le_of_lt (Nat.lt_of_le_of_lt hB hg2))))
          have hg3 := Nat.lt_of_lt_of_le hg2 i.below.size
          have HW2 := Lib.hid (HW.out.below i.below hg2)
          have CX2 := Lib.hid (CX.out.below i.below hg2)
          have CY2 := Lib.hid (CY.out.below i.below hg2)
          obtain ⟨w2, hw2⟩ : ∃ w2, i.w = w2 := ⟨_, rfl⟩
          rw [hw2] at HB2 HW2 CX2 CY2 hg3 ⊢
          clear hw2 i
          have HQX := hxk
          have HQY := hyk
          have HC := Lib.hid (show firstB x y = firstB x y from rfl)
          cases hc : firstB x y with
          | true =>
            rw [hc] at hfl
            have HLT : Hid (firstB qs[k]! (sortB firstB (qs.take k))[jp]! = true) := Lib.hid (by rw [← hxk.out, ← hyk.out]; exact hc)
            obtain ⟨c0, c1, c2, c3, c4, c5, c6, c7, c8, c9, c10, c11⟩ := CX2.out
            obtain ⟨d0, d1, d2, d3, d4, d5, d6, d7, d8, d9, d10, d11⟩ := CY2.out
            have hfz := HW2.out.1
            have f0 : w2.frozen? ⟨g, (jp + 1) * 12, none⟩ = false := hfz ((jp + 1) * 12) (by omega)
            have g0 : w2.frozen? ⟨g, jp * 12, none⟩ = false := hfz (jp * 12) (by omega)
            have f1 : w2.frozen? ⟨g, (jp + 1) * 12 + 1, none⟩ = false := hfz ((jp + 1) * 12 + 1) (by omega)
            have g1 : w2.frozen? ⟨g, jp * 12 + 1, none⟩ = false := hfz (jp * 12 + 1) (by omega)
            have f2 : w2.frozen? ⟨g, (jp + 1) * 12 + 2, none⟩ = false := hfz ((jp + 1) * 12 + 2) (by omega)
            have g2 : w2.frozen? ⟨g, jp * 12 + 2, none⟩ = false := hfz (jp * 12 + 2) (by omega)
            have f3 : w2.frozen? ⟨g, (jp + 1) * 12 + 3, none⟩ = false := hfz ((jp + 1) * 12 + 3) (by omega)
            have g3 : w2.frozen? ⟨g, jp * 12 + 3, none⟩ = false := hfz (jp * 12 + 3) (by omega)
            have f4 : w2.frozen? ⟨g, (jp + 1) * 12 + 4, none⟩ = false := hfz ((jp + 1) * 12 + 4) (by omega)
            have g4 : w2.frozen? ⟨g, jp * 12 + 4, none⟩ = false := hfz (jp * 12 + 4) (by omega)
            have f5 : w2.frozen? ⟨g, (jp + 1) * 12 + 5, none⟩ = false := hfz ((jp + 1) * 12 + 5) (by omega)
            have g5 : w2.frozen? ⟨g, jp * 12 + 5, none⟩ = false := hfz (jp * 12 + 5) (by omega)
            have f6 : w2.frozen? ⟨g, (jp + 1) * 12 + 6, none⟩ = false := hfz ((jp + 1) * 12 + 6) (by omega)
            have g6 : w2.frozen? ⟨g, jp * 12 + 6, none⟩ = false := hfz (jp * 12 + 6) (by omega)
            have f7 : w2.frozen? ⟨g, (jp + 1) * 12 + 7, none⟩ = false := hfz ((jp + 1) * 12 + 7) (by omega)
            have g7 : w2.frozen? ⟨g, jp * 12 + 7, none⟩ = false := hfz (jp * 12 + 7) (by omega)
            have f8 : w2.frozen? ⟨g, (jp + 1) * 12 + 8, none⟩ = false := hfz ((jp + 1) * 12 + 8) (by omega)
            have g8 : w2.frozen? ⟨g, jp * 12 + 8, none⟩ = false := hfz (jp * 12 + 8) (by omega)
            have f9 : w2.frozen? ⟨g, (jp + 1) * 12 + 9, none⟩ = false := hfz ((jp + 1) * 12 + 9) (by omega)
            have g9 : w2.frozen? ⟨g, jp * 12 + 9, none⟩ = false := hfz (jp * 12 + 9) (by omega)
            have f10 : w2.frozen? ⟨g, (jp + 1) * 12 + 10, none⟩ = false := hfz ((jp + 1) * 12 + 10) (by omega)
            have g10 : w2.frozen? ⟨g, jp * 12 + 10, none⟩ = false := hfz (jp * 12 + 10) (by omega)
            have f11 : w2.frozen? ⟨g, (jp + 1) * 12 + 11, none⟩ = false := hfz ((jp + 1) * 12 + 11) (by omega)
            have g11 : w2.frozen? ⟨g, jp * 12 + 11, none⟩ = false := hfz (jp * 12 + 11) (by omega)
            clear hfz hc HC
            have gj4 : (0 : Int) ≤ (jp : Int) + 1 := by omega
            have hwp : IntKind.i64.wrap (jp : Int) = (jp : Int) := by rw [IntKind.wrap_i64]; omega
            go_wp2_with fail
            go_region
            all_goals go_wp2_with fail
            all_goals go_roundw
            case rel =>
              have h := HW2.out.swap (j := jp) (S := rowF (sortB firstB (qs.take k)) qs qs[k]! jp) (by omega) (fun t => rowF_swap _ _ _ (j := jp + 1) (by omega) (by rw [hs]; omega) t)
              rw [HX.out, HY.out] at h
              have hb := putCk_below (putCk_below HB2.out hB ((jp + 1) * 12) y) hB (jp * 12) x
              have hz : g < (putCk (putCk w2 g ((jp + 1) * 12) y) g (jp * 12) x).heap.size := by rw [putCk_size, putCk_size]; exact hg3
              unfold putCk at h hb hz
              exact ⟨jp, by omega, rfl, (posB_go firstB (j := jp + 1) (Nat.succ_pos _) HLT.out).symm.trans HP.out, h.drew, hb.drew, lt_drew hz⟩
            case measure => show (jp : Int).toNat < ((jp + 1 : Nat) : Int).toNat; omega
          | false =>
            rw [hc] at hfl
            have HLT : Hid (firstB qs[k]! (sortB firstB (qs.take k))[jp]! = false) := Lib.hid (by rw [← hxk.out, ← hyk.out]; exact hc)
            go_wp2_with fail
            go_roundw
            case rel =>
              have hp : posB firstB qs[k]! (sortB firstB (qs.take k)) k = jp + 1 := HP.out.symm.trans (posB_stop firstB (j := jp + 1) (Or.inr HLT.out))
              exact ⟨k + 1, by omega, Or.inl (by omega), by go_num, HW2.out.congr fun t _ => rowF_end firstB hlt hp t, HB2.out, hg3⟩
            case measure => show qs.length + 1 - ((k : Int) + 1).toNat < qs.length + 1 - (k : Int).toNat; omega
        · have hj0 : Hid (j = 0) := Lib.hid (by omega)
          have gz : ¬ (0 : Int) < (j : Int) := by omega
          have gz2 : decide ((j : Int) > 0) = false := decide_eq_false (by omega)
          have hN : Nonempty (BCl wr) := BCl.full wr
          go_wp2_with fail
          refine wp_region_below (fun w' => ∃ i : BCl wr, w' = i.w) (by kernel_rfl) (by kernel_rfl) (BCl.start wr) ?_
          repeat (go_big_quiet_step (first | fail))
          refine wpQuiet_nil ?_
          intro _ hw'
          obtain ⟨i, rfl⟩ := hw'
          have HB2 := Lib.hid (HB.out.trans (i.below.mono (Nat.le_of_lt (Nat.lt_of_le_of_lt hB hg2))))
          have hg3 := Nat.lt_of_lt_of_le hg2 i.below.size
          have HW2 := Lib.hid (HW.out.below i.below hg2)
          go_wp2_with fail
          go_roundw
          case rel =>
            have hp : posB firstB qs[k]! (sortB firstB (qs.take k)) k = 0 := HP.out.symm.trans (by rw [hj0.out]; rfl)
            have h := HW2.out
            rw [hj0.out] at h
            exact ⟨k + 1, by omega, Or.inl (by omega), by go_num, h.congr fun t _ => rowF_end firstB hlt hp t, HB2.out, hg3⟩
          case measure => show qs.length + 1 - ((k : Int) + 1).toNat < qs.length + 1 - (k : Int).toNat; omega
    · have s1 : ¬ (k : Int) < qs.length := by omega
      go_wp2
      go_end0
      refine ⟨rfl, HW.out.congr fun t ht => ?_, HB.out, hg2⟩
      have hkn : k = qs.length := by omega
      rw [hkn]
      rw [outF_all firstB qs t ht]
      simp
end Go.Proofs.YtpdonghdnaehhaaGreatDoor
