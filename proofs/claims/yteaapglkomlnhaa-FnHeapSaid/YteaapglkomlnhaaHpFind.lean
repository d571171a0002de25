/- Where a number stands in a heap; a heap's copy or its first error: in the program. No condition of its own. -/
import Derived.Test.YteaapglkomlnhaaHpClone
import Derived.Test.YteaapglkomlnhaaHpOK
namespace Go.Proofs.Yteaapglkomlnhaa
open Go.ChangeShapes Go.WideShapes Go.ChangeAt Go.WideMaps Go.WideElems Go.RowKit

theorem find1_any (q : Sl) (id : Int) (P : Nat) (w : World) (hp : w.cell? ⟨P, 0, none⟩ = some (.int .i64 id)) : Calls Try.prog 65 #[.agg #[.int .i64 q.k, .int .i64 q.i], .pointer (some ⟨P, 0, none⟩)] w fun e w' => e = .returned (.bool (q.i == id)) ∧ Below w.heap.size w w' := by
  have hc := cell_kept ((Below.refl w.heap.size w).alloc (Nat.le_refl _) (.cells #[.int .i64 q.k, .int .i64 q.i] 33)) hp
  clear hp
  go_enter Try.func65, Try.ntmps65
  go_wp2_with fail
  go_ret
  exact ⟨rfl, (Below.refl _ _).alloc (Nat.le_refl _) _⟩
set_option maxRecDepth 100000 in
theorem indexId_any (v : Value) (qs : List Sl) (A B : Nat) (z : Bool) (id : Int) (P : Nat) (w : World) (hl : qs.length ≤ 1048576) (hBw : B ≤ w.heap.size) (hv : SlsIn w A B z v qs) (hp : w.cell? ⟨P, 0, none⟩ = some (.int .i64 id)) : Calls Try.prog 55 #[v, .func (.func 65) #[] #[.pointer (some ⟨P, 0, none⟩)]] w fun e w' => e = .returned (.int .i64 (atS qs id)) ∧ Below w.heap.size w w' := by
  obtain ⟨a, cap, rfl, _, _, hx⟩ := hv
  have HX := Lib.hid hx
  have HP := Lib.hid hp
  clear hx hp
  go_enter Try.func55, Try.ntmps55
  go_wp2
  go_loopw [8] (fun i wr => ∃ k : Nat, k ≤ qs.length ∧ i = .int .i64 k ∧ Below w.heap.size w wr ∧ ∀ m, m < k → qs[m]!.i ≠ id) (fun i _ => qs.length - (intOf i).toNat)
  case atStart => exact ⟨0, Nat.zero_le _, rfl, Below.refl _ _, fun m h => by omega⟩
  case round =>
    obtain ⟨k, hk, rfl, hbel, hb⟩ := hrel
    have HB := Lib.hid hb
    have HBL := Lib.hid hbel
    clear hb hbel
    by_cases hlt : k < qs.length
    · obtain ⟨g, off, rfl, _, hg, hcl⟩ := HX.out (by omega)
      obtain ⟨q, hq⟩ : ∃ q, qs[k] = q := ⟨_, rfl⟩
      have h1 := (hcl k hlt).1.below HBL.out (by omega)
      rw [hq] at h1
      obtain ⟨c0, c1⟩ := h1
      have HQ : Hid (qs[k]! = q) := Lib.hid (by rw [getElem!_pos qs k hlt]; exact hq)
      have HP1 := Lib.hid (cell_kept HBL.out HP.out)
      have s1 : (k : Int) < qs.length := by omega
      clear hcl hq
      go_wp2_with fail
      refine (find1_any q id P _ HP1.out).mono ?_
      rintro e w1 ⟨rfl, hb1⟩
      have HB1 := Lib.hid (HBL.out.trans (hb1.mono HBL.out.size))
      clear hb1 c0 c1
      cases he : (q.i == id) with
      | true =>
        have HE : Hid (atS qs id = k) := Lib.hid (atS_some hlt (by rw [HQ.out]; simpa using he) HB.out)
        clear he
        go_wp2_with fail
        go_ret
        exact ⟨by rw [HE.out]; rfl, HB1.out⟩
      | false =>
        have HN : Hid (q.i ≠ id) := Lib.hid (by simpa using he)
        clear he
        go_wp2_with fail
        go_roundw
        case rel =>
          refine ⟨k + 1, by omega, by go_num, HB1.out, fun m hm => ?_⟩
          by_cases e : m = k
          · rw [e, HQ.out]
            exact HN.out
          · exact HB.out m (by omega)
        case measure => simp [intOf]; omega
    · obtain rfl : k = qs.length := by omega
      have HE : Hid (atS qs id = -1) := Lib.hid (atS_none HB.out)
      go_wp2_with fail
      go_ret
      exact ⟨by rw [HE.out]; rfl, HBL.out⟩
theorem findSlot_any (v : Value) (qs : List Sl) (A B : Nat) (z : Bool) (id : Int) (w : World) (hl : qs.length ≤ 1048576) (hBw : B ≤ w.heap.size) (hv : SlsIn w A B z v qs) : Calls Try.prog 46 #[v, .int .i64 id] w fun e w' => e = .returned (.int .i64 (atS qs id)) ∧ Below w.heap.size w w' := by
  have hb0 : Below w.heap.size w (w.alloc (.cells #[.int .i64 id] 3)) := (Below.refl _ _).alloc (Nat.le_refl _) _
  have HB0 := Lib.hid hb0
  have HV := Lib.hid (hv.below hb0 hBw)
  have HC := Lib.hid (Boxed.new w 3 (.int .i64 id)).cell
  obtain ⟨a, cap, rfl, _⟩ := hv
  clear hb0
  go_enter Try.func46, Try.ntmps46
  go_wp2_with fail
  refine (indexId_any _ qs A B z id w.heap.size _ hl (Nat.le_trans hBw HB0.out.size) HV.out HC.out).mono ?_
  rintro e w1 ⟨rfl, hb⟩
  have HB1 := Lib.hid (HB0.out.trans (hb.mono HB0.out.size))
  clear hb
  go_wp2_with fail
  go_ret
  exact ⟨rfl, HB1.out⟩
/-- A heap's first error. -/
def codeS (qs : List Sl) : Int := if 4096 < qs.length then 2 else if hpB qs = true then 0 else 1
theorem codeS_cases (qs : List Sl) : (4096 < qs.length ∧ codeS qs = 2) ∨ (qs.length ≤ 4096 ∧ hpB qs = false ∧ codeS qs = 1) ∨ (hpB qs = true ∧ qs.length ≤ 16 ∧ codeS qs = 0) := by
  unfold codeS
  by_cases h : 4096 < qs.length
  · exact Or.inl ⟨h, if_pos h⟩
  · rw [if_neg h]
    cases hb : hpB qs with
    | false => exact Or.inr (Or.inl ⟨by omega, rfl, by simp⟩)
    | true => exact Or.inr (Or.inr ⟨rfl, (hpB_iff.1 hb).1, by simp⟩)
def ClonePost (w : World) (qs : List Sl) (e : Ending) (w' : World) : Prop := Below w.heap.size w w' ∧ ((codeS qs ≠ 0 ∧ e = .returned (.tuple #[.slice none 0 0, .int .i64 (codeS qs)])) ∨ (codeS qs = 0 ∧ ∃ g, e = .returned (.tuple #[.slice (some ⟨g, 0, none⟩) qs.length qs.length, .int .i64 0]) ∧ OwnSl w' w.heap.size g qs.length qs))
set_option maxRecDepth 100000 in
theorem cloneHeap_any (v : Value) (qs : List Sl) (A B : Nat) (z : Bool) (w : World) (hl : qs.length ≤ 1048576) (hBw : B ≤ w.heap.size) (hv : SlsIn w A B z v qs) : Calls Try.prog 45 #[v] w (ClonePost w qs) := by
  have HV := Lib.hid hv
  obtain ⟨a, cap, rfl, _⟩ := hv
  rcases codeS_cases qs with ⟨h1, h2⟩ | ⟨h1, hb, h2⟩ | ⟨hb, h1, h2⟩
  · have HC := Lib.hid h2
    have s1 : (qs.length : Int) > 4096 := by omega
    clear h2
    go_enter Try.func45, Try.ntmps45
    go_wp2_with fail
    refine bodyPost_ret (v := .tuple #[.slice none 0 0, .int .i64 2]) (by simp [results, Try.results45, go_sem]) rfl ?_
    exact ⟨Below.refl _ _, Or.inl ⟨by rw [HC.out]; decide, by rw [HC.out]⟩⟩
  · have HC := Lib.hid h2
    have HH := Lib.hid hb
    have s1 : ¬ (qs.length : Int) > 4096 := by omega
    clear h2 hb
    go_enter Try.func45, Try.ntmps45
    go_wp2_with fail
    refine (implHeapOK_any _ qs A B z _ hl hBw HV.out).mono ?_
    rw [HH.out]
    rintro e w1 ⟨rfl, hb⟩
    have HB1 := Lib.hid hb
    clear hb
    go_wp2_with fail
    refine bodyPost_ret (v := .tuple #[.slice none 0 0, .int .i64 1]) (by simp [results, Try.results45, go_sem]) rfl ?_
    exact ⟨HB1.out, Or.inl ⟨by rw [HC.out]; decide, by rw [HC.out]⟩⟩
  · have HC := Lib.hid h2
    have HH := Lib.hid hb
    have s1 : ¬ (qs.length : Int) > 4096 := by omega
    clear h2 hb
    go_enter Try.func45, Try.ntmps45
    go_wp2_with fail
    refine (implHeapOK_any _ qs A B z _ hl hBw HV.out).mono ?_
    rw [HH.out]
    rintro e w1 ⟨rfl, hb⟩
    have HB1 := Lib.hid hb
    clear hb
    go_wp2_with fail
    refine (clone_any _ qs A B z w1 hl (Nat.le_trans hBw HB1.out.size) (HV.out.below HB1.out hBw)).mono ?_
    rintro e w2 ⟨g, rfl, ho, hb⟩
    have HB2 := Lib.hid (HB1.out.trans (hb.mono HB1.out.size))
    have HO : Hid (OwnSl w2 w.heap.size g qs.length qs) := Lib.hid (by
      obtain ⟨e1, e2 | ⟨g', cap', cur, e3, e4, e5⟩⟩ := ho
      · cases e2.1
      · exact ⟨e1, .inr ⟨g', cap', cur, e3, Nat.le_trans HB1.out.size e4, e5⟩⟩)
    clear hb ho
    go_wp2_with fail
    refine bodyPost_ret (v := .tuple #[.slice (some ⟨g, 0, none⟩) qs.length qs.length, .int .i64 0]) (by simp [results, Try.results45, go_sem]) rfl ?_
    exact ⟨HB2.out, Or.inr ⟨HC.out, g, rfl, HO.out⟩⟩
end Go.Proofs.Yteaapglkomlnhaa
