/- HeapPush of the program. No condition of its own. -/
import Derived.Test.YteaapglkomlnhaaHpPushI
namespace Go.Proofs.Yteaapglkomlnhaa
open Go.ChangeShapes Go.WideShapes Go.ChangeAt Go.WideMaps Go.WideElems Go.RowKit

set_option maxRecDepth 100000 in
set_option maxHeartbeats 1000000 in
theorem implPush_any (v : Value) (qs : List Sl) (x : Sl) (A B : Nat) (z : Bool) (w : World) (hl : qs.length ≤ 1048576) (hBw : B ≤ w.heap.size) (hv : SlsIn w A B z v qs) : Calls Try.prog 17 #[v, .agg #[.int .i64 x.k, .int .i64 x.i]] w (ResSl w (pusL qs x) (pusC qs x)) := by
  obtain ⟨w0, hw0⟩ : ∃ w0, w.alloc (.cells #[.int .i64 x.k, .int .i64 x.i] 33) = w0 := ⟨_, rfl⟩
  have hb0 : Below w.heap.size w w0 := by
    rw [← hw0]
    exact (Below.refl _ _).alloc (Nat.le_refl _) _
  have hK0 : BlkSl w0 w.heap.size x := by
    rw [← hw0]
    exact BlkSl.new w x _ rfl
  have HV := Lib.hid (hv.below hb0 hBw)
  have HB0 := Lib.hid hb0
  have HK0 := Lib.hid hK0
  have hB0 : B ≤ w0.heap.size := Nat.le_trans hBw hb0.size
  have hw00 : w.heap.size ≤ w0.heap.size := hb0.size
  obtain ⟨a, cap, rfl, _⟩ := hv
  by_cases hc : codeS qs = 0
  · have HC := Lib.hid hc
    have hl16 := (codeS_short hc).1
    have e0 : ((0 : Int) != 0) = false := by decide
    clear hc hb0 hK0
    go_enter Try.func17, Try.ntmps17
    go_wp2_with fail
    refine (cloneHeap_any _ qs A B z _ hl hB0 HV.out).mono ?_
    rintro e w1 ⟨hb, ⟨hne, _⟩ | ⟨_, g, rfl, ho⟩⟩
    · exact absurd HC.out hne
    obtain ⟨w2, hw2⟩ : ∃ w2, w1.alloc (.cells #[.slice (some ⟨g, 0, none⟩) qs.length qs.length] 57) = w2 := ⟨_, rfl⟩
    have hb12 : Below w1.heap.size w1 w2 := by
      rw [← hw2]
      exact (Below.refl _ _).alloc (Nat.le_refl _) _
    have HB1 := Lib.hid (HB0.out.trans (hb.mono hw00))
    have HB2 := Lib.hid (HB1.out.trans (hb12.mono HB1.out.size))
    have hO2 : OwnSl w2 w0.heap.size g qs.length qs := ho.block (hb12.block g ho.row.2.2.2.1)
    have HO2 := Lib.hid hO2
    have hX2 : Boxed w2 w1.heap.size 57 (.slice (some ⟨g, 0, none⟩) qs.length qs.length) := by
      rw [← hw2]
      exact Boxed.new w1 _ _
    have HX2 := Lib.hid hX2
    have hK2 := (HK0.out.below hb).below hb12
    have HK2 := Lib.hid hK2
    have hz12 : w1.heap.size < w2.heap.size := by rw [← hw2]; simp
    have hgw := ho.row.1
    have hgl := ho.row.2.2.2.1
    have hw1 := hb.size
    have HS2 : Hid (SlsIn w2 g (w1.heap.size + 1) true (.slice (some ⟨g, 0, none⟩) qs.length qs.length) qs) := Lib.hid (by
      obtain ⟨r1, r2, r3, r4⟩ := hO2.row
      exact r4.in (Nat.le_refl _) (by omega) r2 r3)
    have b1 := hX2.cell
    have b2 := hX2.frozen
    obtain ⟨k0, k1, _, _⟩ := hK2.cells
    clear hb hb12 ho hO2 hX2 hK2
    go_wp2_with fail
    refine (noSlot_any x w2).mono ?_
    rintro e w3 ⟨rfl, hb⟩
    have HB3 := Lib.hid (HB2.out.trans (hb.mono HB2.out.size))
    have hX3 : Boxed w3 w1.heap.size 57 (.slice (some ⟨g, 0, none⟩) qs.length qs.length) := (hb.block _ hz12).trans HX2.out
    have HX3 := Lib.hid hX3
    have hK3 := HK2.out.below hb
    have HK3 := Lib.hid hK3
    have HO3 := Lib.hid (HO2.out.block (hb.block g HO2.out.row.2.2.2.1))
    have HS3 := Lib.hid (HS2.out.below hb (by omega))
    have hz23 := hb.size
    have b3 := hX3.cell
    have b4 := hX3.frozen
    obtain ⟨k2, k3, _, _⟩ := hK3.cells
    clear hb hX3 hK3 b1 b2 k0 k1
    cases hs : slotB x with
    | false =>
      have HR := Lib.hid (pus_bad HC.out hs)
      clear hs
      go_wp2_with fail
      refine bodyPost_ret (v := .tuple #[.slice none 0 0, .int .i64 1]) (by simp [results, Try.results17, go_sem]) rfl ?_
      rw [HR.out.2]
      exact res_err w _ 1 HB3.out _ HR.out.1
    | true =>
      have HSL := Lib.hid hs
      clear hs
      go_wp2_with fail
      refine (findSlot_any _ qs g (w1.heap.size + 1) true x.i w3 hl (by omega) HS3.out).mono ?_
      rintro e w4 ⟨rfl, hb⟩
      have HB4 := Lib.hid (HB3.out.trans (hb.mono HB3.out.size))
      have hX4 : Boxed w4 w1.heap.size 57 (.slice (some ⟨g, 0, none⟩) qs.length qs.length) := (hb.block _ (by omega)).trans HX3.out
      have HX4 := Lib.hid hX4
      have hK4 := HK3.out.below hb
      have HK4 := Lib.hid hK4
      have HO4 := Lib.hid (HO3.out.block (hb.block g HO3.out.row.2.2.2.1))
      have hz34 := hb.size
      have b5 := hX4.cell
      have b6 := hX4.frozen
      obtain ⟨k4, k5, _, _⟩ := hK4.cells
      clear hb hX4 hK4 b3 b4 k2 k3
      rcases atS_range qs x.i with hat | ⟨j, hj, hat⟩
      · have HAT := Lib.hid hat
        rw [hat]
        clear hat
        by_cases h16 : qs.length = 16
        · have HR := Lib.hid (pus_full HC.out HSL.out HAT.out h16)
          have e16 : ((qs.length : Int) == 16) = true := by simp [h16]
          clear h16
          go_wp2_with fail
          refine bodyPost_ret (v := .tuple #[.slice (some ⟨g, 0, none⟩) qs.length qs.length, .int .i64 7]) (by simp [results, Try.results17, go_sem]) rfl ?_
          rw [HR.out.1, HR.out.2]
          obtain ⟨r1, r2, r3, r4⟩ := HO4.out.row
          exact ⟨_, rfl, r4.in (Nat.le_trans hw00 r1) r4.1 r2 r3, HB4.out⟩
        · have HR := Lib.hid (pus_ok HC.out HSL.out HAT.out h16)
          have e16 : ((qs.length : Int) == 16) = false := by
            rw [beq_eq_false_iff_ne]
            omega
          have HPU := Lib.hid (implPush8_any g w1.heap.size qs.length qs.length w0.heap.size qs x w4 rfl (by omega) HO4.out HX4.out (by omega) hw1 (by omega))
          clear h16
          go_wp2_with fail
          refine HPU.out.mono ?_
          rintro e w5 ⟨rfl, ⟨g', cap', hp, hc1, hc2, hg', hr⟩, hb⟩
          have HB5 := Lib.hid (HB4.out.trans (hb.mono hw00))
          have HR5 := Lib.hid hr
          obtain ⟨_, b7, b8⟩ := hp
          have HL5 : Hid ((pushL qs x).length = qs.length + 1) := Lib.hid (pushL_length qs x)
          clear hr hb b5 b6 k4 k5
          go_wp2_with fail
          refine bodyPost_ret (v := .tuple #[.slice (some ⟨g', 0, none⟩) (qs.length + 1) cap', .int .i64 0]) (by simp [results, Try.results17, go_sem]) rfl ?_
          rw [HR.out.1, HR.out.2]
          refine ⟨_, rfl, ?_, HB5.out⟩
          have := HR5.out.in (A := w.heap.size) (B := w5.heap.size) (cap := cap') (by omega) HR5.out.1 (by rw [HL5.out]; exact hc1) hc2
          rw [HL5.out] at this
          exact this
      · have HR := Lib.hid (pus_same HC.out HSL.out hat)
        rw [hat]
        have s3 : (0 : Int) ≤ (j : Int) := by omega
        clear hat
        go_wp2_with fail
        refine bodyPost_ret (v := .tuple #[.slice (some ⟨g, 0, none⟩) qs.length qs.length, .int .i64 18]) (by simp [results, Try.results17, go_sem]) rfl ?_
        rw [HR.out.1, HR.out.2]
        obtain ⟨r1, r2, r3, r4⟩ := HO4.out.row
        exact ⟨_, rfl, r4.in (Nat.le_trans hw00 r1) r4.1 r2 r3, HB4.out⟩
  · have HR := Lib.hid (pus_err (x := x) hc)
    have hne : (codeS qs != 0) = true := by simpa using hc
    have HC := Lib.hid hc
    obtain ⟨c, hcc⟩ : ∃ c, codeS qs = c := ⟨_, rfl⟩
    rw [hcc] at HR hne HC
    have HCC := Lib.hid hcc
    clear hc hcc hb0 hK0
    go_enter Try.func17, Try.ntmps17
    go_wp2_with fail
    refine (cloneHeap_any _ qs A B z _ hl hB0 HV.out).mono ?_
    unfold ClonePost
    rw [HCC.out]
    rintro e w1 ⟨hb, ⟨_, rfl⟩ | ⟨h0, _⟩⟩
    · have HB1 := Lib.hid (HB0.out.trans (hb.mono hw00))
      clear hb
      go_wp2_with fail
      refine bodyPost_ret (v := .tuple #[.slice none 0 0, .int .i64 c]) (by simp [results, Try.results17, go_sem]) rfl ?_
      rw [HR.out.2]
      exact res_err w _ c (HB1.out.alloc HB1.out.size _) _ HR.out.1
    · exact absurd h0 HC.out
end Go.Proofs.Yteaapglkomlnhaa
