/- A slot that sinks, in the program. No condition of its own. -/
import Derived.Test.YteaapglkomlnhaaHpFam
import Derived.Test.YteaapglkomlnhaaHpUpI
import Derived.BigRegion
namespace Go.Proofs.Yteaapglkomlnhaa
open Go.ChangeShapes Go.WideShapes Go.ChangeAt Go.WideMaps Go.WideElems Go.RowKit

def DnIRel (w : World) (g n : Nat) (qs : List Sl) (i : Nat) (v f : Value) (wr : World) : Prop :=
  ∃ (j k : Nat) (rs : List Sl), v = .int .i64 j ∧ f = .int .i64 k ∧ famL rs j = k ∧ j < n ∧ rs.length = n ∧ downL rs j = downL qs i ∧ RowSl wr g rs ∧ ButB g w wr
set_option maxHeartbeats 4000000 in
set_option maxRecDepth 100000 in
theorem implDown_any (g cap i n : Nat) (qs : List Sl) (w : World) (hn : qs.length = n) (hl : n ≤ 1048576) (hi : i < n) (hr : RowSl w g qs) : Calls Try.prog 68 #[.slice (some ⟨g, 0, none⟩) n cap, .int .i64 i] w fun e w' => e = .returned (.tuple #[]) ∧ RowSl w' g (downL qs i) ∧ ButB g w w' := by
  have HR := Lib.hid hr
  have HN := Lib.hid hn
  clear hr hn
  go_enter Try.func68, Try.ntmps68
  go_wp2_with fail
  refine (fam_any g cap i n qs _ HN.out hl hi HR.out).mono ?_
  rintro e w1 ⟨rfl, hb⟩
  have HR1 := Lib.hid (HR.out.below hb)
  have HB1 := Lib.hid (ButB.of_below (g := g) hb)
  clear hb
  go_wp2_with fail
  go_loopw [1, 4] (fun v f wr => DnIRel w g n qs i v f wr) (fun v _ _ => n - (intOf v).toNat)
  case atStart => exact ⟨i, _, qs, rfl, rfl, rfl, hi, HN.out, rfl, HR1.out, HB1.out⟩
  case round =>
    clear HR1 HB1
    obtain ⟨j, k, rs, rfl, rfl, hfam, hjn, hrn, hup, hr, hb⟩ := hrel
    have HR2 := Lib.hid hr
    have HB := Lib.hid hb
    have HU := Lib.hid hup
    have HL := Lib.hid hrn
    have HF := Lib.hid hfam
    have hkin := famL_in rs j
    rw [hfam, hrn] at hkin
    clear hr hb hup hrn hfam
    by_cases hkj : k = j
    · have ne : ((k : Int) != (j : Int)) = false := by simp [hkj]
      have HST : Hid (downL qs i = rs) := Lib.hid (by
        rw [← HU.out]
        exact downL_stop (by rw [HF.out, hkj]))
      clear hkin hkj
      go_wp2_with fail
      go_end0
      rw [HST.out]
      exact ⟨rfl, HR2.out, HB.out⟩
    · have hjk : j < k := by omega
      have hkn : k < n := by omega
      have ne : ((k : Int) != (j : Int)) = true := by
        simp
        omega
      have HGO : Hid (downL rs j = downL (swS rs j k) k) := Lib.hid (downL_go HF.out (by omega))
      obtain ⟨q, hq⟩ : ∃ q, rs[j]! = q := ⟨_, rfl⟩
      obtain ⟨p, hp⟩ : ∃ p, rs[k]! = p := ⟨_, rfl⟩
      have HS := HR2.out.sw (i := j) (k := k) (by rw [HL.out]; exact hjn) (by rw [HL.out]; exact hkn)
      rw [hq, hp] at HS
      obtain ⟨c0, c1, f0, f1⟩ := HR2.out.cells (t := j) (by rw [HL.out]; exact hjn)
      obtain ⟨d0, d1, g0, g1⟩ := HR2.out.cells (t := k) (by rw [HL.out]; exact hkn)
      rw [hq] at c0 c1
      rw [hp] at d0 d1
      have HR4 := Lib.hid HS.drew
      have HB4 := Lib.hid ((HB.out.put (j * 2) p).put (k * 2) q).drew
      clear HS hq hp hkin hkj
      have n1 : j * 2 ≠ k * 2 := by omega
      have n2 : j * 2 ≠ k * 2 + 1 := by omega
      have n3 : j * 2 + 1 ≠ k * 2 := by omega
      have n4 : j * 2 + 1 ≠ k * 2 + 1 := by omega
      have s0 : (0 : Int) ≤ (j : Int) := by omega
      have s1 : (j : Int) < n := by omega
      have t0 : (0 : Int) ≤ (k : Int) := by omega
      have t1 : (k : Int) < n := by omega
      have gp2 : (j : Int) ≠ (k : Int) := by omega
      have HLS : Hid ((swS rs j k).length = n) := Lib.hid (by rw [swS_length]; exact HL.out)
      go_wp2_with fail
      go_region
      all_goals go_wp2_with fail
      all_goals
        refine (fam_any g cap k n (swS rs j k) _ HLS.out hl hkn HR4.out).mono ?_
        rintro e w5 ⟨rfl, hb⟩
        have HR5 := Lib.hid (HR4.out.below hb)
        have HB5 := Lib.hid (HB4.out.trans (ButB.of_below (g := g) hb))
        clear hb
        go_wp2_with fail
        go_roundw
      all_goals first
        | exact ⟨k, _, swS rs j k, rfl, rfl, rfl, hkn, HLS.out, HGO.out.symm.trans HU.out, HR5.out, HB5.out⟩
        | (simp [intOf]; omega)
end Go.Proofs.Yteaapglkomlnhaa
