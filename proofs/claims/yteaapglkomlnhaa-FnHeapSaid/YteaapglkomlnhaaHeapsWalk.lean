/- FnHeap: the walk of the law over a drawn heap. No condition of its own. -/
import Derived.Test.YteaapglkomlnhaaHpSays
import Derived.Test.YteaapglkomlnhaaHpFacts
import Derived.Test.YteaapglkomlnhaaHpDraw
import Derived.Test.YteaapglkomlnhaaAtSame
import Derived.Test.YteaapglkomlnhaaHpUntilI
import Derived.Test.YteaapglkomlnhaaHpPushJ
import Derived.Test.YteaapglkomlnhaaHpSortWalk
namespace Go.Proofs.Yteaapglkomlnhaa
open Go.ChangeShapes Go.WideShapes Go.ChangeAt Go.WideMaps Go.WideElems Go.RowKit

def FhRel (W : World) (hv iv : Value) (wr : World) : Prop :=
  ∃ (k : Nat) (qs : List Sl) (A B : Nat), iv = .int .i64 (k : Int) ∧ k ≤ 5 ∧ qs.length ≤ 16 ∧ (0 < k → HpF qs) ∧ SlsIn wr A B true hv qs ∧ B ≤ wr.heap.size ∧ Below W.heap.size W wr
set_option maxRecDepth 100000 in
set_option maxHeartbeats 4000000 in
theorem walk_FnHeap (W : World) (a0 : Option Addr) (len0 cap0 : Nat) (hm0 : len0 ≤ cap0 ∧ cap0 ≤ maxLen ∧ (a0 = none → cap0 = 0)) (hc0 : len0 ≤ 4611686018427387904 → CodeIn W (.slice a0 len0 cap0) len0) (a1 : Option Addr) (len1 cap1 : Nat) (hm1 : len1 ≤ cap1 ∧ cap1 ≤ maxLen ∧ (a1 = none → cap1 = 0)) (hc1 : len1 ≤ 4611686018427387904 → CodeIn W (.slice a1 len1 cap1) len1)
    (_ : laidMetH Try.prog Rows.fnHeapRow.laid W) (_ : W.ShapedOpen Try.prog) :
    Calls Try.prog 9 #[.slice a0 len0 cap0, .slice a1 len1 cap1] W fun e w' => e = .returned (.bool true) ∧ Below W.heap.size W w' := by
  unfold maxLen at hm0 hm1
  obtain ⟨hm0, hk0, _⟩ := hm0
  obtain ⟨hm1, hk1, _⟩ := hm1
  by_cases h0 : 1048576 < len0
  · clear hc0 hc1
    go_enter Try.func9, Try.ntmps9
    go_wp2
    go_ret
    exact ⟨rfl, Below.refl _ _⟩
  by_cases h1 : 1048576 < len1
  · clear hc0 hc1
    go_enter Try.func9, Try.ntmps9
    go_wp2
    go_ret
    exact ⟨rfl, Below.refl _ _⟩
  have C0 := Lib.hid (hc0 (by omega))
  have C1 := Lib.hid (hc1 (by omega))
  clear hc0 hc1
  have HAT : Hid (∀ i n : Nat, 2 ≤ n → n ≤ 1000000 → i ≤ 1000000 → ∃ r : Nat, r < n ∧ ∀ w, Below W.heap.size W w → Calls Try.prog 33 #[.slice a1 len1 cap1, .int .i64 (i : Int), .int .i64 (n : Int)] w fun e w' => e = .returned (.int .i64 (r : Int)) ∧ Below w.heap.size w w') := Lib.hid fun i n x1 x2 x3 => at_same _ _ i n W x1 x2 x3 C1.out
  go_enter Try.func9, Try.ntmps9
  go_wp2_with fail
  refine (heapDrawn_any _ _ _ C0.out).mono ?_
  rintro e w1 ⟨hv, qs, A, B, rfl, hq, hs, hA, hB, hb⟩
  have HH1 := Lib.hid hs
  have HB1 := Lib.hid hb
  clear hs hb
  go_wp2_with fail
  go_loopw [5, 6] (fun hv iv wr => FhRel W hv iv wr) (fun _ iv _ => 10 - (intOf iv).toNat)
  case atStart => exact ⟨0, qs, A, B, rfl, by omega, by omega, fun h => by omega, HH1.out, hB, HB1.out⟩
  case round =>
    clear HH1 HB1 hB hA hq
    obtain ⟨k, qs, A, B, rfl, hk, hq, hf, hs, hB, hb⟩ := hrel
    have HH := Lib.hid hs
    have HB := Lib.hid hb
    have HF := Lib.hid hf
    have yr := hb.size
    obtain ⟨a, cap, rfl, _⟩ := id hs
    clear hs hb hf
    by_cases h5 : k < 5
    · skip
      have sk : (k : Int) < 5 := by omega
      obtain ⟨r, hr, hat⟩ := HAT.out k 15 (by omega) (by omega) (by omega)
      obtain ⟨r2, hr2, hat2⟩ := HAT.out (k + 1) 12 (by omega) (by omega) (by omega)
      have HA := Lib.hid hat
      have HA2 := Lib.hid hat2
      clear hat hat2
      have s1 : IntKind.i64.wrap (50 + (k : Int)) = 50 + (k : Int) := IntWalk.i64_in _ (by omega)
      have s2 : IntKind.i64.wrap ((k : Int) + 1) = (k : Int) + 1 := IntWalk.i64_in _ (by omega)
      have s3 : IntKind.i64.wrap (1 + (r2 : Int)) = 1 + (r2 : Int) := IntWalk.i64_in _ (by omega)
      obtain ⟨ps, hps⟩ : ∃ ps, pusL qs ⟨(r : Int), 50 + (k : Int)⟩ = ps := ⟨_, rfl⟩
      obtain ⟨pc, hpc⟩ : ∃ pc, pusC qs ⟨(r : Int), 50 + (k : Int)⟩ = pc := ⟨_, rfl⟩
      have HPF : Hid (HpF ps) := Lib.hid (hps ▸ pus_F _ _)
      have HSP : Hid (∀ (w : World) (A B : Nat) (u : Value), B ≤ w.heap.size → SlsIn w A B true u qs → Calls Try.prog 15 #[u, .agg #[.int .i64 (r : Int), .int .i64 (50 + (k : Int))]] w (ResSl w ps pc)) := Lib.hid fun w A B u hB h => by
        have := specPush_any u qs ⟨(r : Int), 50 + (k : Int)⟩ A B true w (by omega) hB h
        rw [hps, hpc] at this
        exact this
      have HIP : Hid (∀ (w : World) (A B : Nat) (u : Value), B ≤ w.heap.size → SlsIn w A B true u qs → Calls Try.prog 17 #[u, .agg #[.int .i64 (r : Int), .int .i64 (50 + (k : Int))]] w (ResSl w ps pc)) := Lib.hid fun w A B u hB h => by
        have := implPush_any u qs ⟨(r : Int), 50 + (k : Int)⟩ A B true w (by omega) hB h
        rw [hps, hpc] at this
        exact this
      have hpl : ps.length ≤ 1048576 := by have := HPF.out.1; omega
      obtain ⟨ds, hds⟩ : ∃ ds, remL ps (1 + (r2 : Int)) = ds := ⟨_, rfl⟩
      obtain ⟨dc, hdc⟩ : ∃ dc, remC ps (1 + (r2 : Int)) = dc := ⟨_, rfl⟩
      have HDF : Hid (HpF ds) := Lib.hid (hds ▸ rem_F _ _)
      have HSR : Hid (∀ (w : World) (A B : Nat) (u : Value), B ≤ w.heap.size → SlsIn w A B true u ps → Calls Try.prog 23 #[u, .int .i64 (1 + (r2 : Int))] w (ResSl w ds dc)) := Lib.hid fun w A B u hB h => by
        have := specRemove_any u ps A B true (1 + (r2 : Int)) w hpl hB h
        rw [hds, hdc] at this
        exact this
      have HIR : Hid (∀ (w : World) (A B : Nat) (u : Value), B ≤ w.heap.size → SlsIn w A B true u ps → Calls Try.prog 24 #[u, .int .i64 (1 + (r2 : Int))] w (ResSl w ds dc)) := Lib.hid fun w A B u hB h => by
        have := implRemove_any u ps A B true (1 + (r2 : Int)) w hpl hB h
        rw [hds, hdc] at this
        exact this
      have HDL : Hid (dc = 0 → ds.length + 1 = ps.length) := Lib.hid (by
        rw [← hds, ← hdc]
        exact rem_len)
      have hdl : ds.length ≤ 1048576 := by have := HDF.out.1; omega
      have HOP : Hid (∀ (w : World) (A B : Nat) (u : Value), B ≤ w.heap.size → SlsIn w A B true u ps → Calls Try.prog 13 #[u] w fun e w' => e = .returned (.bool true) ∧ Below w.heap.size w w') := Lib.hid fun w A B u hB h => by
        have := implHeapOK_any u ps A B true w hpl hB h
        rw [hpB_F.2 HPF.out] at this
        exact this
      have HOD : Hid (∀ (w : World) (A B : Nat) (u : Value), B ≤ w.heap.size → SlsIn w A B true u ds → Calls Try.prog 13 #[u] w fun e w' => e = .returned (.bool true) ∧ Below w.heap.size w w') := Lib.hid fun w A B u hB h => by
        have := implHeapOK_any u ds A B true w hdl hB h
        rw [hpB_F.2 HDF.out] at this
        exact this
      clear hps hpc hds hdc
      have hcc : (pc != pc) = false := by simp
      have hdd : (dc != dc) = false := by simp
      go_wp2_with fail
      refine (HA.out _ HB.out).mono ?_
      rintro e w2 ⟨rfl, hb⟩
      have HH := Lib.hid (HH.out.below hb (by omega))
      have HB := Lib.hid (HB.out.trans (hb.mono HB.out.size))
      have zw2 := hb.size
      have yw2 := HB.out.size
      clear hb
      obtain ⟨v2, hv2⟩ : ∃ v, w2.alloc (.cells #[.int .i64 (r : Int), .int .i64 (50 + (k : Int))] 33) = v := ⟨_, rfl⟩
      have hb : Below w2.heap.size w2 v2 := by
        rw [← hv2]
        exact (Below.refl _ _).alloc (Nat.le_refl _) _
      have sv2 : w2.heap.size < v2.heap.size := by
        rw [← hv2]
        simp
      have hk : BlkSl v2 w2.heap.size ⟨(r : Int), (50 + (k : Int))⟩ := by
        rw [← hv2]
        exact BlkSl.new _ ⟨(r : Int), (50 + (k : Int))⟩ _ rfl
      have HH := Lib.hid (HH.out.below hb (by omega))
      have HB := Lib.hid (HB.out.trans (hb.mono HB.out.size))
      have zv2 := hb.size
      have yv2 := HB.out.size
      have K1 := Lib.hid hk
      clear hb hk
      obtain ⟨k0, k1, _, _⟩ := K1.out.cells
      dsimp only at k0 k1
      go_wp2_with fail
      refine (HIP.out _ A B _ (by omega) HH.out).mono ?_
      rintro e w3 ⟨uw3, rfl, hu, hb⟩
      have HH := Lib.hid (HH.out.below hb (by omega))
      have K1 := Lib.hid (K1.out.below hb)
      have HB := Lib.hid (HB.out.trans (hb.mono HB.out.size))
      have zw3 := hb.size
      have yw3 := HB.out.size
      obtain ⟨aw3, cw3, rfl, _⟩ := id hu
      have HX := Lib.hid hu
      clear hu hb
      clear k0 k1
      obtain ⟨k0, k1, _, _⟩ := K1.out.cells
      dsimp only at k0 k1
      go_wp2_with fail
      refine (HSP.out _ A B _ (by omega) HH.out).mono ?_
      rintro e w4 ⟨uw4, rfl, hu, hb⟩
      have HH := Lib.hid (HH.out.below hb (by omega))
      have HX := Lib.hid (HX.out.below hb (by omega))
      have K1 := Lib.hid (K1.out.below hb)
      have HB := Lib.hid (HB.out.trans (hb.mono HB.out.size))
      have zw4 := hb.size
      have yw4 := HB.out.size
      obtain ⟨aw4, cw4, rfl, _⟩ := id hu
      have HW := Lib.hid hu
      clear hu hb
      clear k0 k1
      clear K1 HH
      go_wp2_with fail
      refine (sameSlots_any _ _ (v2.heap.size) (w3.heap.size) (w3.heap.size) (w4.heap.size) true true ps _ hpl (by omega) (by omega) HX.out HW.out).mono ?_
      rintro e w5 ⟨rfl, hb⟩
      have HX := Lib.hid (HX.out.below hb (by omega))
      have HW := Lib.hid (HW.out.below hb (by omega))
      have HB := Lib.hid (HB.out.trans (hb.mono HB.out.size))
      have zw5 := hb.size
      have yw5 := HB.out.size
      clear hb
      go_wp2_with fail
      refine (HOP.out _ (v2.heap.size) (w3.heap.size) _ (by omega) HX.out).mono ?_
      rintro e w6 ⟨rfl, hb⟩
      have HX := Lib.hid (HX.out.below hb (by omega))
      have HW := Lib.hid (HW.out.below hb (by omega))
      have HB := Lib.hid (HB.out.trans (hb.mono HB.out.size))
      have zw6 := hb.size
      have yw6 := HB.out.size
      clear hb
      clear HX
      go_wp2_with fail
      refine (HA2.out _ HB.out).mono ?_
      rintro e w7 ⟨rfl, hb⟩
      have HW := Lib.hid (HW.out.below hb (by omega))
      have HB := Lib.hid (HB.out.trans (hb.mono HB.out.size))
      have zw7 := hb.size
      have yw7 := HB.out.size
      clear hb
      go_wp2_with fail
      refine (HIR.out _ (w3.heap.size) (w4.heap.size) _ (by omega) HW.out).mono ?_
      rintro e w8 ⟨uw8, rfl, hu, hb⟩
      have HW := Lib.hid (HW.out.below hb (by omega))
      have HB := Lib.hid (HB.out.trans (hb.mono HB.out.size))
      have zw8 := hb.size
      have yw8 := HB.out.size
      obtain ⟨aw8, cw8, rfl, _⟩ := id hu
      have HY := Lib.hid hu
      clear hu hb
      go_wp2_with fail
      refine (HA2.out _ HB.out).mono ?_
      rintro e w9 ⟨rfl, hb⟩
      have HW := Lib.hid (HW.out.below hb (by omega))
      have HY := Lib.hid (HY.out.below hb (by omega))
      have HB := Lib.hid (HB.out.trans (hb.mono HB.out.size))
      have zw9 := hb.size
      have yw9 := HB.out.size
      clear hb
      go_wp2_with fail
      refine (HSR.out _ (w3.heap.size) (w4.heap.size) _ (by omega) HW.out).mono ?_
      rintro e w10 ⟨uw10, rfl, hu, hb⟩
      have HW := Lib.hid (HW.out.below hb (by omega))
      have HY := Lib.hid (HY.out.below hb (by omega))
      have HB := Lib.hid (HB.out.trans (hb.mono HB.out.size))
      have zw10 := hb.size
      have yw10 := HB.out.size
      obtain ⟨aw10, cw10, rfl, _⟩ := id hu
      have HD := Lib.hid hu
      clear hu hb
      clear HW
      go_wp2_with fail
      refine (sameSlots_any _ _ (w7.heap.size) (w8.heap.size) (w9.heap.size) (w10.heap.size) true true ds _ hdl (by omega) (by omega) HY.out HD.out).mono ?_
      rintro e w11 ⟨rfl, hb⟩
      have HY := Lib.hid (HY.out.below hb (by omega))
      have HD := Lib.hid (HD.out.below hb (by omega))
      have HB := Lib.hid (HB.out.trans (hb.mono HB.out.size))
      have zw11 := hb.size
      have yw11 := HB.out.size
      clear hb
      by_cases hd0 : dc = 0
      · skip
        have hlen := HDL.out hd0
        have e0 : (dc == 0) = true := by simpa using hd0
        have s6 : IntKind.i64.wrap ((ps.length : Int) - 1) = (ps.length : Int) - 1 := IntWalk.i64_in _ (by omega)
        have e2 : ((ds.length : Int) != (ps.length : Int) - 1) = false := by
          rw [bne_eq_false_iff_eq]
          omega
        clear hlen hd0
        go_wp2_with fail
        refine (HOD.out _ (w7.heap.size) (w8.heap.size) _ (by omega) HY.out).mono ?_
        rintro e w12 ⟨rfl, hb⟩
        have HY := Lib.hid (HY.out.below hb (by omega))
        have HD := Lib.hid (HD.out.below hb (by omega))
        have HB := Lib.hid (HB.out.trans (hb.mono HB.out.size))
        have zw12 := hb.size
        have yw12 := HB.out.size
        clear hb
        go_wp2_with fail
        go_roundw
        case rel => exact ⟨k + 1, ds, w9.heap.size, w10.heap.size, by go_num, by omega, HDF.out.1, fun _ => HDF.out, HD.out, by omega, HB.out⟩
        case measure => simp [intOf]; omega
      · skip
        have e0 : (dc == 0) = false := by simpa using hd0
        clear hd0
        go_wp2_with fail
        refine (HOD.out _ (w7.heap.size) (w8.heap.size) _ (by omega) HY.out).mono ?_
        rintro e w12 ⟨rfl, hb⟩
        have HY := Lib.hid (HY.out.below hb (by omega))
        have HD := Lib.hid (HD.out.below hb (by omega))
        have HB := Lib.hid (HB.out.trans (hb.mono HB.out.size))
        have zw12 := hb.size
        have yw12 := HB.out.size
        clear hb
        go_wp2_with fail
        go_roundw
        case rel => exact ⟨k + 1, ds, w9.heap.size, w10.heap.size, by go_num, by omega, HDF.out.1, fun _ => HDF.out, HD.out, by omega, HB.out⟩
        case measure => simp [intOf]; omega
    · skip
      have sk : ¬ (k : Int) < 5 := by omega
      have HPF : Hid (HpF qs) := Lib.hid (HF.out (by omega))
      clear HF
      obtain ⟨r, hr, hat⟩ := HAT.out 7 15 (by omega) (by omega) (by omega)
      have HA := Lib.hid hat
      clear hat
      obtain ⟨ss, hss⟩ : ∃ ss, sorL qs = ss := ⟨_, rfl⟩
      obtain ⟨ls, hls⟩ : ∃ ls, untL qs (r : Int) = ls := ⟨_, rfl⟩
      obtain ⟨is, his⟩ : ∃ is, untI qs (r : Int) = is := ⟨_, rfl⟩
      obtain ⟨os, hos⟩ : ∃ os, popL qs = os := ⟨_, rfl⟩
      obtain ⟨x, hx⟩ : ∃ x, popX qs = x := ⟨_, rfl⟩
      obtain ⟨oc, hoc⟩ : ∃ oc, popC qs = oc := ⟨_, rfl⟩
      have hcode := codeS_F.2 HPF.out
      have sf := sor_F HPF.out
      have uf := unt_F HPF.out (r : Int)
      have pf := fun h => pop_F (qs := qs) h HPF.out
      have hul := unt_length qs (r : Int)
      have hol := popL_length qs
      have HSS : Hid (∀ (w : World) (A B : Nat) (u : Value), B ≤ w.heap.size → SlsIn w A B true u qs → Calls Try.prog 30 #[u] w (ResSl w ss 0)) := Lib.hid fun w A B u hB h => by
        have := specSort_any u qs A B true w (by omega) hB h
        rw [hss, hcode] at this
        exact this
      have HIS : Hid (∀ (w : World) (A B : Nat) (u : Value), B ≤ w.heap.size → SlsIn w A B true u qs → Calls Try.prog 31 #[u] w (ResSl w ss 0)) := Lib.hid fun w A B u hB h => by
        have := implSort_any u qs A B true w (by omega) hB h
        rw [hss, hcode] at this
        exact this
      have HSU : Hid (∀ (w : World) (A B : Nat) (u : Value), B ≤ w.heap.size → SlsIn w A B true u qs → Calls Try.prog 25 #[u, .int .i64 (r : Int)] w (ResUn w ls is 0)) := Lib.hid fun w A B u hB h => by
        have := specUntil_any u qs A B true (r : Int) w (by omega) hB h
        rw [hls, his, hcode] at this
        exact this
      have HIU : Hid (∀ (w : World) (A B : Nat) (u : Value), B ≤ w.heap.size → SlsIn w A B true u qs → Calls Try.prog 26 #[u, .int .i64 (r : Int)] w (ResUn w ls is 0)) := Lib.hid fun w A B u hB h => by
        have := implUntil_any u qs A B true (r : Int) w (by omega) hB h
        rw [hls, his, hcode] at this
        exact this
      have HSO : Hid (∀ (w : World) (A B : Nat) (u : Value), B ≤ w.heap.size → SlsIn w A B true u qs → Calls Try.prog 20 #[u] w (ResPop w os x oc)) := Lib.hid fun w A B u hB h => by
        have := specPop_any u qs A B true w (by omega) hB h
        rw [hos, hx, hoc] at this
        exact this
      have HIO : Hid (∀ (w : World) (A B : Nat) (u : Value), B ≤ w.heap.size → SlsIn w A B true u qs → Calls Try.prog 21 #[u] w (ResPop w os x oc)) := Lib.hid fun w A B u hB h => by
        have := implPop_any u qs A B true w (by omega) hB h
        rw [hos, hx, hoc] at this
        exact this
      rw [hss] at sf uf pf
      rw [hls, his] at uf hul
      rw [hoc, hx] at pf
      rw [hos] at hol
      obtain ⟨sf1, sf2, _⟩ := sf
      obtain ⟨uf1, uf2⟩ := uf
      obtain ⟨hul1, hul2⟩ := hul
      have HSF := Lib.hid sf2
      have HUF := Lib.hid uf2
      have HPP := Lib.hid pf
      have hsl : ss.length ≤ 16 := by omega
      have hll : ls.length ≤ 16 := by omega
      have hil : is.length ≤ 16 := by omega
      have hol2 : os.length ≤ 16 := by omega
      have e1 : ((ss.length : Int) != (qs.length : Int)) = false := by
        rw [bne_eq_false_iff_eq]
        omega
      have e2 : ((is.length : Int) + (ls.length : Int) != (qs.length : Int)) = false := by
        rw [bne_eq_false_iff_eq]
        omega
      have e3 : IntKind.i64.wrap ((is.length : Int) + (ls.length : Int)) = (is.length : Int) + (ls.length : Int) := IntWalk.i64_in _ (by omega)
      have e4 : (oc != oc) = false := by simp
      have e5 : (oc == oc) = true := by simp
      have e0 : ((0 : Int) != 0) = false := by decide
      clear hss hls his hos hx hoc hcode sf1 sf2 uf1 uf2 pf hul1 hul2 hol
      go_wp2_with fail
      refine (HIS.out _ A B _ (by omega) HH.out).mono ?_
      rintro e w2 ⟨uw2, rfl, hu, hb⟩
      have HH := Lib.hid (HH.out.below hb (by omega))
      have HB := Lib.hid (HB.out.trans (hb.mono HB.out.size))
      have zw2 := hb.size
      have yw2 := HB.out.size
      obtain ⟨aw2, cw2, rfl, _⟩ := id hu
      have HS := Lib.hid hu
      clear hu hb
      go_wp2_with fail
      refine (HSS.out _ A B _ (by omega) HH.out).mono ?_
      rintro e w3 ⟨uw3, rfl, hu, hb⟩
      have HH := Lib.hid (HH.out.below hb (by omega))
      have HS := Lib.hid (HS.out.below hb (by omega))
      have HB := Lib.hid (HB.out.trans (hb.mono HB.out.size))
      have zw3 := hb.size
      have yw3 := HB.out.size
      obtain ⟨aw3, cw3, rfl, _⟩ := id hu
      have HT := Lib.hid hu
      clear hu hb
      go_wp2_with fail
      refine (sameSlots_any _ _ (wr.heap.size) (w2.heap.size) (w2.heap.size) (w3.heap.size) true true ss _ (by omega) (by omega) (by omega) HS.out HT.out).mono ?_
      rintro e w4 ⟨rfl, hb⟩
      have HH := Lib.hid (HH.out.below hb (by omega))
      have HS := Lib.hid (HS.out.below hb (by omega))
      have HT := Lib.hid (HT.out.below hb (by omega))
      have HB := Lib.hid (HB.out.trans (hb.mono HB.out.size))
      have zw4 := hb.size
      have yw4 := HB.out.size
      clear hb
      clear HT
      go_wp2_with fail
      go_loopw [20] (fun iv wx => ∃ j : Nat, iv = .int .i64 ((j : Int) + 1) ∧ j ≤ ss.length ∧ Below w4.heap.size w4 wx) (fun iv _ => ss.length + 2 - (intOf iv).toNat)
      case atStart => exact ⟨0, rfl, Nat.zero_le _, Below.refl _ _⟩
      case round =>
        obtain ⟨j, rfl, hj, hb⟩ := hrel
        have HH := Lib.hid (HH.out.below hb (by omega))
        have HS := Lib.hid (HS.out.below hb (by omega))
        have HB := Lib.hid (HB.out.trans (hb.mono HB.out.size))
        have zwx := hb.size
        have ywx := HB.out.size
        have HX := Lib.hid hb
        clear hb
        by_cases hlt : (j : Int) + 1 < (ss.length : Int)
        · skip
          obtain ⟨_, _, _, _, _, hcx⟩ := id HS.out
          obtain ⟨g, off, rfl, _, hg, hcl⟩ := hcx (by omega)
          obtain ⟨p, hp⟩ : ∃ p : Sl, ss[j] = p := ⟨_, rfl⟩
          obtain ⟨q, hq2⟩ : ∃ q : Sl, ss[j + 1] = q := ⟨_, rfl⟩
          have h1 := (hcl j (by omega)).1
          have h2 := (hcl (j + 1) (by omega)).1
          rw [hp] at h1
          rw [hq2] at h2
          have hle := sorted_at HSF.out (i := j + 1) (by omega) (by omega)
          rw [Nat.add_sub_cancel, getElem!_pos ss j (by omega), getElem!_pos ss (j + 1) (by omega), hp, hq2, leS_iff] at hle
          obtain ⟨c0, c1⟩ := h1
          obtain ⟨d0, d1⟩ := h2
          have s0 : (0 : Int) ≤ (j : Int) := by omega
          have s00 : (0 : Int) ≤ (j : Int) + 1 := by omega
          have s01 : (j : Int) < (ss.length : Int) := by omega
          have s2 : IntKind.i64.wrap ((j : Int) + 1 - 1) = (j : Int) := by
            rw [show (j : Int) + 1 - 1 = (j : Int) by omega]
            exact IntWalk.i64_in _ (by omega)
          have s3 : IntKind.i64.wrap ((j : Int) + 1 + 1) = (j : Int) + 1 + 1 := IntWalk.i64_in _ (by omega)
          have t1 : ((j : Int) + 1).toNat = j + 1 := rfl
          have l1 : ¬ q.k < p.k := by omega
          have l1d : decide (q.k < p.k) = false := decide_eq_false l1
          clear hcl hp hq2 hcx
          by_cases hkk : q.k = p.k
          · skip
            have l2 : (q.k == p.k) = true := by simpa using hkk
            have l3 : ¬ q.i < p.i := by omega
            have l3d : decide (q.i < p.i) = false := decide_eq_false l3
            clear hle hkk
            go_wp2_with fail
            go_region
            all_goals go_wp2_with fail
            all_goals go_roundw
            case rel => exact ⟨j + 1, by go_num, by omega, HX.out.drew⟩
            case measure => simp [intOf]; omega
          · skip
            have l2 : (q.k == p.k) = false := by simpa using hkk
            clear hle hkk
            go_wp2_with fail
            go_region
            all_goals go_wp2_with fail
            all_goals go_roundw
            case rel => exact ⟨j + 1, by go_num, by omega, HX.out.drew⟩
            case measure => simp [intOf]; omega
        · skip
          clear HX
          go_wp2_with fail
          refine (HA.out _ HB.out).mono ?_
          rintro e w5 ⟨rfl, hb⟩
          have HH := Lib.hid (HH.out.below hb (by omega))
          have HS := Lib.hid (HS.out.below hb (by omega))
          have HB := Lib.hid (HB.out.trans (hb.mono HB.out.size))
          have zw5 := hb.size
          have yw5 := HB.out.size
          clear hb
          go_wp2_with fail
          refine (HIU.out _ A B _ (by omega) HH.out).mono ?_
          rintro e w6 ⟨usG, uiG, rfl, ⟨AG, BG, CG, DG, hu, hi, pG1, pG2, pG3, pG4, pG5⟩, hb⟩
          have HH := Lib.hid (HH.out.below hb (by omega))
          have HS := Lib.hid (HS.out.below hb (by omega))
          have HB := Lib.hid (HB.out.trans (hb.mono HB.out.size))
          have zw6 := hb.size
          have yw6 := HB.out.size
          obtain ⟨auG, cuG, rfl, _⟩ := id hu
          obtain ⟨aiG, ciG, rfl, _⟩ := id hi
          have HG := Lib.hid hu
          have IG := Lib.hid hi
          clear hu hi hb
          go_wp2_with fail
          refine (HSU.out _ A B _ (by omega) HH.out).mono ?_
          rintro e w7 ⟨usU, uiU, rfl, ⟨AU, BU, CU, DU, hu, hi, pU1, pU2, pU3, pU4, pU5⟩, hb⟩
          have HH := Lib.hid (HH.out.below hb (by omega))
          have HS := Lib.hid (HS.out.below hb (by omega))
          have HG := Lib.hid (HG.out.below hb (by omega))
          have IG := Lib.hid (IG.out.below hb (by omega))
          have HB := Lib.hid (HB.out.trans (hb.mono HB.out.size))
          have zw7 := hb.size
          have yw7 := HB.out.size
          obtain ⟨auU, cuU, rfl, _⟩ := id hu
          obtain ⟨aiU, ciU, rfl, _⟩ := id hi
          have HU := Lib.hid hu
          have IU := Lib.hid hi
          clear hu hi hb
          go_wp2_with fail
          refine (sameSlots_any _ _ (AG) (BG) (AU) (BU) true true ls _ (by omega) (by omega) (by omega) HG.out HU.out).mono ?_
          rintro e w8 ⟨rfl, hb⟩
          have HH := Lib.hid (HH.out.below hb (by omega))
          have HS := Lib.hid (HS.out.below hb (by omega))
          have HG := Lib.hid (HG.out.below hb (by omega))
          have HU := Lib.hid (HU.out.below hb (by omega))
          have IG := Lib.hid (IG.out.below hb (by omega))
          have IU := Lib.hid (IU.out.below hb (by omega))
          have HB := Lib.hid (HB.out.trans (hb.mono HB.out.size))
          have zw8 := hb.size
          have yw8 := HB.out.size
          clear hb
          go_wp2_with fail
          refine (sameInts_any _ _ (CG) (DG) (CU) (DU) true true is _ (by omega) (by omega) (by omega) IG.out IU.out).mono ?_
          rintro e w9 ⟨rfl, hb⟩
          have HH := Lib.hid (HH.out.below hb (by omega))
          have HS := Lib.hid (HS.out.below hb (by omega))
          have HG := Lib.hid (HG.out.below hb (by omega))
          have HU := Lib.hid (HU.out.below hb (by omega))
          have IG := Lib.hid (IG.out.below hb (by omega))
          have IU := Lib.hid (IU.out.below hb (by omega))
          have HB := Lib.hid (HB.out.trans (hb.mono HB.out.size))
          have zw9 := hb.size
          have yw9 := HB.out.size
          clear hb
          clear HG HU IU
          go_wp2_with fail
          go_loopw [28] (fun iv wx => ∃ j : Nat, iv = .int .i64 (j : Int) ∧ j ≤ ss.length ∧ Below w9.heap.size w9 wx) (fun iv _ => ss.length - (intOf iv).toNat)
          case atStart => exact ⟨0, rfl, Nat.zero_le _, Below.refl _ _⟩
          case round =>
            obtain ⟨j, rfl, hj2, hb⟩ := hrel
            have HH := Lib.hid (HH.out.below hb (by omega))
            have HS := Lib.hid (HS.out.below hb (by omega))
            have IG := Lib.hid (IG.out.below hb (by omega))
            have HB := Lib.hid (HB.out.trans (hb.mono HB.out.size))
            have zwy := hb.size
            have ywy := HB.out.size
            have HX := Lib.hid hb
            clear hb
            by_cases hlt2 : (j : Int) < (ss.length : Int)
            · skip
              obtain ⟨_, _, _, _, _, hcx⟩ := id HS.out
              obtain ⟨g, off, rfl, _, hg, hcl⟩ := hcx (by omega)
              obtain ⟨p, hp⟩ : ∃ p : Sl, ss[j] = p := ⟨_, rfl⟩
              have h1 := (hcl j (by omega)).1
              rw [hp] at h1
              obtain ⟨c0, c1⟩ := h1
              have hmem : (p.i ∈ is ↔ p.k ≤ (r : Int)) := HUF.out p (hp ▸ List.getElem_mem _)
              have hdec : decide (p.i ∈ is) = decide (p.k ≤ (r : Int)) := decide_eq_decide.2 hmem
              obtain ⟨y, hy⟩ : ∃ y, decide (p.k ≤ (r : Int)) = y := ⟨_, rfl⟩
              have HHS : Hid (∀ w : World, Below wr.heap.size wr w → Calls Try.prog 36 #[.slice aiG is.length ciG, .int .i64 p.i] w fun e w' => e = .returned (.bool y) ∧ Below w.heap.size w w') := Lib.hid fun w hw => by
                have := has_any _ CG DG true is p.i w (by omega) (by have := hw.size; omega) (IG.out.below hw (by omega))
                rw [hdec, hy] at this
                exact this
              have s0 : (0 : Int) ≤ (j : Int) := by omega
              have yy : (y != y) = false := by simp
              have hN : Nonempty (BCl wr) := BCl.full wr
              have q0x := BCl.cell c0
              have q1x := BCl.cell c1
              clear hcl hp hcx hmem hdec c0 c1
              go_upto_region 34 with fail
              refine wp_region_below (fun w' => ∃ i : BCl wr, w' = i.w) (by kernel_rfl) (by kernel_rfl) (BCl.start wr) ?_
              repeat (go_big_quiet_step (first | (go_at_call 36; rename_i i; with_reducible refine (HHS.out i.w i.below).mono ?_; intro e w' h; exact ⟨h.1, i.next h.2⟩)))
              refine wpQuiet_nil ?_
              intro _ hw'
              obtain ⟨i, rfl⟩ := hw'
              clear q0x q1x hN
              go_wp2_with fail
              go_roundw
              case rel => exact ⟨j + 1, by go_num, by omega, HX.out.trans (i.below.mono HX.out.size)⟩
              case measure => simp [intOf]; omega
            · skip
              clear HX HUF
              go_wp2_with fail
              refine (HIO.out _ A B _ (by omega) HH.out).mono ?_
              rintro e w10 ⟨uw10, rfl, hu, hb⟩
              have HH := Lib.hid (HH.out.below hb (by omega))
              have HS := Lib.hid (HS.out.below hb (by omega))
              have IG := Lib.hid (IG.out.below hb (by omega))
              have HB := Lib.hid (HB.out.trans (hb.mono HB.out.size))
              have zw10 := hb.size
              have yw10 := HB.out.size
              obtain ⟨aw10, cw10, rfl, _⟩ := id hu
              have HO := Lib.hid hu
              clear hu hb
              obtain ⟨v10, hv10⟩ : ∃ v, w10.alloc (.cells #[.int .i64 x.k, .int .i64 x.i] 33) = v := ⟨_, rfl⟩
              have hb : Below w10.heap.size w10 v10 := by
                rw [← hv10]
                exact (Below.refl _ _).alloc (Nat.le_refl _) _
              have sv10 : w10.heap.size < v10.heap.size := by
                rw [← hv10]
                simp
              have hk : BlkSl v10 w10.heap.size ⟨x.k, x.i⟩ := by
                rw [← hv10]
                exact BlkSl.new _ ⟨x.k, x.i⟩ _ rfl
              have HH := Lib.hid (HH.out.below hb (by omega))
              have HS := Lib.hid (HS.out.below hb (by omega))
              have HO := Lib.hid (HO.out.below hb (by omega))
              have IG := Lib.hid (IG.out.below hb (by omega))
              have HB := Lib.hid (HB.out.trans (hb.mono HB.out.size))
              have zv10 := hb.size
              have yv10 := HB.out.size
              have K1 := Lib.hid hk
              clear hb hk
              go_wp2_with fail
              refine (HSO.out _ A B _ (by omega) HH.out).mono ?_
              rintro e w11 ⟨uw11, rfl, hu, hb⟩
              have HH := Lib.hid (HH.out.below hb (by omega))
              have HS := Lib.hid (HS.out.below hb (by omega))
              have HO := Lib.hid (HO.out.below hb (by omega))
              have IG := Lib.hid (IG.out.below hb (by omega))
              have K1 := Lib.hid (K1.out.below hb)
              have HB := Lib.hid (HB.out.trans (hb.mono HB.out.size))
              have zw11 := hb.size
              have yw11 := HB.out.size
              obtain ⟨aw11, cw11, rfl, _⟩ := id hu
              have HQ := Lib.hid hu
              clear hu hb
              obtain ⟨v11, hv11⟩ : ∃ v, w11.alloc (.cells #[.int .i64 x.k, .int .i64 x.i] 33) = v := ⟨_, rfl⟩
              have hb : Below w11.heap.size w11 v11 := by
                rw [← hv11]
                exact (Below.refl _ _).alloc (Nat.le_refl _) _
              have sv11 : w11.heap.size < v11.heap.size := by
                rw [← hv11]
                simp
              have hk : BlkSl v11 w11.heap.size ⟨x.k, x.i⟩ := by
                rw [← hv11]
                exact BlkSl.new _ ⟨x.k, x.i⟩ _ rfl
              have HH := Lib.hid (HH.out.below hb (by omega))
              have HS := Lib.hid (HS.out.below hb (by omega))
              have HO := Lib.hid (HO.out.below hb (by omega))
              have HQ := Lib.hid (HQ.out.below hb (by omega))
              have IG := Lib.hid (IG.out.below hb (by omega))
              have K1 := Lib.hid (K1.out.below hb)
              have HB := Lib.hid (HB.out.trans (hb.mono HB.out.size))
              have zv11 := hb.size
              have yv11 := HB.out.size
              have K2 := Lib.hid hk
              clear hb hk
              have HSM : Hid (∀ w : World, Below v11.heap.size v11 w → Calls Try.prog 34 #[.slice aw10 os.length cw10, .slice aw11 os.length cw11] w fun e w' => e = .returned (.bool true) ∧ Below w.heap.size w w') := Lib.hid fun w hw => sameSlots_any _ _ (wr.heap.size) (w10.heap.size) (v10.heap.size) (w11.heap.size) true true os w (by omega) (by have := hw.size; omega) (by have := hw.size; omega) (HO.out.below hw (by omega)) (HQ.out.below hw (by omega))
              obtain ⟨k0, k1, _, _⟩ := K1.out.cells
              obtain ⟨l0, l1, _, _⟩ := K2.out.cells
              have hN : Nonempty (BCl v11) := BCl.full v11
              have q0x := BCl.cell k0
              have q1x := BCl.cell k1
              have r0x := BCl.cell l0
              have r1x := BCl.cell l1
              clear k0 k1 l0 l1
              have nk : (x.k == x.k) = true := by simp
              have ni : (x.i == x.i) = true := by simp
              by_cases hoc : oc = 0
              · skip
                obtain ⟨hp1, hp2⟩ := HPP.out hoc
                obtain ⟨_, _, _, _, _, hcx⟩ := id HS.out
                obtain ⟨g, off, rfl, _, hg, hcl⟩ := hcx hp1
                have h1 := (hcl 0 hp1).1
                rw [← getElem!_pos ss 0 hp1, ← hp2] at h1
                obtain ⟨c0, c1⟩ := h1
                rw [Nat.zero_mul, Nat.add_zero] at c0 c1
                have t0x := BCl.cell c0
                have t1x := BCl.cell c1
                have f0 : (oc != 0) = false := by
                  rw [hoc]
                  decide
                have f1 : (0 : Int) < (ss.length : Int) := by omega
                clear hp2 hcx hcl c0 c1 hoc
                go_upto_region 38 with fail
                refine wp_region_below (fun w' => ∃ i : BCl v11, w' = i.w) (by kernel_rfl) (by kernel_rfl) (BCl.start v11) ?_
                repeat (go_big_quiet_step (first | (go_at_call 34; rename_i i; with_reducible refine (HSM.out i.w i.below).mono ?_; intro e w' h; exact ⟨h.1, i.next h.2⟩)))
                refine wpQuiet_nil ?_
                intro _ hw'
                obtain ⟨i, rfl⟩ := hw'
                go_wp2_with fail
                go_ret
                exact ⟨rfl, HB.out.trans (i.below.mono HB.out.size)⟩
              · skip
                have f0 : (oc != 0) = true := by simpa using hoc
                clear hoc
                go_upto_region 38 with fail
                refine wp_region_below (fun w' => ∃ i : BCl v11, w' = i.w) (by kernel_rfl) (by kernel_rfl) (BCl.start v11) ?_
                repeat (go_big_quiet_step (first | (go_at_call 34; rename_i i; with_reducible refine (HSM.out i.w i.below).mono ?_; intro e w' h; exact ⟨h.1, i.next h.2⟩)))
                refine wpQuiet_nil ?_
                intro _ hw'
                obtain ⟨i, rfl⟩ := hw'
                go_wp2_with fail
                go_ret
                exact ⟨rfl, HB.out.trans (i.below.mono HB.out.size)⟩
end Go.Proofs.Yteaapglkomlnhaa
