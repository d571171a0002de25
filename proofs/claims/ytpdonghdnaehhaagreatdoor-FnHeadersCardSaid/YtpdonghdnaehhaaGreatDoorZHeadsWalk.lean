/- FnHeaders: the walk of the law over drawn headers. No condition of its own. -/
import Derived.Test.YtpdonghdnaehhaaGreatDoorZGk
import Derived.Test.YtpdonghdnaehhaaGreatDoorZGn
import Derived.Test.YtpdonghdnaehhaaGreatDoorZHeadersDrawn
import Derived.Test.YtpdonghdnaehhaaGreatDoorZPsEql
import Derived.Test.YtpdonghdnaehhaaGreatDoorZGl
import Derived.Test.YtpdonghdnaehhaaGreatDoorZGj
import Derived.Test.YtpdonghdnaehhaaGreatDoorBelowCls
import Derived.Deep.DeepCutAuto
namespace Go.Proofs.YtpdonghdnaehhaaGreatDoor
open Go.ChangeShapes Go.WideShapes Go.ChangeAt Go.WideMaps Go.WideElems Go.RowKit

def ThreeTexts (W : World) (v : Value) (wx : World) : Prop :=
  ∃ (nb : Nat) (f : Nat → ByteArray), v = .slice (some ⟨nb, 0, none⟩) 3 3 ∧ W.heap.size ≤ nb ∧ nb < wx.heap.size ∧ (∀ j, (f j).size ≤ 2000) ∧ (∀ j, j < 3 → wx.cell? ⟨nb, j, none⟩ = some (.string (f j))) ∧ Below W.heap.size W wx
def ThreeLoop (W : World) (nb : Nat) (f : Nat → ByteArray) (i : Value) (wr : World) : Prop :=
  ∃ j : Nat, j ≤ 3 ∧ i = .int .i64 j ∧ (∀ j, j < 3 → wr.cell? ⟨nb, j, none⟩ = some (.string (f j))) ∧ nb < wr.heap.size ∧ Below W.heap.size W wr
theorem three_mk {W w' : World} {s0 s1 s2 : ByteArray} (hb : Below W.heap.size W w') (h0 : s0.size ≤ 2000) (h1 : s1.size ≤ 2000) (h2 : s2.size ≤ 2000) : ThreeTexts W (.slice (some ⟨w'.heap.size, 0, none⟩) 3 3) (w'.alloc (.cells #[.string s0, .string s1, .string s2] 9)) := by
  refine ⟨w'.heap.size, fun j => if j = 0 then s0 else if j = 1 then s1 else s2, rfl, hb.size, by simp, fun j => ?_, fun j hj => ?_, hb.alloc hb.size _⟩
  · dsimp only
    split
    · exact h0
    · split
      · exact h1
      · exact h2
  · rw [World.cell?_alloc_at _ _ _ _ rfl]
    rcases (show j = 0 ∨ j = 1 ∨ j = 2 by omega) with rfl | rfl | rfl <;> rfl
set_option maxHeartbeats 8000000 in
set_option maxRecDepth 100000 in
theorem walk_FnHeaders (W : World) (a0 : Option Addr) (len0 cap0 : Nat) (hm0 : len0 ≤ cap0 ∧ cap0 ≤ maxLen ∧ (a0 = none → cap0 = 0)) (hc0 : len0 ≤ 4611686018427387904 → CodeIn W (.slice a0 len0 cap0) len0) (a1 : Option Addr) (len1 cap1 : Nat) (hm1 : len1 ≤ cap1 ∧ cap1 ≤ maxLen ∧ (a1 = none → cap1 = 0)) (hc1 : len1 ≤ 4611686018427387904 → CodeIn W (.slice a1 len1 cap1) len1)
    (hL : laidMetH Tryz.prog Rows.fnHeadersRow.laid W) (hSh : W.ShapedOpen Tryz.prog) :
    Calls Tryz.prog 3 #[.slice a0 len0 cap0, .slice a1 len1 cap1] W fun e w' => e = .returned (.bool true) ∧ Below W.heap.size W w' := by
  rw [MakeChecks.laidMetH_plain _ _ _ (by kernel_rfl)] at hL
  have h2 := hL.tail.tail
  have h4 := h2.tail.tail
  have HA : Hid (NamAll W) := Lib.hid ⟨⟨tab_of_laid h4, months_laid h4.tail.tail, max_is hSh, sites_laid h4.tail.tail.tail⟩, ⟨days_laid h4.tail, mons_laid h4.tail.tail, pow_laid h2⟩⟩
  have HMX := Lib.hid (max_now hSh)
  clear h4 h2 hL hSh
  unfold maxLen at hm0 hm1
  obtain ⟨hm0, hk0, _⟩ := hm0
  obtain ⟨hm1, hk1, hnil⟩ := hm1
  by_cases h0 : 1048576 < len0
  · clear hc0 hc1
    go_enter Tryz.func3, Tryz.ntmps3
    go_wp2
    go_ret
    exact ⟨rfl, Below.refl _ _⟩
  by_cases h1 : 1048576 < len1
  · clear hc0 hc1
    go_enter Tryz.func3, Tryz.ntmps3
    go_wp2
    go_ret
    exact ⟨rfl, Below.refl _ _⟩
  have C0 := Lib.hid (hc0 (by omega))
  have C1 := Lib.hid (hc1 (by omega))
  clear hc0 hc1
  go_enter Tryz.func3, Tryz.ntmps3
  go_wp2_with fail
  refine (parsedDrawn_any _ _ _ C0.out).mono ?_
  rintro e w1 ⟨q, rfl, hq, hb⟩
  have HQ := Lib.hid hq
  have B1 := Lib.hid (hb.alloc hb.size (.cells #[.string q.n, .string q.v, .string q.d, .string q.p, .bool q.he, .bool q.ha, .bool q.hp, .int .i64 q.x, .int .i64 q.a, .int .i64 q.s, .bool q.sc, .bool q.ho] 24))
  have P1 := Lib.hid (PsB.new w1 q.n q.v q.d q.p q.he q.ha q.hp q.x q.a q.s q.sc q.ho)
  have hz1 := hb.size
  clear hb hq
  obtain ⟨c0, c1, c2, c3, c4, c5, c6, c7, c8, c9, c10, c11⟩ := P1.out.at
  go_wp2_with fail
  refine (headSet q _ HQ.out (HA.out.below B1.out)).mono ?_
  rintro e w2 ⟨rfl, hb⟩
  have B2 := Lib.hid (B1.out.trans (hb.mono B1.out.size))
  have P2 := Lib.hid (P1.out.stays hb)
  clear hb c0 c1 c2 c3 c4 c5 c6 c7 c8 c9 c10 c11
  obtain ⟨c0, c1, c2, c3, c4, c5, c6, c7, c8, c9, c10, c11⟩ := P2.out.at
  go_wp2_with fail
  refine (headSetS q _ HQ.out).mono ?_
  rintro e w3 ⟨rfl, hb⟩
  have B3 := Lib.hid (B2.out.trans (hb.mono B2.out.size))
  have P3 := Lib.hid (P2.out.stays hb)
  clear hb c0 c1 c2 c3 c4 c5 c6 c7 c8 c9 c10 c11
  go_wp2_with fail
  refine (headBack q _ HQ.out (HA.out.below B3.out)).mono ?_
  rintro e w4 ⟨rfl, hb⟩
  have hb4 := B3.out.trans (hb.mono B3.out.size)
  have B4 := Lib.hid (hb4.alloc hb4.size (.cells #[.string q.n, .string q.v, .string q.d, .string q.p, .bool q.he, .bool q.ha, .bool q.hp, .int .i64 q.x, .int .i64 q.a, .int .i64 q.s, .bool q.sc, .bool q.ho] 24))
  have P4 := Lib.hid ((P3.out.stays hb).alloc (.cells #[.string q.n, .string q.v, .string q.d, .string q.p, .bool q.he, .bool q.ha, .bool q.hp, .int .i64 q.x, .int .i64 q.a, .int .i64 q.s, .bool q.sc, .bool q.ho] 24))
  have K4 := Lib.hid (PsB.new w4 q.n q.v q.d q.p q.he q.ha q.hp q.x q.a q.s q.sc q.ho)
  clear hb hb4
  obtain ⟨c0, c1, c2, c3, c4, c5, c6, c7, c8, c9, c10, c11⟩ := P4.out.at
  obtain ⟨d0, d1, d2, d3, d4, d5, d6, d7, d8, d9, d10, d11⟩ := K4.out.at
  have n1 : ((setB q).toList != (setB q).toList) = false := by simp
  have ng : ∀ (x y : Operand) (W : World), (eqGuard .neq 24 x y (.agg #[.string q.n, .string q.v, .string q.d, .string q.p, .bool q.he, .bool q.ha, .bool q.hp, .int .i64 q.x, .int .i64 q.a, .int .i64 q.s, .bool q.sc, .bool q.ho]) (.agg #[.string q.n, .string q.v, .string q.d, .string q.p, .bool q.he, .bool q.ha, .bool q.hp, .int .i64 q.x, .int .i64 q.a, .int .i64 q.s, .bool q.sc, .bool q.ho])).run Tryz.prog W = .ok () W := fun x y W => neq_guard_ps x y q W
  have nq : ∀ W : World, (binOp .neq 24 (.agg #[.string q.n, .string q.v, .string q.d, .string q.p, .bool q.he, .bool q.ha, .bool q.hp, .int .i64 q.x, .int .i64 q.a, .int .i64 q.s, .bool q.sc, .bool q.ho]) (.agg #[.string q.n, .string q.v, .string q.d, .string q.p, .bool q.he, .bool q.ha, .bool q.hp, .int .i64 q.x, .int .i64 q.a, .int .i64 q.s, .bool q.sc, .bool q.ho])).run Tryz.prog W = .ok (.bool false) W := fun W => neq_self_ps q W
  go_wp2_with fail
  refine (headOK q _ HQ.out (HA.out.below B4.out)).mono ?_
  rintro e w5 ⟨rfl, hb⟩
  have B5 := Lib.hid (B4.out.trans (hb.mono B4.out.size))
  have P5 := Lib.hid (P4.out.stays hb)
  clear hb c0 c1 c2 c3 c4 c5 c6 c7 c8 c9 c10 c11 d0 d1 d2 d3 d4 d5 d6 d7 d8 d9 d10 d11 P1 P2 P3 B1 B2 B3
  go_upto_region 74 with fail
  obtain ⟨kk, hmin, hkk1, hkk2⟩ : ∃ kk : Nat, min (len1 : Int) 120 = kk ∧ kk ≤ len1 ∧ kk ≤ 120 := ⟨min len1 120, by omega, by omega, by omega⟩
  obtain ⟨T, hTs, hcv⟩ := part_string (k := kk) C1.out hkk1
  have h3' : (0 : Int) ≤ kk := by omega
  have h4' : (kk : Int) ≤ cap1 := by omega
  have h5' : T.size ≤ 120 := by omega
  have hz := setB_small HQ.out
  have ha0 := string_add (setB q) ⟨#[59]⟩ (by show (setB q).size + 1 ≤ _; omega)
  go_cut [12] (fun v wx => ThreeTexts w5 v wx)
  case first =>
    as_aux_lemma =>
      cases a1 with
      | none =>
        obtain rfl : cap1 = 0 := hnil rfl
        obtain rfl : len1 = 0 := by omega
        obtain rfl : kk = 0 := by omega
        have hmin0 : min (0 : Int) 120 = 0 := by decide
        go_region_held3 (fun w' => Below w5.heap.size w5 w' ∧ (convert 22 9 (.slice none 0 0)).run Tryz.prog w' = .ok (.string T) w') (first | (assumption) | exact (Below.refl _ _).drew | exact ⟨(Below.refl _ _).drew, hcv _ _ B5.out.drew⟩ | exact ⟨by assumption, by assumption⟩ | exact ⟨Below.alloc (by assumption) (Below.size (B := w5.heap.size) (by assumption)) _, hcv _ _ (B5.out.trans (Below.mono (Below.alloc (by assumption) (Below.size (B := w5.heap.size) (by assumption)) _) B5.out.size))⟩)
          (first | (go_at_call 14; refine (headerDrawn_any _ _ _ (by first | exact CodeIn.below C1.out (B5.out.trans (Below.mono (by assumption) B5.out.size)) | exact CodeIn.below C1.out B5.out.drew)).mono ?_; rintro e w' ⟨s, rfl, hs, hb⟩; have hS : Below w5.heap.size w5 w' := Below.trans (by first | assumption | exact (Below.refl _ _).drew) (Below.mono hb (Below.size (B := w5.heap.size) (by first | assumption | exact (Below.refl _ _).drew))); have hC := hcv w' 0 (B5.out.trans (Below.mono hS B5.out.size)); have ha := string_add (setB q ++ ⟨#[59]⟩) s (by rw [ByteArray.size_append]; show (setB q).size + 1 + s.size ≤ _; omega); clear hb))
        all_goals
          go_wp2_with fail
          go_meet
          exact three_mk (by assumption) (by omega) (by omega) (by rw [ByteArray.size_append, ByteArray.size_append]; show (setB q).size + 1 + _ ≤ _; omega)
      | some ad =>
        go_region_held3 (fun w' => Below w5.heap.size w5 w' ∧ (convert 22 9 (.slice (some ad) kk cap1)).run Tryz.prog w' = .ok (.string T) w') (first | (assumption) | exact (Below.refl _ _).drew | exact ⟨(Below.refl _ _).drew, hcv _ _ B5.out.drew⟩ | exact ⟨by assumption, by assumption⟩ | exact ⟨Below.alloc (by assumption) (Below.size (B := w5.heap.size) (by assumption)) _, hcv _ _ (B5.out.trans (Below.mono (Below.alloc (by assumption) (Below.size (B := w5.heap.size) (by assumption)) _) B5.out.size))⟩)
          (first | (go_at_call 14; refine (headerDrawn_any _ _ _ (by first | exact CodeIn.below C1.out (B5.out.trans (Below.mono (by assumption) B5.out.size)) | exact CodeIn.below C1.out B5.out.drew)).mono ?_; rintro e w' ⟨s, rfl, hs, hb⟩; have hS : Below w5.heap.size w5 w' := Below.trans (by first | assumption | exact (Below.refl _ _).drew) (Below.mono hb (Below.size (B := w5.heap.size) (by first | assumption | exact (Below.refl _ _).drew))); have hC := hcv w' cap1 (B5.out.trans (Below.mono hS B5.out.size)); have ha := string_add (setB q ++ ⟨#[59]⟩) s (by rw [ByteArray.size_append]; show (setB q).size + 1 + s.size ≤ _; omega); clear hb))
        all_goals
          go_wp2_with fail
          go_meet
          exact three_mk (by assumption) (by omega) (by omega) (by rw [ByteArray.size_append, ByteArray.size_append]; show (setB q).size + 1 + _ ≤ _; omega)
  case rest =>
    obtain ⟨nb, f, rfl, hnb, hnl, hf, hcells, hb⟩ := hcut
    have HF := Lib.hid hf
    have HCL := Lib.hid hcells
    have HB := Lib.hid hb
    clear hcv hmin h3' h4' h5' hTs hf hcells hb
    go_wp2
    go_loopw [13] (fun i wr => ThreeLoop w5 nb f i wr) (fun i _ => 3 - (intOf i).toNat)
    case atStart => exact ⟨0, by omega, rfl, HCL.out, hnl, HB.out⟩
    case round =>
      obtain ⟨j, hj, rfl, hcells, hnl2, hb⟩ := hrel
      clear HCL HB
      have HCL := Lib.hid hcells
      have HB := Lib.hid hb
      clear hcells hb
      have HW := Lib.hid (B5.out.trans (HB.out.mono B5.out.size))
      by_cases hlt : j < 3
      · have hcell := HCL.out j hlt
        obtain ⟨t, ht⟩ : ∃ t, t = f j := ⟨_, rfl⟩
        rw [← ht] at hcell
        have hz : t.size ≤ 2000 := by rw [ht]; exact HF.out j
        clear ht
        have hji : (j : Int) < 3 := by omega
        have HCELL := Lib.hid hcell
        go_wp2_with fail
        refine (lineImpl t _ (by omega) (HA.out.below HW.out)).mono ?_
        rintro e v1 ⟨r, hr, rfl, hb⟩
        have HR := Lib.hid hr
        obtain ⟨c, hc⟩ : ∃ c, parC t = c := ⟨_, rfl⟩
        have H2 : Hid (∀ w, Calls Tryz.prog 15 #[.string t] w fun e w' => e = .returned (.tuple #[.agg #[.string r.n, .string r.v, .string r.d, .string r.p, .bool r.he, .bool r.ha, .bool r.hp, .int .i64 r.x, .int .i64 r.a, .int .i64 r.s, .bool r.sc, .bool r.ho], .int .i64 c]) ∧ Below w.heap.size w w') := Lib.hid fun w => by
          have h := specParse t w
          rw [← HR.out, hc] at h
          exact h
        rw [hc]
        have HC := Lib.hid hc
        have hc1 := HB.out.trans (hb.mono HB.out.size)
        have E1 := Lib.hid (hc1.alloc hc1.size (.cells #[.string r.n, .string r.v, .string r.d, .string r.p, .bool r.he, .bool r.ha, .bool r.hp, .int .i64 r.x, .int .i64 r.a, .int .i64 r.s, .bool r.sc, .bool r.ho] 24))
        have R1 := Lib.hid (PsB.new v1 r.n r.v r.d r.p r.he r.ha r.hp r.x r.a r.s r.sc r.ho)
        have hk1 := Lib.hid (hb.alloc hb.size (.cells #[.string r.n, .string r.v, .string r.d, .string r.p, .bool r.he, .bool r.ha, .bool r.hp, .int .i64 r.x, .int .i64 r.a, .int .i64 r.s, .bool r.sc, .bool r.ho] 24))
        have hcell1 := hk1.out.cell (p := ⟨nb, j, none⟩) hnl2 |>.trans hcell
        clear hb hc1 hc hr hcell
        go_wp2_with fail
        refine (H2.out _).mono ?_
        rintro e v2 ⟨rfl, hb⟩
        have hc2 := E1.out.trans (hb.mono E1.out.size)
        have E2 := Lib.hid (hc2.alloc hc2.size (.cells #[.string r.n, .string r.v, .string r.d, .string r.p, .bool r.he, .bool r.ha, .bool r.hp, .int .i64 r.x, .int .i64 r.a, .int .i64 r.s, .bool r.sc, .bool r.ho] 24))
        have R2 := Lib.hid ((R1.out.stays hb).alloc (.cells #[.string r.n, .string r.v, .string r.d, .string r.p, .bool r.he, .bool r.ha, .bool r.hp, .int .i64 r.x, .int .i64 r.a, .int .i64 r.s, .bool r.sc, .bool r.ho] 24))
        have S2 := Lib.hid (PsB.new v2 r.n r.v r.d r.p r.he r.ha r.hp r.x r.a r.s r.sc r.ho)
        have hk2 := Lib.hid (hk1.out.trans ((hb.alloc hb.size (.cells #[.string r.n, .string r.v, .string r.d, .string r.p, .bool r.he, .bool r.ha, .bool r.hp, .int .i64 r.x, .int .i64 r.a, .int .i64 r.s, .bool r.sc, .bool r.ho] 24)).mono hk1.out.size))
        have hcell2 := hk2.out.cell (p := ⟨nb, j, none⟩) hnl2 |>.trans HCELL.out
        obtain ⟨c0, c1, c2, c3, c4, c5, c6, c7, c8, c9, c10, c11⟩ := R2.out.at
        obtain ⟨d0, d1, d2, d3, d4, d5, d6, d7, d8, d9, d10, d11⟩ := S2.out.at
        have n2 : (c != c) = false := by simp
        have nr : ∀ (x y : Operand) (W : World), (eqGuard .neq 24 x y (.agg #[.string r.n, .string r.v, .string r.d, .string r.p, .bool r.he, .bool r.ha, .bool r.hp, .int .i64 r.x, .int .i64 r.a, .int .i64 r.s, .bool r.sc, .bool r.ho]) (.agg #[.string r.n, .string r.v, .string r.d, .string r.p, .bool r.he, .bool r.ha, .bool r.hp, .int .i64 r.x, .int .i64 r.a, .int .i64 r.s, .bool r.sc, .bool r.ho])).run Tryz.prog W = .ok () W := fun x y W => neq_guard_ps x y r W
        have ns : ∀ W : World, (binOp .neq 24 (.agg #[.string r.n, .string r.v, .string r.d, .string r.p, .bool r.he, .bool r.ha, .bool r.hp, .int .i64 r.x, .int .i64 r.a, .int .i64 r.s, .bool r.sc, .bool r.ho]) (.agg #[.string r.n, .string r.v, .string r.d, .string r.p, .bool r.he, .bool r.ha, .bool r.hp, .int .i64 r.x, .int .i64 r.a, .int .i64 r.s, .bool r.sc, .bool r.ho])).run Tryz.prog W = .ok (.bool false) W := fun W => neq_self_ps r W
        clear hb hc2 hcell1
        by_cases gc : c = 0
        · subst gc
          have hg : psGood r := by
            rw [HR.out]
            exact read_good HC.out
          go_wp2_with fail
          refine (headOK r _ hg (HA.out.below (B5.out.trans (E2.out.mono B5.out.size)))).mono ?_
          rintro e v3 ⟨rfl, hb⟩
          have E3 := Lib.hid (E2.out.trans (hb.mono E2.out.size))
          have hk3 := Lib.hid (hk2.out.trans (hb.mono hk2.out.size))
          have hcell3 := hk3.out.cell (p := ⟨nb, j, none⟩) hnl2 |>.trans HCELL.out
          clear hb hcell2 c0 c1 c2 c3 c4 c5 c6 c7 c8 c9 c10 c11 d0 d1 d2 d3 d4 d5 d6 d7 d8 d9 d10 d11
          go_upto_region 128 with fail
          go_wp2_with fail
          have hm : Hid (t.size ≤ maxLen) := Lib.hid (by unfold maxLen; omega)
          refine (implAge t _ hm.out (HA.out.below (B5.out.trans (E3.out.mono B5.out.size))).1.1).mono ?_
          rintro e v4 ⟨rfl, hb⟩
          have E4 := Lib.hid (E3.out.trans (hb.mono E3.out.size))
          have hk4 := Lib.hid (hk3.out.trans (hb.mono hk3.out.size))
          have hcell4 := hk4.out.cell (p := ⟨nb, j, none⟩) hnl2 |>.trans HCELL.out
          clear hb
          go_wp2_with fail
          refine (specAge t _ hm.out).mono ?_
          rintro e v5 ⟨rfl, rfl⟩
          go_wp2_with fail
          refine (implPairs t _ hm.out (HMX.out.below (B5.out.trans (E4.out.mono B5.out.size)))).mono ?_
          rintro e v6 ⟨x1, rfl, hr1, hb⟩
          have E6 := Lib.hid (E4.out.trans (hb.mono E4.out.size))
          have hk6 := Lib.hid (hk4.out.trans (hb.mono hk4.out.size))
          have hcell6 := hk6.out.cell (p := ⟨nb, j, none⟩) hnl2 |>.trans HCELL.out
          have R6 := Lib.hid hr1
          clear hb hr1 hcell4
          go_wp2_with fail
          refine (specPairs t _ hm.out).mono ?_
          rintro e v7 ⟨x2, rfl, hr2, hb⟩
          have E7 := Lib.hid (E6.out.trans (hb.mono E6.out.size))
          have hk7 := Lib.hid (hk6.out.trans (hb.mono hk6.out.size))
          have hcell7 := hk7.out.cell (p := ⟨nb, j, none⟩) hnl2 |>.trans HCELL.out
          have R7 := Lib.hid (R6.out.below hb)
          have S7 := Lib.hid hr2
          clear hb hr2 hcell6
          go_upto_region 159 with fail
          have hN7 : Nonempty (BCl v7) := BCl.full v7
          have qx := BCl.cell hcell7
          have HN7 := Lib.hid (HA.out.below (B5.out.trans (E7.out.mono B5.out.size)))
          have hpl := prs_len t
          have u1 : (dC t != dC t) = false := by simp
          have u2 : (dN t != dN t) = false := by simp
          have u3 : (prsC t != prsC t) = false := by simp
          have u4 : (siteV t != siteV t) = false := by simp
          clear hcell7
          refine wp_region_below (fun w' => ∃ i : BCl v7, w' = i.w) (by kernel_rfl) (by kernel_rfl) (BCl.start v7) ?_
          repeat (go_big_quiet_step (first
            | (go_at_call 20; rename_i i; with_reducible refine (sameTexts_any x1 x2 (prsL t) _ _ i.w (by omega) (R7.out.below i.below) (S7.out.below i.below)).mono ?_; intro e w' h; exact ⟨h.1, i.next h.2⟩)
            | (go_at_call 21; rename_i i; have hT := (HN7.out.below i.below).1.1; have hS := (HN7.out.below i.below).1.2.2.2; with_reducible refine (implSite t i.w hm.out hT hS).mono ?_; intro e w' h; exact ⟨h.1, i.next h.2⟩)
            | (go_at_call 22; rename_i i; with_reducible refine (specSite t i.w hm.out).mono ?_; intro e w' h; exact ⟨h.1, i.next h.2⟩)))
          refine wpQuiet_nil ?_
          intro _ hw'
          obtain ⟨i, rfl⟩ := hw'
          clear qx hN7
          go_wp2_with fail
          go_roundw
          case rel =>
            have hk8 := hk7.out.trans (i.below.mono hk7.out.size)
            exact ⟨j + 1, by omega, by go_num, fun y hy => (hk8.cell (p := ⟨nb, y, none⟩) hnl2).trans (HCL.out y hy), Nat.lt_of_lt_of_le hnl2 hk8.size, HB.out.trans (hk8.mono HB.out.size)⟩
          case measure => simp [intOf]; omega
        · have g1 : (c == 0) = false := by
            rw [beq_eq_false_iff_ne]
            exact gc
          clear gc
          go_upto_region 128 with fail
          go_wp2_with fail
          have hm : Hid (t.size ≤ maxLen) := Lib.hid (by unfold maxLen; omega)
          refine (implAge t _ hm.out (HA.out.below (B5.out.trans (E2.out.mono B5.out.size))).1.1).mono ?_
          rintro e v4 ⟨rfl, hb⟩
          have E4 := Lib.hid (E2.out.trans (hb.mono E2.out.size))
          have hk4 := Lib.hid (hk2.out.trans (hb.mono hk2.out.size))
          have hcell4 := hk4.out.cell (p := ⟨nb, j, none⟩) hnl2 |>.trans HCELL.out
          clear hb
          go_wp2_with fail
          refine (specAge t _ hm.out).mono ?_
          rintro e v5 ⟨rfl, rfl⟩
          go_wp2_with fail
          refine (implPairs t _ hm.out (HMX.out.below (B5.out.trans (E4.out.mono B5.out.size)))).mono ?_
          rintro e v6 ⟨x1, rfl, hr1, hb⟩
          have E6 := Lib.hid (E4.out.trans (hb.mono E4.out.size))
          have hk6 := Lib.hid (hk4.out.trans (hb.mono hk4.out.size))
          have hcell6 := hk6.out.cell (p := ⟨nb, j, none⟩) hnl2 |>.trans HCELL.out
          have R6 := Lib.hid hr1
          clear hb hr1 hcell4
          go_wp2_with fail
          refine (specPairs t _ hm.out).mono ?_
          rintro e v7 ⟨x2, rfl, hr2, hb⟩
          have E7 := Lib.hid (E6.out.trans (hb.mono E6.out.size))
          have hk7 := Lib.hid (hk6.out.trans (hb.mono hk6.out.size))
          have hcell7 := hk7.out.cell (p := ⟨nb, j, none⟩) hnl2 |>.trans HCELL.out
          have R7 := Lib.hid (R6.out.below hb)
          have S7 := Lib.hid hr2
          clear hb hr2 hcell6
          go_upto_region 159 with fail
          have hN7 : Nonempty (BCl v7) := BCl.full v7
          have qx := BCl.cell hcell7
          have HN7 := Lib.hid (HA.out.below (B5.out.trans (E7.out.mono B5.out.size)))
          have hpl := prs_len t
          have u1 : (dC t != dC t) = false := by simp
          have u2 : (dN t != dN t) = false := by simp
          have u3 : (prsC t != prsC t) = false := by simp
          have u4 : (siteV t != siteV t) = false := by simp
          clear hcell7
          refine wp_region_below (fun w' => ∃ i : BCl v7, w' = i.w) (by kernel_rfl) (by kernel_rfl) (BCl.start v7) ?_
          repeat (go_big_quiet_step (first
            | (go_at_call 20; rename_i i; with_reducible refine (sameTexts_any x1 x2 (prsL t) _ _ i.w (by omega) (R7.out.below i.below) (S7.out.below i.below)).mono ?_; intro e w' h; exact ⟨h.1, i.next h.2⟩)
            | (go_at_call 21; rename_i i; have hT := (HN7.out.below i.below).1.1; have hS := (HN7.out.below i.below).1.2.2.2; with_reducible refine (implSite t i.w hm.out hT hS).mono ?_; intro e w' h; exact ⟨h.1, i.next h.2⟩)
            | (go_at_call 22; rename_i i; with_reducible refine (specSite t i.w hm.out).mono ?_; intro e w' h; exact ⟨h.1, i.next h.2⟩)))
          refine wpQuiet_nil ?_
          intro _ hw'
          obtain ⟨i, rfl⟩ := hw'
          clear qx hN7
          go_wp2_with fail
          go_roundw
          case rel =>
            have hk8 := hk7.out.trans (i.below.mono hk7.out.size)
            exact ⟨j + 1, by omega, by go_num, fun y hy => (hk8.cell (p := ⟨nb, y, none⟩) hnl2).trans (HCL.out y hy), Nat.lt_of_lt_of_le hnl2 hk8.size, HB.out.trans (hk8.mono HB.out.size)⟩
          case measure => simp [intOf]; omega
      · have hge : ¬ (j : Int) < 3 := by omega
        have P6 := Lib.hid (P5.out.stays HB.out)
        have hmT : moreT = ⟨#[59, 32, 80, 97, 116, 104, 61, 47, 122, 122, 59, 32, 83, 69, 67, 85, 82, 69, 59, 32, 115, 97, 109, 101, 115, 105, 116, 101, 61, 76, 65, 88, 59, 32, 109, 97, 120, 45, 97, 103, 101, 61, 48, 48, 55]⟩ := by decide +kernel
        have HMT := Lib.hid hmT
        clear hmT
        go_wp2_with fail
        rw [← HMT.out]
        refine (headMore q _ HQ.out (HA.out.below HW.out)).mono ?_
        rintro e w6 ⟨rfl, hb⟩
        have B6 := Lib.hid (HW.out.trans (hb.mono HW.out.size))
        have P7 := Lib.hid (P6.out.stays hb)
        have N7 := Lib.hid (PsB.new w6 q.n q.v q.d ⟨#[47, 122, 122]⟩ q.he true true q.x 7 2 true q.ho)
        clear hb
        obtain ⟨c0, c1, c2, c3, c4, c5, c6, c7, c8, c9, c10, c11⟩ := (P7.out.alloc (.cells #[.string q.n, .string q.v, .string q.d, .string ⟨#[47, 122, 122]⟩, .bool q.he, .bool true, .bool true, .int .i64 q.x, .int .i64 7, .int .i64 2, .bool true, .bool q.ho] 24)).at
        obtain ⟨d0, d1, d2, d3, d4, d5, d6, d7, d8, d9, d10, d11⟩ := N7.out.at
        have z1 : (q.n.toList == q.n.toList) = true := by simp
        have z2 : (q.v.toList == q.v.toList) = true := by simp
        go_wp2_with fail
        go_ret
        exact ⟨rfl, B6.out.alloc B6.out.size _⟩
end Go.Proofs.YtpdonghdnaehhaaGreatDoor
