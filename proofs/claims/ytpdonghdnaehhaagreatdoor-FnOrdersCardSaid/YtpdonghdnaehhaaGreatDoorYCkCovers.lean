/- Covers of the program and of the model; the law's walk. No condition of its own. -/
import Derived.Test.YtpdonghdnaehhaaGreatDoorYCkSpecO
import Derived.Test.YtpdonghdnaehhaaGreatDoorYMatch
namespace Go.Proofs.YtpdonghdnaehhaaGreatDoor
open Go.ChangeShapes Go.WideShapes Go.ChangeAt Go.WideMaps Go.WideElems Go.RowKit

def coversB (a b : Ck) : Bool := a.sc && ((a.n.toList == b.n.toList) && ((matchB a.d b.d || matchB b.d a.d) && pathB b.p a.p))
theorem bool_or (b : Bool) : b = false ∨ b = true := by cases b <;> simp
theorem ck_facts {q : Ck} (h : ckOK q = true) : hostB q.d = true ∧ q.p.size ≤ 60 := by
  unfold ckOK cpathB at h
  simp only [Bool.and_eq_true, decide_eq_true_eq] at h
  exact ⟨h.2.2.1, h.2.2.2.1.1⟩
theorem match_eq {h d : ByteArray} (hh : hostB h = true) (hd : hostB d = true) : matchL h d = matchB h d := by rw [matchB, hh, hd]; rfl
theorem path_eq {p c : ByteArray} (hp : p.size ≤ 60) (hc : c.size ≤ 60) : pathL p c = pathB p c := by rw [pathB, decide_eq_true ⟨by omega, by omega⟩, Bool.true_and]
set_option maxHeartbeats 4000000 in
set_option maxRecDepth 100000 in
theorem specCovL (a b : Ck) (w : World) (ha : ckOK a = true) (hb : ckOK b = true) : Calls Tryz.prog 105 #[.agg #[.int .i64 a.i, .string a.n, .string a.v, .string a.d, .string a.p, .bool a.ho, .bool a.sc, .bool a.ht, .int .i64 a.s, .int .i64 a.x, .int .i64 a.m, .int .i64 a.u], .agg #[.int .i64 b.i, .string b.n, .string b.v, .string b.d, .string b.p, .bool b.ho, .bool b.sc, .bool b.ht, .int .i64 b.s, .int .i64 b.x, .int .i64 b.m, .int .i64 b.u]] w fun e w' => e = .returned (.bool (coversB a b)) ∧ Below w.heap.size w w' := by
  obtain ⟨ha1, ha2⟩ := ck_facts ha
  obtain ⟨hb1, hb2⟩ := ck_facts hb
  have za := (host_size ha1).2
  have zb := (host_size hb1).2
  have M1 : Hid (∀ w : World, Calls Tryz.prog 201 #[.string a.d, .string b.d] w fun e w' => e = .returned (.bool (matchB a.d b.d)) ∧ Below w.heap.size w w') := Lib.hid fun w => by
    rw [← match_eq ha1 hb1]
    exact specMatchL _ _ w za zb
  have M2 : Hid (∀ w : World, Calls Tryz.prog 201 #[.string b.d, .string a.d] w fun e w' => e = .returned (.bool (matchB b.d a.d)) ∧ Below w.heap.size w w') := Lib.hid fun w => by
    rw [← match_eq hb1 ha1]
    exact specMatchL _ _ w zb za
  have M3 : Hid (∀ w : World, Calls Tryz.prog 202 #[.string b.p, .string a.p] w fun e w' => e = .returned (.bool (pathB b.p a.p)) ∧ w = w') := Lib.hid fun w => by
    rw [← path_eq hb2 ha2]
    exact specPathL _ _ w (by unfold maxLen; omega) (by unfold maxLen; omega)
  clear ha hb ha1 hb1 ha2 hb2 za zb
  have B0 : Hid (Below w.heap.size w ((w.alloc (.cells #[.int .i64 a.i, .string a.n, .string a.v, .string a.d, .string a.p, .bool a.ho, .bool a.sc, .bool a.ht, .int .i64 a.s, .int .i64 a.x, .int .i64 a.m, .int .i64 a.u] 41)).alloc (.cells #[.int .i64 b.i, .string b.n, .string b.v, .string b.d, .string b.p, .bool b.ho, .bool b.sc, .bool b.ht, .int .i64 b.s, .int .i64 b.x, .int .i64 b.m, .int .i64 b.u] 41))) := Lib.hid (((Below.refl _ _).alloc (Nat.le_refl _) _).alloc (by simp) _)
  have P0 := Lib.hid ((CkB.new w a).alloc (.cells #[.int .i64 b.i, .string b.n, .string b.v, .string b.d, .string b.p, .bool b.ho, .bool b.sc, .bool b.ht, .int .i64 b.s, .int .i64 b.x, .int .i64 b.m, .int .i64 b.u] 41))
  have Q0 := Lib.hid (two_new w a b)
  cases s0 : (a.n.toList == b.n.toList) with
  | false =>
    have HE : Hid (coversB a b = false) := Lib.hid (by unfold coversB; rw [s0]; simp)
    rcases bool_or a.sc with hs | hs
    · have HS := Lib.hid hs
      clear hs
      go_enter Tryz.func105, Tryz.ntmps105
      go_upto_region 1 with fail
      obtain ⟨wz, hz⟩ : ∃ wz, ((w.alloc (.cells #[.int .i64 a.i, .string a.n, .string a.v, .string a.d, .string a.p, .bool a.ho, .bool a.sc, .bool a.ht, .int .i64 a.s, .int .i64 a.x, .int .i64 a.m, .int .i64 a.u] 41)).alloc (.cells #[.int .i64 b.i, .string b.n, .string b.v, .string b.d, .string b.p, .bool b.ho, .bool b.sc, .bool b.ht, .int .i64 b.s, .int .i64 b.x, .int .i64 b.m, .int .i64 b.u] 41)) = wz := ⟨_, rfl⟩
      rw [hz] at B0 P0 Q0 ⊢
      clear hz
      obtain ⟨c0, c1, c2, c3, c4, c5, c6, c7, c8, c9, c10, c11⟩ := P0.out.at
      obtain ⟨d0, d1, d2, d3, d4, d5, d6, d7, d8, d9, d10, d11⟩ := Q0.out.at
      rw [HS.out] at c6
      go_wp2_with fail
      go_ret
      exact ⟨bool_end (by rw [HE.out]), B0.out⟩
    · have HS := Lib.hid hs
      clear hs
      go_enter Tryz.func105, Tryz.ntmps105
      go_upto_region 1 with fail
      obtain ⟨wz, hz⟩ : ∃ wz, ((w.alloc (.cells #[.int .i64 a.i, .string a.n, .string a.v, .string a.d, .string a.p, .bool a.ho, .bool a.sc, .bool a.ht, .int .i64 a.s, .int .i64 a.x, .int .i64 a.m, .int .i64 a.u] 41)).alloc (.cells #[.int .i64 b.i, .string b.n, .string b.v, .string b.d, .string b.p, .bool b.ho, .bool b.sc, .bool b.ht, .int .i64 b.s, .int .i64 b.x, .int .i64 b.m, .int .i64 b.u] 41)) = wz := ⟨_, rfl⟩
      rw [hz] at B0 P0 Q0 ⊢
      clear hz
      obtain ⟨c0, c1, c2, c3, c4, c5, c6, c7, c8, c9, c10, c11⟩ := P0.out.at
      obtain ⟨d0, d1, d2, d3, d4, d5, d6, d7, d8, d9, d10, d11⟩ := Q0.out.at
      rw [HS.out] at c6
      go_wp2_with fail
      go_ret
      exact ⟨bool_end (by rw [HE.out]), B0.out⟩
  | true =>
    have S0 := Lib.hid s0
    rcases bool_or a.sc with hs | hs
    · have HE : Hid (coversB a b = false) := Lib.hid (by unfold coversB; rw [hs]; rfl)
      have HS := Lib.hid hs
      clear hs
      go_enter Tryz.func105, Tryz.ntmps105
      go_upto_region 1 with fail
      obtain ⟨wz, hz⟩ : ∃ wz, ((w.alloc (.cells #[.int .i64 a.i, .string a.n, .string a.v, .string a.d, .string a.p, .bool a.ho, .bool a.sc, .bool a.ht, .int .i64 a.s, .int .i64 a.x, .int .i64 a.m, .int .i64 a.u] 41)).alloc (.cells #[.int .i64 b.i, .string b.n, .string b.v, .string b.d, .string b.p, .bool b.ho, .bool b.sc, .bool b.ht, .int .i64 b.s, .int .i64 b.x, .int .i64 b.m, .int .i64 b.u] 41)) = wz := ⟨_, rfl⟩
      rw [hz] at B0 P0 Q0 ⊢
      clear hz
      obtain ⟨c0, c1, c2, c3, c4, c5, c6, c7, c8, c9, c10, c11⟩ := P0.out.at
      obtain ⟨d0, d1, d2, d3, d4, d5, d6, d7, d8, d9, d10, d11⟩ := Q0.out.at
      rw [HS.out] at c6
      go_wp2_with fail
      go_ret
      exact ⟨bool_end (by rw [HE.out]), B0.out⟩
    · have HS := Lib.hid hs
      clear hs
      cases m1 : matchB a.d b.d with
      | true =>
        have HE : Hid (coversB a b = pathB b.p a.p) := Lib.hid (by unfold coversB; rw [HS.out, S0.out, m1]; simp)
        go_enter Tryz.func105, Tryz.ntmps105
        go_upto_region 1 with fail
        obtain ⟨wz, hz⟩ : ∃ wz, ((w.alloc (.cells #[.int .i64 a.i, .string a.n, .string a.v, .string a.d, .string a.p, .bool a.ho, .bool a.sc, .bool a.ht, .int .i64 a.s, .int .i64 a.x, .int .i64 a.m, .int .i64 a.u] 41)).alloc (.cells #[.int .i64 b.i, .string b.n, .string b.v, .string b.d, .string b.p, .bool b.ho, .bool b.sc, .bool b.ht, .int .i64 b.s, .int .i64 b.x, .int .i64 b.m, .int .i64 b.u] 41)) = wz := ⟨_, rfl⟩
        rw [hz] at B0 P0 Q0 ⊢
        clear hz
        obtain ⟨c0, c1, c2, c3, c4, c5, c6, c7, c8, c9, c10, c11⟩ := P0.out.at
        obtain ⟨d0, d1, d2, d3, d4, d5, d6, d7, d8, d9, d10, d11⟩ := Q0.out.at
        rw [HS.out] at c6
        go_wp2_with fail
        refine (M1.out _).mono ?_
        rintro e w5 ⟨rfl, hb⟩
        have B5 := Lib.hid (B0.out.trans (hb.mono B0.out.size))
        have P5 := Lib.hid (P0.out.stays hb)
        have Q5 := Lib.hid (Q0.out.stays hb)
        clear hb c0 c1 c2 c3 c4 c5 c6 c7 c8 c9 c10 c11 d0 d1 d2 d3 d4 d5 d6 d7 d8 d9 d10 d11
        obtain ⟨c0, c1, c2, c3, c4, c5, c6, c7, c8, c9, c10, c11⟩ := P5.out.at
        obtain ⟨d0, d1, d2, d3, d4, d5, d6, d7, d8, d9, d10, d11⟩ := Q5.out.at
        rw [m1]
        clear m1
        go_wp2_with fail
        refine (M3.out _).mono ?_
        rintro e w' ⟨rfl, rfl⟩
        go_wp2_with fail
        go_ret
        exact ⟨bool_end (by rw [HE.out]), B5.out⟩
      | false =>
        cases m2 : matchB b.d a.d with
        | true =>
          have HE : Hid (coversB a b = pathB b.p a.p) := Lib.hid (by unfold coversB; rw [HS.out, S0.out, m1, m2]; simp)
          go_enter Tryz.func105, Tryz.ntmps105
          go_upto_region 1 with fail
          obtain ⟨wz, hz⟩ : ∃ wz, ((w.alloc (.cells #[.int .i64 a.i, .string a.n, .string a.v, .string a.d, .string a.p, .bool a.ho, .bool a.sc, .bool a.ht, .int .i64 a.s, .int .i64 a.x, .int .i64 a.m, .int .i64 a.u] 41)).alloc (.cells #[.int .i64 b.i, .string b.n, .string b.v, .string b.d, .string b.p, .bool b.ho, .bool b.sc, .bool b.ht, .int .i64 b.s, .int .i64 b.x, .int .i64 b.m, .int .i64 b.u] 41)) = wz := ⟨_, rfl⟩
          rw [hz] at B0 P0 Q0 ⊢
          clear hz
          obtain ⟨c0, c1, c2, c3, c4, c5, c6, c7, c8, c9, c10, c11⟩ := P0.out.at
          obtain ⟨d0, d1, d2, d3, d4, d5, d6, d7, d8, d9, d10, d11⟩ := Q0.out.at
          rw [HS.out] at c6
          go_wp2_with fail
          refine (M1.out _).mono ?_
          rintro e w5 ⟨rfl, hb⟩
          have B5 := Lib.hid (B0.out.trans (hb.mono B0.out.size))
          have P5 := Lib.hid (P0.out.stays hb)
          have Q5 := Lib.hid (Q0.out.stays hb)
          clear hb c0 c1 c2 c3 c4 c5 c6 c7 c8 c9 c10 c11 d0 d1 d2 d3 d4 d5 d6 d7 d8 d9 d10 d11
          obtain ⟨c0, c1, c2, c3, c4, c5, c6, c7, c8, c9, c10, c11⟩ := P5.out.at
          obtain ⟨d0, d1, d2, d3, d4, d5, d6, d7, d8, d9, d10, d11⟩ := Q5.out.at
          rw [m1]
          clear m1
          go_wp2_with fail
          refine (M2.out _).mono ?_
          rintro e w6 ⟨rfl, hb⟩
          have B6 := Lib.hid (B5.out.trans (hb.mono B5.out.size))
          have P6 := Lib.hid (P5.out.stays hb)
          have Q6 := Lib.hid (Q5.out.stays hb)
          clear hb c0 c1 c2 c3 c4 c5 c6 c7 c8 c9 c10 c11 d0 d1 d2 d3 d4 d5 d6 d7 d8 d9 d10 d11
          obtain ⟨c0, c1, c2, c3, c4, c5, c6, c7, c8, c9, c10, c11⟩ := P6.out.at
          obtain ⟨d0, d1, d2, d3, d4, d5, d6, d7, d8, d9, d10, d11⟩ := Q6.out.at
          rw [m2]
          clear m2
          go_wp2_with fail
          refine (M3.out _).mono ?_
          rintro e w' ⟨rfl, rfl⟩
          go_wp2_with fail
          go_ret
          exact ⟨bool_end (by rw [HE.out]), B6.out⟩
        | false =>
          have HE : Hid (coversB a b = false) := Lib.hid (by unfold coversB; rw [HS.out, S0.out, m1, m2]; simp)
          go_enter Tryz.func105, Tryz.ntmps105
          go_upto_region 1 with fail
          obtain ⟨wz, hz⟩ : ∃ wz, ((w.alloc (.cells #[.int .i64 a.i, .string a.n, .string a.v, .string a.d, .string a.p, .bool a.ho, .bool a.sc, .bool a.ht, .int .i64 a.s, .int .i64 a.x, .int .i64 a.m, .int .i64 a.u] 41)).alloc (.cells #[.int .i64 b.i, .string b.n, .string b.v, .string b.d, .string b.p, .bool b.ho, .bool b.sc, .bool b.ht, .int .i64 b.s, .int .i64 b.x, .int .i64 b.m, .int .i64 b.u] 41)) = wz := ⟨_, rfl⟩
          rw [hz] at B0 P0 Q0 ⊢
          clear hz
          obtain ⟨c0, c1, c2, c3, c4, c5, c6, c7, c8, c9, c10, c11⟩ := P0.out.at
          obtain ⟨d0, d1, d2, d3, d4, d5, d6, d7, d8, d9, d10, d11⟩ := Q0.out.at
          rw [HS.out] at c6
          go_wp2_with fail
          refine (M1.out _).mono ?_
          rintro e w5 ⟨rfl, hb⟩
          have B5 := Lib.hid (B0.out.trans (hb.mono B0.out.size))
          have P5 := Lib.hid (P0.out.stays hb)
          have Q5 := Lib.hid (Q0.out.stays hb)
          clear hb c0 c1 c2 c3 c4 c5 c6 c7 c8 c9 c10 c11 d0 d1 d2 d3 d4 d5 d6 d7 d8 d9 d10 d11
          obtain ⟨c0, c1, c2, c3, c4, c5, c6, c7, c8, c9, c10, c11⟩ := P5.out.at
          obtain ⟨d0, d1, d2, d3, d4, d5, d6, d7, d8, d9, d10, d11⟩ := Q5.out.at
          rw [m1]
          clear m1
          go_wp2_with fail
          refine (M2.out _).mono ?_
          rintro e w6 ⟨rfl, hb⟩
          have B6 := Lib.hid (B5.out.trans (hb.mono B5.out.size))
          have P6 := Lib.hid (P5.out.stays hb)
          have Q6 := Lib.hid (Q5.out.stays hb)
          clear hb c0 c1 c2 c3 c4 c5 c6 c7 c8 c9 c10 c11 d0 d1 d2 d3 d4 d5 d6 d7 d8 d9 d10 d11
          obtain ⟨c0, c1, c2, c3, c4, c5, c6, c7, c8, c9, c10, c11⟩ := P6.out.at
          obtain ⟨d0, d1, d2, d3, d4, d5, d6, d7, d8, d9, d10, d11⟩ := Q6.out.at
          rw [m2]
          clear m2
          go_wp2_with fail
          go_ret
          exact ⟨bool_end (by rw [HE.out]), B6.out⟩
set_option maxHeartbeats 4000000 in
set_option maxRecDepth 100000 in
theorem implCov (a b : Ck) (w : World) (ha : szC a) (hb : szC b) (hT : TabAt w) (hm : MaxAt w) (hN : NumAt w) : Calls Tryz.prog 32 #[.agg #[.int .i64 a.i, .string a.n, .string a.v, .string a.d, .string a.p, .bool a.ho, .bool a.sc, .bool a.ht, .int .i64 a.s, .int .i64 a.x, .int .i64 a.m, .int .i64 a.u], .agg #[.int .i64 b.i, .string b.n, .string b.v, .string b.d, .string b.p, .bool b.ho, .bool b.sc, .bool b.ht, .int .i64 b.s, .int .i64 b.x, .int .i64 b.m, .int .i64 b.u]] w fun e w' => e = .returned (.bool ((ckOK a && ckOK b) && coversB a b)) ∧ Below w.heap.size w w' := by
  have HT := Lib.hid hT
  have HM := Lib.hid hm
  have HN := Lib.hid hN
  have HA := Lib.hid ha
  have HB := Lib.hid hb
  clear hT hm hN ha hb
  have B0 : Hid (Below w.heap.size w ((w.alloc (.cells #[.int .i64 a.i, .string a.n, .string a.v, .string a.d, .string a.p, .bool a.ho, .bool a.sc, .bool a.ht, .int .i64 a.s, .int .i64 a.x, .int .i64 a.m, .int .i64 a.u] 41)).alloc (.cells #[.int .i64 b.i, .string b.n, .string b.v, .string b.d, .string b.p, .bool b.ho, .bool b.sc, .bool b.ht, .int .i64 b.s, .int .i64 b.x, .int .i64 b.m, .int .i64 b.u] 41))) := Lib.hid (((Below.refl _ _).alloc (Nat.le_refl _) _).alloc (by simp) _)
  have P0 := Lib.hid ((CkB.new w a).alloc (.cells #[.int .i64 b.i, .string b.n, .string b.v, .string b.d, .string b.p, .bool b.ho, .bool b.sc, .bool b.ht, .int .i64 b.s, .int .i64 b.x, .int .i64 b.m, .int .i64 b.u] 41))
  have Q0 := Lib.hid (two_new w a b)
  cases g : (ckOK a && ckOK b) with
  | false =>
    go_enter Tryz.func32, Tryz.ntmps32
    go_wp2_with fail
    refine (bothOK_any a b _ HA.out HB.out (HT.out.below B0.out)).mono ?_
    rintro e w1 ⟨rfl, hb⟩
    have B1 := Lib.hid (B0.out.trans (hb.mono B0.out.size))
    clear hb
    rw [g]
    clear g
    go_wp2_with fail
    go_ret
    exact ⟨bool_end (by simp), B1.out⟩
  | true =>
    have M1 : Hid (∀ wx : World, Below w.heap.size w wx → Calls Tryz.prog 103 #[.string a.d, .string b.d] wx fun e w' => e = .returned (.bool (matchB a.d b.d)) ∧ Below wx.heap.size wx w') := Lib.hid fun wx hB => implMatch _ _ wx (by have := HA.out.2.2.1; unfold maxLen; omega) (by have := HB.out.2.2.1; unfold maxLen; omega) (HT.out.below hB) (HM.out.below hB) (HN.out.below hB)
    have M2 : Hid (∀ wx : World, Below w.heap.size w wx → Calls Tryz.prog 103 #[.string b.d, .string a.d] wx fun e w' => e = .returned (.bool (matchB b.d a.d)) ∧ Below wx.heap.size wx w') := Lib.hid fun wx hB => implMatch _ _ wx (by have := HB.out.2.2.1; unfold maxLen; omega) (by have := HA.out.2.2.1; unfold maxLen; omega) (HT.out.below hB) (HM.out.below hB) (HN.out.below hB)
    have M3 : Hid (∀ wx : World, Calls Tryz.prog 104 #[.string b.p, .string a.p] wx fun e w' => e = .returned (.bool (pathB b.p a.p)) ∧ wx = w') := Lib.hid fun wx => implPath _ _ wx (by have := HB.out.2.2.2; unfold maxLen; omega) (by have := HA.out.2.2.2; unfold maxLen; omega)
    cases s0 : (a.n.toList == b.n.toList) with
    | false =>
      have HE : Hid (coversB a b = false) := Lib.hid (by unfold coversB; rw [s0]; simp)
      rcases bool_or a.sc with hs | hs
      · have HS := Lib.hid hs
        clear hs
        go_enter Tryz.func32, Tryz.ntmps32
        go_wp2_with fail
        refine (bothOK_any a b _ HA.out HB.out (HT.out.below B0.out)).mono ?_
        rintro e w1 ⟨rfl, hb⟩
        have B1 := Lib.hid (B0.out.trans (hb.mono B0.out.size))
        have P1 := Lib.hid (P0.out.stays hb)
        have Q1 := Lib.hid (Q0.out.stays hb)
        clear hb
        rw [g]
        clear g
        obtain ⟨c0, c1, c2, c3, c4, c5, c6, c7, c8, c9, c10, c11⟩ := P1.out.at
        obtain ⟨d0, d1, d2, d3, d4, d5, d6, d7, d8, d9, d10, d11⟩ := Q1.out.at
        rw [HS.out] at c6
        go_wp2_with fail
        go_ret
        exact ⟨bool_end (by rw [HE.out]; simp), B1.out⟩
      · have HS := Lib.hid hs
        clear hs
        go_enter Tryz.func32, Tryz.ntmps32
        go_wp2_with fail
        refine (bothOK_any a b _ HA.out HB.out (HT.out.below B0.out)).mono ?_
        rintro e w1 ⟨rfl, hb⟩
        have B1 := Lib.hid (B0.out.trans (hb.mono B0.out.size))
        have P1 := Lib.hid (P0.out.stays hb)
        have Q1 := Lib.hid (Q0.out.stays hb)
        clear hb
        rw [g]
        clear g
        obtain ⟨c0, c1, c2, c3, c4, c5, c6, c7, c8, c9, c10, c11⟩ := P1.out.at
        obtain ⟨d0, d1, d2, d3, d4, d5, d6, d7, d8, d9, d10, d11⟩ := Q1.out.at
        rw [HS.out] at c6
        go_wp2_with fail
        go_ret
        exact ⟨bool_end (by rw [HE.out]; simp), B1.out⟩
    | true =>
      have S0 := Lib.hid s0
      rcases bool_or a.sc with hs | hs
      · have HE : Hid (coversB a b = false) := Lib.hid (by unfold coversB; rw [hs]; rfl)
        have HS := Lib.hid hs
        clear hs
        go_enter Tryz.func32, Tryz.ntmps32
        go_wp2_with fail
        refine (bothOK_any a b _ HA.out HB.out (HT.out.below B0.out)).mono ?_
        rintro e w1 ⟨rfl, hb⟩
        have B1 := Lib.hid (B0.out.trans (hb.mono B0.out.size))
        have P1 := Lib.hid (P0.out.stays hb)
        have Q1 := Lib.hid (Q0.out.stays hb)
        clear hb
        rw [g]
        clear g
        obtain ⟨c0, c1, c2, c3, c4, c5, c6, c7, c8, c9, c10, c11⟩ := P1.out.at
        obtain ⟨d0, d1, d2, d3, d4, d5, d6, d7, d8, d9, d10, d11⟩ := Q1.out.at
        rw [HS.out] at c6
        go_wp2_with fail
        go_ret
        exact ⟨bool_end (by rw [HE.out]; simp), B1.out⟩
      · have HS := Lib.hid hs
        clear hs
        cases m1 : matchB a.d b.d with
        | true =>
          have HE : Hid (coversB a b = pathB b.p a.p) := Lib.hid (by unfold coversB; rw [HS.out, S0.out, m1]; simp)
          go_enter Tryz.func32, Tryz.ntmps32
          go_wp2_with fail
          refine (bothOK_any a b _ HA.out HB.out (HT.out.below B0.out)).mono ?_
          rintro e w1 ⟨rfl, hb⟩
          have B1 := Lib.hid (B0.out.trans (hb.mono B0.out.size))
          have P1 := Lib.hid (P0.out.stays hb)
          have Q1 := Lib.hid (Q0.out.stays hb)
          clear hb
          rw [g]
          clear g
          obtain ⟨c0, c1, c2, c3, c4, c5, c6, c7, c8, c9, c10, c11⟩ := P1.out.at
          obtain ⟨d0, d1, d2, d3, d4, d5, d6, d7, d8, d9, d10, d11⟩ := Q1.out.at
          rw [HS.out] at c6
          go_wp2_with fail
          refine (M1.out _ B1.out).mono ?_
          rintro e w5 ⟨rfl, hb⟩
          have B5 := Lib.hid (B1.out.trans (hb.mono B1.out.size))
          have P5 := Lib.hid (P1.out.stays hb)
          have Q5 := Lib.hid (Q1.out.stays hb)
          clear hb c0 c1 c2 c3 c4 c5 c6 c7 c8 c9 c10 c11 d0 d1 d2 d3 d4 d5 d6 d7 d8 d9 d10 d11
          obtain ⟨c0, c1, c2, c3, c4, c5, c6, c7, c8, c9, c10, c11⟩ := P5.out.at
          obtain ⟨d0, d1, d2, d3, d4, d5, d6, d7, d8, d9, d10, d11⟩ := Q5.out.at
          rw [m1]
          clear m1
          go_wp2_with fail
          refine (M3.out _).mono ?_
          rintro e w' ⟨rfl, rfl⟩
          go_wp2_with fail
          go_ret
          exact ⟨bool_end (by rw [HE.out]; simp), B5.out⟩
        | false =>
          cases m2 : matchB b.d a.d with
          | true =>
            have HE : Hid (coversB a b = pathB b.p a.p) := Lib.hid (by unfold coversB; rw [HS.out, S0.out, m1, m2]; simp)
            go_enter Tryz.func32, Tryz.ntmps32
            go_wp2_with fail
            refine (bothOK_any a b _ HA.out HB.out (HT.out.below B0.out)).mono ?_
            rintro e w1 ⟨rfl, hb⟩
            have B1 := Lib.hid (B0.out.trans (hb.mono B0.out.size))
            have P1 := Lib.hid (P0.out.stays hb)
            have Q1 := Lib.hid (Q0.out.stays hb)
            clear hb
            rw [g]
            clear g
            obtain ⟨c0, c1, c2, c3, c4, c5, c6, c7, c8, c9, c10, c11⟩ := P1.out.at
            obtain ⟨d0, d1, d2, d3, d4, d5, d6, d7, d8, d9, d10, d11⟩ := Q1.out.at
            rw [HS.out] at c6
            go_wp2_with fail
            refine (M1.out _ B1.out).mono ?_
            rintro e w5 ⟨rfl, hb⟩
            have B5 := Lib.hid (B1.out.trans (hb.mono B1.out.size))
            have P5 := Lib.hid (P1.out.stays hb)
            have Q5 := Lib.hid (Q1.out.stays hb)
            clear hb c0 c1 c2 c3 c4 c5 c6 c7 c8 c9 c10 c11 d0 d1 d2 d3 d4 d5 d6 d7 d8 d9 d10 d11
            obtain ⟨c0, c1, c2, c3, c4, c5, c6, c7, c8, c9, c10, c11⟩ := P5.out.at
            obtain ⟨d0, d1, d2, d3, d4, d5, d6, d7, d8, d9, d10, d11⟩ := Q5.out.at
            rw [m1]
            clear m1
            go_wp2_with fail
            refine (M2.out _ B5.out).mono ?_
            rintro e w6 ⟨rfl, hb⟩
            have B6 := Lib.hid (B5.out.trans (hb.mono B5.out.size))
            have P6 := Lib.hid (P5.out.stays hb)
            have Q6 := Lib.hid (Q5.out.stays hb)
            clear hb c0 c1 c2 c3 c4 c5 c6 c7 c8 c9 c10 c11 d0 d1 d2 d3 d4 d5 d6 d7 d8 d9 d10 d11
            obtain ⟨c0, c1, c2, c3, c4, c5, c6, c7, c8, c9, c10, c11⟩ := P6.out.at
            obtain ⟨d0, d1, d2, d3, d4, d5, d6, d7, d8, d9, d10, d11⟩ := Q6.out.at
            rw [m2]
            clear m2
            go_wp2_with fail
            refine (M3.out _).mono ?_
            rintro e w' ⟨rfl, rfl⟩
            go_wp2_with fail
            go_ret
            exact ⟨bool_end (by rw [HE.out]; simp), B6.out⟩
          | false =>
            have HE : Hid (coversB a b = false) := Lib.hid (by unfold coversB; rw [HS.out, S0.out, m1, m2]; simp)
            go_enter Tryz.func32, Tryz.ntmps32
            go_wp2_with fail
            refine (bothOK_any a b _ HA.out HB.out (HT.out.below B0.out)).mono ?_
            rintro e w1 ⟨rfl, hb⟩
            have B1 := Lib.hid (B0.out.trans (hb.mono B0.out.size))
            have P1 := Lib.hid (P0.out.stays hb)
            have Q1 := Lib.hid (Q0.out.stays hb)
            clear hb
            rw [g]
            clear g
            obtain ⟨c0, c1, c2, c3, c4, c5, c6, c7, c8, c9, c10, c11⟩ := P1.out.at
            obtain ⟨d0, d1, d2, d3, d4, d5, d6, d7, d8, d9, d10, d11⟩ := Q1.out.at
            rw [HS.out] at c6
            go_wp2_with fail
            refine (M1.out _ B1.out).mono ?_
            rintro e w5 ⟨rfl, hb⟩
            have B5 := Lib.hid (B1.out.trans (hb.mono B1.out.size))
            have P5 := Lib.hid (P1.out.stays hb)
            have Q5 := Lib.hid (Q1.out.stays hb)
            clear hb c0 c1 c2 c3 c4 c5 c6 c7 c8 c9 c10 c11 d0 d1 d2 d3 d4 d5 d6 d7 d8 d9 d10 d11
            obtain ⟨c0, c1, c2, c3, c4, c5, c6, c7, c8, c9, c10, c11⟩ := P5.out.at
            obtain ⟨d0, d1, d2, d3, d4, d5, d6, d7, d8, d9, d10, d11⟩ := Q5.out.at
            rw [m1]
            clear m1
            go_wp2_with fail
            refine (M2.out _ B5.out).mono ?_
            rintro e w6 ⟨rfl, hb⟩
            have B6 := Lib.hid (B5.out.trans (hb.mono B5.out.size))
            have P6 := Lib.hid (P5.out.stays hb)
            have Q6 := Lib.hid (Q5.out.stays hb)
            clear hb c0 c1 c2 c3 c4 c5 c6 c7 c8 c9 c10 c11 d0 d1 d2 d3 d4 d5 d6 d7 d8 d9 d10 d11
            obtain ⟨c0, c1, c2, c3, c4, c5, c6, c7, c8, c9, c10, c11⟩ := P6.out.at
            obtain ⟨d0, d1, d2, d3, d4, d5, d6, d7, d8, d9, d10, d11⟩ := Q6.out.at
            rw [m2]
            clear m2
            go_wp2_with fail
            go_ret
            exact ⟨bool_end (by rw [HE.out]; simp), B6.out⟩
set_option maxRecDepth 100000 in
theorem specCov (a b : Ck) (w : World) (ha : szC a) (hb : szC b) : Calls Tryz.prog 33 #[.agg #[.int .i64 a.i, .string a.n, .string a.v, .string a.d, .string a.p, .bool a.ho, .bool a.sc, .bool a.ht, .int .i64 a.s, .int .i64 a.x, .int .i64 a.m, .int .i64 a.u], .agg #[.int .i64 b.i, .string b.n, .string b.v, .string b.d, .string b.p, .bool b.ho, .bool b.sc, .bool b.ht, .int .i64 b.s, .int .i64 b.x, .int .i64 b.m, .int .i64 b.u]] w fun e w' => e = .returned (.bool ((ckOK a && ckOK b) && coversB a b)) ∧ Below w.heap.size w w' := by
  have B0 : Hid (Below w.heap.size w ((w.alloc (.cells #[.int .i64 a.i, .string a.n, .string a.v, .string a.d, .string a.p, .bool a.ho, .bool a.sc, .bool a.ht, .int .i64 a.s, .int .i64 a.x, .int .i64 a.m, .int .i64 a.u] 41)).alloc (.cells #[.int .i64 b.i, .string b.n, .string b.v, .string b.d, .string b.p, .bool b.ho, .bool b.sc, .bool b.ht, .int .i64 b.s, .int .i64 b.x, .int .i64 b.m, .int .i64 b.u] 41))) := Lib.hid (((Below.refl _ _).alloc (Nat.le_refl _) _).alloc (by simp) _)
  have P0 := Lib.hid ((CkB.new w a).alloc (.cells #[.int .i64 b.i, .string b.n, .string b.v, .string b.d, .string b.p, .bool b.ho, .bool b.sc, .bool b.ht, .int .i64 b.s, .int .i64 b.x, .int .i64 b.m, .int .i64 b.u] 41))
  have Q0 := Lib.hid (two_new w a b)
  have HA := Lib.hid ha
  have HB := Lib.hid hb
  clear ha hb
  cases g1 : ckOK a with
  | false =>
    go_enter Tryz.func33, Tryz.ntmps33
    go_wp2_with fail
    refine (specCk_at a _ HA.out).mono ?_
    rintro e w1 ⟨rfl, hb⟩
    have B1 := Lib.hid (B0.out.trans (hb.mono B0.out.size))
    clear hb
    rw [g1]
    clear g1
    go_wp2_with fail
    go_ret
    exact ⟨bool_end (by simp), B1.out⟩
  | true =>
    have G1 := Lib.hid g1
    cases g2 : ckOK b with
    | false =>
      go_enter Tryz.func33, Tryz.ntmps33
      go_wp2_with fail
      refine (specCk_at a _ HA.out).mono ?_
      rintro e w1 ⟨rfl, hb⟩
      have B1 := Lib.hid (B0.out.trans (hb.mono B0.out.size))
      have P1 := Lib.hid (P0.out.stays hb)
      have Q1 := Lib.hid (Q0.out.stays hb)
      clear hb
      rw [g1]
      clear g1
      obtain ⟨c0, c1, c2, c3, c4, c5, c6, c7, c8, c9, c10, c11⟩ := P1.out.at
      obtain ⟨d0, d1, d2, d3, d4, d5, d6, d7, d8, d9, d10, d11⟩ := Q1.out.at
      go_wp2_with fail
      refine (specCk_at b _ HB.out).mono ?_
      rintro e w2 ⟨rfl, hb⟩
      have B2 := Lib.hid (B1.out.trans (hb.mono B1.out.size))
      clear hb
      rw [g2]
      clear g2
      go_wp2_with fail
      go_ret
      exact ⟨bool_end (by simp), B2.out⟩
    | true =>
      have G2 := Lib.hid g2
      go_enter Tryz.func33, Tryz.ntmps33
      go_wp2_with fail
      refine (specCk_at a _ HA.out).mono ?_
      rintro e w1 ⟨rfl, hb⟩
      have B1 := Lib.hid (B0.out.trans (hb.mono B0.out.size))
      have P1 := Lib.hid (P0.out.stays hb)
      have Q1 := Lib.hid (Q0.out.stays hb)
      clear hb
      rw [g1]
      clear g1
      obtain ⟨c0, c1, c2, c3, c4, c5, c6, c7, c8, c9, c10, c11⟩ := P1.out.at
      obtain ⟨d0, d1, d2, d3, d4, d5, d6, d7, d8, d9, d10, d11⟩ := Q1.out.at
      go_wp2_with fail
      refine (specCk_at b _ HB.out).mono ?_
      rintro e w2 ⟨rfl, hb⟩
      have B2 := Lib.hid (B1.out.trans (hb.mono B1.out.size))
      have P2 := Lib.hid (P1.out.stays hb)
      have Q2 := Lib.hid (Q1.out.stays hb)
      clear hb c0 c1 c2 c3 c4 c5 c6 c7 c8 c9 c10 c11 d0 d1 d2 d3 d4 d5 d6 d7 d8 d9 d10 d11
      rw [g2]
      clear g2
      obtain ⟨c0, c1, c2, c3, c4, c5, c6, c7, c8, c9, c10, c11⟩ := P2.out.at
      obtain ⟨d0, d1, d2, d3, d4, d5, d6, d7, d8, d9, d10, d11⟩ := Q2.out.at
      go_wp2_with fail
      refine (specCovL a b _ G1.out G2.out).mono ?_
      rintro e w3 ⟨rfl, hb⟩
      have B3 := Lib.hid (B2.out.trans (hb.mono B2.out.size))
      clear hb
      go_wp2_with fail
      go_ret
      exact ⟨bool_end (by simp), B3.out⟩
end Go.Proofs.YtpdonghdnaehhaaGreatDoor
