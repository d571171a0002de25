/- Covers of the program and of the model; the law's walk. No condition of its own. -/
import Derived.Test.YtcaabnnkjnleeaaGreatDoorCkSpecO
import Derived.Test.YtcaabnnkjnleeaaGreatDoorMatch
namespace Go.Proofs.YtcaabnnkjnleeaaGreatDoor
open Go.ChangeShapes Go.WideShapes Go.ChangeAt Go.WideMaps Go.WideElems Go.RowKit

theorem lk_two (w : World) (a b : Ck) : LkB ((w.alloc (.cells #[.int .i64 a.i, .string a.n, .string a.v, .string a.d, .string a.p, .bool a.ho, .bool a.sc, .bool a.ht, .int .i64 a.s, .int .i64 a.x, .int .i64 a.m, .int .i64 a.u] 23)).alloc (.cells #[.int .i64 b.i, .string b.n, .string b.v, .string b.d, .string b.p, .bool b.ho, .bool b.sc, .bool b.ht, .int .i64 b.s, .int .i64 b.x, .int .i64 b.m, .int .i64 b.u] 23)) (w.heap.size + 1) b := by
  have h := LkB.new (w.alloc (.cells #[.int .i64 a.i, .string a.n, .string a.v, .string a.d, .string a.p, .bool a.ho, .bool a.sc, .bool a.ht, .int .i64 a.s, .int .i64 a.x, .int .i64 a.m, .int .i64 a.u] 23)) b
  rwa [show (w.alloc (.cells #[.int .i64 a.i, .string a.n, .string a.v, .string a.d, .string a.p, .bool a.ho, .bool a.sc, .bool a.ht, .int .i64 a.s, .int .i64 a.x, .int .i64 a.m, .int .i64 a.u] 23)).heap.size = w.heap.size + 1 by simp] at h
theorem szCookie_first (q : Ck) (w : World) (h : wtC q ≤ 1048576) : Calls Tryz.prog 9 #[.agg #[.int .i64 q.i, .string q.n, .string q.v, .string q.d, .string q.p, .bool q.ho, .bool q.sc, .bool q.ht, .int .i64 q.s, .int .i64 q.x, .int .i64 q.m, .int .i64 q.u], .int .i64 1048576] w fun e w' => e = .returned (.int .i64 ((1048576 - wtC q : Nat) : Int)) ∧ Below w.heap.size w w' := szCookie_any q 1048576 w (Nat.le_refl _) h
theorem szCookie_first_big (q : Ck) (w : World) (m0 : q.n.size ≤ maxLen) (m1 : q.v.size ≤ maxLen) (m2 : q.d.size ≤ maxLen) (m3 : q.p.size ≤ maxLen) (h : 1048576 < wtC q) : Calls Tryz.prog 9 #[.agg #[.int .i64 q.i, .string q.n, .string q.v, .string q.d, .string q.p, .bool q.ho, .bool q.sc, .bool q.ht, .int .i64 q.s, .int .i64 q.x, .int .i64 q.m, .int .i64 q.u], .int .i64 1048576] w fun e w' => e = .returned (.int .i64 (-1)) ∧ Below w.heap.size w w' := szCookie_big q 1048576 w (Nat.le_refl _) m0 m1 m2 m3 h
def coversB (a b : Ck) : Bool := a.sc && ((a.n.toList == b.n.toList) && ((matchB a.d b.d || matchB b.d a.d) && pathB b.p a.p))
theorem bool_or (b : Bool) : b = false ∨ b = true := by cases b <;> simp
theorem ck_facts {q : Ck} (h : ckOK q = true) : hostB q.d = true ∧ q.p.size ≤ 60 := by
  unfold ckOK cpathB at h
  simp only [Bool.and_eq_true, decide_eq_true_eq] at h
  exact ⟨h.2.2.1, h.2.2.2.1.1⟩
theorem match_eq {h d : ByteArray} (hh : hostB h = true) (hd : hostB d = true) : matchL h d = matchB h d := by rw [matchB, hh, hd]; rfl
theorem path_eq {p c : ByteArray} (hp : p.size ≤ 60) (hc : c.size ≤ 60) : pathL p c = pathB p c := by rw [pathB, decide_eq_true ⟨by omega, by omega⟩, Bool.true_and]
set_option maxHeartbeats 4000000 in
set_option maxRecDepth 100000 in
theorem specCovL (a b : Ck) (w : World) (ha : ckOK a = true) (hb : ckOK b = true) : Calls Tryz.prog 35 #[.agg #[.int .i64 a.i, .string a.n, .string a.v, .string a.d, .string a.p, .bool a.ho, .bool a.sc, .bool a.ht, .int .i64 a.s, .int .i64 a.x, .int .i64 a.m, .int .i64 a.u], .agg #[.int .i64 b.i, .string b.n, .string b.v, .string b.d, .string b.p, .bool b.ho, .bool b.sc, .bool b.ht, .int .i64 b.s, .int .i64 b.x, .int .i64 b.m, .int .i64 b.u]] w fun e w' => e = .returned (.bool (coversB a b)) ∧ Below w.heap.size w w' := by
  obtain ⟨ha1, ha2⟩ := ck_facts ha
  obtain ⟨hb1, hb2⟩ := ck_facts hb
  have za := (host_size ha1).2
  have zb := (host_size hb1).2
  have M1 : Hid (∀ w : World, Calls Tryz.prog 89 #[.string a.d, .string b.d] w fun e w' => e = .returned (.bool (matchB a.d b.d)) ∧ Below w.heap.size w w') := Lib.hid fun w => by
    rw [← match_eq ha1 hb1]
    exact specMatchL _ _ w za zb
  have M2 : Hid (∀ w : World, Calls Tryz.prog 89 #[.string b.d, .string a.d] w fun e w' => e = .returned (.bool (matchB b.d a.d)) ∧ Below w.heap.size w w') := Lib.hid fun w => by
    rw [← match_eq hb1 ha1]
    exact specMatchL _ _ w zb za
  have M3 : Hid (∀ w : World, Calls Tryz.prog 90 #[.string b.p, .string a.p] w fun e w' => e = .returned (.bool (pathB b.p a.p)) ∧ w = w') := Lib.hid fun w => by
    rw [← path_eq hb2 ha2]
    exact specPathL _ _ w (by unfold maxLen; omega) (by unfold maxLen; omega)
  clear ha hb ha1 hb1 ha2 hb2 za zb
  have B0 : Hid (Below w.heap.size w ((w.alloc (.cells #[.int .i64 a.i, .string a.n, .string a.v, .string a.d, .string a.p, .bool a.ho, .bool a.sc, .bool a.ht, .int .i64 a.s, .int .i64 a.x, .int .i64 a.m, .int .i64 a.u] 26)).alloc (.cells #[.int .i64 b.i, .string b.n, .string b.v, .string b.d, .string b.p, .bool b.ho, .bool b.sc, .bool b.ht, .int .i64 b.s, .int .i64 b.x, .int .i64 b.m, .int .i64 b.u] 26))) := Lib.hid (((Below.refl _ _).alloc (Nat.le_refl _) _).alloc (by simp) _)
  have P0 := Lib.hid ((CkB.new w a).alloc (.cells #[.int .i64 b.i, .string b.n, .string b.v, .string b.d, .string b.p, .bool b.ho, .bool b.sc, .bool b.ht, .int .i64 b.s, .int .i64 b.x, .int .i64 b.m, .int .i64 b.u] 26))
  have Q0 := Lib.hid (two_new w a b)
  cases s0 : (a.n.toList == b.n.toList) with
  | false =>
    have HE : Hid (coversB a b = false) := Lib.hid (by unfold coversB; rw [s0]; simp)
    rcases bool_or a.sc with hs | hs
    · have HS := Lib.hid hs
      clear hs
      go_enter Tryz.func35, Tryz.ntmps35
      go_upto_region 1 with fail
      obtain ⟨wz, hz⟩ : ∃ wz, ((w.alloc (.cells #[.int .i64 a.i, .string a.n, .string a.v, .string a.d, .string a.p, .bool a.ho, .bool a.sc, .bool a.ht, .int .i64 a.s, .int .i64 a.x, .int .i64 a.m, .int .i64 a.u] 26)).alloc (.cells #[.int .i64 b.i, .string b.n, .string b.v, .string b.d, .string b.p, .bool b.ho, .bool b.sc, .bool b.ht, .int .i64 b.s, .int .i64 b.x, .int .i64 b.m, .int .i64 b.u] 26)) = wz := ⟨_, rfl⟩
      rw [hz] at B0 P0 Q0 ⊢
      clear hz
      obtain ⟨c0, c1, c2, c3, c4, c5, c6, c7, c8, c9, c10, c11⟩ := P0.out.at
      obtain ⟨d0, d1, d2, d3, d4, d5, d6, d7, d8, d9, d10, d11⟩ := Q0.out.at
      rw [HS.out] at c6
      go_wp2_with fail
      go_ret
      exact ⟨bool_end (by rw [HE.out]), B0.out⟩
    · have HS := Lib.hid hs
      clear hs
      go_enter Tryz.func35, Tryz.ntmps35
      go_upto_region 1 with fail
      obtain ⟨wz, hz⟩ : ∃ wz, ((w.alloc (.cells #[.int .i64 a.i, .string a.n, .string a.v, .string a.d, .string a.p, .bool a.ho, .bool a.sc, .bool a.ht, .int .i64 a.s, .int .i64 a.x, .int .i64 a.m, .int .i64 a.u] 26)).alloc (.cells #[.int .i64 b.i, .string b.n, .string b.v, .string b.d, .string b.p, .bool b.ho, .bool b.sc, .bool b.ht, .int .i64 b.s, .int .i64 b.x, .int .i64 b.m, .int .i64 b.u] 26)) = wz := ⟨_, rfl⟩
      rw [hz] at B0 P0 Q0 ⊢
      clear hz
      obtain ⟨c0, c1, c2, c3, c4, c5, c6, c7, c8, c9, c10, c11⟩ := P0.out.at
      obtain ⟨d0, d1, d2, d3, d4, d5, d6, d7, d8, d9, d10, d11⟩ := Q0.out.at
      rw [HS.out] at c6
      go_wp2_with fail
      go_ret
      exact ⟨bool_end (by rw [HE.out]), B0.out⟩
  | true =>
    have S0 := Lib.hid s0
    rcases bool_or a.sc with hs | hs
    · have HE : Hid (coversB a b = false) := Lib.hid (by unfold coversB; rw [hs]; rfl)
      have HS := Lib.hid hs
      clear hs
      go_enter Tryz.func35, Tryz.ntmps35
      go_upto_region 1 with fail
      obtain ⟨wz, hz⟩ : ∃ wz, ((w.alloc (.cells #[.int .i64 a.i, .string a.n, .string a.v, .string a.d, .string a.p, .bool a.ho, .bool a.sc, .bool a.ht, .int .i64 a.s, .int .i64 a.x, .int .i64 a.m, .int .i64 a.u] 26)).alloc (.cells #[.int .i64 b.i, .string b.n, .string b.v, .string b.d, .string b.p, .bool b.ho, .bool b.sc, .bool b.ht, .int .i64 b.s, .int .i64 b.x, .int .i64 b.m, .int .i64 b.u] 26)) = wz := ⟨_, rfl⟩
      rw [hz] at B0 P0 Q0 ⊢
      clear hz
      obtain ⟨c0, c1, c2, c3, c4, c5, c6, c7, c8, c9, c10, c11⟩ := P0.out.at
      obtain ⟨d0, d1, d2, d3, d4, d5, d6, d7, d8, d9, d10, d11⟩ := Q0.out.at
      rw [HS.out] at c6
      go_wp2_with fail
      go_ret
      exact ⟨bool_end (by rw [HE.out]), B0.out⟩
    · have HS := Lib.hid hs
      clear hs
      cases m1 : matchB a.d b.d with
      | true =>
        have HE : Hid (coversB a b = pathB b.p a.p) := Lib.hid (by unfold coversB; rw [HS.out, S0.out, m1]; simp)
        go_enter Tryz.func35, Tryz.ntmps35
        go_upto_region 1 with fail
        obtain ⟨wz, hz⟩ : ∃ wz, ((w.alloc (.cells #[.int .i64 a.i, .string a.n, .string a.v, .string a.d, .string a.p, .bool a.ho, .bool a.sc, .bool a.ht, .int .i64 a.s, .int .i64 a.x, .int .i64 a.m, .int .i64 a.u] 26)).alloc (.cells #[.int .i64 b.i, .string b.n, .string b.v, .string b.d, .string b.p, .bool b.ho, .bool b.sc, .bool b.ht, .int .i64 b.s, .int .i64 b.x, .int .i64 b.m, .int .i64 b.u] 26)) = wz := ⟨_, rfl⟩
        rw [hz] at B0 P0 Q0 ⊢
        clear hz
        obtain ⟨c0, c1, c2, c3, c4, c5, c6, c7, c8, c9, c10, c11⟩ := P0.out.at
        obtain ⟨d0, d1, d2, d3, d4, d5, d6, d7, d8, d9, d10, d11⟩ := Q0.out.at
        rw [HS.out] at c6
        go_wp2_with fail
        refine (M1.out _).mono ?_
        rintro e w5 ⟨rfl, hb⟩
        have B5 := Lib.hid (B0.out.trans (hb.mono B0.out.size))
        have P5 := Lib.hid (P0.out.stays hb)
        have Q5 := Lib.hid (Q0.out.stays hb)
        clear hb c0 c1 c2 c3 c4 c5 c6 c7 c8 c9 c10 c11 d0 d1 d2 d3 d4 d5 d6 d7 d8 d9 d10 d11
        obtain ⟨c0, c1, c2, c3, c4, c5, c6, c7, c8, c9, c10, c11⟩ := P5.out.at
        obtain ⟨d0, d1, d2, d3, d4, d5, d6, d7, d8, d9, d10, d11⟩ := Q5.out.at
        rw [m1]
        clear m1
        go_wp2_with fail
        refine (M3.out _).mono ?_
        rintro e w' ⟨rfl, rfl⟩
        go_wp2_with fail
        go_ret
        exact ⟨bool_end (by rw [HE.out]), B5.out⟩
      | false =>
        cases m2 : matchB b.d a.d with
        | true =>
          have HE : Hid (coversB a b = pathB b.p a.p) := Lib.hid (by unfold coversB; rw [HS.out, S0.out, m1, m2]; simp)
          go_enter Tryz.func35, Tryz.ntmps35
          go_upto_region 1 with fail
          obtain ⟨wz, hz⟩ : ∃ wz, ((w.alloc (.cells #[.int .i64 a.i, .string a.n, .string a.v, .string a.d, .string a.p, .bool a.ho, .bool a.sc, .bool a.ht, .int .i64 a.s, .int .i64 a.x, .int .i64 a.m, .int .i64 a.u] 26)).alloc (.cells #[.int .i64 b.i, .string b.n, .string b.v, .string b.d, .string b.p, .bool b.ho, .bool b.sc, .bool b.ht, .int .i64 b.s, .int .i64 b.x, .int .i64 b.m, .int .i64 b.u] 26)) = wz := ⟨_, rfl⟩
          rw [hz] at B0 P0 Q0 ⊢
          clear hz
          obtain ⟨c0, c1, c2, c3, c4, c5, c6, c7, c8, c9, c10, c11⟩ := P0.out.at
          obtain ⟨d0, d1, d2, d3, d4, d5, d6, d7, d8, d9, d10, d11⟩ := Q0.out.at
          rw [HS.out] at c6
          go_wp2_with fail
          refine (M1.out _).mono ?_
          rintro e w5 ⟨rfl, hb⟩
          have B5 := Lib.hid (B0.out.trans (hb.mono B0.out.size))
          have P5 := Lib.hid (P0.out.stays hb)
          have Q5 := Lib.hid (Q0.out.stays hb)
          clear hb c0 c1 c2 c3 c4 c5 c6 c7 c8 c9 c10 c11 d0 d1 d2 d3 d4 d5 d6 d7 d8 d9 d10 d11
          obtain ⟨c0, c1, c2, c3, c4, c5, c6, c7, c8, c9, c10, c11⟩ := P5.out.at
          obtain ⟨d0, d1, d2, d3, d4, d5, d6, d7, d8, d9, d10, d11⟩ := Q5.out.at
          rw [m1]
          clear m1
          go_wp2_with fail
          refine (M2.out _).mono ?_
          rintro e w6 ⟨rfl, hb⟩
          have B6 := Lib.hid (B5.out.trans (hb.mono B5.out.size))
          have P6 := Lib.hid (P5.out.stays hb)
          have Q6 := Lib.hid (Q5.out.stays hb)
          clear hb c0 c1 c2 c3 c4 c5 c6 c7 c8 c9 c10 c11 d0 d1 d2 d3 d4 d5 d6 d7 d8 d9 d10 d11
          obtain ⟨c0, c1, c2, c3, c4, c5, c6, c7, c8, c9, c10, c11⟩ := P6.out.at
          obtain ⟨d0, d1, d2, d3, d4, d5, d6, d7, d8, d9, d10, d11⟩ := Q6.out.at
          rw [m2]
          clear m2
          go_wp2_with fail
          refine (M3.out _).mono ?_
          rintro e w' ⟨rfl, rfl⟩
          go_wp2_with fail
          go_ret
          exact ⟨bool_end (by rw [HE.out]), B6.out⟩
        | false =>
          have HE : Hid (coversB a b = false) := Lib.hid (by unfold coversB; rw [HS.out, S0.out, m1, m2]; simp)
          go_enter Tryz.func35, Tryz.ntmps35
          go_upto_region 1 with fail
          obtain ⟨wz, hz⟩ : ∃ wz, ((w.alloc (.cells #[.int .i64 a.i, .string a.n, .string a.v, .string a.d, .string a.p, .bool a.ho, .bool a.sc, .bool a.ht, .int .i64 a.s, .int .i64 a.x, .int .i64 a.m, .int .i64 a.u] 26)).alloc (.cells #[.int .i64 b.i, .string b.n, .string b.v, .string b.d, .string b.p, .bool b.ho, .bool b.sc, .bool b.ht, .int .i64 b.s, .int .i64 b.x, .int .i64 b.m, .int .i64 b.u] 26)) = wz := ⟨_, rfl⟩
          rw [hz] at B0 P0 Q0 ⊢
          clear hz
          obtain ⟨c0, c1, c2, c3, c4, c5, c6, c7, c8, c9, c10, c11⟩ := P0.out.at
          obtain ⟨d0, d1, d2, d3, d4, d5, d6, d7, d8, d9, d10, d11⟩ := Q0.out.at
          rw [HS.out] at c6
          go_wp2_with fail
          refine (M1.out _).mono ?_
          rintro e w5 ⟨rfl, hb⟩
          have B5 := Lib.hid (B0.out.trans (hb.mono B0.out.size))
          have P5 := Lib.hid (P0.out.stays hb)
          have Q5 := Lib.hid (Q0.out.stays hb)
          clear hb c0 c1 c2 c3 c4 c5 c6 c7 c8 c9 c10 c11 d0 d1 d2 d3 d4 d5 d6 d7 d8 d9 d10 d11
          obtain ⟨c0, c1, c2, c3, c4, c5, c6, c7, c8, c9, c10, c11⟩ := P5.out.at
          obtain ⟨d0, d1, d2, d3, d4, d5, d6, d7, d8, d9, d10, d11⟩ := Q5.out.at
          rw [m1]
          clear m1
          go_wp2_with fail
          refine (M2.out _).mono ?_
          rintro e w6 ⟨rfl, hb⟩
          have B6 := Lib.hid (B5.out.trans (hb.mono B5.out.size))
          have P6 := Lib.hid (P5.out.stays hb)
          have Q6 := Lib.hid (Q5.out.stays hb)
          clear hb c0 c1 c2 c3 c4 c5 c6 c7 c8 c9 c10 c11 d0 d1 d2 d3 d4 d5 d6 d7 d8 d9 d10 d11
          obtain ⟨c0, c1, c2, c3, c4, c5, c6, c7, c8, c9, c10, c11⟩ := P6.out.at
          obtain ⟨d0, d1, d2, d3, d4, d5, d6, d7, d8, d9, d10, d11⟩ := Q6.out.at
          rw [m2]
          clear m2
          go_wp2_with fail
          go_ret
          exact ⟨bool_end (by rw [HE.out]), B6.out⟩
set_option maxHeartbeats 4000000 in
set_option maxRecDepth 100000 in
theorem covers_any (a b : Ck) (w : World) (ha : szC a) (hb : szC b) (hT : TabAt w) (hm : MaxAt w) (hN : NumAt w) : Calls Tryz.prog 37 #[.agg #[.int .i64 a.i, .string a.n, .string a.v, .string a.d, .string a.p, .bool a.ho, .bool a.sc, .bool a.ht, .int .i64 a.s, .int .i64 a.x, .int .i64 a.m, .int .i64 a.u], .agg #[.int .i64 b.i, .string b.n, .string b.v, .string b.d, .string b.p, .bool b.ho, .bool b.sc, .bool b.ht, .int .i64 b.s, .int .i64 b.x, .int .i64 b.m, .int .i64 b.u]] w fun e w' => e = .returned (.bool (coversB a b)) ∧ Below w.heap.size w w' := by
  have HT := Lib.hid hT
  have HM := Lib.hid hm
  have HN := Lib.hid hN
  have HA := Lib.hid ha
  have HB := Lib.hid hb
  clear hT hm hN ha hb
  have B0 : Hid (Below w.heap.size w ((w.alloc (.cells #[.int .i64 a.i, .string a.n, .string a.v, .string a.d, .string a.p, .bool a.ho, .bool a.sc, .bool a.ht, .int .i64 a.s, .int .i64 a.x, .int .i64 a.m, .int .i64 a.u] 26)).alloc (.cells #[.int .i64 b.i, .string b.n, .string b.v, .string b.d, .string b.p, .bool b.ho, .bool b.sc, .bool b.ht, .int .i64 b.s, .int .i64 b.x, .int .i64 b.m, .int .i64 b.u] 26))) := Lib.hid (((Below.refl _ _).alloc (Nat.le_refl _) _).alloc (by simp) _)
  have P0 := Lib.hid ((CkB.new w a).alloc (.cells #[.int .i64 b.i, .string b.n, .string b.v, .string b.d, .string b.p, .bool b.ho, .bool b.sc, .bool b.ht, .int .i64 b.s, .int .i64 b.x, .int .i64 b.m, .int .i64 b.u] 26))
  have Q0 := Lib.hid (two_new w a b)
  obtain ⟨w1, hw1⟩ : ∃ w1, (w.alloc (.cells #[.int .i64 a.i, .string a.n, .string a.v, .string a.d, .string a.p, .bool a.ho, .bool a.sc, .bool a.ht, .int .i64 a.s, .int .i64 a.x, .int .i64 a.m, .int .i64 a.u] 26)).alloc (.cells #[.int .i64 b.i, .string b.n, .string b.v, .string b.d, .string b.p, .bool b.ho, .bool b.sc, .bool b.ht, .int .i64 b.s, .int .i64 b.x, .int .i64 b.m, .int .i64 b.u] 26) = w1 := ⟨_, rfl⟩
  have B1 : Hid (Below w.heap.size w w1) := Lib.hid (by rw [← hw1]; exact B0.out)
  have P1 : Hid (CkB w1 w.heap.size a) := Lib.hid (by rw [← hw1]; exact P0.out)
  have Q1 : Hid (CkB w1 (w.heap.size + 1) b) := Lib.hid (by rw [← hw1]; exact Q0.out)
  have HW1 := Lib.hid hw1
  clear hw1 B0 P0 Q0
  have M1 : Hid (∀ wx : World, Below w.heap.size w wx → Calls Tryz.prog 92 #[.string a.d, .string b.d] wx fun e w' => e = .returned (.bool (matchB a.d b.d)) ∧ Below wx.heap.size wx w') := Lib.hid fun wx hB => implMatch _ _ wx (by have := HA.out.2.2.1; unfold maxLen; omega) (by have := HB.out.2.2.1; unfold maxLen; omega) (HT.out.below hB) (HM.out.below hB) (HN.out.below hB)
  have M2 : Hid (∀ wx : World, Below w.heap.size w wx → Calls Tryz.prog 92 #[.string b.d, .string a.d] wx fun e w' => e = .returned (.bool (matchB b.d a.d)) ∧ Below wx.heap.size wx w') := Lib.hid fun wx hB => implMatch _ _ wx (by have := HB.out.2.2.1; unfold maxLen; omega) (by have := HA.out.2.2.1; unfold maxLen; omega) (HT.out.below hB) (HM.out.below hB) (HN.out.below hB)
  have M3 : Hid (∀ wx : World, Calls Tryz.prog 93 #[.string b.p, .string a.p] wx fun e w' => e = .returned (.bool (pathB b.p a.p)) ∧ wx = w') := Lib.hid fun wx => implPath _ _ wx (by have := HB.out.2.2.2; unfold maxLen; omega) (by have := HA.out.2.2.2; unfold maxLen; omega)
  cases s0 : (a.n.toList == b.n.toList) with
  | false =>
    have HE : Hid (coversB a b = false) := Lib.hid (by unfold coversB; rw [s0]; simp)
    rcases bool_or a.sc with hs | hs
    · have HS := Lib.hid hs
      clear hs
      go_enter Tryz.func37, Tryz.ntmps37
      go_upto_region 1 with fail
      rw [HW1.out]
      obtain ⟨c0, c1, c2, c3, c4, c5, c6, c7, c8, c9, c10, c11⟩ := P1.out.at
      obtain ⟨d0, d1, d2, d3, d4, d5, d6, d7, d8, d9, d10, d11⟩ := Q1.out.at
      rw [HS.out] at c6
      go_wp2_with fail
      go_ret
      exact ⟨bool_end HE.out.symm, B1.out⟩
    · have HS := Lib.hid hs
      clear hs
      go_enter Tryz.func37, Tryz.ntmps37
      go_upto_region 1 with fail
      rw [HW1.out]
      obtain ⟨c0, c1, c2, c3, c4, c5, c6, c7, c8, c9, c10, c11⟩ := P1.out.at
      obtain ⟨d0, d1, d2, d3, d4, d5, d6, d7, d8, d9, d10, d11⟩ := Q1.out.at
      rw [HS.out] at c6
      go_wp2_with fail
      go_ret
      exact ⟨bool_end HE.out.symm, B1.out⟩
  | true =>
    have S0 := Lib.hid s0
    rcases bool_or a.sc with hs | hs
    · have HE : Hid (coversB a b = false) := Lib.hid (by unfold coversB; rw [hs]; rfl)
      have HS := Lib.hid hs
      clear hs
      go_enter Tryz.func37, Tryz.ntmps37
      go_upto_region 1 with fail
      rw [HW1.out]
      obtain ⟨c0, c1, c2, c3, c4, c5, c6, c7, c8, c9, c10, c11⟩ := P1.out.at
      obtain ⟨d0, d1, d2, d3, d4, d5, d6, d7, d8, d9, d10, d11⟩ := Q1.out.at
      rw [HS.out] at c6
      go_wp2_with fail
      go_ret
      exact ⟨bool_end HE.out.symm, B1.out⟩
    · have HS := Lib.hid hs
      clear hs
      cases m1 : matchB a.d b.d with
      | true =>
        have HE : Hid (coversB a b = pathB b.p a.p) := Lib.hid (by unfold coversB; rw [HS.out, S0.out, m1]; simp)
        go_enter Tryz.func37, Tryz.ntmps37
        go_upto_region 1 with fail
        rw [HW1.out]
        obtain ⟨c0, c1, c2, c3, c4, c5, c6, c7, c8, c9, c10, c11⟩ := P1.out.at
        obtain ⟨d0, d1, d2, d3, d4, d5, d6, d7, d8, d9, d10, d11⟩ := Q1.out.at
        rw [HS.out] at c6
        go_wp2_with fail
        refine (M1.out _ B1.out).mono ?_
        rintro e w5 ⟨rfl, hb⟩
        have B5 := Lib.hid (B1.out.trans (hb.mono B1.out.size))
        have P5 := Lib.hid (P1.out.stays hb)
        have Q5 := Lib.hid (Q1.out.stays hb)
        clear hb c0 c1 c2 c3 c4 c5 c6 c7 c8 c9 c10 c11 d0 d1 d2 d3 d4 d5 d6 d7 d8 d9 d10 d11
        obtain ⟨c0, c1, c2, c3, c4, c5, c6, c7, c8, c9, c10, c11⟩ := P5.out.at
        obtain ⟨d0, d1, d2, d3, d4, d5, d6, d7, d8, d9, d10, d11⟩ := Q5.out.at
        rw [m1]
        clear m1
        go_wp2_with fail
        refine (M3.out _).mono ?_
        rintro e w' ⟨rfl, rfl⟩
        go_wp2_with fail
        go_ret
        exact ⟨bool_end HE.out.symm, B5.out⟩
      | false =>
        cases m2 : matchB b.d a.d with
        | true =>
          have HE : Hid (coversB a b = pathB b.p a.p) := Lib.hid (by unfold coversB; rw [HS.out, S0.out, m1, m2]; simp)
          go_enter Tryz.func37, Tryz.ntmps37
          go_upto_region 1 with fail
          rw [HW1.out]
          obtain ⟨c0, c1, c2, c3, c4, c5, c6, c7, c8, c9, c10, c11⟩ := P1.out.at
          obtain ⟨d0, d1, d2, d3, d4, d5, d6, d7, d8, d9, d10, d11⟩ := Q1.out.at
          rw [HS.out] at c6
          go_wp2_with fail
          refine (M1.out _ B1.out).mono ?_
          rintro e w5 ⟨rfl, hb⟩
          have B5 := Lib.hid (B1.out.trans (hb.mono B1.out.size))
          have P5 := Lib.hid (P1.out.stays hb)
          have Q5 := Lib.hid (Q1.out.stays hb)
          clear hb c0 c1 c2 c3 c4 c5 c6 c7 c8 c9 c10 c11 d0 d1 d2 d3 d4 d5 d6 d7 d8 d9 d10 d11
          obtain ⟨c0, c1, c2, c3, c4, c5, c6, c7, c8, c9, c10, c11⟩ := P5.out.at
          obtain ⟨d0, d1, d2, d3, d4, d5, d6, d7, d8, d9, d10, d11⟩ := Q5.out.at
          rw [m1]
          clear m1
          go_wp2_with fail
          refine (M2.out _ B5.out).mono ?_
          rintro e w6 ⟨rfl, hb⟩
          have B6 := Lib.hid (B5.out.trans (hb.mono B5.out.size))
          have P6 := Lib.hid (P5.out.stays hb)
          have Q6 := Lib.hid (Q5.out.stays hb)
          clear hb c0 c1 c2 c3 c4 c5 c6 c7 c8 c9 c10 c11 d0 d1 d2 d3 d4 d5 d6 d7 d8 d9 d10 d11
          obtain ⟨c0, c1, c2, c3, c4, c5, c6, c7, c8, c9, c10, c11⟩ := P6.out.at
          obtain ⟨d0, d1, d2, d3, d4, d5, d6, d7, d8, d9, d10, d11⟩ := Q6.out.at
          rw [m2]
          clear m2
          go_wp2_with fail
          refine (M3.out _).mono ?_
          rintro e w' ⟨rfl, rfl⟩
          go_wp2_with fail
          go_ret
          exact ⟨bool_end HE.out.symm, B6.out⟩
        | false =>
          have HE : Hid (coversB a b = false) := Lib.hid (by unfold coversB; rw [HS.out, S0.out, m1, m2]; simp)
          go_enter Tryz.func37, Tryz.ntmps37
          go_upto_region 1 with fail
          rw [HW1.out]
          obtain ⟨c0, c1, c2, c3, c4, c5, c6, c7, c8, c9, c10, c11⟩ := P1.out.at
          obtain ⟨d0, d1, d2, d3, d4, d5, d6, d7, d8, d9, d10, d11⟩ := Q1.out.at
          rw [HS.out] at c6
          go_wp2_with fail
          refine (M1.out _ B1.out).mono ?_
          rintro e w5 ⟨rfl, hb⟩
          have B5 := Lib.hid (B1.out.trans (hb.mono B1.out.size))
          have P5 := Lib.hid (P1.out.stays hb)
          have Q5 := Lib.hid (Q1.out.stays hb)
          clear hb c0 c1 c2 c3 c4 c5 c6 c7 c8 c9 c10 c11 d0 d1 d2 d3 d4 d5 d6 d7 d8 d9 d10 d11
          obtain ⟨c0, c1, c2, c3, c4, c5, c6, c7, c8, c9, c10, c11⟩ := P5.out.at
          obtain ⟨d0, d1, d2, d3, d4, d5, d6, d7, d8, d9, d10, d11⟩ := Q5.out.at
          rw [m1]
          clear m1
          go_wp2_with fail
          refine (M2.out _ B5.out).mono ?_
          rintro e w6 ⟨rfl, hb⟩
          have B6 := Lib.hid (B5.out.trans (hb.mono B5.out.size))
          have P6 := Lib.hid (P5.out.stays hb)
          have Q6 := Lib.hid (Q5.out.stays hb)
          clear hb c0 c1 c2 c3 c4 c5 c6 c7 c8 c9 c10 c11 d0 d1 d2 d3 d4 d5 d6 d7 d8 d9 d10 d11
          obtain ⟨c0, c1, c2, c3, c4, c5, c6, c7, c8, c9, c10, c11⟩ := P6.out.at
          obtain ⟨d0, d1, d2, d3, d4, d5, d6, d7, d8, d9, d10, d11⟩ := Q6.out.at
          rw [m2]
          clear m2
          go_wp2_with fail
          go_ret
          exact ⟨bool_end HE.out.symm, B6.out⟩
set_option maxHeartbeats 4000000 in
set_option maxRecDepth 100000 in
theorem implCov (a b : Ck) (w : World) (ha : szC a) (hb : szC b) (hT : TabAt w) (hm : MaxAt w) (hN : NumAt w) : Calls Tryz.prog 12 #[.agg #[.int .i64 a.i, .string a.n, .string a.v, .string a.d, .string a.p, .bool a.ho, .bool a.sc, .bool a.ht, .int .i64 a.s, .int .i64 a.x, .int .i64 a.m, .int .i64 a.u], .agg #[.int .i64 b.i, .string b.n, .string b.v, .string b.d, .string b.p, .bool b.ho, .bool b.sc, .bool b.ht, .int .i64 b.s, .int .i64 b.x, .int .i64 b.m, .int .i64 b.u]] w fun e w' => e = .returned (.bool ((ckOK a && ckOK b) && coversB a b)) ∧ Below w.heap.size w w' := by
  have HT := Lib.hid hT
  have HM := Lib.hid hm
  have HN := Lib.hid hN
  have HA := Lib.hid ha
  have HB := Lib.hid hb
  clear hT hm hN ha hb
  have B0 : Hid (Below w.heap.size w ((w.alloc (.cells #[.int .i64 a.i, .string a.n, .string a.v, .string a.d, .string a.p, .bool a.ho, .bool a.sc, .bool a.ht, .int .i64 a.s, .int .i64 a.x, .int .i64 a.m, .int .i64 a.u] 26)).alloc (.cells #[.int .i64 b.i, .string b.n, .string b.v, .string b.d, .string b.p, .bool b.ho, .bool b.sc, .bool b.ht, .int .i64 b.s, .int .i64 b.x, .int .i64 b.m, .int .i64 b.u] 26))) := Lib.hid (((Below.refl _ _).alloc (Nat.le_refl _) _).alloc (by simp) _)
  have P0 := Lib.hid ((CkB.new w a).alloc (.cells #[.int .i64 b.i, .string b.n, .string b.v, .string b.d, .string b.p, .bool b.ho, .bool b.sc, .bool b.ht, .int .i64 b.s, .int .i64 b.x, .int .i64 b.m, .int .i64 b.u] 26))
  have Q0 := Lib.hid (two_new w a b)
  cases g : (ckOK a && ckOK b) with
  | false =>
    go_enter Tryz.func12, Tryz.ntmps12
    go_wp2_with fail
    refine (bothOK_any a b _ HA.out HB.out (HT.out.below B0.out)).mono ?_
    rintro e w1 ⟨rfl, hb⟩
    have B1 := Lib.hid (B0.out.trans (hb.mono B0.out.size))
    clear hb
    rw [g]
    clear g
    go_wp2_with fail
    go_ret
    exact ⟨bool_end (by simp), B1.out⟩
  | true =>
    go_enter Tryz.func12, Tryz.ntmps12
    go_wp2_with fail
    refine (bothOK_any a b _ HA.out HB.out (HT.out.below B0.out)).mono ?_
    rintro e w1 ⟨rfl, hb⟩
    have B1 := Lib.hid (B0.out.trans (hb.mono B0.out.size))
    have P1 := Lib.hid (P0.out.stays hb)
    have Q1 := Lib.hid (Q0.out.stays hb)
    clear hb
    rw [g]
    clear g
    obtain ⟨c0, c1, c2, c3, c4, c5, c6, c7, c8, c9, c10, c11⟩ := P1.out.at
    obtain ⟨d0, d1, d2, d3, d4, d5, d6, d7, d8, d9, d10, d11⟩ := Q1.out.at
    go_wp2_with fail
    refine (covers_any a b w1 HA.out HB.out (HT.out.below B1.out) (HM.out.below B1.out) (HN.out.below B1.out)).mono ?_
    rintro e w2 ⟨rfl, hb⟩
    have B2 := Lib.hid (B1.out.trans (hb.mono B1.out.size))
    clear hb
    go_wp2_with fail
    go_ret
    exact ⟨rfl, B2.out⟩
set_option maxRecDepth 100000 in
theorem specCov (a b : Ck) (w : World) (ha : szC a) (hb : szC b) : Calls Tryz.prog 10 #[.agg #[.int .i64 a.i, .string a.n, .string a.v, .string a.d, .string a.p, .bool a.ho, .bool a.sc, .bool a.ht, .int .i64 a.s, .int .i64 a.x, .int .i64 a.m, .int .i64 a.u], .agg #[.int .i64 b.i, .string b.n, .string b.v, .string b.d, .string b.p, .bool b.ho, .bool b.sc, .bool b.ht, .int .i64 b.s, .int .i64 b.x, .int .i64 b.m, .int .i64 b.u]] w fun e w' => e = .returned (.bool ((ckOK a && ckOK b) && coversB a b)) ∧ Below w.heap.size w w' := by
  have B0 : Hid (Below w.heap.size w ((w.alloc (.cells #[.int .i64 a.i, .string a.n, .string a.v, .string a.d, .string a.p, .bool a.ho, .bool a.sc, .bool a.ht, .int .i64 a.s, .int .i64 a.x, .int .i64 a.m, .int .i64 a.u] 26)).alloc (.cells #[.int .i64 b.i, .string b.n, .string b.v, .string b.d, .string b.p, .bool b.ho, .bool b.sc, .bool b.ht, .int .i64 b.s, .int .i64 b.x, .int .i64 b.m, .int .i64 b.u] 26))) := Lib.hid (((Below.refl _ _).alloc (Nat.le_refl _) _).alloc (by simp) _)
  have P0 := Lib.hid ((CkB.new w a).alloc (.cells #[.int .i64 b.i, .string b.n, .string b.v, .string b.d, .string b.p, .bool b.ho, .bool b.sc, .bool b.ht, .int .i64 b.s, .int .i64 b.x, .int .i64 b.m, .int .i64 b.u] 26))
  have Q0 := Lib.hid (two_new w a b)
  have HA := Lib.hid ha
  have HB := Lib.hid hb
  clear ha hb
  cases g1 : ckOK a with
  | false =>
    go_enter Tryz.func10, Tryz.ntmps10
    go_wp2_with fail
    refine (specCk_at a _ HA.out).mono ?_
    rintro e w1 ⟨rfl, hb⟩
    have B1 := Lib.hid (B0.out.trans (hb.mono B0.out.size))
    clear hb
    rw [g1]
    clear g1
    go_wp2_with fail
    go_ret
    exact ⟨bool_end (by simp), B1.out⟩
  | true =>
    have G1 := Lib.hid g1
    cases g2 : ckOK b with
    | false =>
      go_enter Tryz.func10, Tryz.ntmps10
      go_wp2_with fail
      refine (specCk_at a _ HA.out).mono ?_
      rintro e w1 ⟨rfl, hb⟩
      have B1 := Lib.hid (B0.out.trans (hb.mono B0.out.size))
      have P1 := Lib.hid (P0.out.stays hb)
      have Q1 := Lib.hid (Q0.out.stays hb)
      clear hb
      rw [g1]
      clear g1
      obtain ⟨c0, c1, c2, c3, c4, c5, c6, c7, c8, c9, c10, c11⟩ := P1.out.at
      obtain ⟨d0, d1, d2, d3, d4, d5, d6, d7, d8, d9, d10, d11⟩ := Q1.out.at
      go_wp2_with fail
      refine (specCk_at b _ HB.out).mono ?_
      rintro e w2 ⟨rfl, hb⟩
      have B2 := Lib.hid (B1.out.trans (hb.mono B1.out.size))
      clear hb
      rw [g2]
      clear g2
      go_wp2_with fail
      go_ret
      exact ⟨bool_end (by simp), B2.out⟩
    | true =>
      have G2 := Lib.hid g2
      go_enter Tryz.func10, Tryz.ntmps10
      go_wp2_with fail
      refine (specCk_at a _ HA.out).mono ?_
      rintro e w1 ⟨rfl, hb⟩
      have B1 := Lib.hid (B0.out.trans (hb.mono B0.out.size))
      have P1 := Lib.hid (P0.out.stays hb)
      have Q1 := Lib.hid (Q0.out.stays hb)
      clear hb
      rw [g1]
      clear g1
      obtain ⟨c0, c1, c2, c3, c4, c5, c6, c7, c8, c9, c10, c11⟩ := P1.out.at
      obtain ⟨d0, d1, d2, d3, d4, d5, d6, d7, d8, d9, d10, d11⟩ := Q1.out.at
      go_wp2_with fail
      refine (specCk_at b _ HB.out).mono ?_
      rintro e w2 ⟨rfl, hb⟩
      have B2 := Lib.hid (B1.out.trans (hb.mono B1.out.size))
      have P2 := Lib.hid (P1.out.stays hb)
      have Q2 := Lib.hid (Q1.out.stays hb)
      clear hb c0 c1 c2 c3 c4 c5 c6 c7 c8 c9 c10 c11 d0 d1 d2 d3 d4 d5 d6 d7 d8 d9 d10 d11
      rw [g2]
      clear g2
      obtain ⟨c0, c1, c2, c3, c4, c5, c6, c7, c8, c9, c10, c11⟩ := P2.out.at
      obtain ⟨d0, d1, d2, d3, d4, d5, d6, d7, d8, d9, d10, d11⟩ := Q2.out.at
      go_wp2_with fail
      refine (specCovL a b _ G1.out G2.out).mono ?_
      rintro e w3 ⟨rfl, hb⟩
      have B3 := Lib.hid (B2.out.trans (hb.mono B2.out.size))
      clear hb
      go_wp2_with fail
      go_ret
      exact ⟨bool_end (by simp), B3.out⟩
set_option maxHeartbeats 8000000 in
set_option maxRecDepth 100000 in
theorem walk_FnExactCovers (W : World) (q0 : Ck) (m0n : q0.n.size ≤ maxLen) (m0v : q0.v.size ≤ maxLen) (m0d : q0.d.size ≤ maxLen) (m0p : q0.p.size ≤ maxLen) (q1 : Ck) (m1n : q1.n.size ≤ maxLen) (m1v : q1.v.size ≤ maxLen) (m1d : q1.d.size ≤ maxLen) (m1p : q1.p.size ≤ maxLen) (hL : laidMetH Tryz.prog Rows.fnExactCoversRow.laid W) (hSh : W.ShapedOpen Tryz.prog) :
    Calls Tryz.prog 3 #[.agg #[.int .i64 q0.i, .string q0.n, .string q0.v, .string q0.d, .string q0.p, .bool q0.ho, .bool q0.sc, .bool q0.ht, .int .i64 q0.s, .int .i64 q0.x, .int .i64 q0.m, .int .i64 q0.u], .agg #[.int .i64 q1.i, .string q1.n, .string q1.v, .string q1.d, .string q1.p, .bool q1.ho, .bool q1.sc, .bool q1.ht, .int .i64 q1.s, .int .i64 q1.x, .int .i64 q1.m, .int .i64 q1.u]] W fun e w' => e = .returned (.bool true) ∧ Below W.heap.size W w' := by
  rw [MakeChecks.laidMetH_plain _ _ _ (by kernel_rfl)] at hL
  obtain ⟨hT, hN⟩ := laid8 hL
  have HT := Lib.hid hT
  have HN := Lib.hid hN
  have HM := Lib.hid (max_of hSh)
  clear hT hN
  clear hL
  have B0 : Hid (Below W.heap.size W ((W.alloc (.cells #[.int .i64 q0.i, .string q0.n, .string q0.v, .string q0.d, .string q0.p, .bool q0.ho, .bool q0.sc, .bool q0.ht, .int .i64 q0.s, .int .i64 q0.x, .int .i64 q0.m, .int .i64 q0.u] 23)).alloc (.cells #[.int .i64 q1.i, .string q1.n, .string q1.v, .string q1.d, .string q1.p, .bool q1.ho, .bool q1.sc, .bool q1.ht, .int .i64 q1.s, .int .i64 q1.x, .int .i64 q1.m, .int .i64 q1.u] 23))) := Lib.hid (((Below.refl _ _).alloc (Nat.le_refl _) _).alloc (by simp) _)
  have P0 := Lib.hid ((LkB.new W q0).alloc (.cells #[.int .i64 q1.i, .string q1.n, .string q1.v, .string q1.d, .string q1.p, .bool q1.ho, .bool q1.sc, .bool q1.ht, .int .i64 q1.s, .int .i64 q1.x, .int .i64 q1.m, .int .i64 q1.u] 23))
  have Q0 := Lib.hid (lk_two W q0 q1)
  by_cases h0 : wtC q0 ≤ 1048576
  · have hh0 : (0 : Int) ≤ ((1048576 - wtC q0 : Nat) : Int) := by omega
    by_cases h1 : wtC q1 ≤ 1048576 - wtC q0
    · have hh1 : (0 : Int) ≤ ((1048576 - wtC q0 - wtC q1 : Nat) : Int) := by omega
      have S0 := Lib.hid (sz_of h0)
      have S1 := Lib.hid (sz_of (show wtC q1 ≤ 1048576 by omega))
      obtain ⟨r, hr⟩ : ∃ r : Bool, ((ckOK q0 && ckOK q1) && coversB q0 q1) = r := ⟨_, rfl⟩
      have A1 : Hid (∀ w : World, Calls Tryz.prog 10 #[.agg #[.int .i64 q0.i, .string q0.n, .string q0.v, .string q0.d, .string q0.p, .bool q0.ho, .bool q0.sc, .bool q0.ht, .int .i64 q0.s, .int .i64 q0.x, .int .i64 q0.m, .int .i64 q0.u], .agg #[.int .i64 q1.i, .string q1.n, .string q1.v, .string q1.d, .string q1.p, .bool q1.ho, .bool q1.sc, .bool q1.ht, .int .i64 q1.s, .int .i64 q1.x, .int .i64 q1.m, .int .i64 q1.u]] w fun e w' => e = .returned (.bool r) ∧ Below w.heap.size w w') := Lib.hid fun w => by
        rw [← hr]
        exact specCov q0 q1 w S0.out S1.out
      have A2 : Hid (∀ w : World, Below W.heap.size W w → Calls Tryz.prog 12 #[.agg #[.int .i64 q0.i, .string q0.n, .string q0.v, .string q0.d, .string q0.p, .bool q0.ho, .bool q0.sc, .bool q0.ht, .int .i64 q0.s, .int .i64 q0.x, .int .i64 q0.m, .int .i64 q0.u], .agg #[.int .i64 q1.i, .string q1.n, .string q1.v, .string q1.d, .string q1.p, .bool q1.ho, .bool q1.sc, .bool q1.ht, .int .i64 q1.s, .int .i64 q1.x, .int .i64 q1.m, .int .i64 q1.u]] w fun e w' => e = .returned (.bool r) ∧ Below w.heap.size w w') := Lib.hid fun w hB => by
        rw [← hr]
        exact implCov q0 q1 w S0.out S1.out (HT.out.below hB) (HM.out.below hB) (HN.out.below hB)
      clear hr
      have n1 : (r != r) = false := by simp
      have n2 : (r == r) = true := by simp
      have n3 : (!(r == r)) = false := by simp
      go_enter Tryz.func3, Tryz.ntmps3
      go_wp2_with fail
      refine (szCookie_first q0 _ h0).mono ?_
      rintro e w1 ⟨rfl, hb⟩
      have B1 := Lib.hid (B0.out.trans (hb.mono B0.out.size))
      have P1 := Lib.hid (P0.out.stays hb)
      have Q1 := Lib.hid (Q0.out.stays hb)
      clear hb
      obtain ⟨d0, d1, d2, d3, d4, d5, d6, d7, d8, d9, d10, d11⟩ := Q1.out.at
      go_wp2_with fail
      refine (szCookie_any q1 (1048576 - wtC q0) _ (by omega) h1).mono ?_
      rintro e w2 ⟨rfl, hb⟩
      have B2 := Lib.hid (B1.out.trans (hb.mono B1.out.size))
      have P2 := Lib.hid (P1.out.stays hb)
      have Q2 := Lib.hid (Q1.out.stays hb)
      clear hb d0 d1 d2 d3 d4 d5 d6 d7 d8 d9 d10 d11
      go_upto_region 8 with fail
      have hN2 : Nonempty (BCl w2) := BCl.full w2
      obtain ⟨c0, c1, c2, c3, c4, c5, c6, c7, c8, c9, c10, c11⟩ := P2.out.at
      obtain ⟨d0, d1, d2, d3, d4, d5, d6, d7, d8, d9, d10, d11⟩ := Q2.out.at
      have q0x := BCl.cell c0
      have q1x := BCl.cell c1
      have q2x := BCl.cell c2
      have q3x := BCl.cell c3
      have q4x := BCl.cell c4
      have q5x := BCl.cell c5
      have q6x := BCl.cell c6
      have q7x := BCl.cell c7
      have q8x := BCl.cell c8
      have q9x := BCl.cell c9
      have q10x := BCl.cell c10
      have q11x := BCl.cell c11
      have r0x := BCl.cell d0
      have r1x := BCl.cell d1
      have r2x := BCl.cell d2
      have r3x := BCl.cell d3
      have r4x := BCl.cell d4
      have r5x := BCl.cell d5
      have r6x := BCl.cell d6
      have r7x := BCl.cell d7
      have r8x := BCl.cell d8
      have r9x := BCl.cell d9
      have r10x := BCl.cell d10
      have r11x := BCl.cell d11
      clear c0 c1 c2 c3 c4 c5 c6 c7 c8 c9 c10 c11 d0 d1 d2 d3 d4 d5 d6 d7 d8 d9 d10 d11
      refine wp_region_below (fun w' => ∃ i : BCl w2, w' = i.w) (by kernel_rfl) (by kernel_rfl) (BCl.start w2) ?_
      repeat (go_big_quiet_step (first
        | (go_at_call 11; rename_i i; with_reducible refine (toCookie_any q0 i.w).mono ?_; intro e w' h; exact ⟨h.1, i.next h.2⟩)
        | (go_at_call 11; rename_i i; with_reducible refine (toCookie_any q1 i.w).mono ?_; intro e w' h; exact ⟨h.1, i.next h.2⟩)
        | (go_at_call 10; rename_i i; with_reducible refine (A1.out i.w).mono ?_; intro e w' h; exact ⟨h.1, i.next h.2⟩)))
      refine wpQuiet_nil ?_
      intro _ hw'
      obtain ⟨i, rfl⟩ := hw'
      clear q0x q1x q2x q3x q4x q5x q6x q7x q8x q9x q10x q11x r0x r1x r2x r3x r4x r5x r6x r7x r8x r9x r10x r11x hN2
      obtain ⟨w3, hw3⟩ : ∃ w3, i.w = w3 := ⟨_, rfl⟩
      have hb3 := i.below
      rw [hw3] at hb3 ⊢
      clear hw3 i
      have B3 := Lib.hid (B2.out.trans (hb3.mono B2.out.size))
      have P3 := Lib.hid (P2.out.stays hb3)
      have Q3 := Lib.hid (Q2.out.stays hb3)
      clear hb3
      go_upto_region 9 with fail
      have hN3 : Nonempty (BCl w3) := BCl.full w3
      obtain ⟨c0, c1, c2, c3, c4, c5, c6, c7, c8, c9, c10, c11⟩ := P3.out.at
      obtain ⟨d0, d1, d2, d3, d4, d5, d6, d7, d8, d9, d10, d11⟩ := Q3.out.at
      have q0x := BCl.cell c0
      have q1x := BCl.cell c1
      have q2x := BCl.cell c2
      have q3x := BCl.cell c3
      have q4x := BCl.cell c4
      have q5x := BCl.cell c5
      have q6x := BCl.cell c6
      have q7x := BCl.cell c7
      have q8x := BCl.cell c8
      have q9x := BCl.cell c9
      have q10x := BCl.cell c10
      have q11x := BCl.cell c11
      have r0x := BCl.cell d0
      have r1x := BCl.cell d1
      have r2x := BCl.cell d2
      have r3x := BCl.cell d3
      have r4x := BCl.cell d4
      have r5x := BCl.cell d5
      have r6x := BCl.cell d6
      have r7x := BCl.cell d7
      have r8x := BCl.cell d8
      have r9x := BCl.cell d9
      have r10x := BCl.cell d10
      have r11x := BCl.cell d11
      clear c0 c1 c2 c3 c4 c5 c6 c7 c8 c9 c10 c11 d0 d1 d2 d3 d4 d5 d6 d7 d8 d9 d10 d11
      refine wp_region_below (fun w' => ∃ i : BCl w3, w' = i.w) (by kernel_rfl) (by kernel_rfl) (BCl.start w3) ?_
      repeat (go_big_quiet_step (first
        | (go_at_call 11; rename_i i; with_reducible refine (toCookie_any q0 i.w).mono ?_; intro e w' h; exact ⟨h.1, i.next h.2⟩)
        | (go_at_call 11; rename_i i; with_reducible refine (toCookie_any q1 i.w).mono ?_; intro e w' h; exact ⟨h.1, i.next h.2⟩)
        | (go_at_call 12; rename_i i; with_reducible refine (A2.out i.w (B3.out.trans (i.below.mono B3.out.size))).mono ?_; intro e w' h; exact ⟨h.1, i.next h.2⟩)))
      refine wpQuiet_nil ?_
      intro _ hw'
      obtain ⟨i, rfl⟩ := hw'
      clear q0x q1x q2x q3x q4x q5x q6x q7x q8x q9x q10x q11x r0x r1x r2x r3x r4x r5x r6x r7x r8x r9x r10x r11x hN3
      go_wp2_with fail
      go_ret
      exact ⟨rfl, B3.out.trans (i.below.mono B3.out.size)⟩
    · go_enter Tryz.func3, Tryz.ntmps3
      go_wp2_with fail
      refine (szCookie_first q0 _ h0).mono ?_
      rintro e w1 ⟨rfl, hb⟩
      have B1 := Lib.hid (B0.out.trans (hb.mono B0.out.size))
      have Q1 := Lib.hid (Q0.out.stays hb)
      clear hb
      obtain ⟨d0, d1, d2, d3, d4, d5, d6, d7, d8, d9, d10, d11⟩ := Q1.out.at
      go_wp2_with fail
      refine (szCookie_big q1 (1048576 - wtC q0) _ (by omega) m1n m1v m1d m1p (by omega)).mono ?_
      rintro e w2 ⟨rfl, hb⟩
      have B2 := Lib.hid (B1.out.trans (hb.mono B1.out.size))
      clear hb d0 d1 d2 d3 d4 d5 d6 d7 d8 d9 d10 d11
      go_wp2_with fail
      go_ret
      exact ⟨rfl, B2.out⟩
  · go_enter Tryz.func3, Tryz.ntmps3
    go_wp2_with fail
    refine (szCookie_first_big q0 _ m0n m0v m0d m0p (by omega)).mono ?_
    rintro e w1 ⟨rfl, hb⟩
    have B1 := Lib.hid (B0.out.trans (hb.mono B0.out.size))
    clear hb
    go_wp2_with fail
    go_ret
    exact ⟨rfl, B1.out⟩
end Go.Proofs.YtcaabnnkjnleeaaGreatDoor
