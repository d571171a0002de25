/- SameKey, ComesFirst, GoesFirst of the model: what they answer. No condition of its own. -/
import Derived.Test.YtpdonghdnaehhaaGreatDoorYCkOrders
namespace Go.Proofs.YtpdonghdnaehhaaGreatDoor
open Go.ChangeShapes Go.WideShapes Go.ChangeAt Go.WideMaps Go.WideElems Go.RowKit

set_option maxRecDepth 100000 in
theorem specKeyL (a b : Ck) (w : World) : Calls Tryz.prog 102 #[.agg #[.int .i64 a.i, .string a.n, .string a.v, .string a.d, .string a.p, .bool a.ho, .bool a.sc, .bool a.ht, .int .i64 a.s, .int .i64 a.x, .int .i64 a.m, .int .i64 a.u], .agg #[.int .i64 b.i, .string b.n, .string b.v, .string b.d, .string b.p, .bool b.ho, .bool b.sc, .bool b.ht, .int .i64 b.s, .int .i64 b.x, .int .i64 b.m, .int .i64 b.u]] w fun e w' => e = .returned (.bool (keyB a b)) ∧ Below w.heap.size w w' := by
  have B0 : Hid (Below w.heap.size w ((w.alloc (.cells #[.int .i64 a.i, .string a.n, .string a.v, .string a.d, .string a.p, .bool a.ho, .bool a.sc, .bool a.ht, .int .i64 a.s, .int .i64 a.x, .int .i64 a.m, .int .i64 a.u] 41)).alloc (.cells #[.int .i64 b.i, .string b.n, .string b.v, .string b.d, .string b.p, .bool b.ho, .bool b.sc, .bool b.ht, .int .i64 b.s, .int .i64 b.x, .int .i64 b.m, .int .i64 b.u] 41))) := Lib.hid (((Below.refl _ _).alloc (Nat.le_refl _) _).alloc (by simp) _)
  have P0 := Lib.hid ((CkB.new w a).alloc (.cells #[.int .i64 b.i, .string b.n, .string b.v, .string b.d, .string b.p, .bool b.ho, .bool b.sc, .bool b.ht, .int .i64 b.s, .int .i64 b.x, .int .i64 b.m, .int .i64 b.u] 41))
  have Q0 := Lib.hid (two_new w a b)
  obtain ⟨c0, c1, c2, c3, c4, c5, c6, c7, c8, c9, c10, c11⟩ := P0.out.at
  obtain ⟨d0, d1, d2, d3, d4, d5, d6, d7, d8, d9, d10, d11⟩ := Q0.out.at
  cases g0 : (a.n.toList == b.n.toList) with
  | false =>
    have HE : Hid (keyB a b = false) := Lib.hid (by unfold keyB; rw [g0]; rfl)
    go_enter Tryz.func102, Tryz.ntmps102
    go_wp2_with fail
    go_ret
    exact ⟨bool_end HE.out.symm, B0.out⟩
  | true =>
    have G0 := Lib.hid g0
    cases g1 : (a.d.toList == b.d.toList) with
    | false =>
      have HE : Hid (keyB a b = false) := Lib.hid (by unfold keyB; rw [G0.out, g1]; rfl)
      go_enter Tryz.func102, Tryz.ntmps102
      go_wp2_with fail
      go_ret
      exact ⟨bool_end HE.out.symm, B0.out⟩
    | true =>
      have G1 := Lib.hid g1
      cases g2 : (a.p.toList == b.p.toList) with
      | false =>
        have HE : Hid (keyB a b = false) := Lib.hid (by unfold keyB; rw [G0.out, G1.out, g2]; rfl)
        go_enter Tryz.func102, Tryz.ntmps102
        go_wp2_with fail
        go_ret
        exact ⟨bool_end HE.out.symm, B0.out⟩
      | true =>
        have G2 := Lib.hid g2
        have HE : Hid (keyB a b = (a.ho == b.ho)) := Lib.hid (by unfold keyB; rw [G0.out, G1.out, G2.out]; rfl)
        go_enter Tryz.func102, Tryz.ntmps102
        go_wp2_with fail
        go_ret
        exact ⟨bool_end (by rw [HE.out]), B0.out⟩
set_option maxRecDepth 100000 in
theorem specFirstL (a b : Ck) (w : World) : Calls Tryz.prog 97 #[.agg #[.int .i64 a.i, .string a.n, .string a.v, .string a.d, .string a.p, .bool a.ho, .bool a.sc, .bool a.ht, .int .i64 a.s, .int .i64 a.x, .int .i64 a.m, .int .i64 a.u], .agg #[.int .i64 b.i, .string b.n, .string b.v, .string b.d, .string b.p, .bool b.ho, .bool b.sc, .bool b.ht, .int .i64 b.s, .int .i64 b.x, .int .i64 b.m, .int .i64 b.u]] w fun e w' => e = .returned (.bool (firstB a b)) ∧ Below w.heap.size w w' := by
  have B0 : Hid (Below w.heap.size w ((w.alloc (.cells #[.int .i64 a.i, .string a.n, .string a.v, .string a.d, .string a.p, .bool a.ho, .bool a.sc, .bool a.ht, .int .i64 a.s, .int .i64 a.x, .int .i64 a.m, .int .i64 a.u] 41)).alloc (.cells #[.int .i64 b.i, .string b.n, .string b.v, .string b.d, .string b.p, .bool b.ho, .bool b.sc, .bool b.ht, .int .i64 b.s, .int .i64 b.x, .int .i64 b.m, .int .i64 b.u] 41))) := Lib.hid (((Below.refl _ _).alloc (Nat.le_refl _) _).alloc (by simp) _)
  have P0 := Lib.hid ((CkB.new w a).alloc (.cells #[.int .i64 b.i, .string b.n, .string b.v, .string b.d, .string b.p, .bool b.ho, .bool b.sc, .bool b.ht, .int .i64 b.s, .int .i64 b.x, .int .i64 b.m, .int .i64 b.u] 41))
  have Q0 := Lib.hid (two_new w a b)
  by_cases h1 : a.p.size = b.p.size
  · have h1' : ((a.p.size : Int) != (b.p.size : Int)) = false := by rw [h1]; simp
    by_cases h2 : a.m = b.m
    · have h2' : (a.m != b.m) = false := by rw [h2]; simp
      have HE : Hid (firstB a b = decide (a.i < b.i)) := Lib.hid (by unfold firstB; rw [if_neg (by simp [h1]), if_neg (by simp [h2])])
      clear h1 h2
      go_enter Tryz.func97, Tryz.ntmps97
      go_wp2_with fail
      go_ret
      exact ⟨bool_end HE.out.symm, B0.out⟩
    · have h2' : (a.m != b.m) = true := by simpa using h2
      have HE : Hid (firstB a b = decide (a.m < b.m)) := Lib.hid (by unfold firstB; rw [if_neg (by simp [h1]), if_pos h2])
      clear h1 h2
      go_enter Tryz.func97, Tryz.ntmps97
      go_wp2_with fail
      go_ret
      exact ⟨bool_end HE.out.symm, B0.out⟩
  · have h1' : ((a.p.size : Int) != (b.p.size : Int)) = true := by simp; omega
    have HE : Hid (firstB a b = decide (b.p.size < a.p.size)) := Lib.hid (by unfold firstB; rw [if_pos h1])
    clear h1
    go_enter Tryz.func97, Tryz.ntmps97
    go_wp2_with fail
    go_ret
    exact ⟨bool_end (by rw [HE.out]), B0.out⟩
set_option maxHeartbeats 4000000 in
set_option maxRecDepth 100000 in
theorem specGoesL (a b : Ck) (now : Int) (w : World) : Calls Tryz.prog 99 #[.agg #[.int .i64 a.i, .string a.n, .string a.v, .string a.d, .string a.p, .bool a.ho, .bool a.sc, .bool a.ht, .int .i64 a.s, .int .i64 a.x, .int .i64 a.m, .int .i64 a.u], .agg #[.int .i64 b.i, .string b.n, .string b.v, .string b.d, .string b.p, .bool b.ho, .bool b.sc, .bool b.ht, .int .i64 b.s, .int .i64 b.x, .int .i64 b.m, .int .i64 b.u], .int .i64 now] w fun e w' => e = .returned (.bool (goesB a b now)) ∧ Below w.heap.size w w' := by
  have B0 : Hid (Below w.heap.size w ((w.alloc (.cells #[.int .i64 a.i, .string a.n, .string a.v, .string a.d, .string a.p, .bool a.ho, .bool a.sc, .bool a.ht, .int .i64 a.s, .int .i64 a.x, .int .i64 a.m, .int .i64 a.u] 41)).alloc (.cells #[.int .i64 b.i, .string b.n, .string b.v, .string b.d, .string b.p, .bool b.ho, .bool b.sc, .bool b.ht, .int .i64 b.s, .int .i64 b.x, .int .i64 b.m, .int .i64 b.u] 41))) := Lib.hid (((Below.refl _ _).alloc (Nat.le_refl _) _).alloc (by simp) _)
  have P0 := Lib.hid ((CkB.new w a).alloc (.cells #[.int .i64 b.i, .string b.n, .string b.v, .string b.d, .string b.p, .bool b.ho, .bool b.sc, .bool b.ht, .int .i64 b.s, .int .i64 b.x, .int .i64 b.m, .int .i64 b.u] 41))
  have Q0 := Lib.hid (two_new w a b)
  cases hx : decide (a.x ≤ now) with
  | true =>
    cases hy : decide (b.x ≤ now) with
    | true =>
      cases hs : (a.sc != b.sc) with
      | true =>
        have hs2 : a.sc ≠ b.sc := by simpa using hs
        have H2 := Lib.hid hs2
        clear hs2
        have hs4 : (a.sc == b.sc) = false := by simpa using hs
        have hs5 : (!(a.sc == b.sc)) = true := by rw [hs4]; rfl
        have HE : Hid (goesB a b now = b.sc) := Lib.hid (by unfold goesB; rw [hx, hy, if_neg (by simp), if_pos H2.out])
        obtain ⟨c0, c1, c2, c3, c4, c5, c6, c7, c8, c9, c10, c11⟩ := P0.out.at
        obtain ⟨d0, d1, d2, d3, d4, d5, d6, d7, d8, d9, d10, d11⟩ := Q0.out.at
        go_enter Tryz.func99, Tryz.ntmps99
        go_upto_region 1 with fail
        go_region
        go_wp2_with fail
        go_ret
        exact ⟨bool_end (by rw [HE.out]), B0.out.drew⟩
      | false =>
        have hs2 : a.sc = b.sc := by simpa using hs
        have H2 := Lib.hid hs2
        clear hs2
        have hs4 : (a.sc == b.sc) = true := by simpa using hs
        have hs5 : (!(a.sc == b.sc)) = false := by rw [hs4]; rfl
        by_cases h3 : a.u = b.u
        · have h3f : (a.u != b.u) = false := by rw [h3]; simp
          have H3 := Lib.hid h3
          clear h3
          have HE : Hid (goesB a b now = decide (a.i < b.i)) := Lib.hid (by unfold goesB; rw [hx, hy, if_neg (by simp), if_neg (by simp [H2.out]), if_neg (by simp [H3.out])])
          obtain ⟨c0, c1, c2, c3, c4, c5, c6, c7, c8, c9, c10, c11⟩ := P0.out.at
          obtain ⟨d0, d1, d2, d3, d4, d5, d6, d7, d8, d9, d10, d11⟩ := Q0.out.at
          go_enter Tryz.func99, Tryz.ntmps99
          go_upto_region 1 with fail
          go_region
          go_wp2_with fail
          go_ret
          exact ⟨bool_end (by rw [HE.out]), B0.out.drew⟩
        · have h3f : (a.u != b.u) = true := by simpa using h3
          have H3 := Lib.hid h3
          clear h3
          have HE : Hid (goesB a b now = decide (a.u < b.u)) := Lib.hid (by unfold goesB; rw [hx, hy, if_neg (by simp), if_neg (by simp [H2.out]), if_pos H3.out])
          obtain ⟨c0, c1, c2, c3, c4, c5, c6, c7, c8, c9, c10, c11⟩ := P0.out.at
          obtain ⟨d0, d1, d2, d3, d4, d5, d6, d7, d8, d9, d10, d11⟩ := Q0.out.at
          go_enter Tryz.func99, Tryz.ntmps99
          go_upto_region 1 with fail
          go_region
          go_wp2_with fail
          go_ret
          exact ⟨bool_end (by rw [HE.out]), B0.out.drew⟩
    | false =>
      have HE : Hid (goesB a b now = true) := Lib.hid (by unfold goesB; rw [hx, hy]; rfl)
      obtain ⟨c0, c1, c2, c3, c4, c5, c6, c7, c8, c9, c10, c11⟩ := P0.out.at
      obtain ⟨d0, d1, d2, d3, d4, d5, d6, d7, d8, d9, d10, d11⟩ := Q0.out.at
      go_enter Tryz.func99, Tryz.ntmps99
      go_upto_region 1 with fail
      go_region
      go_wp2_with fail
      go_ret
      exact ⟨bool_end (by rw [HE.out]), B0.out.drew⟩
  | false =>
    cases hy : decide (b.x ≤ now) with
    | true =>
      have HE : Hid (goesB a b now = false) := Lib.hid (by unfold goesB; rw [hx, hy]; rfl)
      obtain ⟨c0, c1, c2, c3, c4, c5, c6, c7, c8, c9, c10, c11⟩ := P0.out.at
      obtain ⟨d0, d1, d2, d3, d4, d5, d6, d7, d8, d9, d10, d11⟩ := Q0.out.at
      go_enter Tryz.func99, Tryz.ntmps99
      go_upto_region 1 with fail
      go_region
      go_wp2_with fail
      go_ret
      exact ⟨bool_end (by rw [HE.out]), B0.out.drew⟩
    | false =>
      cases hs : (a.sc != b.sc) with
      | true =>
        have hs2 : a.sc ≠ b.sc := by simpa using hs
        have H2 := Lib.hid hs2
        clear hs2
        have hs4 : (a.sc == b.sc) = false := by simpa using hs
        have hs5 : (!(a.sc == b.sc)) = true := by rw [hs4]; rfl
        have HE : Hid (goesB a b now = b.sc) := Lib.hid (by unfold goesB; rw [hx, hy, if_neg (by simp), if_pos H2.out])
        obtain ⟨c0, c1, c2, c3, c4, c5, c6, c7, c8, c9, c10, c11⟩ := P0.out.at
        obtain ⟨d0, d1, d2, d3, d4, d5, d6, d7, d8, d9, d10, d11⟩ := Q0.out.at
        go_enter Tryz.func99, Tryz.ntmps99
        go_upto_region 1 with fail
        go_region
        go_wp2_with fail
        go_ret
        exact ⟨bool_end (by rw [HE.out]), B0.out.drew⟩
      | false =>
        have hs2 : a.sc = b.sc := by simpa using hs
        have H2 := Lib.hid hs2
        clear hs2
        have hs4 : (a.sc == b.sc) = true := by simpa using hs
        have hs5 : (!(a.sc == b.sc)) = false := by rw [hs4]; rfl
        by_cases h3 : a.u = b.u
        · have h3f : (a.u != b.u) = false := by rw [h3]; simp
          have H3 := Lib.hid h3
          clear h3
          have HE : Hid (goesB a b now = decide (a.i < b.i)) := Lib.hid (by unfold goesB; rw [hx, hy, if_neg (by simp), if_neg (by simp [H2.out]), if_neg (by simp [H3.out])])
          obtain ⟨c0, c1, c2, c3, c4, c5, c6, c7, c8, c9, c10, c11⟩ := P0.out.at
          obtain ⟨d0, d1, d2, d3, d4, d5, d6, d7, d8, d9, d10, d11⟩ := Q0.out.at
          go_enter Tryz.func99, Tryz.ntmps99
          go_upto_region 1 with fail
          go_region
          go_wp2_with fail
          go_ret
          exact ⟨bool_end (by rw [HE.out]), B0.out.drew⟩
        · have h3f : (a.u != b.u) = true := by simpa using h3
          have H3 := Lib.hid h3
          clear h3
          have HE : Hid (goesB a b now = decide (a.u < b.u)) := Lib.hid (by unfold goesB; rw [hx, hy, if_neg (by simp), if_neg (by simp [H2.out]), if_pos H3.out])
          obtain ⟨c0, c1, c2, c3, c4, c5, c6, c7, c8, c9, c10, c11⟩ := P0.out.at
          obtain ⟨d0, d1, d2, d3, d4, d5, d6, d7, d8, d9, d10, d11⟩ := Q0.out.at
          go_enter Tryz.func99, Tryz.ntmps99
          go_upto_region 1 with fail
          go_region
          go_wp2_with fail
          go_ret
          exact ⟨bool_end (by rw [HE.out]), B0.out.drew⟩
set_option maxHeartbeats 4000000 in
set_option maxRecDepth 100000 in
theorem specKey (a b : Ck) (w : World) (ha : szC a) (hb : szC b) : Calls Tryz.prog 31 #[.agg #[.int .i64 a.i, .string a.n, .string a.v, .string a.d, .string a.p, .bool a.ho, .bool a.sc, .bool a.ht, .int .i64 a.s, .int .i64 a.x, .int .i64 a.m, .int .i64 a.u], .agg #[.int .i64 b.i, .string b.n, .string b.v, .string b.d, .string b.p, .bool b.ho, .bool b.sc, .bool b.ht, .int .i64 b.s, .int .i64 b.x, .int .i64 b.m, .int .i64 b.u]] w fun e w' => e = .returned (.bool ((ckOK a && ckOK b) && keyB a b)) ∧ Below w.heap.size w w' := by
  have B0 : Hid (Below w.heap.size w ((w.alloc (.cells #[.int .i64 a.i, .string a.n, .string a.v, .string a.d, .string a.p, .bool a.ho, .bool a.sc, .bool a.ht, .int .i64 a.s, .int .i64 a.x, .int .i64 a.m, .int .i64 a.u] 41)).alloc (.cells #[.int .i64 b.i, .string b.n, .string b.v, .string b.d, .string b.p, .bool b.ho, .bool b.sc, .bool b.ht, .int .i64 b.s, .int .i64 b.x, .int .i64 b.m, .int .i64 b.u] 41))) := Lib.hid (((Below.refl _ _).alloc (Nat.le_refl _) _).alloc (by simp) _)
  have P0 := Lib.hid ((CkB.new w a).alloc (.cells #[.int .i64 b.i, .string b.n, .string b.v, .string b.d, .string b.p, .bool b.ho, .bool b.sc, .bool b.ht, .int .i64 b.s, .int .i64 b.x, .int .i64 b.m, .int .i64 b.u] 41))
  have Q0 := Lib.hid (two_new w a b)
  have HA := Lib.hid ha
  have HB := Lib.hid hb
  clear ha hb
  cases g1 : ckOK a with
  | false =>
    go_enter Tryz.func31, Tryz.ntmps31
    go_wp2_with fail
    refine (specCk_at a _ HA.out).mono ?_
    rintro e w1 ⟨rfl, hb⟩
    have B1 := Lib.hid (B0.out.trans (hb.mono B0.out.size))
    clear hb
    rw [g1]
    clear g1
    go_wp2_with fail
    go_ret
    exact ⟨bool_end (by simp), B1.out⟩
  | true =>
    cases g2 : ckOK b with
    | false =>
      go_enter Tryz.func31, Tryz.ntmps31
      go_wp2_with fail
      refine (specCk_at a _ HA.out).mono ?_
      rintro e w1 ⟨rfl, hb⟩
      have B1 := Lib.hid (B0.out.trans (hb.mono B0.out.size))
      have P1 := Lib.hid (P0.out.stays hb)
      have Q1 := Lib.hid (Q0.out.stays hb)
      clear hb
      rw [g1]
      clear g1
      obtain ⟨c0, c1, c2, c3, c4, c5, c6, c7, c8, c9, c10, c11⟩ := P1.out.at
      obtain ⟨d0, d1, d2, d3, d4, d5, d6, d7, d8, d9, d10, d11⟩ := Q1.out.at
      go_wp2_with fail
      refine (specCk_at b _ HB.out).mono ?_
      rintro e w2 ⟨rfl, hb⟩
      have B2 := Lib.hid (B1.out.trans (hb.mono B1.out.size))
      clear hb
      rw [g2]
      clear g2
      go_wp2_with fail
      go_ret
      exact ⟨bool_end (by simp), B2.out⟩
    | true =>
      go_enter Tryz.func31, Tryz.ntmps31
      go_wp2_with fail
      refine (specCk_at a _ HA.out).mono ?_
      rintro e w1 ⟨rfl, hb⟩
      have B1 := Lib.hid (B0.out.trans (hb.mono B0.out.size))
      have P1 := Lib.hid (P0.out.stays hb)
      have Q1 := Lib.hid (Q0.out.stays hb)
      clear hb
      rw [g1]
      clear g1
      obtain ⟨c0, c1, c2, c3, c4, c5, c6, c7, c8, c9, c10, c11⟩ := P1.out.at
      obtain ⟨d0, d1, d2, d3, d4, d5, d6, d7, d8, d9, d10, d11⟩ := Q1.out.at
      go_wp2_with fail
      refine (specCk_at b _ HB.out).mono ?_
      rintro e w2 ⟨rfl, hb⟩
      have B2 := Lib.hid (B1.out.trans (hb.mono B1.out.size))
      have P2 := Lib.hid (P1.out.stays hb)
      have Q2 := Lib.hid (Q1.out.stays hb)
      clear hb c0 c1 c2 c3 c4 c5 c6 c7 c8 c9 c10 c11 d0 d1 d2 d3 d4 d5 d6 d7 d8 d9 d10 d11
      rw [g2]
      clear g2
      obtain ⟨c0, c1, c2, c3, c4, c5, c6, c7, c8, c9, c10, c11⟩ := P2.out.at
      obtain ⟨d0, d1, d2, d3, d4, d5, d6, d7, d8, d9, d10, d11⟩ := Q2.out.at
      go_wp2_with fail
      refine (specKeyL a b _).mono ?_
      rintro e w3 ⟨rfl, hb⟩
      have B3 := Lib.hid (B2.out.trans (hb.mono B2.out.size))
      clear hb
      go_wp2_with fail
      go_ret
      exact ⟨bool_end (by simp), B3.out⟩
set_option maxHeartbeats 4000000 in
set_option maxRecDepth 100000 in
theorem specFirst (a b : Ck) (w : World) (ha : szC a) (hb : szC b) : Calls Tryz.prog 27 #[.agg #[.int .i64 a.i, .string a.n, .string a.v, .string a.d, .string a.p, .bool a.ho, .bool a.sc, .bool a.ht, .int .i64 a.s, .int .i64 a.x, .int .i64 a.m, .int .i64 a.u], .agg #[.int .i64 b.i, .string b.n, .string b.v, .string b.d, .string b.p, .bool b.ho, .bool b.sc, .bool b.ht, .int .i64 b.s, .int .i64 b.x, .int .i64 b.m, .int .i64 b.u]] w fun e w' => e = .returned (.bool ((ckOK a && ckOK b) && firstB a b)) ∧ Below w.heap.size w w' := by
  have B0 : Hid (Below w.heap.size w ((w.alloc (.cells #[.int .i64 a.i, .string a.n, .string a.v, .string a.d, .string a.p, .bool a.ho, .bool a.sc, .bool a.ht, .int .i64 a.s, .int .i64 a.x, .int .i64 a.m, .int .i64 a.u] 41)).alloc (.cells #[.int .i64 b.i, .string b.n, .string b.v, .string b.d, .string b.p, .bool b.ho, .bool b.sc, .bool b.ht, .int .i64 b.s, .int .i64 b.x, .int .i64 b.m, .int .i64 b.u] 41))) := Lib.hid (((Below.refl _ _).alloc (Nat.le_refl _) _).alloc (by simp) _)
  have P0 := Lib.hid ((CkB.new w a).alloc (.cells #[.int .i64 b.i, .string b.n, .string b.v, .string b.d, .string b.p, .bool b.ho, .bool b.sc, .bool b.ht, .int .i64 b.s, .int .i64 b.x, .int .i64 b.m, .int .i64 b.u] 41))
  have Q0 := Lib.hid (two_new w a b)
  have HA := Lib.hid ha
  have HB := Lib.hid hb
  clear ha hb
  cases g1 : ckOK a with
  | false =>
    go_enter Tryz.func27, Tryz.ntmps27
    go_wp2_with fail
    refine (specCk_at a _ HA.out).mono ?_
    rintro e w1 ⟨rfl, hb⟩
    have B1 := Lib.hid (B0.out.trans (hb.mono B0.out.size))
    clear hb
    rw [g1]
    clear g1
    go_wp2_with fail
    go_ret
    exact ⟨bool_end (by simp), B1.out⟩
  | true =>
    cases g2 : ckOK b with
    | false =>
      go_enter Tryz.func27, Tryz.ntmps27
      go_wp2_with fail
      refine (specCk_at a _ HA.out).mono ?_
      rintro e w1 ⟨rfl, hb⟩
      have B1 := Lib.hid (B0.out.trans (hb.mono B0.out.size))
      have P1 := Lib.hid (P0.out.stays hb)
      have Q1 := Lib.hid (Q0.out.stays hb)
      clear hb
      rw [g1]
      clear g1
      obtain ⟨c0, c1, c2, c3, c4, c5, c6, c7, c8, c9, c10, c11⟩ := P1.out.at
      obtain ⟨d0, d1, d2, d3, d4, d5, d6, d7, d8, d9, d10, d11⟩ := Q1.out.at
      go_wp2_with fail
      refine (specCk_at b _ HB.out).mono ?_
      rintro e w2 ⟨rfl, hb⟩
      have B2 := Lib.hid (B1.out.trans (hb.mono B1.out.size))
      clear hb
      rw [g2]
      clear g2
      go_wp2_with fail
      go_ret
      exact ⟨bool_end (by simp), B2.out⟩
    | true =>
      go_enter Tryz.func27, Tryz.ntmps27
      go_wp2_with fail
      refine (specCk_at a _ HA.out).mono ?_
      rintro e w1 ⟨rfl, hb⟩
      have B1 := Lib.hid (B0.out.trans (hb.mono B0.out.size))
      have P1 := Lib.hid (P0.out.stays hb)
      have Q1 := Lib.hid (Q0.out.stays hb)
      clear hb
      rw [g1]
      clear g1
      obtain ⟨c0, c1, c2, c3, c4, c5, c6, c7, c8, c9, c10, c11⟩ := P1.out.at
      obtain ⟨d0, d1, d2, d3, d4, d5, d6, d7, d8, d9, d10, d11⟩ := Q1.out.at
      go_wp2_with fail
      refine (specCk_at b _ HB.out).mono ?_
      rintro e w2 ⟨rfl, hb⟩
      have B2 := Lib.hid (B1.out.trans (hb.mono B1.out.size))
      have P2 := Lib.hid (P1.out.stays hb)
      have Q2 := Lib.hid (Q1.out.stays hb)
      clear hb c0 c1 c2 c3 c4 c5 c6 c7 c8 c9 c10 c11 d0 d1 d2 d3 d4 d5 d6 d7 d8 d9 d10 d11
      rw [g2]
      clear g2
      obtain ⟨c0, c1, c2, c3, c4, c5, c6, c7, c8, c9, c10, c11⟩ := P2.out.at
      obtain ⟨d0, d1, d2, d3, d4, d5, d6, d7, d8, d9, d10, d11⟩ := Q2.out.at
      go_wp2_with fail
      refine (specFirstL a b _).mono ?_
      rintro e w3 ⟨rfl, hb⟩
      have B3 := Lib.hid (B2.out.trans (hb.mono B2.out.size))
      clear hb
      go_wp2_with fail
      go_ret
      exact ⟨bool_end (by simp), B3.out⟩
set_option maxHeartbeats 4000000 in
set_option maxRecDepth 100000 in
theorem specGoes (a b : Ck) (now : Int) (w : World) (ha : szC a) (hb : szC b) : Calls Tryz.prog 29 #[.agg #[.int .i64 a.i, .string a.n, .string a.v, .string a.d, .string a.p, .bool a.ho, .bool a.sc, .bool a.ht, .int .i64 a.s, .int .i64 a.x, .int .i64 a.m, .int .i64 a.u], .agg #[.int .i64 b.i, .string b.n, .string b.v, .string b.d, .string b.p, .bool b.ho, .bool b.sc, .bool b.ht, .int .i64 b.s, .int .i64 b.x, .int .i64 b.m, .int .i64 b.u], .int .i64 now] w fun e w' => e = .returned (.bool ((ckOK a && ckOK b) && goesB a b now)) ∧ Below w.heap.size w w' := by
  have B0 : Hid (Below w.heap.size w ((w.alloc (.cells #[.int .i64 a.i, .string a.n, .string a.v, .string a.d, .string a.p, .bool a.ho, .bool a.sc, .bool a.ht, .int .i64 a.s, .int .i64 a.x, .int .i64 a.m, .int .i64 a.u] 41)).alloc (.cells #[.int .i64 b.i, .string b.n, .string b.v, .string b.d, .string b.p, .bool b.ho, .bool b.sc, .bool b.ht, .int .i64 b.s, .int .i64 b.x, .int .i64 b.m, .int .i64 b.u] 41))) := Lib.hid (((Below.refl _ _).alloc (Nat.le_refl _) _).alloc (by simp) _)
  have P0 := Lib.hid ((CkB.new w a).alloc (.cells #[.int .i64 b.i, .string b.n, .string b.v, .string b.d, .string b.p, .bool b.ho, .bool b.sc, .bool b.ht, .int .i64 b.s, .int .i64 b.x, .int .i64 b.m, .int .i64 b.u] 41))
  have Q0 := Lib.hid (two_new w a b)
  have HA := Lib.hid ha
  have HB := Lib.hid hb
  clear ha hb
  cases g1 : ckOK a with
  | false =>
    go_enter Tryz.func29, Tryz.ntmps29
    go_wp2_with fail
    refine (specCk_at a _ HA.out).mono ?_
    rintro e w1 ⟨rfl, hb⟩
    have B1 := Lib.hid (B0.out.trans (hb.mono B0.out.size))
    clear hb
    rw [g1]
    clear g1
    go_wp2_with fail
    go_ret
    exact ⟨bool_end (by simp), B1.out⟩
  | true =>
    cases g2 : ckOK b with
    | false =>
      go_enter Tryz.func29, Tryz.ntmps29
      go_wp2_with fail
      refine (specCk_at a _ HA.out).mono ?_
      rintro e w1 ⟨rfl, hb⟩
      have B1 := Lib.hid (B0.out.trans (hb.mono B0.out.size))
      have P1 := Lib.hid (P0.out.stays hb)
      have Q1 := Lib.hid (Q0.out.stays hb)
      clear hb
      rw [g1]
      clear g1
      obtain ⟨c0, c1, c2, c3, c4, c5, c6, c7, c8, c9, c10, c11⟩ := P1.out.at
      obtain ⟨d0, d1, d2, d3, d4, d5, d6, d7, d8, d9, d10, d11⟩ := Q1.out.at
      go_wp2_with fail
      refine (specCk_at b _ HB.out).mono ?_
      rintro e w2 ⟨rfl, hb⟩
      have B2 := Lib.hid (B1.out.trans (hb.mono B1.out.size))
      clear hb
      rw [g2]
      clear g2
      go_wp2_with fail
      go_ret
      exact ⟨bool_end (by simp), B2.out⟩
    | true =>
      go_enter Tryz.func29, Tryz.ntmps29
      go_wp2_with fail
      refine (specCk_at a _ HA.out).mono ?_
      rintro e w1 ⟨rfl, hb⟩
      have B1 := Lib.hid (B0.out.trans (hb.mono B0.out.size))
      have P1 := Lib.hid (P0.out.stays hb)
      have Q1 := Lib.hid (Q0.out.stays hb)
      clear hb
      rw [g1]
      clear g1
      obtain ⟨c0, c1, c2, c3, c4, c5, c6, c7, c8, c9, c10, c11⟩ := P1.out.at
      obtain ⟨d0, d1, d2, d3, d4, d5, d6, d7, d8, d9, d10, d11⟩ := Q1.out.at
      go_wp2_with fail
      refine (specCk_at b _ HB.out).mono ?_
      rintro e w2 ⟨rfl, hb⟩
      have B2 := Lib.hid (B1.out.trans (hb.mono B1.out.size))
      have P2 := Lib.hid (P1.out.stays hb)
      have Q2 := Lib.hid (Q1.out.stays hb)
      clear hb c0 c1 c2 c3 c4 c5 c6 c7 c8 c9 c10 c11 d0 d1 d2 d3 d4 d5 d6 d7 d8 d9 d10 d11
      rw [g2]
      clear g2
      obtain ⟨c0, c1, c2, c3, c4, c5, c6, c7, c8, c9, c10, c11⟩ := P2.out.at
      obtain ⟨d0, d1, d2, d3, d4, d5, d6, d7, d8, d9, d10, d11⟩ := Q2.out.at
      go_wp2_with fail
      refine (specGoesL a b now _).mono ?_
      rintro e w3 ⟨rfl, hb⟩
      have B3 := Lib.hid (B2.out.trans (hb.mono B2.out.size))
      clear hb
      go_wp2_with fail
      go_ret
      exact ⟨bool_end (by simp), B3.out⟩
end Go.Proofs.YtpdonghdnaehhaaGreatDoor
