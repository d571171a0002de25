/- The walks of the laws on CookieOK, SameKey, ComesFirst and GoesFirst. No condition of its own. -/
import Derived.Test.YtnbpcaoblpidjaaDoorCkSpecO
namespace Go.Proofs.YtnbpcaoblpidjaaDoor
open Go.ChangeShapes Go.WideShapes Go.ChangeAt Go.WideMaps Go.WideElems Go.RowKit

theorem lk_two (w : World) (a b : Ck) : LkB ((w.alloc (.cells #[.int .i64 a.i, .string a.n, .string a.v, .string a.d, .string a.p, .bool a.ho, .bool a.sc, .bool a.ht, .int .i64 a.s, .int .i64 a.x, .int .i64 a.m, .int .i64 a.u] 23)).alloc (.cells #[.int .i64 b.i, .string b.n, .string b.v, .string b.d, .string b.p, .bool b.ho, .bool b.sc, .bool b.ht, .int .i64 b.s, .int .i64 b.x, .int .i64 b.m, .int .i64 b.u] 23)) (w.heap.size + 1) b := by
  have h := LkB.new (w.alloc (.cells #[.int .i64 a.i, .string a.n, .string a.v, .string a.d, .string a.p, .bool a.ho, .bool a.sc, .bool a.ht, .int .i64 a.s, .int .i64 a.x, .int .i64 a.m, .int .i64 a.u] 23)) b
  rwa [show (w.alloc (.cells #[.int .i64 a.i, .string a.n, .string a.v, .string a.d, .string a.p, .bool a.ho, .bool a.sc, .bool a.ht, .int .i64 a.s, .int .i64 a.x, .int .i64 a.m, .int .i64 a.u] 23)).heap.size = w.heap.size + 1 by simp] at h
theorem szCookie_first (q : Ck) (w : World) (h : wtC q ≤ 1048576) : Calls Tryd.prog 9 #[.agg #[.int .i64 q.i, .string q.n, .string q.v, .string q.d, .string q.p, .bool q.ho, .bool q.sc, .bool q.ht, .int .i64 q.s, .int .i64 q.x, .int .i64 q.m, .int .i64 q.u], .int .i64 1048576] w fun e w' => e = .returned (.int .i64 ((1048576 - wtC q : Nat) : Int)) ∧ Below w.heap.size w w' := szCookie_any q 1048576 w (Nat.le_refl _) h
theorem szCookie_first_big (q : Ck) (w : World) (m0 : q.n.size ≤ maxLen) (m1 : q.v.size ≤ maxLen) (m2 : q.d.size ≤ maxLen) (m3 : q.p.size ≤ maxLen) (h : 1048576 < wtC q) : Calls Tryd.prog 9 #[.agg #[.int .i64 q.i, .string q.n, .string q.v, .string q.d, .string q.p, .bool q.ho, .bool q.sc, .bool q.ht, .int .i64 q.s, .int .i64 q.x, .int .i64 q.m, .int .i64 q.u], .int .i64 1048576] w fun e w' => e = .returned (.int .i64 (-1)) ∧ Below w.heap.size w w' := szCookie_big q 1048576 w (Nat.le_refl _) m0 m1 m2 m3 h
set_option maxHeartbeats 8000000 in
set_option maxRecDepth 100000 in
theorem walk_FnExactCookieOK (W : World) (q0 : Ck) (m0n : q0.n.size ≤ maxLen) (m0v : q0.v.size ≤ maxLen) (m0d : q0.d.size ≤ maxLen) (m0p : q0.p.size ≤ maxLen) (hL : laidMetH Tryd.prog Rows.fnExactCookieOKRow.laid W) (_ : W.ShapedOpen Tryd.prog) :
    Calls Tryd.prog 3 #[.agg #[.int .i64 q0.i, .string q0.n, .string q0.v, .string q0.d, .string q0.p, .bool q0.ho, .bool q0.sc, .bool q0.ht, .int .i64 q0.s, .int .i64 q0.x, .int .i64 q0.m, .int .i64 q0.u]] W fun e w' => e = .returned (.bool true) ∧ Below W.heap.size W w' := by
  rw [MakeChecks.laidMetH_plain _ _ _ (by kernel_rfl)] at hL
  have HT := Lib.hid (tab_of_laid (laidMet.tail hL))
  clear hL
  have B0 : Hid (Below W.heap.size W (W.alloc (.cells #[.int .i64 q0.i, .string q0.n, .string q0.v, .string q0.d, .string q0.p, .bool q0.ho, .bool q0.sc, .bool q0.ht, .int .i64 q0.s, .int .i64 q0.x, .int .i64 q0.m, .int .i64 q0.u] 23))) := Lib.hid ((Below.refl _ _).alloc (Nat.le_refl _) _)
  have P0 := Lib.hid (LkB.new W q0)
  by_cases h0 : wtC q0 ≤ 1048576
  · have hh0 : (0 : Int) ≤ ((1048576 - wtC q0 : Nat) : Int) := by omega
    have S0 := Lib.hid (sz_of h0)
    obtain ⟨r, hr⟩ : ∃ r : Bool, ckOK q0 = r := ⟨_, rfl⟩
    have A1 : Hid (∀ w : World, Calls Tryd.prog 10 #[.agg #[.int .i64 q0.i, .string q0.n, .string q0.v, .string q0.d, .string q0.p, .bool q0.ho, .bool q0.sc, .bool q0.ht, .int .i64 q0.s, .int .i64 q0.x, .int .i64 q0.m, .int .i64 q0.u]] w fun e w' => e = .returned (.bool r) ∧ Below w.heap.size w w') := Lib.hid fun w => by
      rw [← hr]
      exact specCookieOK q0 w S0.out.1 S0.out.2.1 S0.out.2.2.1 S0.out.2.2.2
    have A2 : Hid (∀ w : World, Below W.heap.size W w → Calls Tryd.prog 12 #[.agg #[.int .i64 q0.i, .string q0.n, .string q0.v, .string q0.d, .string q0.p, .bool q0.ho, .bool q0.sc, .bool q0.ht, .int .i64 q0.s, .int .i64 q0.x, .int .i64 q0.m, .int .i64 q0.u]] w fun e w' => e = .returned (.bool r) ∧ Below w.heap.size w w') := Lib.hid fun w hB => by
      rw [← hr]
      exact cookieOK_at q0 w S0.out (HT.out.below hB)
    clear hr
    have n1 : (r != r) = false := by simp
    have n2 : (r == r) = true := by simp
    go_enter Tryd.func3, Tryd.ntmps3
    go_wp2_with fail
    refine (szCookie_first q0 _ h0).mono ?_
    rintro e w1 ⟨rfl, hb⟩
    have B1 := Lib.hid (B0.out.trans (hb.mono B0.out.size))
    have P1 := Lib.hid (P0.out.stays hb)
    clear hb
    obtain ⟨c0, c1, c2, c3, c4, c5, c6, c7, c8, c9, c10, c11⟩ := P1.out.at
    go_wp2_with fail
    refine (toCookie_any q0 _).mono ?_
    rintro e w2 ⟨rfl, hb⟩
    have B2 := Lib.hid (B1.out.trans (hb.mono B1.out.size))
    have P2 := Lib.hid (P1.out.stays hb)
    clear hb c0 c1 c2 c3 c4 c5 c6 c7 c8 c9 c10 c11
    go_wp2_with fail
    refine (A1.out _).mono ?_
    rintro e w3 ⟨rfl, hb⟩
    have B3 := Lib.hid (B2.out.trans (hb.mono B2.out.size))
    have P3 := Lib.hid (P2.out.stays hb)
    clear hb
    obtain ⟨c0, c1, c2, c3, c4, c5, c6, c7, c8, c9, c10, c11⟩ := P3.out.at
    go_wp2_with fail
    refine (toCookie_any q0 _).mono ?_
    rintro e w4 ⟨rfl, hb⟩
    have B4 := Lib.hid (B3.out.trans (hb.mono B3.out.size))
    clear hb c0 c1 c2 c3 c4 c5 c6 c7 c8 c9 c10 c11
    go_wp2_with fail
    refine (A2.out _ B4.out).mono ?_
    rintro e w5 ⟨rfl, hb⟩
    have B5 := Lib.hid (B4.out.trans (hb.mono B4.out.size))
    clear hb
    go_wp2_with fail
    go_ret
    exact ⟨rfl, B5.out⟩
  · go_enter Tryd.func3, Tryd.ntmps3
    go_wp2_with fail
    refine (szCookie_first_big q0 _ m0n m0v m0d m0p (by omega)).mono ?_
    rintro e w1 ⟨rfl, hb⟩
    have B1 := Lib.hid (B0.out.trans (hb.mono B0.out.size))
    clear hb
    go_wp2_with fail
    go_ret
    exact ⟨rfl, B1.out⟩
set_option maxHeartbeats 8000000 in
set_option maxRecDepth 100000 in
theorem walk_FnExactSameKey (W : World) (q0 : Ck) (m0n : q0.n.size ≤ maxLen) (m0v : q0.v.size ≤ maxLen) (m0d : q0.d.size ≤ maxLen) (m0p : q0.p.size ≤ maxLen) (q1 : Ck) (m1n : q1.n.size ≤ maxLen) (m1v : q1.v.size ≤ maxLen) (m1d : q1.d.size ≤ maxLen) (m1p : q1.p.size ≤ maxLen) (hL : laidMetH Tryd.prog Rows.fnExactSameKeyRow.laid W) (_ : W.ShapedOpen Tryd.prog) :
    Calls Tryd.prog 4 #[.agg #[.int .i64 q0.i, .string q0.n, .string q0.v, .string q0.d, .string q0.p, .bool q0.ho, .bool q0.sc, .bool q0.ht, .int .i64 q0.s, .int .i64 q0.x, .int .i64 q0.m, .int .i64 q0.u], .agg #[.int .i64 q1.i, .string q1.n, .string q1.v, .string q1.d, .string q1.p, .bool q1.ho, .bool q1.sc, .bool q1.ht, .int .i64 q1.s, .int .i64 q1.x, .int .i64 q1.m, .int .i64 q1.u]] W fun e w' => e = .returned (.bool true) ∧ Below W.heap.size W w' := by
  rw [MakeChecks.laidMetH_plain _ _ _ (by kernel_rfl)] at hL
  have HT := Lib.hid (tab_of_laid (laidMet.tail hL))
  clear hL
  have B0 : Hid (Below W.heap.size W ((W.alloc (.cells #[.int .i64 q0.i, .string q0.n, .string q0.v, .string q0.d, .string q0.p, .bool q0.ho, .bool q0.sc, .bool q0.ht, .int .i64 q0.s, .int .i64 q0.x, .int .i64 q0.m, .int .i64 q0.u] 23)).alloc (.cells #[.int .i64 q1.i, .string q1.n, .string q1.v, .string q1.d, .string q1.p, .bool q1.ho, .bool q1.sc, .bool q1.ht, .int .i64 q1.s, .int .i64 q1.x, .int .i64 q1.m, .int .i64 q1.u] 23))) := Lib.hid (((Below.refl _ _).alloc (Nat.le_refl _) _).alloc (by simp) _)
  have P0 := Lib.hid ((LkB.new W q0).alloc (.cells #[.int .i64 q1.i, .string q1.n, .string q1.v, .string q1.d, .string q1.p, .bool q1.ho, .bool q1.sc, .bool q1.ht, .int .i64 q1.s, .int .i64 q1.x, .int .i64 q1.m, .int .i64 q1.u] 23))
  have Q0 := Lib.hid (lk_two W q0 q1)
  by_cases h0 : wtC q0 ≤ 1048576
  · have hh0 : (0 : Int) ≤ ((1048576 - wtC q0 : Nat) : Int) := by omega
    by_cases h1 : wtC q1 ≤ 1048576 - wtC q0
    · have hh1 : (0 : Int) ≤ ((1048576 - wtC q0 - wtC q1 : Nat) : Int) := by omega
      have S0 := Lib.hid (sz_of h0)
      have S1 := Lib.hid (sz_of (show wtC q1 ≤ 1048576 by omega))
      obtain ⟨r, hr⟩ : ∃ r : Bool, ((ckOK q0 && ckOK q1) && keyB q0 q1) = r := ⟨_, rfl⟩
      have A1 : Hid (∀ w : World, Calls Tryd.prog 13 #[.agg #[.int .i64 q0.i, .string q0.n, .string q0.v, .string q0.d, .string q0.p, .bool q0.ho, .bool q0.sc, .bool q0.ht, .int .i64 q0.s, .int .i64 q0.x, .int .i64 q0.m, .int .i64 q0.u], .agg #[.int .i64 q1.i, .string q1.n, .string q1.v, .string q1.d, .string q1.p, .bool q1.ho, .bool q1.sc, .bool q1.ht, .int .i64 q1.s, .int .i64 q1.x, .int .i64 q1.m, .int .i64 q1.u]] w fun e w' => e = .returned (.bool r) ∧ Below w.heap.size w w') := Lib.hid fun w => by
        rw [← hr]
        exact specKey q0 q1 w S0.out S1.out
      have A2 : Hid (∀ w : World, Below W.heap.size W w → Calls Tryd.prog 14 #[.agg #[.int .i64 q0.i, .string q0.n, .string q0.v, .string q0.d, .string q0.p, .bool q0.ho, .bool q0.sc, .bool q0.ht, .int .i64 q0.s, .int .i64 q0.x, .int .i64 q0.m, .int .i64 q0.u], .agg #[.int .i64 q1.i, .string q1.n, .string q1.v, .string q1.d, .string q1.p, .bool q1.ho, .bool q1.sc, .bool q1.ht, .int .i64 q1.s, .int .i64 q1.x, .int .i64 q1.m, .int .i64 q1.u]] w fun e w' => e = .returned (.bool r) ∧ Below w.heap.size w w') := Lib.hid fun w hB => by
        rw [← hr]
        exact implKey q0 q1 w S0.out S1.out (HT.out.below hB)
      clear hr
      have n1 : (r != r) = false := by simp
      have n2 : (r == r) = true := by simp
      have n3 : (!(r == r)) = false := by simp
      go_enter Tryd.func4, Tryd.ntmps4
      go_wp2_with fail
      refine (szCookie_first q0 _ h0).mono ?_
      rintro e w1 ⟨rfl, hb⟩
      have B1 := Lib.hid (B0.out.trans (hb.mono B0.out.size))
      have P1 := Lib.hid (P0.out.stays hb)
      have Q1 := Lib.hid (Q0.out.stays hb)
      clear hb
      obtain ⟨d0, d1, d2, d3, d4, d5, d6, d7, d8, d9, d10, d11⟩ := Q1.out.at
      go_wp2_with fail
      refine (szCookie_any q1 (1048576 - wtC q0) _ (by omega) h1).mono ?_
      rintro e w2 ⟨rfl, hb⟩
      have B2 := Lib.hid (B1.out.trans (hb.mono B1.out.size))
      have P2 := Lib.hid (P1.out.stays hb)
      have Q2 := Lib.hid (Q1.out.stays hb)
      clear hb d0 d1 d2 d3 d4 d5 d6 d7 d8 d9 d10 d11
      go_upto_region 8 with fail
      have hN2 : Nonempty (BCl w2) := BCl.full w2
      obtain ⟨c0, c1, c2, c3, c4, c5, c6, c7, c8, c9, c10, c11⟩ := P2.out.at
      obtain ⟨d0, d1, d2, d3, d4, d5, d6, d7, d8, d9, d10, d11⟩ := Q2.out.at
      have q0x := BCl.cell c0
      have q1x := BCl.cell c1
      have q2x := BCl.cell c2
      have q3x := BCl.cell c3
      have q4x := BCl.cell c4
      have q5x := BCl.cell c5
      have q6x := BCl.cell c6
      have q7x := BCl.cell c7
      have q8x := BCl.cell c8
      have q9x := BCl.cell c9
      have q10x := BCl.cell c10
      have q11x := BCl.cell c11
      have r0x := BCl.cell d0
      have r1x := BCl.cell d1
      have r2x := BCl.cell d2
      have r3x := BCl.cell d3
      have r4x := BCl.cell d4
      have r5x := BCl.cell d5
      have r6x := BCl.cell d6
      have r7x := BCl.cell d7
      have r8x := BCl.cell d8
      have r9x := BCl.cell d9
      have r10x := BCl.cell d10
      have r11x := BCl.cell d11
      clear c0 c1 c2 c3 c4 c5 c6 c7 c8 c9 c10 c11 d0 d1 d2 d3 d4 d5 d6 d7 d8 d9 d10 d11
      refine wp_region_below (fun w' => ∃ i : BCl w2, w' = i.w) (by kernel_rfl) (by kernel_rfl) (BCl.start w2) ?_
      repeat (go_big_quiet_step (first
        | (go_at_call 11; rename_i i; with_reducible refine (toCookie_any q0 i.w).mono ?_; intro e w' h; exact ⟨h.1, i.next h.2⟩)
        | (go_at_call 11; rename_i i; with_reducible refine (toCookie_any q1 i.w).mono ?_; intro e w' h; exact ⟨h.1, i.next h.2⟩)
        | (go_at_call 13; rename_i i; with_reducible refine (A1.out i.w).mono ?_; intro e w' h; exact ⟨h.1, i.next h.2⟩)))
      refine wpQuiet_nil ?_
      intro _ hw'
      obtain ⟨i, rfl⟩ := hw'
      clear q0x q1x q2x q3x q4x q5x q6x q7x q8x q9x q10x q11x r0x r1x r2x r3x r4x r5x r6x r7x r8x r9x r10x r11x hN2
      obtain ⟨w3, hw3⟩ : ∃ w3, i.w = w3 := ⟨_, rfl⟩
      have hb3 := i.below
      rw [hw3] at hb3 ⊢
      clear hw3 i
      have B3 := Lib.hid (B2.out.trans (hb3.mono B2.out.size))
      have P3 := Lib.hid (P2.out.stays hb3)
      have Q3 := Lib.hid (Q2.out.stays hb3)
      clear hb3
      go_upto_region 9 with fail
      have hN3 : Nonempty (BCl w3) := BCl.full w3
      obtain ⟨c0, c1, c2, c3, c4, c5, c6, c7, c8, c9, c10, c11⟩ := P3.out.at
      obtain ⟨d0, d1, d2, d3, d4, d5, d6, d7, d8, d9, d10, d11⟩ := Q3.out.at
      have q0x := BCl.cell c0
      have q1x := BCl.cell c1
      have q2x := BCl.cell c2
      have q3x := BCl.cell c3
      have q4x := BCl.cell c4
      have q5x := BCl.cell c5
      have q6x := BCl.cell c6
      have q7x := BCl.cell c7
      have q8x := BCl.cell c8
      have q9x := BCl.cell c9
      have q10x := BCl.cell c10
      have q11x := BCl.cell c11
      have r0x := BCl.cell d0
      have r1x := BCl.cell d1
      have r2x := BCl.cell d2
      have r3x := BCl.cell d3
      have r4x := BCl.cell d4
      have r5x := BCl.cell d5
      have r6x := BCl.cell d6
      have r7x := BCl.cell d7
      have r8x := BCl.cell d8
      have r9x := BCl.cell d9
      have r10x := BCl.cell d10
      have r11x := BCl.cell d11
      clear c0 c1 c2 c3 c4 c5 c6 c7 c8 c9 c10 c11 d0 d1 d2 d3 d4 d5 d6 d7 d8 d9 d10 d11
      refine wp_region_below (fun w' => ∃ i : BCl w3, w' = i.w) (by kernel_rfl) (by kernel_rfl) (BCl.start w3) ?_
      repeat (go_big_quiet_step (first
        | (go_at_call 11; rename_i i; with_reducible refine (toCookie_any q0 i.w).mono ?_; intro e w' h; exact ⟨h.1, i.next h.2⟩)
        | (go_at_call 11; rename_i i; with_reducible refine (toCookie_any q1 i.w).mono ?_; intro e w' h; exact ⟨h.1, i.next h.2⟩)
        | (go_at_call 14; rename_i i; with_reducible refine (A2.out i.w (B3.out.trans (i.below.mono B3.out.size))).mono ?_; intro e w' h; exact ⟨h.1, i.next h.2⟩)))
      refine wpQuiet_nil ?_
      intro _ hw'
      obtain ⟨i, rfl⟩ := hw'
      clear q0x q1x q2x q3x q4x q5x q6x q7x q8x q9x q10x q11x r0x r1x r2x r3x r4x r5x r6x r7x r8x r9x r10x r11x hN3
      go_wp2_with fail
      go_ret
      exact ⟨rfl, B3.out.trans (i.below.mono B3.out.size)⟩
    · go_enter Tryd.func4, Tryd.ntmps4
      go_wp2_with fail
      refine (szCookie_first q0 _ h0).mono ?_
      rintro e w1 ⟨rfl, hb⟩
      have B1 := Lib.hid (B0.out.trans (hb.mono B0.out.size))
      have Q1 := Lib.hid (Q0.out.stays hb)
      clear hb
      obtain ⟨d0, d1, d2, d3, d4, d5, d6, d7, d8, d9, d10, d11⟩ := Q1.out.at
      go_wp2_with fail
      refine (szCookie_big q1 (1048576 - wtC q0) _ (by omega) m1n m1v m1d m1p (by omega)).mono ?_
      rintro e w2 ⟨rfl, hb⟩
      have B2 := Lib.hid (B1.out.trans (hb.mono B1.out.size))
      clear hb d0 d1 d2 d3 d4 d5 d6 d7 d8 d9 d10 d11
      go_wp2_with fail
      go_ret
      exact ⟨rfl, B2.out⟩
  · go_enter Tryd.func4, Tryd.ntmps4
    go_wp2_with fail
    refine (szCookie_first_big q0 _ m0n m0v m0d m0p (by omega)).mono ?_
    rintro e w1 ⟨rfl, hb⟩
    have B1 := Lib.hid (B0.out.trans (hb.mono B0.out.size))
    clear hb
    go_wp2_with fail
    go_ret
    exact ⟨rfl, B1.out⟩
set_option maxHeartbeats 8000000 in
set_option maxRecDepth 100000 in
theorem walk_FnExactComesFirst (W : World) (q0 : Ck) (m0n : q0.n.size ≤ maxLen) (m0v : q0.v.size ≤ maxLen) (m0d : q0.d.size ≤ maxLen) (m0p : q0.p.size ≤ maxLen) (q1 : Ck) (m1n : q1.n.size ≤ maxLen) (m1v : q1.v.size ≤ maxLen) (m1d : q1.d.size ≤ maxLen) (m1p : q1.p.size ≤ maxLen) (hL : laidMetH Tryd.prog Rows.fnExactComesFirstRow.laid W) (_ : W.ShapedOpen Tryd.prog) :
    Calls Tryd.prog 5 #[.agg #[.int .i64 q0.i, .string q0.n, .string q0.v, .string q0.d, .string q0.p, .bool q0.ho, .bool q0.sc, .bool q0.ht, .int .i64 q0.s, .int .i64 q0.x, .int .i64 q0.m, .int .i64 q0.u], .agg #[.int .i64 q1.i, .string q1.n, .string q1.v, .string q1.d, .string q1.p, .bool q1.ho, .bool q1.sc, .bool q1.ht, .int .i64 q1.s, .int .i64 q1.x, .int .i64 q1.m, .int .i64 q1.u]] W fun e w' => e = .returned (.bool true) ∧ Below W.heap.size W w' := by
  rw [MakeChecks.laidMetH_plain _ _ _ (by kernel_rfl)] at hL
  have HT := Lib.hid (tab_of_laid (laidMet.tail hL))
  clear hL
  have B0 : Hid (Below W.heap.size W ((W.alloc (.cells #[.int .i64 q0.i, .string q0.n, .string q0.v, .string q0.d, .string q0.p, .bool q0.ho, .bool q0.sc, .bool q0.ht, .int .i64 q0.s, .int .i64 q0.x, .int .i64 q0.m, .int .i64 q0.u] 23)).alloc (.cells #[.int .i64 q1.i, .string q1.n, .string q1.v, .string q1.d, .string q1.p, .bool q1.ho, .bool q1.sc, .bool q1.ht, .int .i64 q1.s, .int .i64 q1.x, .int .i64 q1.m, .int .i64 q1.u] 23))) := Lib.hid (((Below.refl _ _).alloc (Nat.le_refl _) _).alloc (by simp) _)
  have P0 := Lib.hid ((LkB.new W q0).alloc (.cells #[.int .i64 q1.i, .string q1.n, .string q1.v, .string q1.d, .string q1.p, .bool q1.ho, .bool q1.sc, .bool q1.ht, .int .i64 q1.s, .int .i64 q1.x, .int .i64 q1.m, .int .i64 q1.u] 23))
  have Q0 := Lib.hid (lk_two W q0 q1)
  by_cases h0 : wtC q0 ≤ 1048576
  · have hh0 : (0 : Int) ≤ ((1048576 - wtC q0 : Nat) : Int) := by omega
    by_cases h1 : wtC q1 ≤ 1048576 - wtC q0
    · have hh1 : (0 : Int) ≤ ((1048576 - wtC q0 - wtC q1 : Nat) : Int) := by omega
      have S0 := Lib.hid (sz_of h0)
      have S1 := Lib.hid (sz_of (show wtC q1 ≤ 1048576 by omega))
      obtain ⟨r, hr⟩ : ∃ r : Bool, ((ckOK q0 && ckOK q1) && firstB q0 q1) = r := ⟨_, rfl⟩
      have A1 : Hid (∀ w : World, Calls Tryd.prog 15 #[.agg #[.int .i64 q0.i, .string q0.n, .string q0.v, .string q0.d, .string q0.p, .bool q0.ho, .bool q0.sc, .bool q0.ht, .int .i64 q0.s, .int .i64 q0.x, .int .i64 q0.m, .int .i64 q0.u], .agg #[.int .i64 q1.i, .string q1.n, .string q1.v, .string q1.d, .string q1.p, .bool q1.ho, .bool q1.sc, .bool q1.ht, .int .i64 q1.s, .int .i64 q1.x, .int .i64 q1.m, .int .i64 q1.u]] w fun e w' => e = .returned (.bool r) ∧ Below w.heap.size w w') := Lib.hid fun w => by
        rw [← hr]
        exact specFirst q0 q1 w S0.out S1.out
      have A2 : Hid (∀ w : World, Below W.heap.size W w → Calls Tryd.prog 16 #[.agg #[.int .i64 q0.i, .string q0.n, .string q0.v, .string q0.d, .string q0.p, .bool q0.ho, .bool q0.sc, .bool q0.ht, .int .i64 q0.s, .int .i64 q0.x, .int .i64 q0.m, .int .i64 q0.u], .agg #[.int .i64 q1.i, .string q1.n, .string q1.v, .string q1.d, .string q1.p, .bool q1.ho, .bool q1.sc, .bool q1.ht, .int .i64 q1.s, .int .i64 q1.x, .int .i64 q1.m, .int .i64 q1.u]] w fun e w' => e = .returned (.bool r) ∧ Below w.heap.size w w') := Lib.hid fun w hB => by
        rw [← hr]
        exact implFirst q0 q1 w S0.out S1.out (HT.out.below hB)
      clear hr
      have n1 : (r != r) = false := by simp
      have n2 : (r == r) = true := by simp
      have n3 : (!(r == r)) = false := by simp
      go_enter Tryd.func5, Tryd.ntmps5
      go_wp2_with fail
      refine (szCookie_first q0 _ h0).mono ?_
      rintro e w1 ⟨rfl, hb⟩
      have B1 := Lib.hid (B0.out.trans (hb.mono B0.out.size))
      have P1 := Lib.hid (P0.out.stays hb)
      have Q1 := Lib.hid (Q0.out.stays hb)
      clear hb
      obtain ⟨d0, d1, d2, d3, d4, d5, d6, d7, d8, d9, d10, d11⟩ := Q1.out.at
      go_wp2_with fail
      refine (szCookie_any q1 (1048576 - wtC q0) _ (by omega) h1).mono ?_
      rintro e w2 ⟨rfl, hb⟩
      have B2 := Lib.hid (B1.out.trans (hb.mono B1.out.size))
      have P2 := Lib.hid (P1.out.stays hb)
      have Q2 := Lib.hid (Q1.out.stays hb)
      clear hb d0 d1 d2 d3 d4 d5 d6 d7 d8 d9 d10 d11
      go_upto_region 8 with fail
      have hN2 : Nonempty (BCl w2) := BCl.full w2
      obtain ⟨c0, c1, c2, c3, c4, c5, c6, c7, c8, c9, c10, c11⟩ := P2.out.at
      obtain ⟨d0, d1, d2, d3, d4, d5, d6, d7, d8, d9, d10, d11⟩ := Q2.out.at
      have q0x := BCl.cell c0
      have q1x := BCl.cell c1
      have q2x := BCl.cell c2
      have q3x := BCl.cell c3
      have q4x := BCl.cell c4
      have q5x := BCl.cell c5
      have q6x := BCl.cell c6
      have q7x := BCl.cell c7
      have q8x := BCl.cell c8
      have q9x := BCl.cell c9
      have q10x := BCl.cell c10
      have q11x := BCl.cell c11
      have r0x := BCl.cell d0
      have r1x := BCl.cell d1
      have r2x := BCl.cell d2
      have r3x := BCl.cell d3
      have r4x := BCl.cell d4
      have r5x := BCl.cell d5
      have r6x := BCl.cell d6
      have r7x := BCl.cell d7
      have r8x := BCl.cell d8
      have r9x := BCl.cell d9
      have r10x := BCl.cell d10
      have r11x := BCl.cell d11
      clear c0 c1 c2 c3 c4 c5 c6 c7 c8 c9 c10 c11 d0 d1 d2 d3 d4 d5 d6 d7 d8 d9 d10 d11
      refine wp_region_below (fun w' => ∃ i : BCl w2, w' = i.w) (by kernel_rfl) (by kernel_rfl) (BCl.start w2) ?_
      repeat (go_big_quiet_step (first
        | (go_at_call 11; rename_i i; with_reducible refine (toCookie_any q0 i.w).mono ?_; intro e w' h; exact ⟨h.1, i.next h.2⟩)
        | (go_at_call 11; rename_i i; with_reducible refine (toCookie_any q1 i.w).mono ?_; intro e w' h; exact ⟨h.1, i.next h.2⟩)
        | (go_at_call 15; rename_i i; with_reducible refine (A1.out i.w).mono ?_; intro e w' h; exact ⟨h.1, i.next h.2⟩)))
      refine wpQuiet_nil ?_
      intro _ hw'
      obtain ⟨i, rfl⟩ := hw'
      clear q0x q1x q2x q3x q4x q5x q6x q7x q8x q9x q10x q11x r0x r1x r2x r3x r4x r5x r6x r7x r8x r9x r10x r11x hN2
      obtain ⟨w3, hw3⟩ : ∃ w3, i.w = w3 := ⟨_, rfl⟩
      have hb3 := i.below
      rw [hw3] at hb3 ⊢
      clear hw3 i
      have B3 := Lib.hid (B2.out.trans (hb3.mono B2.out.size))
      have P3 := Lib.hid (P2.out.stays hb3)
      have Q3 := Lib.hid (Q2.out.stays hb3)
      clear hb3
      go_upto_region 9 with fail
      have hN3 : Nonempty (BCl w3) := BCl.full w3
      obtain ⟨c0, c1, c2, c3, c4, c5, c6, c7, c8, c9, c10, c11⟩ := P3.out.at
      obtain ⟨d0, d1, d2, d3, d4, d5, d6, d7, d8, d9, d10, d11⟩ := Q3.out.at
      have q0x := BCl.cell c0
      have q1x := BCl.cell c1
      have q2x := BCl.cell c2
      have q3x := BCl.cell c3
      have q4x := BCl.cell c4
      have q5x := BCl.cell c5
      have q6x := BCl.cell c6
      have q7x := BCl.cell c7
      have q8x := BCl.cell c8
      have q9x := BCl.cell c9
      have q10x := BCl.cell c10
      have q11x := BCl.cell c11
      have r0x := BCl.cell d0
      have r1x := BCl.cell d1
      have r2x := BCl.cell d2
      have r3x := BCl.cell d3
      have r4x := BCl.cell d4
      have r5x := BCl.cell d5
      have r6x := BCl.cell d6
      have r7x := BCl.cell d7
      have r8x := BCl.cell d8
      have r9x := BCl.cell d9
      have r10x := BCl.cell d10
      have r11x := BCl.cell d11
      clear c0 c1 c2 c3 c4 c5 c6 c7 c8 c9 c10 c11 d0 d1 d2 d3 d4 d5 d6 d7 d8 d9 d10 d11
      refine wp_region_below (fun w' => ∃ i : BCl w3, w' = i.w) (by kernel_rfl) (by kernel_rfl) (BCl.start w3) ?_
      repeat (go_big_quiet_step (first
        | (go_at_call 11; rename_i i; with_reducible refine (toCookie_any q0 i.w).mono ?_; intro e w' h; exact ⟨h.1, i.next h.2⟩)
        | (go_at_call 11; rename_i i; with_reducible refine (toCookie_any q1 i.w).mono ?_; intro e w' h; exact ⟨h.1, i.next h.2⟩)
        | (go_at_call 16; rename_i i; with_reducible refine (A2.out i.w (B3.out.trans (i.below.mono B3.out.size))).mono ?_; intro e w' h; exact ⟨h.1, i.next h.2⟩)))
      refine wpQuiet_nil ?_
      intro _ hw'
      obtain ⟨i, rfl⟩ := hw'
      clear q0x q1x q2x q3x q4x q5x q6x q7x q8x q9x q10x q11x r0x r1x r2x r3x r4x r5x r6x r7x r8x r9x r10x r11x hN3
      go_wp2_with fail
      go_ret
      exact ⟨rfl, B3.out.trans (i.below.mono B3.out.size)⟩
    · go_enter Tryd.func5, Tryd.ntmps5
      go_wp2_with fail
      refine (szCookie_first q0 _ h0).mono ?_
      rintro e w1 ⟨rfl, hb⟩
      have B1 := Lib.hid (B0.out.trans (hb.mono B0.out.size))
      have Q1 := Lib.hid (Q0.out.stays hb)
      clear hb
      obtain ⟨d0, d1, d2, d3, d4, d5, d6, d7, d8, d9, d10, d11⟩ := Q1.out.at
      go_wp2_with fail
      refine (szCookie_big q1 (1048576 - wtC q0) _ (by omega) m1n m1v m1d m1p (by omega)).mono ?_
      rintro e w2 ⟨rfl, hb⟩
      have B2 := Lib.hid (B1.out.trans (hb.mono B1.out.size))
      clear hb d0 d1 d2 d3 d4 d5 d6 d7 d8 d9 d10 d11
      go_wp2_with fail
      go_ret
      exact ⟨rfl, B2.out⟩
  · go_enter Tryd.func5, Tryd.ntmps5
    go_wp2_with fail
    refine (szCookie_first_big q0 _ m0n m0v m0d m0p (by omega)).mono ?_
    rintro e w1 ⟨rfl, hb⟩
    have B1 := Lib.hid (B0.out.trans (hb.mono B0.out.size))
    clear hb
    go_wp2_with fail
    go_ret
    exact ⟨rfl, B1.out⟩
set_option maxHeartbeats 8000000 in
set_option maxRecDepth 100000 in
theorem walk_FnExactGoesFirst (W : World) (q0 : Ck) (m0n : q0.n.size ≤ maxLen) (m0v : q0.v.size ≤ maxLen) (m0d : q0.d.size ≤ maxLen) (m0p : q0.p.size ≤ maxLen) (q1 : Ck) (m1n : q1.n.size ≤ maxLen) (m1v : q1.v.size ≤ maxLen) (m1d : q1.d.size ≤ maxLen) (m1p : q1.p.size ≤ maxLen) (now : Int) (_ : (Lit.int .i64 now).wf = true) (hL : laidMetH Tryd.prog Rows.fnExactGoesFirstRow.laid W) (_ : W.ShapedOpen Tryd.prog) :
    Calls Tryd.prog 6 #[.agg #[.int .i64 q0.i, .string q0.n, .string q0.v, .string q0.d, .string q0.p, .bool q0.ho, .bool q0.sc, .bool q0.ht, .int .i64 q0.s, .int .i64 q0.x, .int .i64 q0.m, .int .i64 q0.u], .agg #[.int .i64 q1.i, .string q1.n, .string q1.v, .string q1.d, .string q1.p, .bool q1.ho, .bool q1.sc, .bool q1.ht, .int .i64 q1.s, .int .i64 q1.x, .int .i64 q1.m, .int .i64 q1.u], .int .i64 now] W fun e w' => e = .returned (.bool true) ∧ Below W.heap.size W w' := by
  rw [MakeChecks.laidMetH_plain _ _ _ (by kernel_rfl)] at hL
  have HT := Lib.hid (tab_of_laid (laidMet.tail hL))
  clear hL
  have B0 : Hid (Below W.heap.size W ((W.alloc (.cells #[.int .i64 q0.i, .string q0.n, .string q0.v, .string q0.d, .string q0.p, .bool q0.ho, .bool q0.sc, .bool q0.ht, .int .i64 q0.s, .int .i64 q0.x, .int .i64 q0.m, .int .i64 q0.u] 23)).alloc (.cells #[.int .i64 q1.i, .string q1.n, .string q1.v, .string q1.d, .string q1.p, .bool q1.ho, .bool q1.sc, .bool q1.ht, .int .i64 q1.s, .int .i64 q1.x, .int .i64 q1.m, .int .i64 q1.u] 23))) := Lib.hid (((Below.refl _ _).alloc (Nat.le_refl _) _).alloc (by simp) _)
  have P0 := Lib.hid ((LkB.new W q0).alloc (.cells #[.int .i64 q1.i, .string q1.n, .string q1.v, .string q1.d, .string q1.p, .bool q1.ho, .bool q1.sc, .bool q1.ht, .int .i64 q1.s, .int .i64 q1.x, .int .i64 q1.m, .int .i64 q1.u] 23))
  have Q0 := Lib.hid (lk_two W q0 q1)
  by_cases h0 : wtC q0 ≤ 1048576
  · have hh0 : (0 : Int) ≤ ((1048576 - wtC q0 : Nat) : Int) := by omega
    by_cases h1 : wtC q1 ≤ 1048576 - wtC q0
    · have hh1 : (0 : Int) ≤ ((1048576 - wtC q0 - wtC q1 : Nat) : Int) := by omega
      have S0 := Lib.hid (sz_of h0)
      have S1 := Lib.hid (sz_of (show wtC q1 ≤ 1048576 by omega))
      obtain ⟨r, hr⟩ : ∃ r : Bool, ((ckOK q0 && ckOK q1) && goesB q0 q1 now) = r := ⟨_, rfl⟩
      have A1 : Hid (∀ w : World, Calls Tryd.prog 17 #[.agg #[.int .i64 q0.i, .string q0.n, .string q0.v, .string q0.d, .string q0.p, .bool q0.ho, .bool q0.sc, .bool q0.ht, .int .i64 q0.s, .int .i64 q0.x, .int .i64 q0.m, .int .i64 q0.u], .agg #[.int .i64 q1.i, .string q1.n, .string q1.v, .string q1.d, .string q1.p, .bool q1.ho, .bool q1.sc, .bool q1.ht, .int .i64 q1.s, .int .i64 q1.x, .int .i64 q1.m, .int .i64 q1.u], .int .i64 now] w fun e w' => e = .returned (.bool r) ∧ Below w.heap.size w w') := Lib.hid fun w => by
        rw [← hr]
        exact specGoes q0 q1 now w S0.out S1.out
      have A2 : Hid (∀ w : World, Below W.heap.size W w → Calls Tryd.prog 18 #[.agg #[.int .i64 q0.i, .string q0.n, .string q0.v, .string q0.d, .string q0.p, .bool q0.ho, .bool q0.sc, .bool q0.ht, .int .i64 q0.s, .int .i64 q0.x, .int .i64 q0.m, .int .i64 q0.u], .agg #[.int .i64 q1.i, .string q1.n, .string q1.v, .string q1.d, .string q1.p, .bool q1.ho, .bool q1.sc, .bool q1.ht, .int .i64 q1.s, .int .i64 q1.x, .int .i64 q1.m, .int .i64 q1.u], .int .i64 now] w fun e w' => e = .returned (.bool r) ∧ Below w.heap.size w w') := Lib.hid fun w hB => by
        rw [← hr]
        exact implGoes q0 q1 now w S0.out S1.out (HT.out.below hB)
      clear hr
      have n1 : (r != r) = false := by simp
      have n2 : (r == r) = true := by simp
      have n3 : (!(r == r)) = false := by simp
      go_enter Tryd.func6, Tryd.ntmps6
      go_wp2_with fail
      refine (szCookie_first q0 _ h0).mono ?_
      rintro e w1 ⟨rfl, hb⟩
      have B1 := Lib.hid (B0.out.trans (hb.mono B0.out.size))
      have P1 := Lib.hid (P0.out.stays hb)
      have Q1 := Lib.hid (Q0.out.stays hb)
      clear hb
      obtain ⟨d0, d1, d2, d3, d4, d5, d6, d7, d8, d9, d10, d11⟩ := Q1.out.at
      go_wp2_with fail
      refine (szCookie_any q1 (1048576 - wtC q0) _ (by omega) h1).mono ?_
      rintro e w2 ⟨rfl, hb⟩
      have B2 := Lib.hid (B1.out.trans (hb.mono B1.out.size))
      have P2 := Lib.hid (P1.out.stays hb)
      have Q2 := Lib.hid (Q1.out.stays hb)
      clear hb d0 d1 d2 d3 d4 d5 d6 d7 d8 d9 d10 d11
      go_upto_region 8 with fail
      have hN2 : Nonempty (BCl w2) := BCl.full w2
      obtain ⟨c0, c1, c2, c3, c4, c5, c6, c7, c8, c9, c10, c11⟩ := P2.out.at
      obtain ⟨d0, d1, d2, d3, d4, d5, d6, d7, d8, d9, d10, d11⟩ := Q2.out.at
      have q0x := BCl.cell c0
      have q1x := BCl.cell c1
      have q2x := BCl.cell c2
      have q3x := BCl.cell c3
      have q4x := BCl.cell c4
      have q5x := BCl.cell c5
      have q6x := BCl.cell c6
      have q7x := BCl.cell c7
      have q8x := BCl.cell c8
      have q9x := BCl.cell c9
      have q10x := BCl.cell c10
      have q11x := BCl.cell c11
      have r0x := BCl.cell d0
      have r1x := BCl.cell d1
      have r2x := BCl.cell d2
      have r3x := BCl.cell d3
      have r4x := BCl.cell d4
      have r5x := BCl.cell d5
      have r6x := BCl.cell d6
      have r7x := BCl.cell d7
      have r8x := BCl.cell d8
      have r9x := BCl.cell d9
      have r10x := BCl.cell d10
      have r11x := BCl.cell d11
      clear c0 c1 c2 c3 c4 c5 c6 c7 c8 c9 c10 c11 d0 d1 d2 d3 d4 d5 d6 d7 d8 d9 d10 d11
      refine wp_region_below (fun w' => ∃ i : BCl w2, w' = i.w) (by kernel_rfl) (by kernel_rfl) (BCl.start w2) ?_
      repeat (go_big_quiet_step (first
        | (go_at_call 11; rename_i i; with_reducible refine (toCookie_any q0 i.w).mono ?_; intro e w' h; exact ⟨h.1, i.next h.2⟩)
        | (go_at_call 11; rename_i i; with_reducible refine (toCookie_any q1 i.w).mono ?_; intro e w' h; exact ⟨h.1, i.next h.2⟩)
        | (go_at_call 17; rename_i i; with_reducible refine (A1.out i.w).mono ?_; intro e w' h; exact ⟨h.1, i.next h.2⟩)))
      refine wpQuiet_nil ?_
      intro _ hw'
      obtain ⟨i, rfl⟩ := hw'
      clear q0x q1x q2x q3x q4x q5x q6x q7x q8x q9x q10x q11x r0x r1x r2x r3x r4x r5x r6x r7x r8x r9x r10x r11x hN2
      obtain ⟨w3, hw3⟩ : ∃ w3, i.w = w3 := ⟨_, rfl⟩
      have hb3 := i.below
      rw [hw3] at hb3 ⊢
      clear hw3 i
      have B3 := Lib.hid (B2.out.trans (hb3.mono B2.out.size))
      have P3 := Lib.hid (P2.out.stays hb3)
      have Q3 := Lib.hid (Q2.out.stays hb3)
      clear hb3
      go_upto_region 9 with fail
      have hN3 : Nonempty (BCl w3) := BCl.full w3
      obtain ⟨c0, c1, c2, c3, c4, c5, c6, c7, c8, c9, c10, c11⟩ := P3.out.at
      obtain ⟨d0, d1, d2, d3, d4, d5, d6, d7, d8, d9, d10, d11⟩ := Q3.out.at
      have q0x := BCl.cell c0
      have q1x := BCl.cell c1
      have q2x := BCl.cell c2
      have q3x := BCl.cell c3
      have q4x := BCl.cell c4
      have q5x := BCl.cell c5
      have q6x := BCl.cell c6
      have q7x := BCl.cell c7
      have q8x := BCl.cell c8
      have q9x := BCl.cell c9
      have q10x := BCl.cell c10
      have q11x := BCl.cell c11
      have r0x := BCl.cell d0
      have r1x := BCl.cell d1
      have r2x := BCl.cell d2
      have r3x := BCl.cell d3
      have r4x := BCl.cell d4
      have r5x := BCl.cell d5
      have r6x := BCl.cell d6
      have r7x := BCl.cell d7
      have r8x := BCl.cell d8
      have r9x := BCl.cell d9
      have r10x := BCl.cell d10
      have r11x := BCl.cell d11
      clear c0 c1 c2 c3 c4 c5 c6 c7 c8 c9 c10 c11 d0 d1 d2 d3 d4 d5 d6 d7 d8 d9 d10 d11
      refine wp_region_below (fun w' => ∃ i : BCl w3, w' = i.w) (by kernel_rfl) (by kernel_rfl) (BCl.start w3) ?_
      repeat (go_big_quiet_step (first
        | (go_at_call 11; rename_i i; with_reducible refine (toCookie_any q0 i.w).mono ?_; intro e w' h; exact ⟨h.1, i.next h.2⟩)
        | (go_at_call 11; rename_i i; with_reducible refine (toCookie_any q1 i.w).mono ?_; intro e w' h; exact ⟨h.1, i.next h.2⟩)
        | (go_at_call 18; rename_i i; with_reducible refine (A2.out i.w (B3.out.trans (i.below.mono B3.out.size))).mono ?_; intro e w' h; exact ⟨h.1, i.next h.2⟩)))
      refine wpQuiet_nil ?_
      intro _ hw'
      obtain ⟨i, rfl⟩ := hw'
      clear q0x q1x q2x q3x q4x q5x q6x q7x q8x q9x q10x q11x r0x r1x r2x r3x r4x r5x r6x r7x r8x r9x r10x r11x hN3
      go_wp2_with fail
      go_ret
      exact ⟨rfl, B3.out.trans (i.below.mono B3.out.size)⟩
    · go_enter Tryd.func6, Tryd.ntmps6
      go_wp2_with fail
      refine (szCookie_first q0 _ h0).mono ?_
      rintro e w1 ⟨rfl, hb⟩
      have B1 := Lib.hid (B0.out.trans (hb.mono B0.out.size))
      have Q1 := Lib.hid (Q0.out.stays hb)
      clear hb
      obtain ⟨d0, d1, d2, d3, d4, d5, d6, d7, d8, d9, d10, d11⟩ := Q1.out.at
      go_wp2_with fail
      refine (szCookie_big q1 (1048576 - wtC q0) _ (by omega) m1n m1v m1d m1p (by omega)).mono ?_
      rintro e w2 ⟨rfl, hb⟩
      have B2 := Lib.hid (B1.out.trans (hb.mono B1.out.size))
      clear hb d0 d1 d2 d3 d4 d5 d6 d7 d8 d9 d10 d11
      go_wp2_with fail
      go_ret
      exact ⟨rfl, B2.out⟩
  · go_enter Tryd.func6, Tryd.ntmps6
    go_wp2_with fail
    refine (szCookie_first_big q0 _ m0n m0v m0d m0p (by omega)).mono ?_
    rintro e w1 ⟨rfl, hb⟩
    have B1 := Lib.hid (B0.out.trans (hb.mono B0.out.size))
    clear hb
    go_wp2_with fail
    go_ret
    exact ⟨rfl, B1.out⟩
end Go.Proofs.YtnbpcaoblpidjaaDoor
