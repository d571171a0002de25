/- CookieOK of the program: what it answers. No condition of its own. -/
import Derived.Test.YtcaabnnkjnleeaaGreatDoorCkBlk
import Derived.Test.YtcaabnnkjnleeaaGreatDoorPairOK
namespace Go.Proofs.YtcaabnnkjnleeaaGreatDoor
open Go.ChangeShapes Go.WideShapes Go.ChangeAt Go.WideMaps Go.WideElems Go.RowKit

theorem isWithin_any (n a b : Int) (w : World) : Calls Tryz.prog 72 #[.int .i64 n, .int .i64 a, .int .i64 b] w fun e w' => e = .returned (.bool (inRange n a b)) ∧ w = w' := by
  by_cases h1 : a ≤ n
  · by_cases h2 : n ≤ b
    · have HI : Hid (inRange n a b = true) := by show inRange n a b = true; simp [inRange, h1, h2]
      go_enter Tryz.func72, Tryz.ntmps72
      go_wp2_with fail
      go_ret
      exact ⟨bool_end (by simp [inRange, h1, h2]), rfl⟩
    · have h2' : b < n := by omega
      go_enter Tryz.func72, Tryz.ntmps72
      go_wp2_with fail
      go_ret
      exact ⟨bool_end (by simp [inRange, h1, h2]), rfl⟩
  · have h1' : n < a := by omega
    go_enter Tryz.func72, Tryz.ntmps72
    go_wp2_with fail
    go_ret
    exact ⟨bool_end (by simp [inRange]; intro h; omega), rfl⟩
theorem cookiePath_any (p : ByteArray) (w : World) (hd : p.size ≤ 1048576) (hT : TabAt w) : Calls Tryz.prog 137 #[.string p] w fun e w' => e = .returned (.bool (cpathB p)) ∧ Below w.heap.size w w' := by
  have HT := Lib.hid hT
  have hd0 : Hid (p.size ≤ maxLen) := Lib.hid (by unfold maxLen; omega)
  clear hT
  by_cases h1 : (p.size : Int) ≤ 60
  · go_enter Tryz.func137, Tryz.ntmps137
    go_wp2_with fail
    refine (prefix_any p 47 _).mono ?_
    rintro e w' ⟨rfl, rfl⟩
    cases g0 : (p.data.toList.head? == some 47) with
    | false =>
      have G0 := Lib.hid g0
      go_wp2_with fail
      go_ret
      exact ⟨bool_end (by simp [cpathB, slashB, G0.out]), Below.refl _ _⟩
    | true =>
      have G0 := Lib.hid g0
      clear g0
      go_wp2_with fail
      refine (implControl p _ hd0.out HT.out).mono ?_
      rintro e w1 ⟨rfl, hb⟩
      have B1 := Lib.hid hb
      clear hb
      go_wp2_with fail
      go_ret
      exact ⟨bool_end (by simp [cpathB, slashB, G0.out]; omega), B1.out⟩
  · go_enter Tryz.func137, Tryz.ntmps137
    go_wp2_with fail
    go_ret
    exact ⟨bool_end (by simp [cpathB]; omega), Below.refl _ _⟩
set_option maxHeartbeats 2000000 in
set_option maxRecDepth 100000 in
theorem cookieOK_any (q : Ck) (w : World) (hn : q.n.size ≤ 1048576) (hv : q.v.size ≤ 1048576) (hd : q.d.size ≤ 1048576) (hp : q.p.size ≤ 1048576) (hT : TabAt w) :
    Calls Tryz.prog 91 #[.agg #[.int .i64 q.i, .string q.n, .string q.v, .string q.d, .string q.p, .bool q.ho, .bool q.sc, .bool q.ht, .int .i64 q.s, .int .i64 q.x, .int .i64 q.m, .int .i64 q.u]] w fun e w' => e = .returned (.bool (ckOK q)) ∧ Below w.heap.size w w' := by
  have HT := Lib.hid hT
  have HN := Lib.hid hn
  have HV := Lib.hid hv
  have HD : Hid (q.d.size ≤ maxLen) := Lib.hid (by unfold maxLen; omega)
  have HP := Lib.hid hp
  clear hT hn hv hd hp
  have B0 := Lib.hid ((Below.refl w.heap.size w).alloc (Nat.le_refl _) (.cells #[.int .i64 q.i, .string q.n, .string q.v, .string q.d, .string q.p, .bool q.ho, .bool q.sc, .bool q.ht, .int .i64 q.s, .int .i64 q.x, .int .i64 q.m, .int .i64 q.u] 26))
  have P0 := Lib.hid (CkB.new w q)
  go_enter Tryz.func91, Tryz.ntmps91
  go_wp2_with fail
  refine (isWithin_any q.i 1 1000000000000 _).mono ?_
  rintro e w' ⟨rfl, rfl⟩
  cases g0 : inRange q.i 1 1000000000000 with
  | false =>
    have G0 := Lib.hid g0
    go_wp2_with fail
    go_ret
    exact ⟨bool_end (by simp [ckOK, G0.out]), B0.out⟩
  | true =>
    have G0 := Lib.hid g0
    go_wp2_with fail
    refine (pairOK_any q.n q.v _ HN.out HV.out (HT.out.below B0.out)).mono ?_
    rintro e w1 ⟨rfl, hb⟩
    have B1 := Lib.hid (B0.out.trans (hb.mono B0.out.size))
    have P1 := Lib.hid (P0.out.stays hb)
    clear hb
    obtain ⟨c0, c1, c2, c3, c4, c5, c6, c7, c8, c9, c10, c11⟩ := P1.out.at
    cases g1 : pairOKB q.n q.v with
    | false =>
      have G1 := Lib.hid g1
      go_wp2_with fail
      go_ret
      exact ⟨bool_end (by simp [ckOK, G0.out, G1.out]), B1.out⟩
    | true =>
      have G1 := Lib.hid g1
      go_wp2_with fail
      refine (implHostOK q.d _ HD.out (HT.out.below B1.out)).mono ?_
      rintro e w2 ⟨rfl, hb⟩
      have B2 := Lib.hid (B1.out.trans (hb.mono B1.out.size))
      have P2 := Lib.hid (P1.out.stays hb)
      clear hb c0 c1 c2 c3 c4 c5 c6 c7 c8 c9 c10 c11
      obtain ⟨c0, c1, c2, c3, c4, c5, c6, c7, c8, c9, c10, c11⟩ := P2.out.at
      cases g2 : hostB q.d with
      | false =>
        have G2 := Lib.hid g2
        go_wp2_with fail
        go_ret
        exact ⟨bool_end (by simp [ckOK, G0.out, G1.out, G2.out]), B2.out⟩
      | true =>
        have G2 := Lib.hid g2
        go_wp2_with fail
        refine (cookiePath_any q.p _ HP.out (HT.out.below B2.out)).mono ?_
        rintro e w3 ⟨rfl, hb⟩
        have B3 := Lib.hid (B2.out.trans (hb.mono B2.out.size))
        have P3 := Lib.hid (P2.out.stays hb)
        clear hb c0 c1 c2 c3 c4 c5 c6 c7 c8 c9 c10 c11
        obtain ⟨c0, c1, c2, c3, c4, c5, c6, c7, c8, c9, c10, c11⟩ := P3.out.at
        cases g3 : cpathB q.p with
        | false =>
          have G3 := Lib.hid g3
          go_wp2_with fail
          go_ret
          exact ⟨bool_end (by simp [ckOK, G0.out, G1.out, G2.out, G3.out]), B3.out⟩
        | true =>
          have G3 := Lib.hid g3
          go_wp2_with fail
          refine (isWithin_any q.s 1 4 _).mono ?_
          rintro e w' ⟨rfl, rfl⟩
          cases g4 : inRange q.s 1 4 with
          | false =>
            have G4 := Lib.hid g4
            go_wp2_with fail
            go_ret
            exact ⟨bool_end (by simp [ckOK, G0.out, G1.out, G2.out, G3.out, G4.out]), B3.out⟩
          | true =>
            have G4 := Lib.hid g4
            go_wp2_with fail
            refine (isWithin_any q.x 1 2000000000000 _).mono ?_
            rintro e w' ⟨rfl, rfl⟩
            cases g5 : inRange q.x 1 2000000000000 with
            | false =>
              have G5 := Lib.hid g5
              go_wp2_with fail
              go_ret
              exact ⟨bool_end (by simp [ckOK, G0.out, G1.out, G2.out, G3.out, G4.out, G5.out]), B3.out⟩
            | true =>
              have G5 := Lib.hid g5
              go_wp2_with fail
              refine (isWithin_any q.m 0 1000000000000 _).mono ?_
              rintro e w' ⟨rfl, rfl⟩
              cases g6 : inRange q.m 0 1000000000000 with
              | false =>
                have G6 := Lib.hid g6
                go_wp2_with fail
                go_ret
                exact ⟨bool_end (by simp [ckOK, G0.out, G1.out, G2.out, G3.out, G4.out, G5.out, G6.out]), B3.out⟩
              | true =>
                have G6 := Lib.hid g6
                go_wp2_with fail
                refine (isWithin_any q.u q.m 1000000000000 _).mono ?_
                rintro e w' ⟨rfl, rfl⟩
                go_wp2_with fail
                go_ret
                exact ⟨bool_end (by simp [ckOK, G0.out, G1.out, G2.out, G3.out, G4.out, G5.out, G6.out]), B3.out⟩
end Go.Proofs.YtcaabnnkjnleeaaGreatDoor
