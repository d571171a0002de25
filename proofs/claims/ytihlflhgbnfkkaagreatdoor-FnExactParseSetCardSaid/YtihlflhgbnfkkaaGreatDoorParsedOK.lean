/- ParsedOK of the program: what it answers. No condition of its own. -/
import Derived.Test.YtihlflhgbnfkkaaGreatDoorSetMath
import Derived.Test.YtihlflhgbnfkkaaGreatDoorSplit
import Derived.Test.YtihlflhgbnfkkaaGreatDoorPsBlk
import Derived.Test.YtihlflhgbnfkkaaGreatDoorDateOf
namespace Go.Proofs.YtihlflhgbnfkkaaGreatDoor
open Go.ChangeShapes Go.WideShapes Go.ChangeAt Go.WideMaps Go.WideElems Go.RowKit

theorem all_find (s : ByteArray) (c : UInt8) : allB s (noneB c) = !decide (findB s c < s.size) := by
  have h : findB s c < s.size ↔ ∃ x ∈ s.data.toList, (x == c) = true := by
    rw [findB, show s.size = s.data.toList.length by simp]
    exact List.findIdx_lt_length
  by_cases g : findB s c < s.size
  · obtain ⟨x, hx, hc⟩ := h.1 g
    rw [decide_eq_true g]
    show s.data.toList.all (noneB c) = false
    rw [List.all_eq_false]
    exact ⟨x, hx, by simp [noneB, hc]⟩
  · rw [decide_eq_false g]
    show s.data.toList.all (noneB c) = true
    rw [List.all_eq_true]
    intro x hx
    have : ¬ (x == c) = true := fun e => g (h.2 ⟨x, hx, e⟩)
    simpa [noneB] using this
theorem contains_any (s : ByteArray) (c : UInt8) (w : World) : Calls Tryz.prog 112 #[.string s, .string ⟨#[c]⟩] w fun e w' => e = .returned (.bool (!allB s (noneB c))) ∧ w = w' := by
  refine (Tryz.strings_Contains_one s c w).mono ?_
  rintro e w' ⟨rfl, rfl⟩
  refine ⟨?_, rfl⟩
  rw [all_find, index_find]
  by_cases g : findB s c < s.size
  · rw [if_pos g, decide_eq_true g]
    simp
  · rw [if_neg g, decide_eq_false g]
    first | rfl | simp
theorem plain_any (s : ByteArray) (w : World) (hs : s.size ≤ maxLen) (hT : TabAt w) : Calls Tryz.prog 111 #[.string s] w fun e w' => e = .returned (.bool (plainS s)) ∧ Below w.heap.size w w' := by
  have HT := Lib.hid hT
  have hs0 := Lib.hid hs
  clear hT hs
  go_enter Tryz.func111, Tryz.ntmps111
  go_wp2_with fail
  refine (implControl s _ hs0.out HT.out).mono ?_
  rintro e w1 ⟨rfl, hb⟩
  have B1 := Lib.hid hb
  clear hb
  cases g1 : controlOK s with
  | true =>
    have G1 := Lib.hid g1
    go_wp2_with fail
    go_ret
    exact ⟨bool_end (by simp [plainS, G1.out]), B1.out⟩
  | false =>
    have G1 := Lib.hid g1
    go_wp2_with fail
    refine (contains_any s 59 _).mono ?_
    rintro e w' ⟨rfl, rfl⟩
    cases g2 : allB s (noneB 59) with
    | false =>
      have G2 := Lib.hid g2
      go_wp2_with fail
      go_ret
      exact ⟨bool_end (by simp [plainS, G2.out]), B1.out⟩
    | true =>
      have G2 := Lib.hid g2
      go_wp2_with fail
      refine (implTrim s _ hs0.out).mono ?_
      rintro e w2 ⟨rfl, hb⟩
      have B2 := Lib.hid (B1.out.trans (hb.mono B1.out.size))
      clear hb
      go_wp2_with fail
      go_ret
      exact ⟨bool_end (by simp [plainS, G1.out, G2.out]), B2.out⟩
theorem pairOK_any (n v : ByteArray) (w : World) (hn : n.size ≤ 1048576) (hv : v.size ≤ 1048576) (hT : TabAt w) : Calls Tryz.prog 50 #[.string n, .string v] w fun e w' => e = .returned (.bool (pairOKB n v)) ∧ Below w.heap.size w w' := by
  have HT := Lib.hid hT
  have hn0 : Hid (n.size ≤ maxLen) := Lib.hid (by unfold maxLen; omega)
  have hv0 : Hid (v.size ≤ maxLen) := Lib.hid (by unfold maxLen; omega)
  clear hT
  by_cases h1 : 0 < n.size + v.size
  · by_cases h2 : n.size + v.size ≤ 100
    · have h1' : (0 : Int) < (n.size : Int) + v.size := by omega
      have h2' : (n.size : Int) + v.size ≤ 100 := by omega
      go_enter Tryz.func50, Tryz.ntmps50
      go_wp2_with fail
      refine (plain_any n _ hn0.out HT.out).mono ?_
      rintro e w1 ⟨rfl, hb⟩
      have B1 := Lib.hid hb
      clear hb
      cases g1 : plainS n with
      | false =>
        have G1 := Lib.hid g1
        go_wp2_with fail
        go_ret
        exact ⟨bool_end (by simp [pairOKB, G1.out]), B1.out⟩
      | true =>
        have G1 := Lib.hid g1
        go_wp2_with fail
        refine (plain_any v _ hv0.out (HT.out.below B1.out)).mono ?_
        rintro e w2 ⟨rfl, hb⟩
        have B2 := Lib.hid (B1.out.trans (hb.mono B1.out.size))
        clear hb
        cases g2 : plainS v with
        | false =>
          have G2 := Lib.hid g2
          go_wp2_with fail
          go_ret
          exact ⟨bool_end (by simp [pairOKB, G2.out]), B2.out⟩
        | true =>
          have G2 := Lib.hid g2
          go_wp2_with fail
          refine (contains_any n 61 _).mono ?_
          rintro e w' ⟨rfl, rfl⟩
          go_wp2_with fail
          go_ret
          exact ⟨bool_end (by simp [pairOKB, G1.out, G2.out, h2]; omega), B2.out⟩
    · have h1' : (0 : Int) < (n.size : Int) + v.size := by omega
      have h2' : (100 : Int) < (n.size : Int) + v.size := by omega
      go_enter Tryz.func50, Tryz.ntmps50
      go_wp2_with fail
      go_ret
      exact ⟨bool_end (by simp [pairOKB, h2]), Below.refl _ _⟩
  · have h1' : (n.size : Int) + v.size ≤ 0 := by omega
    go_enter Tryz.func50, Tryz.ntmps50
    go_wp2_with fail
    go_ret
    exact ⟨bool_end (by simp [pairOKB]; omega), Below.refl _ _⟩
theorem prefix_head (s : ByteArray) (c : UInt8) : Lib.hasPrefix s.data.toList [c] = (s.data.toList.head? == some c) := by
  unfold Lib.hasPrefix
  cases s.data.toList with
  | nil => rfl
  | cons b l =>
    simp only [List.isPrefixOf, Bool.and_true, List.head?_cons, Option.some_beq_some]
    exact Bool.beq_comm
theorem prefix_any (s : ByteArray) (c : UInt8) (w : World) : Calls Tryz.prog 86 #[.string s, .string ⟨#[c]⟩] w fun e w' => e = .returned (.bool (s.data.toList.head? == some c)) ∧ w = w' := by
  refine (Tryz.strings_HasPrefix s ⟨#[c]⟩ w).mono ?_
  rintro e w' ⟨rfl, rfl⟩
  refine ⟨?_, rfl⟩
  show Ending.returned (.bool (Lib.hasPrefix s.data.toList [c])) = _
  rw [prefix_head]
theorem domainOK_any (d : ByteArray) (w : World) (hd : d.size ≤ 1048576) (hT : TabAt w) : Calls Tryz.prog 51 #[.string d] w fun e w' => e = .returned (.bool (domOKB d)) ∧ Below w.heap.size w w' := by
  have HT := Lib.hid hT
  have hd0 : Hid (d.size ≤ maxLen) := Lib.hid (by unfold maxLen; omega)
  clear hT
  cases g0 : dotB d with
  | true =>
    have G0 := Lib.hid g0
    unfold dotB at g0
    by_cases h1 : (d.size : Int) ≤ 59
    · go_enter Tryz.func51, Tryz.ntmps51
      go_wp2_with fail
      refine (prefix_any d 46 _).mono ?_
      rintro e w' ⟨rfl, rfl⟩
      rw [g0]
      clear g0
      go_wp2_with fail
      refine (plain_any d _ hd0.out HT.out).mono ?_
      rintro e w1 ⟨rfl, hb⟩
      have B1 := Lib.hid hb
      clear hb
      cases g1 : plainS d with
      | false =>
        have G1 := Lib.hid g1
        go_wp2_with fail
        go_ret
        exact ⟨bool_end (by simp [domOKB, G1.out]), B1.out⟩
      | true =>
        have G1 := Lib.hid g1
        go_wp2_with fail
        refine (implFold d _ hd0.out (HT.out.below B1.out)).mono ?_
        rintro e w2 ⟨rfl, hb⟩
        have B2 := Lib.hid (B1.out.trans (hb.mono B1.out.size))
        clear hb
        go_wp2_with fail
        go_ret
        exact ⟨bool_end (by simp [domOKB, G0.out, G1.out, h1]), B2.out⟩
    · go_enter Tryz.func51, Tryz.ntmps51
      go_wp2_with fail
      refine (prefix_any d 46 _).mono ?_
      rintro e w' ⟨rfl, rfl⟩
      rw [g0]
      clear g0
      go_wp2_with fail
      go_ret
      exact ⟨bool_end (by simp [domOKB, G0.out]; intro h; omega), Below.refl _ _⟩
  | false =>
    have G0 := Lib.hid g0
    unfold dotB at g0
    by_cases h1 : (d.size : Int) ≤ 60
    · go_enter Tryz.func51, Tryz.ntmps51
      go_wp2_with fail
      refine (prefix_any d 46 _).mono ?_
      rintro e w' ⟨rfl, rfl⟩
      rw [g0]
      clear g0
      go_wp2_with fail
      refine (plain_any d _ hd0.out HT.out).mono ?_
      rintro e w1 ⟨rfl, hb⟩
      have B1 := Lib.hid hb
      clear hb
      cases g1 : plainS d with
      | false =>
        have G1 := Lib.hid g1
        go_wp2_with fail
        go_ret
        exact ⟨bool_end (by simp [domOKB, G1.out]), B1.out⟩
      | true =>
        have G1 := Lib.hid g1
        go_wp2_with fail
        refine (implFold d _ hd0.out (HT.out.below B1.out)).mono ?_
        rintro e w2 ⟨rfl, hb⟩
        have B2 := Lib.hid (B1.out.trans (hb.mono B1.out.size))
        clear hb
        go_wp2_with fail
        go_ret
        exact ⟨bool_end (by simp [domOKB, G0.out, G1.out, h1]), B2.out⟩
    · go_enter Tryz.func51, Tryz.ntmps51
      go_wp2_with fail
      refine (prefix_any d 46 _).mono ?_
      rintro e w' ⟨rfl, rfl⟩
      rw [g0]
      clear g0
      go_wp2_with fail
      go_ret
      exact ⟨bool_end (by simp [domOKB, G0.out]; intro h; omega), Below.refl _ _⟩
theorem pathOK_any (p : ByteArray) (hp : Bool) (w : World) (hd : p.size ≤ 1048576) (hT : TabAt w) : Calls Tryz.prog 52 #[.string p, .bool hp] w fun e w' => e = .returned (.bool (pathOKB p hp)) ∧ Below w.heap.size w w' := by
  have HT := Lib.hid hT
  have hd0 : Hid (p.size ≤ maxLen) := Lib.hid (by unfold maxLen; omega)
  clear hT
  cases hp with
  | false =>
    cases g : p.toList.isEmpty with
    | true =>
      have h0 := empty_size g
      go_enter Tryz.func52, Tryz.ntmps52
      go_wp2_with fail
      go_ret
      exact ⟨bool_end (by simp [pathOKB, h0]), Below.refl _ _⟩
    | false =>
      have h0 := some_size g
      go_enter Tryz.func52, Tryz.ntmps52
      go_wp2_with fail
      go_ret
      exact ⟨bool_end (by rw [pathOKB, if_neg (by simp), decide_eq_false (by omega)]), Below.refl _ _⟩
  | true =>
    by_cases h1 : (p.size : Int) ≤ 60
    · go_enter Tryz.func52, Tryz.ntmps52
      go_wp2_with fail
      refine (prefix_any p 47 _).mono ?_
      rintro e w' ⟨rfl, rfl⟩
      cases g0 : (p.data.toList.head? == some 47) with
      | false =>
        have G0 := Lib.hid g0
        go_wp2_with fail
        go_ret
        exact ⟨bool_end (by simp [pathOKB, slashB, G0.out]), Below.refl _ _⟩
      | true =>
        have G0 := Lib.hid g0
        clear g0
        go_wp2_with fail
        refine (plain_any p _ hd0.out HT.out).mono ?_
        rintro e w1 ⟨rfl, hb⟩
        have B1 := Lib.hid hb
        clear hb
        go_wp2_with fail
        go_ret
        exact ⟨bool_end (by simp [pathOKB, slashB, G0.out]; omega), B1.out⟩
    · go_enter Tryz.func52, Tryz.ntmps52
      go_wp2_with fail
      go_ret
      exact ⟨bool_end (by simp [pathOKB]; omega), Below.refl _ _⟩
theorem ageOK_any (a : Int) (ha : Bool) (w : World) : Calls Tryz.prog 53 #[.int .i64 a, .bool ha] w fun e w' => e = .returned (.bool (ageOKB a ha)) ∧ Below w.heap.size w w' := by
  by_cases h1 : -1000000000000 ≤ a
  · by_cases h2 : a ≤ 1000000000000
    · cases ha
      all_goals
        go_enter Tryz.func53, Tryz.ntmps53
        go_wp2_with fail
        go_ret
        exact ⟨bool_end (by simp [ageOKB, h1, h2] <;> exact Bool.eq_iff_iff.2 (by simp)), Below.refl _ _⟩
    · go_enter Tryz.func53, Tryz.ntmps53
      go_wp2_with fail
      go_ret
      exact ⟨bool_end (by simp [ageOKB]; intro _ _; omega), Below.refl _ _⟩
  · go_enter Tryz.func53, Tryz.ntmps53
    go_wp2_with fail
    go_ret
    exact ⟨bool_end (by simp [ageOKB]; intro _; omega), Below.refl _ _⟩
theorem expiresOK_any (x : Int) (he : Bool) (w : World) : Calls Tryz.prog 54 #[.int .i64 x, .bool he] w fun e w' => e = .returned (.bool (expOKB x he)) ∧ Below w.heap.size w w' := by
  by_cases h : -11644473600 ≤ x ∧ x ≤ 253402300799
  · have HH := Lib.hid h
    cases he
    all_goals
      go_enter Tryz.func54, Tryz.ntmps54
      go_wp2_with fail
      refine (implDateIn x _ HH.out.1 HH.out.2).mono ?_
      rintro e w1 ⟨y, m, d, hh, q, s, _, rfl, hb⟩
      have B1 := Lib.hid hb
      clear hb
      go_wp2_with fail
      go_ret
      exact ⟨bool_end (by simp [expOKB, HH.out] <;> exact Bool.eq_iff_iff.2 (by simp)), by first | exact B1.out | exact B1.out.alloc B1.out.size _⟩
  · have h2 : x < -11644473600 ∨ 253402300799 < x := by omega
    have HH := Lib.hid h
    have H2 := Lib.hid h2
    clear h h2
    go_enter Tryz.func54, Tryz.ntmps54
    go_wp2_with fail
    refine (implDateOut x _ H2.out).mono ?_
    rintro e w1 ⟨rfl, hb⟩
    have B1 := Lib.hid hb
    clear hb
    go_wp2_with fail
    go_ret
    exact ⟨bool_end (by simp only [expOKB, HH.out]; rfl), by first | exact B1.out | exact B1.out.alloc B1.out.size _⟩
set_option maxHeartbeats 2000000 in
set_option maxRecDepth 100000 in
theorem parsedOK_any (n v d p : ByteArray) (he ha hp : Bool) (x a s : Int) (sc ho : Bool) (w : World) (hn : n.size ≤ 1048576) (hv : v.size ≤ 1048576) (hd : d.size ≤ 1048576) (hpp : p.size ≤ 1048576) (hT : TabAt w) :
    Calls Tryz.prog 10 #[.agg #[.string n, .string v, .string d, .string p, .bool he, .bool ha, .bool hp, .int .i64 x, .int .i64 a, .int .i64 s, .bool sc, .bool ho]] w fun e w' => e = .returned (.bool (psOK ⟨n, v, d, p, he, ha, hp, x, a, s, sc, ho⟩)) ∧ Below w.heap.size w w' := by
  have HT := Lib.hid hT
  have HN := Lib.hid hn
  have HV := Lib.hid hv
  have HD := Lib.hid hd
  have HP := Lib.hid hpp
  clear hT hn hv hd hpp
  have B0 := Lib.hid ((Below.refl w.heap.size w).alloc (Nat.le_refl _) (.cells #[.string n, .string v, .string d, .string p, .bool he, .bool ha, .bool hp, .int .i64 x, .int .i64 a, .int .i64 s, .bool sc, .bool ho] 24))
  have P0 := Lib.hid (PsB.new w n v d p he ha hp x a s sc ho)
  go_enter Tryz.func10, Tryz.ntmps10
  go_wp2_with fail
  refine (pairOK_any n v _ HN.out HV.out (HT.out.below B0.out)).mono ?_
  rintro e w1 ⟨rfl, hb⟩
  have B1 := Lib.hid (B0.out.trans (hb.mono B0.out.size))
  have P1 := Lib.hid (P0.out.stays hb)
  clear hb
  obtain ⟨c0, c1, c2, c3, c4, c5, c6, c7, c8, c9, c10, c11⟩ := P1.out.at
  cases g1 : pairOKB n v with
  | false =>
    have G1 := Lib.hid g1
    go_wp2_with fail
    go_ret
    exact ⟨bool_end (by simp [psOK, G1.out]), B1.out⟩
  | true =>
    have G1 := Lib.hid g1
    go_wp2_with fail
    refine (domainOK_any d _ HD.out (HT.out.below B1.out)).mono ?_
    rintro e w2 ⟨rfl, hb⟩
    have B2 := Lib.hid (B1.out.trans (hb.mono B1.out.size))
    have P2 := Lib.hid (P1.out.stays hb)
    clear hb c0 c1 c2 c3 c4 c5 c6 c7 c8 c9 c10 c11
    obtain ⟨c0, c1, c2, c3, c4, c5, c6, c7, c8, c9, c10, c11⟩ := P2.out.at
    cases g2 : domOKB d with
    | false =>
      have G2 := Lib.hid g2
      go_wp2_with fail
      go_ret
      exact ⟨bool_end (by simp [psOK, G2.out]), B2.out⟩
    | true =>
      have G2 := Lib.hid g2
      go_wp2_with fail
      refine (pathOK_any p hp _ HP.out (HT.out.below B2.out)).mono ?_
      rintro e w3 ⟨rfl, hb⟩
      have B3 := Lib.hid (B2.out.trans (hb.mono B2.out.size))
      have P3 := Lib.hid (P2.out.stays hb)
      clear hb c0 c1 c2 c3 c4 c5 c6 c7 c8 c9 c10 c11
      obtain ⟨c0, c1, c2, c3, c4, c5, c6, c7, c8, c9, c10, c11⟩ := P3.out.at
      cases g3 : pathOKB p hp with
      | false =>
        have G3 := Lib.hid g3
        go_wp2_with fail
        go_ret
        exact ⟨bool_end (by simp [psOK, G3.out]), B3.out⟩
      | true =>
        have G3 := Lib.hid g3
        go_wp2_with fail
        refine (ageOK_any a ha _).mono ?_
        rintro e w4 ⟨rfl, hb⟩
        have B4 := Lib.hid (B3.out.trans (hb.mono B3.out.size))
        have P4 := Lib.hid (P3.out.stays hb)
        clear hb c0 c1 c2 c3 c4 c5 c6 c7 c8 c9 c10 c11
        obtain ⟨c0, c1, c2, c3, c4, c5, c6, c7, c8, c9, c10, c11⟩ := P4.out.at
        cases g4 : ageOKB a ha with
        | false =>
          have G4 := Lib.hid g4
          go_wp2_with fail
          go_ret
          exact ⟨bool_end (by simp [psOK, G4.out]), B4.out⟩
        | true =>
          have G4 := Lib.hid g4
          go_wp2_with fail
          refine (expiresOK_any x he _).mono ?_
          rintro e w5 ⟨rfl, hb⟩
          have B5 := Lib.hid (B4.out.trans (hb.mono B4.out.size))
          have P5 := Lib.hid (P4.out.stays hb)
          clear hb c0 c1 c2 c3 c4 c5 c6 c7 c8 c9 c10 c11
          obtain ⟨c0, c1, c2, c3, c4, c5, c6, c7, c8, c9, c10, c11⟩ := P5.out.at
          cases g5 : expOKB x he with
          | false =>
            have G5 := Lib.hid g5
            go_wp2_with fail
            go_ret
            exact ⟨bool_end (by simp [psOK, G5.out]), B5.out⟩
          | true =>
            have G5 := Lib.hid g5
            by_cases h1 : 1 ≤ s
            · by_cases h2 : s ≤ 4
              · go_wp2_with fail
                go_ret
                exact ⟨bool_end (by simp [psOK, G1.out, G2.out, G3.out, G4.out, G5.out, siteOKB, h1, h2]), B5.out⟩
              · have h2' : 4 < s := by omega
                go_wp2_with fail
                go_ret
                exact ⟨bool_end (by simp [psOK, G1.out, G2.out, G3.out, G4.out, G5.out, siteOKB]; omega), B5.out⟩
            · have h1' : s < 1 := by omega
              go_wp2_with fail
              go_ret
              exact ⟨bool_end (by simp [psOK, G1.out, G2.out, G3.out, G4.out, G5.out, siteOKB]; omega), B5.out⟩
end Go.Proofs.YtihlflhgbnfkkaaGreatDoor
