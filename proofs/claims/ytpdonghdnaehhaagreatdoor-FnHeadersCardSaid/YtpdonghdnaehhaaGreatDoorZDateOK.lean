/- DateOK of the program and of the model: both answer okB, at every date. No condition of its own. -/
import Derived.Test.YtpdonghdnaehhaaGreatDoorZDays
import Derived.Deep.QuietTactic
import Derived.BigQuiet
import Derived.BigRegion
namespace Go.Proofs.YtpdonghdnaehhaaGreatDoor
open Go.ChangeShapes Go.WideShapes Go.ChangeAt Go.WideMaps Go.WideElems Go.RowKit

/-- A date as a value. -/
def dtV (a : Dt) : Value := .agg #[.int .i64 a.y, .int .i64 a.m, .int .i64 a.d, .int .i64 a.h, .int .i64 a.n, .int .i64 a.s]
theorem ok_no {y m d h n s : Int} (hh : ¬ ((1601 ≤ y ∧ y ≤ 9999) ∧ (1 ≤ m ∧ m ≤ 12) ∧ (1 ≤ d ∧ d ≤ mdays y m) ∧ (0 ≤ h ∧ h ≤ 23) ∧ (0 ≤ n ∧ n ≤ 59) ∧ (0 ≤ s ∧ s ≤ 59))) : Hid (okB ⟨y, m, d, h, n, s⟩ = false) := by
  show okB _ = false
  exact decide_eq_false hh
theorem ok_yes {y m d h n s : Int} (hh : (1601 ≤ y ∧ y ≤ 9999) ∧ (1 ≤ m ∧ m ≤ 12) ∧ (1 ≤ d ∧ d ≤ mdays y m) ∧ (0 ≤ h ∧ h ≤ 23) ∧ (0 ≤ n ∧ n ≤ 59) ∧ (0 ≤ s ∧ s ≤ 59)) : Hid (okB ⟨y, m, d, h, n, s⟩ = true) := by
  show okB _ = true
  exact decide_eq_true hh
set_option maxHeartbeats 4000000 in
set_option maxRecDepth 100000 in
theorem implOK (y m d h n s : Int) (w : World) : Calls Tryz.prog 259 #[.agg #[.int .i64 y, .int .i64 m, .int .i64 d, .int .i64 h, .int .i64 n, .int .i64 s]] w fun e w' => e = .returned (.bool (okB ⟨y, m, d, h, n, s⟩)) ∧ Below w.heap.size w w' := by
  by_cases h0 : 1601 ≤ y
  · skip
    by_cases h1 : y ≤ 9999
    · skip
      by_cases h2 : 1 ≤ m
      · skip
        by_cases h3 : m ≤ 12
        · skip
          by_cases h4 : 1 ≤ d
          · skip
            by_cases h5 : d ≤ mdays y m
            · skip
              by_cases h6 : 0 ≤ h
              · skip
                by_cases h7 : h ≤ 23
                · skip
                  by_cases h8 : 0 ≤ n
                  · skip
                    by_cases h9 : n ≤ 59
                    · skip
                      by_cases h10 : 0 ≤ s
                      · skip
                        by_cases h11 : s ≤ 59
                        · skip
                          have g0 := decide_eq_true h0
                          have g1 := decide_eq_true h1
                          have g2 := decide_eq_true h2
                          have g3 := decide_eq_true h3
                          have g4 := decide_eq_true h4
                          have g5 := decide_eq_true h5
                          have g6 := decide_eq_true h6
                          have g7 := decide_eq_true h7
                          have g8 := decide_eq_true h8
                          have g9 := decide_eq_true h9
                          have g10 := decide_eq_true h10
                          have g11 := decide_eq_true h11
                          have HO := ok_yes ⟨⟨h0, h1⟩, ⟨h2, h3⟩, ⟨h4, h5⟩, ⟨h6, h7⟩, ⟨h8, h9⟩, ⟨h10, h11⟩⟩
                          go_enter Tryz.func259, Tryz.ntmps259
                          go_wp2_with fail
                          go_quiet ((go_at_call 295; exact Calls.quiet_of_same ((implDays _ _ _ (by omega) (by omega)).mono fun e w' h => ⟨h.1, h.2.symm⟩)))
                          go_wp2
                          go_ret
                          exact ⟨bool_of HO.out.symm, drewN_below ((Below.refl _ _).alloc (Nat.le_refl _) _) _⟩
                        · skip
                          have g0 := decide_eq_true h0
                          have g1 := decide_eq_true h1
                          have g2 := decide_eq_true h2
                          have g3 := decide_eq_true h3
                          have g4 := decide_eq_true h4
                          have g5 := decide_eq_true h5
                          have g6 := decide_eq_true h6
                          have g7 := decide_eq_true h7
                          have g8 := decide_eq_true h8
                          have g9 := decide_eq_true h9
                          have g10 := decide_eq_true h10
                          have g11 := decide_eq_false h11
                          have HO := ok_no (y := y) (m := m) (d := d) (h := h) (n := n) (s := s) (fun hh => h11 hh.2.2.2.2.2.2)
                          go_enter Tryz.func259, Tryz.ntmps259
                          go_wp2_with fail
                          go_quiet ((go_at_call 295; exact Calls.quiet_of_same ((implDays _ _ _ (by omega) (by omega)).mono fun e w' h => ⟨h.1, h.2.symm⟩)))
                          go_wp2
                          go_ret
                          exact ⟨bool_of HO.out.symm, drewN_below ((Below.refl _ _).alloc (Nat.le_refl _) _) _⟩
                      · skip
                        have g0 := decide_eq_true h0
                        have g1 := decide_eq_true h1
                        have g2 := decide_eq_true h2
                        have g3 := decide_eq_true h3
                        have g4 := decide_eq_true h4
                        have g5 := decide_eq_true h5
                        have g6 := decide_eq_true h6
                        have g7 := decide_eq_true h7
                        have g8 := decide_eq_true h8
                        have g9 := decide_eq_true h9
                        have g10 := decide_eq_false h10
                        have HO := ok_no (y := y) (m := m) (d := d) (h := h) (n := n) (s := s) (fun hh => h10 hh.2.2.2.2.2.1)
                        go_enter Tryz.func259, Tryz.ntmps259
                        go_wp2_with fail
                        go_quiet ((go_at_call 295; exact Calls.quiet_of_same ((implDays _ _ _ (by omega) (by omega)).mono fun e w' h => ⟨h.1, h.2.symm⟩)))
                        go_wp2
                        go_ret
                        exact ⟨bool_of HO.out.symm, drewN_below ((Below.refl _ _).alloc (Nat.le_refl _) _) _⟩
                    · skip
                      have g0 := decide_eq_true h0
                      have g1 := decide_eq_true h1
                      have g2 := decide_eq_true h2
                      have g3 := decide_eq_true h3
                      have g4 := decide_eq_true h4
                      have g5 := decide_eq_true h5
                      have g6 := decide_eq_true h6
                      have g7 := decide_eq_true h7
                      have g8 := decide_eq_true h8
                      have g9 := decide_eq_false h9
                      have HO := ok_no (y := y) (m := m) (d := d) (h := h) (n := n) (s := s) (fun hh => h9 hh.2.2.2.2.1.2)
                      go_enter Tryz.func259, Tryz.ntmps259
                      go_wp2_with fail
                      go_quiet ((go_at_call 295; exact Calls.quiet_of_same ((implDays _ _ _ (by omega) (by omega)).mono fun e w' h => ⟨h.1, h.2.symm⟩)))
                      go_wp2
                      go_ret
                      exact ⟨bool_of HO.out.symm, drewN_below ((Below.refl _ _).alloc (Nat.le_refl _) _) _⟩
                  · skip
                    have g0 := decide_eq_true h0
                    have g1 := decide_eq_true h1
                    have g2 := decide_eq_true h2
                    have g3 := decide_eq_true h3
                    have g4 := decide_eq_true h4
                    have g5 := decide_eq_true h5
                    have g6 := decide_eq_true h6
                    have g7 := decide_eq_true h7
                    have g8 := decide_eq_false h8
                    have HO := ok_no (y := y) (m := m) (d := d) (h := h) (n := n) (s := s) (fun hh => h8 hh.2.2.2.2.1.1)
                    go_enter Tryz.func259, Tryz.ntmps259
                    go_wp2_with fail
                    go_quiet ((go_at_call 295; exact Calls.quiet_of_same ((implDays _ _ _ (by omega) (by omega)).mono fun e w' h => ⟨h.1, h.2.symm⟩)))
                    go_wp2
                    go_ret
                    exact ⟨bool_of HO.out.symm, drewN_below ((Below.refl _ _).alloc (Nat.le_refl _) _) _⟩
                · skip
                  have g0 := decide_eq_true h0
                  have g1 := decide_eq_true h1
                  have g2 := decide_eq_true h2
                  have g3 := decide_eq_true h3
                  have g4 := decide_eq_true h4
                  have g5 := decide_eq_true h5
                  have g6 := decide_eq_true h6
                  have g7 := decide_eq_false h7
                  have HO := ok_no (y := y) (m := m) (d := d) (h := h) (n := n) (s := s) (fun hh => h7 hh.2.2.2.1.2)
                  go_enter Tryz.func259, Tryz.ntmps259
                  go_wp2_with fail
                  go_quiet ((go_at_call 295; exact Calls.quiet_of_same ((implDays _ _ _ (by omega) (by omega)).mono fun e w' h => ⟨h.1, h.2.symm⟩)))
                  go_wp2
                  go_ret
                  exact ⟨bool_of HO.out.symm, drewN_below ((Below.refl _ _).alloc (Nat.le_refl _) _) _⟩
              · skip
                have g0 := decide_eq_true h0
                have g1 := decide_eq_true h1
                have g2 := decide_eq_true h2
                have g3 := decide_eq_true h3
                have g4 := decide_eq_true h4
                have g5 := decide_eq_true h5
                have g6 := decide_eq_false h6
                have HO := ok_no (y := y) (m := m) (d := d) (h := h) (n := n) (s := s) (fun hh => h6 hh.2.2.2.1.1)
                go_enter Tryz.func259, Tryz.ntmps259
                go_wp2_with fail
                go_quiet ((go_at_call 295; exact Calls.quiet_of_same ((implDays _ _ _ (by omega) (by omega)).mono fun e w' h => ⟨h.1, h.2.symm⟩)))
                go_wp2
                go_ret
                exact ⟨bool_of HO.out.symm, drewN_below ((Below.refl _ _).alloc (Nat.le_refl _) _) _⟩
            · skip
              have g0 := decide_eq_true h0
              have g1 := decide_eq_true h1
              have g2 := decide_eq_true h2
              have g3 := decide_eq_true h3
              have g4 := decide_eq_true h4
              have g5 := decide_eq_false h5
              have HO := ok_no (y := y) (m := m) (d := d) (h := h) (n := n) (s := s) (fun hh => h5 hh.2.2.1.2)
              go_enter Tryz.func259, Tryz.ntmps259
              go_wp2_with fail
              go_quiet ((go_at_call 295; exact Calls.quiet_of_same ((implDays _ _ _ (by omega) (by omega)).mono fun e w' h => ⟨h.1, h.2.symm⟩)))
              go_wp2
              go_ret
              exact ⟨bool_of HO.out.symm, drewN_below ((Below.refl _ _).alloc (Nat.le_refl _) _) _⟩
          · skip
            have g0 := decide_eq_true h0
            have g1 := decide_eq_true h1
            have g2 := decide_eq_true h2
            have g3 := decide_eq_true h3
            have g4 := decide_eq_false h4
            have HO := ok_no (y := y) (m := m) (d := d) (h := h) (n := n) (s := s) (fun hh => h4 hh.2.2.1.1)
            go_enter Tryz.func259, Tryz.ntmps259
            go_wp2_with fail
            go_quiet (fail)
            go_wp2
            go_ret
            exact ⟨bool_of HO.out.symm, drewN_below ((Below.refl _ _).alloc (Nat.le_refl _) _) _⟩
        · skip
          have g0 := decide_eq_true h0
          have g1 := decide_eq_true h1
          have g2 := decide_eq_true h2
          have g3 := decide_eq_false h3
          have HO := ok_no (y := y) (m := m) (d := d) (h := h) (n := n) (s := s) (fun hh => h3 hh.2.1.2)
          go_enter Tryz.func259, Tryz.ntmps259
          go_wp2_with fail
          go_quiet (fail)
          go_wp2
          go_ret
          exact ⟨bool_of HO.out.symm, drewN_below ((Below.refl _ _).alloc (Nat.le_refl _) _) _⟩
      · skip
        have g0 := decide_eq_true h0
        have g1 := decide_eq_true h1
        have g2 := decide_eq_false h2
        have HO := ok_no (y := y) (m := m) (d := d) (h := h) (n := n) (s := s) (fun hh => h2 hh.2.1.1)
        go_enter Tryz.func259, Tryz.ntmps259
        go_wp2_with fail
        go_quiet (fail)
        go_wp2
        go_ret
        exact ⟨bool_of HO.out.symm, drewN_below ((Below.refl _ _).alloc (Nat.le_refl _) _) _⟩
    · skip
      have g0 := decide_eq_true h0
      have g1 := decide_eq_false h1
      have HO := ok_no (y := y) (m := m) (d := d) (h := h) (n := n) (s := s) (fun hh => h1 hh.1.2)
      go_enter Tryz.func259, Tryz.ntmps259
      go_wp2_with fail
      go_quiet (fail)
      go_wp2
      go_ret
      exact ⟨bool_of HO.out.symm, drewN_below ((Below.refl _ _).alloc (Nat.le_refl _) _) _⟩
  · skip
    have g0 := decide_eq_false h0
    have HO := ok_no (y := y) (m := m) (d := d) (h := h) (n := n) (s := s) (fun hh => h0 hh.1.1)
    go_enter Tryz.func259, Tryz.ntmps259
    go_wp2_with fail
    go_quiet (fail)
    go_wp2
    go_ret
    exact ⟨bool_of HO.out.symm, drewN_below ((Below.refl _ _).alloc (Nat.le_refl _) _) _⟩
def inB (n lo hi : Int) : Bool := decide (lo ≤ n ∧ n ≤ hi)
theorem in_any (n lo hi : Int) (w : World) : Calls Tryz.prog 124 #[.int .i64 n, .int .i64 lo, .int .i64 hi] w fun e w' => e = .returned (.bool (inB n lo hi)) ∧ w = w' := by
  go_enter Tryz.func124, Tryz.ntmps124
  go_wp2
  all_goals go_ret
  all_goals refine ⟨bool_of ?_, rfl⟩
  all_goals rw [Bool.eq_iff_iff]; simp [inB]; try omega
theorem in_iff {n lo hi : Int} : inB n lo hi = true ↔ lo ≤ n ∧ n ≤ hi := by simp only [inB, decide_eq_true_eq]
theorem in_not {n lo hi : Int} (h : inB n lo hi = false) : ¬ (lo ≤ n ∧ n ≤ hi) := by simpa only [inB, decide_eq_false_iff_not] using h
set_option maxHeartbeats 4000000 in
set_option maxRecDepth 100000 in
theorem specOK (y m d h n s : Int) (w : World) : Calls Tryz.prog 321 #[.agg #[.int .i64 y, .int .i64 m, .int .i64 d, .int .i64 h, .int .i64 n, .int .i64 s]] w fun e w' => e = .returned (.bool (okB ⟨y, m, d, h, n, s⟩)) ∧ Below w.heap.size w w' := by
  cases h0 : inB y 1601 9999 with
  | true =>
    cases h1 : inB m 1 12 with
    | true =>
      cases h2 : inB d 1 (mdays y m) with
      | true =>
        cases h3 : inB h 0 23 with
        | true =>
          cases h4 : inB n 0 59 with
          | true =>
            cases h5 : inB s 0 59 with
            | true =>
              obtain ⟨b1, b2⟩ := in_iff.1 h0
              have HO := ok_yes ⟨in_iff.1 h0, in_iff.1 h1, in_iff.1 h2, in_iff.1 h3, in_iff.1 h4, in_iff.1 h5⟩
              go_enter Tryz.func321, Tryz.ntmps321
              go_wp2_with fail
              go_quiet ((first | (go_at_call 124; exact Calls.quiet_of_same ((in_any _ _ _ _).mono fun e w' h => ⟨h.1, h.2.symm⟩)) | (go_at_call 245; exact Calls.quiet_of_same ((specDays _ _ _ (by omega) (by omega)).mono fun e w' h => ⟨h.1, h.2.symm⟩))))
              go_wp2
              go_ret
              exact ⟨bool_of HO.out.symm, drewN_below ((Below.refl _ _).alloc (Nat.le_refl _) _) _⟩
            | false =>
              obtain ⟨b1, b2⟩ := in_iff.1 h0
              have HO := ok_no (y := y) (m := m) (d := d) (h := h) (n := n) (s := s) (fun hh => in_not h5 hh.2.2.2.2.2)
              go_enter Tryz.func321, Tryz.ntmps321
              go_wp2_with fail
              go_quiet ((first | (go_at_call 124; exact Calls.quiet_of_same ((in_any _ _ _ _).mono fun e w' h => ⟨h.1, h.2.symm⟩)) | (go_at_call 245; exact Calls.quiet_of_same ((specDays _ _ _ (by omega) (by omega)).mono fun e w' h => ⟨h.1, h.2.symm⟩))))
              go_wp2
              go_ret
              exact ⟨bool_of HO.out.symm, drewN_below ((Below.refl _ _).alloc (Nat.le_refl _) _) _⟩
          | false =>
            obtain ⟨b1, b2⟩ := in_iff.1 h0
            have HO := ok_no (y := y) (m := m) (d := d) (h := h) (n := n) (s := s) (fun hh => in_not h4 hh.2.2.2.2.1)
            go_enter Tryz.func321, Tryz.ntmps321
            go_wp2_with fail
            go_quiet ((first | (go_at_call 124; exact Calls.quiet_of_same ((in_any _ _ _ _).mono fun e w' h => ⟨h.1, h.2.symm⟩)) | (go_at_call 245; exact Calls.quiet_of_same ((specDays _ _ _ (by omega) (by omega)).mono fun e w' h => ⟨h.1, h.2.symm⟩))))
            go_wp2
            go_ret
            exact ⟨bool_of HO.out.symm, drewN_below ((Below.refl _ _).alloc (Nat.le_refl _) _) _⟩
        | false =>
          obtain ⟨b1, b2⟩ := in_iff.1 h0
          have HO := ok_no (y := y) (m := m) (d := d) (h := h) (n := n) (s := s) (fun hh => in_not h3 hh.2.2.2.1)
          go_enter Tryz.func321, Tryz.ntmps321
          go_wp2_with fail
          go_quiet ((first | (go_at_call 124; exact Calls.quiet_of_same ((in_any _ _ _ _).mono fun e w' h => ⟨h.1, h.2.symm⟩)) | (go_at_call 245; exact Calls.quiet_of_same ((specDays _ _ _ (by omega) (by omega)).mono fun e w' h => ⟨h.1, h.2.symm⟩))))
          go_wp2
          go_ret
          exact ⟨bool_of HO.out.symm, drewN_below ((Below.refl _ _).alloc (Nat.le_refl _) _) _⟩
      | false =>
        obtain ⟨b1, b2⟩ := in_iff.1 h0
        have HO := ok_no (y := y) (m := m) (d := d) (h := h) (n := n) (s := s) (fun hh => in_not h2 hh.2.2.1)
        go_enter Tryz.func321, Tryz.ntmps321
        go_wp2_with fail
        go_quiet ((first | (go_at_call 124; exact Calls.quiet_of_same ((in_any _ _ _ _).mono fun e w' h => ⟨h.1, h.2.symm⟩)) | (go_at_call 245; exact Calls.quiet_of_same ((specDays _ _ _ (by omega) (by omega)).mono fun e w' h => ⟨h.1, h.2.symm⟩))))
        go_wp2
        go_ret
        exact ⟨bool_of HO.out.symm, drewN_below ((Below.refl _ _).alloc (Nat.le_refl _) _) _⟩
    | false =>
      obtain ⟨b1, b2⟩ := in_iff.1 h0
      have HO := ok_no (y := y) (m := m) (d := d) (h := h) (n := n) (s := s) (fun hh => in_not h1 hh.2.1)
      go_enter Tryz.func321, Tryz.ntmps321
      go_wp2_with fail
      go_quiet ((first | (go_at_call 124; exact Calls.quiet_of_same ((in_any _ _ _ _).mono fun e w' h => ⟨h.1, h.2.symm⟩))))
      go_wp2
      go_ret
      exact ⟨bool_of HO.out.symm, drewN_below ((Below.refl _ _).alloc (Nat.le_refl _) _) _⟩
  | false =>
    have HO := ok_no (y := y) (m := m) (d := d) (h := h) (n := n) (s := s) (fun hh => in_not h0 hh.1)
    go_enter Tryz.func321, Tryz.ntmps321
    go_wp2_with fail
    go_quiet ((first | (go_at_call 124; exact Calls.quiet_of_same ((in_any _ _ _ _).mono fun e w' h => ⟨h.1, h.2.symm⟩))))
    go_wp2
    go_ret
    exact ⟨bool_of HO.out.symm, drewN_below ((Below.refl _ _).alloc (Nat.le_refl _) _) _⟩
end Go.Proofs.YtpdonghdnaehhaaGreatDoor
