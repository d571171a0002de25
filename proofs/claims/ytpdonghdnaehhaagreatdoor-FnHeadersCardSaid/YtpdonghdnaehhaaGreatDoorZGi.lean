/- ParsedOK of the program: what it answers. No condition of its own. -/
import Derived.Test.YtpdonghdnaehhaaGreatDoorZSetMath
import Derived.Test.YtpdonghdnaehhaaGreatDoorZGg
import Derived.Test.YtpdonghdnaehhaaGreatDoorZGh
import Derived.Test.YtpdonghdnaehhaaGreatDoorZGf
import Derived.Test.YtpdonghdnaehhaaGreatDoorZReadDate
import Derived.Test.YtpdonghdnaehhaaGreatDoorZSpecText
namespace Go.Proofs.YtpdonghdnaehhaaGreatDoor
open Go.ChangeShapes Go.WideShapes Go.ChangeAt Go.WideMaps Go.WideElems Go.RowKit

theorem domainOK_any (d : ByteArray) (w : World) (hd : d.size ≤ 1048576) (hT : TabAt w) : Calls Tryz.prog 79 #[.string d] w fun e w' => e = .returned (.bool (domOKB d)) ∧ Below w.heap.size w w' := by
  have HT := Lib.hid hT
  have hd0 : Hid (d.size ≤ maxLen) := Lib.hid (by unfold maxLen; omega)
  clear hT
  cases g0 : dotB d with
  | true =>
    have G0 := Lib.hid g0
    unfold dotB at g0
    by_cases h1 : (d.size : Int) ≤ 59
    · go_enter Tryz.func79, Tryz.ntmps79
      go_wp2_with fail
      refine (prefix_any d 46 _).mono ?_
      rintro e w' ⟨rfl, rfl⟩
      rw [g0]
      clear g0
      go_wp2_with fail
      refine (plain_any d _ hd0.out HT.out).mono ?_
      rintro e w1 ⟨rfl, hb⟩
      have B1 := Lib.hid hb
      clear hb
      cases g1 : plainS d with
      | false =>
        have G1 := Lib.hid g1
        go_wp2_with fail
        go_ret
        exact ⟨bool_end (by simp [domOKB, G1.out]), B1.out⟩
      | true =>
        have G1 := Lib.hid g1
        go_wp2_with fail
        refine (implFold d _ hd0.out (HT.out.below B1.out)).mono ?_
        rintro e w2 ⟨rfl, hb⟩
        have B2 := Lib.hid (B1.out.trans (hb.mono B1.out.size))
        clear hb
        go_wp2_with fail
        go_ret
        exact ⟨bool_end (by simp [domOKB, G0.out, G1.out, h1]), B2.out⟩
    · go_enter Tryz.func79, Tryz.ntmps79
      go_wp2_with fail
      refine (prefix_any d 46 _).mono ?_
      rintro e w' ⟨rfl, rfl⟩
      rw [g0]
      clear g0
      go_wp2_with fail
      go_ret
      exact ⟨bool_end (by simp [domOKB, G0.out]; intro h; omega), Below.refl _ _⟩
  | false =>
    have G0 := Lib.hid g0
    unfold dotB at g0
    by_cases h1 : (d.size : Int) ≤ 60
    · go_enter Tryz.func79, Tryz.ntmps79
      go_wp2_with fail
      refine (prefix_any d 46 _).mono ?_
      rintro e w' ⟨rfl, rfl⟩
      rw [g0]
      clear g0
      go_wp2_with fail
      refine (plain_any d _ hd0.out HT.out).mono ?_
      rintro e w1 ⟨rfl, hb⟩
      have B1 := Lib.hid hb
      clear hb
      cases g1 : plainS d with
      | false =>
        have G1 := Lib.hid g1
        go_wp2_with fail
        go_ret
        exact ⟨bool_end (by simp [domOKB, G1.out]), B1.out⟩
      | true =>
        have G1 := Lib.hid g1
        go_wp2_with fail
        refine (implFold d _ hd0.out (HT.out.below B1.out)).mono ?_
        rintro e w2 ⟨rfl, hb⟩
        have B2 := Lib.hid (B1.out.trans (hb.mono B1.out.size))
        clear hb
        go_wp2_with fail
        go_ret
        exact ⟨bool_end (by simp [domOKB, G0.out, G1.out, h1]), B2.out⟩
    · go_enter Tryz.func79, Tryz.ntmps79
      go_wp2_with fail
      refine (prefix_any d 46 _).mono ?_
      rintro e w' ⟨rfl, rfl⟩
      rw [g0]
      clear g0
      go_wp2_with fail
      go_ret
      exact ⟨bool_end (by simp [domOKB, G0.out]; intro h; omega), Below.refl _ _⟩
theorem pathOK_any (p : ByteArray) (hp : Bool) (w : World) (hd : p.size ≤ 1048576) (hT : TabAt w) : Calls Tryz.prog 80 #[.string p, .bool hp] w fun e w' => e = .returned (.bool (pathOKB p hp)) ∧ Below w.heap.size w w' := by
  have HT := Lib.hid hT
  have hd0 : Hid (p.size ≤ maxLen) := Lib.hid (by unfold maxLen; omega)
  clear hT
  cases hp with
  | false =>
    cases g : p.toList.isEmpty with
    | true =>
      have h0 := empty_size g
      go_enter Tryz.func80, Tryz.ntmps80
      go_wp2_with fail
      go_ret
      exact ⟨bool_end (by simp [pathOKB, h0]), Below.refl _ _⟩
    | false =>
      have h0 := some_size g
      go_enter Tryz.func80, Tryz.ntmps80
      go_wp2_with fail
      go_ret
      exact ⟨bool_end (by rw [pathOKB, if_neg (by simp), decide_eq_false (by omega)]), Below.refl _ _⟩
  | true =>
    by_cases h1 : (p.size : Int) ≤ 60
    · go_enter Tryz.func80, Tryz.ntmps80
      go_wp2_with fail
      refine (prefix_any p 47 _).mono ?_
      rintro e w' ⟨rfl, rfl⟩
      cases g0 : (p.data.toList.head? == some 47) with
      | false =>
        have G0 := Lib.hid g0
        go_wp2_with fail
        go_ret
        exact ⟨bool_end (by simp [pathOKB, slashB, G0.out]), Below.refl _ _⟩
      | true =>
        have G0 := Lib.hid g0
        clear g0
        go_wp2_with fail
        refine (plain_any p _ hd0.out HT.out).mono ?_
        rintro e w1 ⟨rfl, hb⟩
        have B1 := Lib.hid hb
        clear hb
        go_wp2_with fail
        go_ret
        exact ⟨bool_end (by simp [pathOKB, slashB, G0.out]; omega), B1.out⟩
    · go_enter Tryz.func80, Tryz.ntmps80
      go_wp2_with fail
      go_ret
      exact ⟨bool_end (by simp [pathOKB]; omega), Below.refl _ _⟩
theorem ageOK_any (a : Int) (ha : Bool) (w : World) : Calls Tryz.prog 81 #[.int .i64 a, .bool ha] w fun e w' => e = .returned (.bool (ageOKB a ha)) ∧ Below w.heap.size w w' := by
  by_cases h1 : -1000000000000 ≤ a
  · by_cases h2 : a ≤ 1000000000000
    · cases ha
      all_goals
        go_enter Tryz.func81, Tryz.ntmps81
        go_wp2_with fail
        go_ret
        exact ⟨bool_end (by simp [ageOKB, h1, h2] <;> exact Bool.eq_iff_iff.2 (by simp)), Below.refl _ _⟩
    · go_enter Tryz.func81, Tryz.ntmps81
      go_wp2_with fail
      go_ret
      exact ⟨bool_end (by simp [ageOKB]; intro _ _; omega), Below.refl _ _⟩
  · go_enter Tryz.func81, Tryz.ntmps81
    go_wp2_with fail
    go_ret
    exact ⟨bool_end (by simp [ageOKB]; intro _; omega), Below.refl _ _⟩
theorem expiresOK_any (x : Int) (he : Bool) (w : World) : Calls Tryz.prog 82 #[.int .i64 x, .bool he] w fun e w' => e = .returned (.bool (expOKB x he)) ∧ Below w.heap.size w w' := by
  by_cases h : -11644473600 ≤ x ∧ x ≤ 253402300799
  · have HH := Lib.hid h
    cases he
    all_goals
      go_enter Tryz.func82, Tryz.ntmps82
      go_wp2_with fail
      refine (implDateIn x _ HH.out.1 HH.out.2).mono ?_
      rintro e w1 ⟨y, m, d, hh, q, s, _, rfl, hb⟩
      have B1 := Lib.hid hb
      clear hb
      go_wp2_with fail
      go_ret
      exact ⟨bool_end (by simp [expOKB, HH.out] <;> exact Bool.eq_iff_iff.2 (by simp)), by first | exact B1.out | exact B1.out.alloc B1.out.size _⟩
  · have h2 : x < -11644473600 ∨ 253402300799 < x := by omega
    have HH := Lib.hid h
    have H2 := Lib.hid h2
    clear h h2
    go_enter Tryz.func82, Tryz.ntmps82
    go_wp2_with fail
    refine (implDateOut x _ H2.out).mono ?_
    rintro e w1 ⟨rfl, hb⟩
    have B1 := Lib.hid hb
    clear hb
    go_wp2_with fail
    go_ret
    exact ⟨bool_end (by simp only [expOKB, HH.out]; rfl), by first | exact B1.out | exact B1.out.alloc B1.out.size _⟩
set_option maxHeartbeats 2000000 in
set_option maxRecDepth 100000 in
theorem parsedOK_any (n v d p : ByteArray) (he ha hp : Bool) (x a s : Int) (sc ho : Bool) (w : World) (hn : n.size ≤ 1048576) (hv : v.size ≤ 1048576) (hd : d.size ≤ 1048576) (hpp : p.size ≤ 1048576) (hT : TabAt w) :
    Calls Tryz.prog 13 #[.agg #[.string n, .string v, .string d, .string p, .bool he, .bool ha, .bool hp, .int .i64 x, .int .i64 a, .int .i64 s, .bool sc, .bool ho]] w fun e w' => e = .returned (.bool (psOK ⟨n, v, d, p, he, ha, hp, x, a, s, sc, ho⟩)) ∧ Below w.heap.size w w' := by
  have HT := Lib.hid hT
  have HN := Lib.hid hn
  have HV := Lib.hid hv
  have HD := Lib.hid hd
  have HP := Lib.hid hpp
  clear hT hn hv hd hpp
  have B0 := Lib.hid ((Below.refl w.heap.size w).alloc (Nat.le_refl _) (.cells #[.string n, .string v, .string d, .string p, .bool he, .bool ha, .bool hp, .int .i64 x, .int .i64 a, .int .i64 s, .bool sc, .bool ho] 24))
  have P0 := Lib.hid (PsB.new w n v d p he ha hp x a s sc ho)
  go_enter Tryz.func13, Tryz.ntmps13
  go_wp2_with fail
  refine (pairOK_any n v _ HN.out HV.out (HT.out.below B0.out)).mono ?_
  rintro e w1 ⟨rfl, hb⟩
  have B1 := Lib.hid (B0.out.trans (hb.mono B0.out.size))
  have P1 := Lib.hid (P0.out.stays hb)
  clear hb
  obtain ⟨c0, c1, c2, c3, c4, c5, c6, c7, c8, c9, c10, c11⟩ := P1.out.at
  cases g1 : pairOKB n v with
  | false =>
    have G1 := Lib.hid g1
    go_wp2_with fail
    go_ret
    exact ⟨bool_end (by simp [psOK, G1.out]), B1.out⟩
  | true =>
    have G1 := Lib.hid g1
    go_wp2_with fail
    refine (domainOK_any d _ HD.out (HT.out.below B1.out)).mono ?_
    rintro e w2 ⟨rfl, hb⟩
    have B2 := Lib.hid (B1.out.trans (hb.mono B1.out.size))
    have P2 := Lib.hid (P1.out.stays hb)
    clear hb c0 c1 c2 c3 c4 c5 c6 c7 c8 c9 c10 c11
    obtain ⟨c0, c1, c2, c3, c4, c5, c6, c7, c8, c9, c10, c11⟩ := P2.out.at
    cases g2 : domOKB d with
    | false =>
      have G2 := Lib.hid g2
      go_wp2_with fail
      go_ret
      exact ⟨bool_end (by simp [psOK, G2.out]), B2.out⟩
    | true =>
      have G2 := Lib.hid g2
      go_wp2_with fail
      refine (pathOK_any p hp _ HP.out (HT.out.below B2.out)).mono ?_
      rintro e w3 ⟨rfl, hb⟩
      have B3 := Lib.hid (B2.out.trans (hb.mono B2.out.size))
      have P3 := Lib.hid (P2.out.stays hb)
      clear hb c0 c1 c2 c3 c4 c5 c6 c7 c8 c9 c10 c11
      obtain ⟨c0, c1, c2, c3, c4, c5, c6, c7, c8, c9, c10, c11⟩ := P3.out.at
      cases g3 : pathOKB p hp with
      | false =>
        have G3 := Lib.hid g3
        go_wp2_with fail
        go_ret
        exact ⟨bool_end (by simp [psOK, G3.out]), B3.out⟩
      | true =>
        have G3 := Lib.hid g3
        go_wp2_with fail
        refine (ageOK_any a ha _).mono ?_
        rintro e w4 ⟨rfl, hb⟩
        have B4 := Lib.hid (B3.out.trans (hb.mono B3.out.size))
        have P4 := Lib.hid (P3.out.stays hb)
        clear hb c0 c1 c2 c3 c4 c5 c6 c7 c8 c9 c10 c11
        obtain ⟨c0, c1, c2, c3, c4, c5, c6, c7, c8, c9, c10, c11⟩ := P4.out.at
        cases g4 : ageOKB a ha with
        | false =>
          have G4 := Lib.hid g4
          go_wp2_with fail
          go_ret
          exact ⟨bool_end (by simp [psOK, G4.out]), B4.out⟩
        | true =>
          have G4 := Lib.hid g4
          go_wp2_with fail
          refine (expiresOK_any x he _).mono ?_
          rintro e w5 ⟨rfl, hb⟩
          have B5 := Lib.hid (B4.out.trans (hb.mono B4.out.size))
          have P5 := Lib.hid (P4.out.stays hb)
          clear hb c0 c1 c2 c3 c4 c5 c6 c7 c8 c9 c10 c11
          obtain ⟨c0, c1, c2, c3, c4, c5, c6, c7, c8, c9, c10, c11⟩ := P5.out.at
          cases g5 : expOKB x he with
          | false =>
            have G5 := Lib.hid g5
            go_wp2_with fail
            go_ret
            exact ⟨bool_end (by simp [psOK, G5.out]), B5.out⟩
          | true =>
            have G5 := Lib.hid g5
            by_cases h1 : 1 ≤ s
            · by_cases h2 : s ≤ 4
              · go_wp2_with fail
                go_ret
                exact ⟨bool_end (by simp [psOK, G1.out, G2.out, G3.out, G4.out, G5.out, siteOKB, h1, h2]), B5.out⟩
              · have h2' : 4 < s := by omega
                go_wp2_with fail
                go_ret
                exact ⟨bool_end (by simp [psOK, G1.out, G2.out, G3.out, G4.out, G5.out, siteOKB]; omega), B5.out⟩
            · have h1' : s < 1 := by omega
              go_wp2_with fail
              go_ret
              exact ⟨bool_end (by simp [psOK, G1.out, G2.out, G3.out, G4.out, G5.out, siteOKB]; omega), B5.out⟩
end Go.Proofs.YtpdonghdnaehhaaGreatDoor

namespace Go.Proofs.YtpdonghdnaehhaaGreatDoor
open Go.ChangeShapes Go.WideShapes Go.ChangeAt Go.WideMaps Go.WideElems Go.RowKit

theorem below_step {w a b : World} (h : Below w.heap.size w a) (h2 : Below a.heap.size a b) : Below w.heap.size w b := h.trans (h2.mono h.size)
theorem six_at {w : World} {B : Nat} {T : TypeId} {y m d h n s : Int} (hb : w.heap[B]? = some (.cells #[.int .i64 y, .int .i64 m, .int .i64 d, .int .i64 h, .int .i64 n, .int .i64 s] T (0, 0))) : w.cell? ⟨B, 0, none⟩ = some (.int .i64 y) ∧ w.cell? ⟨B, 1, none⟩ = some (.int .i64 m) ∧ w.cell? ⟨B, 2, none⟩ = some (.int .i64 d) ∧ w.cell? ⟨B, 3, none⟩ = some (.int .i64 h) ∧ w.cell? ⟨B, 4, none⟩ = some (.int .i64 n) ∧ w.cell? ⟨B, 5, none⟩ = some (.int .i64 s) := by
  refine ⟨?_, ?_, ?_, ?_, ?_, ?_⟩ <;> simp [World.cell?, hb]
/-- The block just made, seen behind a call. -/
theorem six_new {w w2 : World} {T : TypeId} {y m d h n s : Int} (hb : Below (w.alloc (.cells #[.int .i64 y, .int .i64 m, .int .i64 d, .int .i64 h, .int .i64 n, .int .i64 s] T)).heap.size (w.alloc (.cells #[.int .i64 y, .int .i64 m, .int .i64 d, .int .i64 h, .int .i64 n, .int .i64 s] T)) w2) :
    (w.heap.size < w2.heap.size) ∧ w2.cell? ⟨w.heap.size, 0, none⟩ = some (.int .i64 y) ∧ w2.cell? ⟨w.heap.size, 1, none⟩ = some (.int .i64 m) ∧ w2.cell? ⟨w.heap.size, 2, none⟩ = some (.int .i64 d) ∧ w2.cell? ⟨w.heap.size, 3, none⟩ = some (.int .i64 h) ∧ w2.cell? ⟨w.heap.size, 4, none⟩ = some (.int .i64 n) ∧ w2.cell? ⟨w.heap.size, 5, none⟩ = some (.int .i64 s) :=
  ⟨by have := hb.size; simp at this; omega, six_at ((hb.block w.heap.size (by simp)).trans (heap_alloc_new w _))⟩
theorem ok_first : okB ⟨1601, 1, 1, 0, 0, 0⟩ = true := by decide
theorem ok_last : okB ⟨9999, 12, 31, 0, 0, 0⟩ = true := by decide
theorem secs_first : secsN ⟨1601, 1, 1, 0, 0, 0⟩ = -11644473600 := by decide
theorem secs_last : secsN ⟨9999, 12, 31, 0, 0, 0⟩ = 253402214400 := by decide
theorem six_keep {w w2 : World} {B : Nat} {y m d h n s : Int} (hb : Below w.heap.size w w2) (c : w.cell? ⟨B, 0, none⟩ = some (.int .i64 y) ∧ w.cell? ⟨B, 1, none⟩ = some (.int .i64 m) ∧ w.cell? ⟨B, 2, none⟩ = some (.int .i64 d) ∧ w.cell? ⟨B, 3, none⟩ = some (.int .i64 h) ∧ w.cell? ⟨B, 4, none⟩ = some (.int .i64 n) ∧ w.cell? ⟨B, 5, none⟩ = some (.int .i64 s)) :
    w2.cell? ⟨B, 0, none⟩ = some (.int .i64 y) ∧ w2.cell? ⟨B, 1, none⟩ = some (.int .i64 m) ∧ w2.cell? ⟨B, 2, none⟩ = some (.int .i64 d) ∧ w2.cell? ⟨B, 3, none⟩ = some (.int .i64 h) ∧ w2.cell? ⟨B, 4, none⟩ = some (.int .i64 n) ∧ w2.cell? ⟨B, 5, none⟩ = some (.int .i64 s) :=
  ⟨cell_kept hb c.1, cell_kept hb c.2.1, cell_kept hb c.2.2.1, cell_kept hb c.2.2.2.1, cell_kept hb c.2.2.2.2.1, cell_kept hb c.2.2.2.2.2⟩
end Go.Proofs.YtpdonghdnaehhaaGreatDoor

namespace Go.Proofs.YtpdonghdnaehhaaGreatDoor
open Go.ChangeShapes Go.WideShapes Go.ChangeAt Go.WideMaps Go.WideElems Go.RowKit

theorem tok_sep {u r : List UInt8} {b : UInt8} (hu : u ≠ []) (h : ∀ x ∈ u, delimB x = false) (hb : delimB b = true) : tokL (u ++ b :: r) = u :: tokL r := by
  rw [tokL_run hu h (fun x hx => by simp at hx; subst hx; exact hb), tokL_skip hb]
theorem tok_last {u : List UInt8} (hu : u ≠ []) (h : ∀ x ∈ u, delimB x = false) : tokL u = [u] := by
  have := tokL_run (r := []) hu h (fun x hx => by cases hx)
  rwa [List.append_nil] at this
theorem two_facts : ∀ k : Fin 100, (∀ x ∈ twoL (k.val : Nat), delimB x = false) ∧ timeL (twoL (k.val : Nat)) = none ∧ leadL 1 2 (twoL (k.val : Nat)) = some (((k.val : Nat) : Int), []) := by decide +kernel
theorem day_facts : ∀ k : Fin 7, (∀ x ∈ (dnam (k.val : Nat)).data.toList, delimB x = false) ∧ timeL (dnam (k.val : Nat)).data.toList = none ∧ leadL 1 2 (dnam (k.val : Nat)).data.toList = none ∧ leadL 2 4 (dnam (k.val : Nat)).data.toList = none ∧ monL (dnam (k.val : Nat)).data.toList = 0 ∧ (dnam (k.val : Nat)).data.toList ≠ [] := by decide +kernel
theorem mo_facts : ∀ k : Fin 12, (∀ x ∈ (mnam ((k.val + 1 : Nat))).data.toList, delimB x = false) ∧ timeL (mnam ((k.val + 1 : Nat))).data.toList = none ∧ monL (mnam ((k.val + 1 : Nat))).data.toList = k.val + 1 ∧ (mnam ((k.val + 1 : Nat))).data.toList ≠ [] := by decide +kernel
theorem year_digits {k : Nat} (h1 : 1000 ≤ k) (h2 : k ≤ 9999) : Lib.itoa k = [UInt8.ofNat (48 + k / 1000), UInt8.ofNat (48 + k / 100 % 10), UInt8.ofNat (48 + k / 10 % 10), UInt8.ofNat (48 + k % 10)] := by
  unfold Lib.itoa
  rw [if_neg (by omega)]
  simp only [Int.toNat_natCast]
  rw [Lib.decDigits, dif_neg (by omega), Lib.decDigits, dif_neg (by omega), Lib.decDigits_two (by omega) (by omega)]
  simp only [List.cons_append, List.nil_append, Nat.div_div_eq_div_mul]
theorem dig_byte (c : Nat) (h : c ≤ 9) : (UInt8.ofNat (48 + c)).toNat = 48 + c := by
  simp
  omega
theorem dig_of (c : Nat) (h : c ≤ 9) : digB (UInt8.ofNat (48 + c)) = true := (dig_iff _).2 (by rw [dig_byte c h]; omega)
theorem dig_plain {b : UInt8} (h : digB b = true) : delimB b = false := by
  have := (dig_iff b).1 h
  simp only [delimB, decide_eq_false_iff_not]
  omega
theorem year_facts {y : Int} (h1 : 1601 ≤ y) (h2 : y ≤ 9999) : (∀ x ∈ Lib.itoa y, delimB x = false) ∧ leadL 1 2 (Lib.itoa y) = none ∧ leadL 2 4 (Lib.itoa y) = some (y, []) ∧ Lib.itoa y ≠ [] := by
  obtain ⟨k, rfl⟩ : ∃ k : Nat, y = k := ⟨y.toNat, by omega⟩
  have hd := year_digits (k := k) (by omega) (by omega)
  have ha : ∀ x ∈ Lib.itoa k, digB x = true := by
    rw [hd]
    intro x hx
    simp only [List.mem_cons, List.not_mem_nil, or_false] at hx
    rcases hx with rfl | rfl | rfl | rfl <;> exact dig_of _ (by omega)
  have hn : digN (Lib.itoa k) = 4 := by
    have := digN_of (u := Lib.itoa k) (r := []) ha (fun b hb => by cases hb)
    rw [List.append_nil] at this
    rw [this, hd]
    rfl
  refine ⟨fun x hx => dig_plain (ha x hx), ?_, ?_, by rw [hd]; simp⟩
  · unfold leadL
    rw [hn]
    rfl
  · unfold leadL
    rw [hn, if_pos (by decide)]
    have e1 : (Lib.itoa (k : Int)).take 4 = Lib.itoa k := by rw [hd]; rfl
    have e2 : (Lib.itoa (k : Int)).drop 4 = [] := by rw [hd]; rfl
    rw [e1, e2, hd]
    simp only [val, List.foldl_cons, List.foldl_nil]
    rw [dig_byte _ (by omega), dig_byte _ (by omega), dig_byte _ (by omega), dig_byte _ (by omega)]
    congr 2
    omega
def clockL (h n s : Int) : List UInt8 := twoL h ++ 58 :: (twoL n ++ 58 :: twoL s)
theorem txt_form (D M : List UInt8) (y d h n s : Int) : txtL D M y d h n s = D ++ 44 :: 32 :: (twoL d ++ 32 :: (M ++ 32 :: (Lib.itoa y ++ 32 :: (clockL h n s ++ 32 :: [71, 77, 84])))) := by
  simp [txtL, clockL]
theorem two_at {d : Int} (h0 : 0 ≤ d) (h1 : d ≤ 99) : (∀ x ∈ twoL d, delimB x = false) ∧ timeL (twoL d) = none ∧ leadL 1 2 (twoL d) = some (d, []) := by
  obtain ⟨k, rfl⟩ : ∃ k : Nat, d = k := ⟨d.toNat, by omega⟩
  exact two_facts ⟨k, by omega⟩
theorem clock_facts {h n s : Int} (a1 : 0 ≤ h) (a2 : h ≤ 23) (b1 : 0 ≤ n) (b2 : n ≤ 59) (c1 : 0 ≤ s) (c2 : s ≤ 59) : (∀ x ∈ clockL h n s, delimB x = false) ∧ timeL (clockL h n s) = some (h, n, s) ∧ clockL h n s ≠ [] := by
  obtain ⟨f1, _, g1⟩ := two_at a1 (show h ≤ 99 by omega)
  obtain ⟨f2, _, g2⟩ := two_at b1 (show n ≤ 99 by omega)
  obtain ⟨f3, _, g3⟩ := two_at c1 (show s ≤ 99 by omega)
  refine ⟨?_, ?_, by simp [clockL]⟩
  · intro x hx
    have h58 : delimB 58 = false := by decide
    simp only [clockL, List.mem_append, List.mem_cons] at hx
    rcases hx with hx | rfl | hx | rfl | hx
    · exact f1 x hx
    · exact h58
    · exact f2 x hx
    · exact h58
    · exact f3 x hx
  · unfold clockL timeL
    rw [lead_colon, g1]
    simp only [Option.map_some, List.nil_append]
    rw [lead_colon, g2]
    simp only [Option.map_some, List.nil_append]
    rw [g3]
theorem read_text {y m d h n s : Int} (hok : okB ⟨y, m, d, h, n, s⟩ = true) {kk : Nat} (hk : kk < 7) : dateR (readL (txtL (dnam kk).data.toList (mnam m).data.toList y d h n s)) = some ⟨y, m, d, h, n, s⟩ := by
  obtain ⟨⟨hy1, hy2⟩, ⟨hm1, hm2⟩, ⟨hd1, hd2⟩, ⟨hh1, hh2⟩, ⟨hn1, hn2⟩, ⟨hs1, hs2⟩⟩ := (ok_iff _).1 hok
  have hd3 := (mdays_le y m).2
  simp only at hy1 hy2 hm1 hm2 hd1 hd2 hh1 hh2 hn1 hn2 hs1 hs2
  obtain ⟨mm, rfl⟩ : ∃ mm : Nat, m = ((mm + 1 : Nat) : Int) := ⟨(m - 1).toNat, by omega⟩
  obtain ⟨A1, A2, A3, A4, A5, A6⟩ := day_facts ⟨kk, hk⟩
  obtain ⟨B1, B2, B3⟩ := two_at (show 0 ≤ d by omega) (show d ≤ 99 by omega)
  obtain ⟨C1, C2, C3, C4⟩ := mo_facts ⟨mm, by omega⟩
  obtain ⟨D1, D2, D3, D4⟩ := year_facts hy1 hy2
  obtain ⟨E1, E2, E3⟩ := clock_facts hh1 hh2 hn1 hn2 hs1 hs2
  simp only at A1 A2 A3 A4 A5 A6 C1 C2 C3 C4
  have q1 : delimB 44 = true := by decide
  have q2 : delimB 32 = true := by decide
  have hG : tokL [71, 77, 84] = [[71, 77, 84]] := tok_last (by simp) (by decide)
  have hlist : tokL (txtL (dnam kk).data.toList (mnam ((mm + 1 : Nat) : Int)).data.toList y d h n s) = [(dnam kk).data.toList, twoL d, (mnam ((mm + 1 : Nat) : Int)).data.toList, Lib.itoa y, clockL h n s, [71, 77, 84]] := by
    rw [txt_form, tok_sep A6 A1 q1, tokL_skip q2, tok_sep (by simp [twoL]) B1 q2, tok_sep C4 C1 q2, tok_sep D4 D1 q2, tok_sep E3 E1 q2, hG]
  have D5 : timeL (Lib.itoa y) = none := by unfold timeL; rw [D2]
  unfold readL
  rw [hlist]
  simp only [List.foldl_cons, List.foldl_nil]
  have s1 : stepR rd0 (dnam kk).data.toList = rd0 := by simp [stepR, rd0, A2, dayL, A3, A5, yearL, A4]
  have s2 : stepR rd0 (twoL d) = ⟨none, some d, 0, none⟩ := by simp [stepR, rd0, B2, dayL, B3]
  have s3 : stepR ⟨none, some d, 0, none⟩ (mnam ((mm + 1 : Nat) : Int)).data.toList = ⟨none, some d, mm + 1, none⟩ := by simp only [stepR, C2, C3]; simp
  have s4 : stepR ⟨none, some d, mm + 1, none⟩ (Lib.itoa y) = ⟨none, some d, mm + 1, some y⟩ := by simp [stepR, D5, yearL, D3]
  have s5 : stepR ⟨none, some d, mm + 1, some y⟩ (clockL h n s) = ⟨some (h, n, s), some d, mm + 1, some y⟩ := by simp [stepR, E2]
  have s6 : stepR ⟨some (h, n, s), some d, mm + 1, some y⟩ [71, 77, 84] = ⟨some (h, n, s), some d, mm + 1, some y⟩ := by simp [stepR]
  rw [s1, s2, s3, s4, s5, s6]
  have hf : fullY y = y := by unfold fullY; rw [if_neg (by omega), if_neg (by omega)]
  unfold dateR
  simp only [hf]
  rw [if_pos hok]
end Go.Proofs.YtpdonghdnaehhaaGreatDoor
