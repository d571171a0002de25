/- SameKey, ComesFirst, GoesFirst of the program and of the model: what they answer. No condition of its own. -/
import Derived.Test.YtpdonghdnaehhaaGreatDoorYCkCmp
import Derived.Test.YtpdonghdnaehhaaGreatDoorYCkSpec
import Derived.Test.YtpdonghdnaehhaaGreatDoorYEqlKey
import Derived.Stop.LaidErr
namespace Go.Proofs.YtpdonghdnaehhaaGreatDoor
open Go.ChangeShapes Go.WideShapes Go.ChangeAt Go.WideMaps Go.WideElems Go.RowKit

def szC (q : Ck) : Prop := q.n.size ≤ 1048576 ∧ q.v.size ≤ 1048576 ∧ q.d.size ≤ 1048576 ∧ q.p.size ≤ 1048576
theorem sz_of {q : Ck} (h : wtC q ≤ 1048576) : szC q := by unfold wtC at h; exact ⟨by omega, by omega, by omega, by omega⟩
theorem cookieOK_at (q : Ck) (w : World) (h : szC q) (hT : TabAt w) : Calls Tryz.prog 25 #[.agg #[.int .i64 q.i, .string q.n, .string q.v, .string q.d, .string q.p, .bool q.ho, .bool q.sc, .bool q.ht, .int .i64 q.s, .int .i64 q.x, .int .i64 q.m, .int .i64 q.u]] w fun e w' => e = .returned (.bool (ckOK q)) ∧ Below w.heap.size w w' := cookieOK_any q w h.1 h.2.1 h.2.2.1 h.2.2.2 hT
theorem specCk_at (q : Ck) (w : World) (h : szC q) : Calls Tryz.prog 96 #[.agg #[.int .i64 q.i, .string q.n, .string q.v, .string q.d, .string q.p, .bool q.ho, .bool q.sc, .bool q.ht, .int .i64 q.s, .int .i64 q.x, .int .i64 q.m, .int .i64 q.u]] w fun e w' => e = .returned (.bool (ckOK q)) ∧ Below w.heap.size w w' := specCkL q w h.1 h.2.1 h.2.2.1 h.2.2.2
theorem cmpI_neg (x y : Int) : cmpI x y < 0 ↔ x < y := by
  unfold cmpI
  split
  · simp_all
  · split <;> omega
theorem cmpI_zero (x y : Int) : cmpI x y = 0 ↔ x = y := by
  unfold cmpI
  split
  · omega
  · split <;> omega
theorem or_neg (x : Int) (l : List Int) : orL (x :: l) < 0 ↔ x < 0 ∨ (x = 0 ∧ orL l < 0) := by
  by_cases h : x = 0
  · rw [orL, if_neg (by simp [h])]
    simp [h]
  · rw [orL, if_pos h]
    simp [h]
theorem or_none : ¬ orL [] < 0 := by decide
theorem send_first (a b : Ck) : decide (sendI a b < 0) = firstB a b := by
  have h : sendI a b < 0 ↔ b.p.size < a.p.size ∨ (b.p.size = a.p.size ∧ (a.m < b.m ∨ (a.m = b.m ∧ a.i < b.i))) := by
    unfold sendI
    rw [or_neg, or_neg, or_neg, cmpI_neg, cmpI_neg, cmpI_neg, cmpI_zero, cmpI_zero, cmpI_zero]
    simp only [or_none, and_false, or_false]
    omega
  rw [Bool.eq_iff_iff, decide_eq_true_eq, h]
  unfold firstB
  split
  · rw [decide_eq_true_eq]
    omega
  · split
    · rw [decide_eq_true_eq]
      omega
    · rw [decide_eq_true_eq]
      omega
theorem oneI_neg (a b : Bool) : oneI a b < 0 ↔ a = true ∧ b = false := by cases a <;> cases b <;> decide
theorem oneI_zero (a b : Bool) : oneI a b = 0 ↔ a = b := by cases a <;> cases b <;> decide
theorem go_goes (now : Int) (a b : Ck) : decide (goI now a b < 0) = goesB a b now := by
  have h : goI now a b < 0 ↔ (decide (a.x ≤ now) = true ∧ decide (b.x ≤ now) = false) ∨ (decide (a.x ≤ now) = decide (b.x ≤ now) ∧ ((a.sc = false ∧ b.sc = true) ∨ (a.sc = b.sc ∧ (a.u < b.u ∨ (a.u = b.u ∧ a.i < b.i))))) := by
    unfold goI
    rw [or_neg, or_neg, or_neg, or_neg, cmpI_neg, cmpI_neg, cmpI_zero, cmpI_zero, oneI_neg, oneI_neg, oneI_zero, oneI_zero]
    simp only [or_none, and_false, or_false]
    have e1 : ((!a.sc) = true ∧ (!b.sc) = false) ↔ (a.sc = false ∧ b.sc = true) := by cases a.sc <;> cases b.sc <;> decide
    have e2 : ((!a.sc) = (!b.sc)) ↔ (a.sc = b.sc) := by cases a.sc <;> cases b.sc <;> decide
    rw [e1, e2]
  rw [Bool.eq_iff_iff, decide_eq_true_eq, h]
  unfold goesB
  generalize decide (a.x ≤ now) = x
  generalize decide (b.x ≤ now) = y
  generalize a.sc = p
  generalize b.sc = q
  have hu : (if a.u ≠ b.u then decide (a.u < b.u) else decide (a.i < b.i)) = true ↔ (a.u < b.u ∨ (a.u = b.u ∧ a.i < b.i)) := by
    split
    · rw [decide_eq_true_eq]
      omega
    · rw [decide_eq_true_eq]
      omega
  cases x <;> cases y <;> cases p <;> cases q <;> simp only [ne_eq, not_true_eq_false, not_false_eq_true, if_true, if_false, reduceCtorEq, true_and, false_and, and_false, and_true, false_or, or_false, or_true, iff_self, hu] <;> first | exact hu.symm | skip
set_option maxHeartbeats 2000000 in
set_option maxRecDepth 100000 in
theorem bothOK_any (a b : Ck) (w : World) (ha : szC a) (hb : szC b) (hT : TabAt w) : Calls Tryz.prog 100 #[.agg #[.int .i64 a.i, .string a.n, .string a.v, .string a.d, .string a.p, .bool a.ho, .bool a.sc, .bool a.ht, .int .i64 a.s, .int .i64 a.x, .int .i64 a.m, .int .i64 a.u], .agg #[.int .i64 b.i, .string b.n, .string b.v, .string b.d, .string b.p, .bool b.ho, .bool b.sc, .bool b.ht, .int .i64 b.s, .int .i64 b.x, .int .i64 b.m, .int .i64 b.u]] w fun e w' => e = .returned (.bool (ckOK a && ckOK b)) ∧ Below w.heap.size w w' := by
  have HT := Lib.hid hT
  have HA := Lib.hid ha
  have HB := Lib.hid hb
  clear hT ha hb
  have B0 : Hid (Below w.heap.size w ((w.alloc (.cells #[.int .i64 a.i, .string a.n, .string a.v, .string a.d, .string a.p, .bool a.ho, .bool a.sc, .bool a.ht, .int .i64 a.s, .int .i64 a.x, .int .i64 a.m, .int .i64 a.u] 41)).alloc (.cells #[.int .i64 b.i, .string b.n, .string b.v, .string b.d, .string b.p, .bool b.ho, .bool b.sc, .bool b.ht, .int .i64 b.s, .int .i64 b.x, .int .i64 b.m, .int .i64 b.u] 41))) := Lib.hid (((Below.refl _ _).alloc (Nat.le_refl _) _).alloc (by simp) _)
  have P0 := Lib.hid (two_new w a b)
  cases g : ckOK a with
  | false =>
    have G := Lib.hid g
    go_enter Tryz.func100, Tryz.ntmps100
    go_wp2_with fail
    refine (cookieOK_at a _ HA.out (HT.out.below B0.out)).mono ?_
    rintro e w1 ⟨rfl, hb⟩
    have B1 := Lib.hid (B0.out.trans (hb.mono B0.out.size))
    clear hb
    rw [g]
    clear g
    go_wp2_with fail
    go_ret
    exact ⟨rfl, B1.out⟩
  | true =>
    have G := Lib.hid g
    go_enter Tryz.func100, Tryz.ntmps100
    go_wp2_with fail
    refine (cookieOK_at a _ HA.out (HT.out.below B0.out)).mono ?_
    rintro e w1 ⟨rfl, hb⟩
    have B1 := Lib.hid (B0.out.trans (hb.mono B0.out.size))
    have P1 := Lib.hid (P0.out.stays hb)
    clear hb
    rw [g]
    clear g
    obtain ⟨d0, d1, d2, d3, d4, d5, d6, d7, d8, d9, d10, d11⟩ := P1.out.at
    go_wp2_with fail
    refine (cookieOK_at b _ HB.out (HT.out.below B1.out)).mono ?_
    rintro e w2 ⟨rfl, hb⟩
    have B2 := Lib.hid (B1.out.trans (hb.mono B1.out.size))
    clear hb
    go_wp2_with fail
    go_ret
    exact ⟨bool_end (by simp), B2.out⟩
theorem keyOf_any (q : Ck) (w : World) : Calls Tryz.prog 101 #[.agg #[.int .i64 q.i, .string q.n, .string q.v, .string q.d, .string q.p, .bool q.ho, .bool q.sc, .bool q.ht, .int .i64 q.s, .int .i64 q.x, .int .i64 q.m, .int .i64 q.u]] w fun e w' => e = .returned (.agg #[.string q.n, .string q.d, .string q.p, .bool q.ho]) ∧ Below w.heap.size w w' := by
  go_enter Tryz.func101, Tryz.ntmps101
  go_wp2_with fail
  refine bodyPost_ret (v := .agg #[.string q.n, .string q.d, .string q.p, .bool q.ho]) (by simp [results, Tryz.results101, go_sem]) rfl ⟨rfl, ((Below.refl _ _).alloc (Nat.le_refl _) _).alloc (by simp) _⟩
set_option maxHeartbeats 2000000 in
set_option maxRecDepth 100000 in
theorem before_send (a b : Ck) (w : World) (ha : szC a) (hb : szC b) (hT : TabAt w) : Calls Tryz.prog 94 #[.agg #[.int .i64 a.i, .string a.n, .string a.v, .string a.d, .string a.p, .bool a.ho, .bool a.sc, .bool a.ht, .int .i64 a.s, .int .i64 a.x, .int .i64 a.m, .int .i64 a.u], .agg #[.int .i64 b.i, .string b.n, .string b.v, .string b.d, .string b.p, .bool b.ho, .bool b.sc, .bool b.ht, .int .i64 b.s, .int .i64 b.x, .int .i64 b.m, .int .i64 b.u], .func (.func 95) #[] #[]] w fun e w' => e = .returned (.bool ((ckOK a && ckOK b) && firstB a b)) ∧ Below w.heap.size w w' := by
  have HT := Lib.hid hT
  have HA := Lib.hid ha
  have HB := Lib.hid hb
  clear hT ha hb
  have B0 : Hid (Below w.heap.size w ((w.alloc (.cells #[.int .i64 a.i, .string a.n, .string a.v, .string a.d, .string a.p, .bool a.ho, .bool a.sc, .bool a.ht, .int .i64 a.s, .int .i64 a.x, .int .i64 a.m, .int .i64 a.u] 41)).alloc (.cells #[.int .i64 b.i, .string b.n, .string b.v, .string b.d, .string b.p, .bool b.ho, .bool b.sc, .bool b.ht, .int .i64 b.s, .int .i64 b.x, .int .i64 b.m, .int .i64 b.u] 41))) := Lib.hid (((Below.refl _ _).alloc (Nat.le_refl _) _).alloc (by simp) _)
  have P0 := Lib.hid ((CkB.new w a).alloc (.cells #[.int .i64 b.i, .string b.n, .string b.v, .string b.d, .string b.p, .bool b.ho, .bool b.sc, .bool b.ht, .int .i64 b.s, .int .i64 b.x, .int .i64 b.m, .int .i64 b.u] 41))
  have Q0 := Lib.hid (two_new w a b)
  have HF := Lib.hid (send_first a b)
  cases g : (ckOK a && ckOK b) with
  | false =>
    go_enter Tryz.func94, Tryz.ntmps94
    go_wp2_with fail
    refine (bothOK_any a b _ HA.out HB.out (HT.out.below B0.out)).mono ?_
    rintro e w1 ⟨rfl, hb⟩
    have B1 := Lib.hid (B0.out.trans (hb.mono B0.out.size))
    clear hb
    rw [g]
    clear g
    go_wp2_with fail
    go_ret
    exact ⟨rfl, B1.out⟩
  | true =>
    go_enter Tryz.func94, Tryz.ntmps94
    go_wp2_with fail
    refine (bothOK_any a b _ HA.out HB.out (HT.out.below B0.out)).mono ?_
    rintro e w1 ⟨rfl, hb⟩
    have B1 := Lib.hid (B0.out.trans (hb.mono B0.out.size))
    have P1 := Lib.hid (P0.out.stays hb)
    have Q1 := Lib.hid (Q0.out.stays hb)
    clear hb
    rw [g]
    clear g
    obtain ⟨c0, c1, c2, c3, c4, c5, c6, c7, c8, c9, c10, c11⟩ := P1.out.at
    obtain ⟨d0, d1, d2, d3, d4, d5, d6, d7, d8, d9, d10, d11⟩ := Q1.out.at
    go_wp2_with (go_at_call 95; refine (sending_any a b _).mono ?_; rintro e w2 ⟨rfl, hb⟩)
    go_ret
    exact ⟨bool_end (by rw [← HF.out]; rfl), B1.out.trans (hb.mono B1.out.size)⟩
set_option maxHeartbeats 2000000 in
set_option maxRecDepth 100000 in
theorem before_go (now : Int) (a b : Ck) (w : World) (ha : szC a) (hb : szC b) (hT : TabAt w) : Calls Tryz.prog 94 #[.agg #[.int .i64 a.i, .string a.n, .string a.v, .string a.d, .string a.p, .bool a.ho, .bool a.sc, .bool a.ht, .int .i64 a.s, .int .i64 a.x, .int .i64 a.m, .int .i64 a.u], .agg #[.int .i64 b.i, .string b.n, .string b.v, .string b.d, .string b.p, .bool b.ho, .bool b.sc, .bool b.ht, .int .i64 b.s, .int .i64 b.x, .int .i64 b.m, .int .i64 b.u], .func (.func 98) #[.int .i64 now] #[]] w fun e w' => e = .returned (.bool ((ckOK a && ckOK b) && goesB a b now)) ∧ Below w.heap.size w w' := by
  have HT := Lib.hid hT
  have HA := Lib.hid ha
  have HB := Lib.hid hb
  clear hT ha hb
  have B0 : Hid (Below w.heap.size w ((w.alloc (.cells #[.int .i64 a.i, .string a.n, .string a.v, .string a.d, .string a.p, .bool a.ho, .bool a.sc, .bool a.ht, .int .i64 a.s, .int .i64 a.x, .int .i64 a.m, .int .i64 a.u] 41)).alloc (.cells #[.int .i64 b.i, .string b.n, .string b.v, .string b.d, .string b.p, .bool b.ho, .bool b.sc, .bool b.ht, .int .i64 b.s, .int .i64 b.x, .int .i64 b.m, .int .i64 b.u] 41))) := Lib.hid (((Below.refl _ _).alloc (Nat.le_refl _) _).alloc (by simp) _)
  have P0 := Lib.hid ((CkB.new w a).alloc (.cells #[.int .i64 b.i, .string b.n, .string b.v, .string b.d, .string b.p, .bool b.ho, .bool b.sc, .bool b.ht, .int .i64 b.s, .int .i64 b.x, .int .i64 b.m, .int .i64 b.u] 41))
  have Q0 := Lib.hid (two_new w a b)
  have HF := Lib.hid (go_goes now a b)
  cases g : (ckOK a && ckOK b) with
  | false =>
    go_enter Tryz.func94, Tryz.ntmps94
    go_wp2_with fail
    refine (bothOK_any a b _ HA.out HB.out (HT.out.below B0.out)).mono ?_
    rintro e w1 ⟨rfl, hb⟩
    have B1 := Lib.hid (B0.out.trans (hb.mono B0.out.size))
    clear hb
    rw [g]
    clear g
    go_wp2_with fail
    go_ret
    exact ⟨rfl, B1.out⟩
  | true =>
    go_enter Tryz.func94, Tryz.ntmps94
    go_wp2_with fail
    refine (bothOK_any a b _ HA.out HB.out (HT.out.below B0.out)).mono ?_
    rintro e w1 ⟨rfl, hb⟩
    have B1 := Lib.hid (B0.out.trans (hb.mono B0.out.size))
    have P1 := Lib.hid (P0.out.stays hb)
    have Q1 := Lib.hid (Q0.out.stays hb)
    clear hb
    rw [g]
    clear g
    obtain ⟨c0, c1, c2, c3, c4, c5, c6, c7, c8, c9, c10, c11⟩ := P1.out.at
    obtain ⟨d0, d1, d2, d3, d4, d5, d6, d7, d8, d9, d10, d11⟩ := Q1.out.at
    go_wp2_with (go_at_call 98; refine (going_any now a b _).mono ?_; rintro e w2 ⟨rfl, hb⟩)
    go_ret
    exact ⟨bool_end (by rw [← HF.out]; rfl), B1.out.trans (hb.mono B1.out.size)⟩
set_option maxHeartbeats 2000000 in
set_option maxRecDepth 100000 in
theorem implFirst (a b : Ck) (w : World) (ha : szC a) (hb : szC b) (hT : TabAt w) : Calls Tryz.prog 26 #[.agg #[.int .i64 a.i, .string a.n, .string a.v, .string a.d, .string a.p, .bool a.ho, .bool a.sc, .bool a.ht, .int .i64 a.s, .int .i64 a.x, .int .i64 a.m, .int .i64 a.u], .agg #[.int .i64 b.i, .string b.n, .string b.v, .string b.d, .string b.p, .bool b.ho, .bool b.sc, .bool b.ht, .int .i64 b.s, .int .i64 b.x, .int .i64 b.m, .int .i64 b.u]] w fun e w' => e = .returned (.bool ((ckOK a && ckOK b) && firstB a b)) ∧ Below w.heap.size w w' := by
  have B0 : Hid (Below w.heap.size w ((w.alloc (.cells #[.int .i64 a.i, .string a.n, .string a.v, .string a.d, .string a.p, .bool a.ho, .bool a.sc, .bool a.ht, .int .i64 a.s, .int .i64 a.x, .int .i64 a.m, .int .i64 a.u] 41)).alloc (.cells #[.int .i64 b.i, .string b.n, .string b.v, .string b.d, .string b.p, .bool b.ho, .bool b.sc, .bool b.ht, .int .i64 b.s, .int .i64 b.x, .int .i64 b.m, .int .i64 b.u] 41))) := Lib.hid (((Below.refl _ _).alloc (Nat.le_refl _) _).alloc (by simp) _)
  have HT := Lib.hid hT
  clear hT
  go_enter Tryz.func26, Tryz.ntmps26
  go_wp2_with fail
  refine (before_send a b _ ha hb (HT.out.below B0.out)).mono ?_
  rintro e w1 ⟨rfl, hb⟩
  have B1 := Lib.hid (B0.out.trans (hb.mono B0.out.size))
  clear hb
  go_wp2_with fail
  go_ret
  exact ⟨rfl, B1.out⟩
set_option maxHeartbeats 2000000 in
set_option maxRecDepth 100000 in
theorem implGoes (a b : Ck) (now : Int) (w : World) (ha : szC a) (hb : szC b) (hT : TabAt w) : Calls Tryz.prog 28 #[.agg #[.int .i64 a.i, .string a.n, .string a.v, .string a.d, .string a.p, .bool a.ho, .bool a.sc, .bool a.ht, .int .i64 a.s, .int .i64 a.x, .int .i64 a.m, .int .i64 a.u], .agg #[.int .i64 b.i, .string b.n, .string b.v, .string b.d, .string b.p, .bool b.ho, .bool b.sc, .bool b.ht, .int .i64 b.s, .int .i64 b.x, .int .i64 b.m, .int .i64 b.u], .int .i64 now] w fun e w' => e = .returned (.bool ((ckOK a && ckOK b) && goesB a b now)) ∧ Below w.heap.size w w' := by
  have B0 : Hid (Below w.heap.size w ((w.alloc (.cells #[.int .i64 a.i, .string a.n, .string a.v, .string a.d, .string a.p, .bool a.ho, .bool a.sc, .bool a.ht, .int .i64 a.s, .int .i64 a.x, .int .i64 a.m, .int .i64 a.u] 41)).alloc (.cells #[.int .i64 b.i, .string b.n, .string b.v, .string b.d, .string b.p, .bool b.ho, .bool b.sc, .bool b.ht, .int .i64 b.s, .int .i64 b.x, .int .i64 b.m, .int .i64 b.u] 41))) := Lib.hid (((Below.refl _ _).alloc (Nat.le_refl _) _).alloc (by simp) _)
  have HT := Lib.hid hT
  clear hT
  go_enter Tryz.func28, Tryz.ntmps28
  go_wp2_with fail
  refine (before_go now a b _ ha hb (HT.out.below B0.out)).mono ?_
  rintro e w1 ⟨rfl, hb⟩
  have B1 := Lib.hid (B0.out.trans (hb.mono B0.out.size))
  clear hb
  go_wp2_with fail
  go_ret
  exact ⟨rfl, B1.out⟩
set_option maxHeartbeats 4000000 in
set_option maxRecDepth 100000 in
theorem implKey (a b : Ck) (w : World) (ha : szC a) (hb : szC b) (hT : TabAt w) : Calls Tryz.prog 30 #[.agg #[.int .i64 a.i, .string a.n, .string a.v, .string a.d, .string a.p, .bool a.ho, .bool a.sc, .bool a.ht, .int .i64 a.s, .int .i64 a.x, .int .i64 a.m, .int .i64 a.u], .agg #[.int .i64 b.i, .string b.n, .string b.v, .string b.d, .string b.p, .bool b.ho, .bool b.sc, .bool b.ht, .int .i64 b.s, .int .i64 b.x, .int .i64 b.m, .int .i64 b.u]] w fun e w' => e = .returned (.bool ((ckOK a && ckOK b) && keyB a b)) ∧ Below w.heap.size w w' := by
  have hN : Nonempty (BCl ((w.alloc (.cells #[.int .i64 a.i, .string a.n, .string a.v, .string a.d, .string a.p, .bool a.ho, .bool a.sc, .bool a.ht, .int .i64 a.s, .int .i64 a.x, .int .i64 a.m, .int .i64 a.u] 41)).alloc (.cells #[.int .i64 b.i, .string b.n, .string b.v, .string b.d, .string b.p, .bool b.ho, .bool b.sc, .bool b.ht, .int .i64 b.s, .int .i64 b.x, .int .i64 b.m, .int .i64 b.u] 41))) := BCl.full _
  have HB : Hid (Below w.heap.size w ((w.alloc (.cells #[.int .i64 a.i, .string a.n, .string a.v, .string a.d, .string a.p, .bool a.ho, .bool a.sc, .bool a.ht, .int .i64 a.s, .int .i64 a.x, .int .i64 a.m, .int .i64 a.u] 41)).alloc (.cells #[.int .i64 b.i, .string b.n, .string b.v, .string b.d, .string b.p, .bool b.ho, .bool b.sc, .bool b.ht, .int .i64 b.s, .int .i64 b.x, .int .i64 b.m, .int .i64 b.u] 41))) := Lib.hid (((Below.refl _ _).alloc (Nat.le_refl _) _).alloc (by simp) _)
  have HO : Hid (∀ i : BCl ((w.alloc (.cells #[.int .i64 a.i, .string a.n, .string a.v, .string a.d, .string a.p, .bool a.ho, .bool a.sc, .bool a.ht, .int .i64 a.s, .int .i64 a.x, .int .i64 a.m, .int .i64 a.u] 41)).alloc (.cells #[.int .i64 b.i, .string b.n, .string b.v, .string b.d, .string b.p, .bool b.ho, .bool b.sc, .bool b.ht, .int .i64 b.s, .int .i64 b.x, .int .i64 b.m, .int .i64 b.u] 41)), Calls Tryz.prog 100 #[.agg #[.int .i64 a.i, .string a.n, .string a.v, .string a.d, .string a.p, .bool a.ho, .bool a.sc, .bool a.ht, .int .i64 a.s, .int .i64 a.x, .int .i64 a.m, .int .i64 a.u], .agg #[.int .i64 b.i, .string b.n, .string b.v, .string b.d, .string b.p, .bool b.ho, .bool b.sc, .bool b.ht, .int .i64 b.s, .int .i64 b.x, .int .i64 b.m, .int .i64 b.u]] i.w fun e w' => e = .returned (.bool (ckOK a && ckOK b)) ∧ Below i.w.heap.size i.w w') := Lib.hid fun i => bothOK_any a b i.w ha hb ((hT.below HB.out).below i.below)
  obtain ⟨c0, c1, c2, c3, c4, c5, c6, c7, c8, c9, c10, c11⟩ := ((CkB.new w a).alloc (.cells #[.int .i64 b.i, .string b.n, .string b.v, .string b.d, .string b.p, .bool b.ho, .bool b.sc, .bool b.ht, .int .i64 b.s, .int .i64 b.x, .int .i64 b.m, .int .i64 b.u] 41)).at
  have hB : CkB ((w.alloc (.cells #[.int .i64 a.i, .string a.n, .string a.v, .string a.d, .string a.p, .bool a.ho, .bool a.sc, .bool a.ht, .int .i64 a.s, .int .i64 a.x, .int .i64 a.m, .int .i64 a.u] 41)).alloc (.cells #[.int .i64 b.i, .string b.n, .string b.v, .string b.d, .string b.p, .bool b.ho, .bool b.sc, .bool b.ht, .int .i64 b.s, .int .i64 b.x, .int .i64 b.m, .int .i64 b.u] 41)) (w.heap.size + 1) b := two_new w a b
  obtain ⟨d0, d1, d2, d3, d4, d5, d6, d7, d8, d9, d10, d11⟩ := hB.at
  have q0 := BCl.cell c0
  have q1 := BCl.cell c1
  have q2 := BCl.cell c2
  have q3 := BCl.cell c3
  have q4 := BCl.cell c4
  have q5 := BCl.cell c5
  have q6 := BCl.cell c6
  have q7 := BCl.cell c7
  have q8 := BCl.cell c8
  have q9 := BCl.cell c9
  have q10 := BCl.cell c10
  have q11 := BCl.cell c11
  have r0 := BCl.cell d0
  have r1 := BCl.cell d1
  have r2 := BCl.cell d2
  have r3 := BCl.cell d3
  have r4 := BCl.cell d4
  have r5 := BCl.cell d5
  have r6 := BCl.cell d6
  have r7 := BCl.cell d7
  have r8 := BCl.cell d8
  have r9 := BCl.cell d9
  have r10 := BCl.cell d10
  have r11 := BCl.cell d11
  clear hB hT c0 c1 c2 c3 c4 c5 c6 c7 c8 c9 c10 c11 d0 d1 d2 d3 d4 d5 d6 d7 d8 d9 d10 d11
  cases g : (ckOK a && ckOK b) with
  | false =>
    go_enter Tryz.func30, Tryz.ntmps30
    go_upto_region 1 with fail
    refine wp_region_below (fun w' => ∃ i : BCl ((w.alloc (.cells #[.int .i64 a.i, .string a.n, .string a.v, .string a.d, .string a.p, .bool a.ho, .bool a.sc, .bool a.ht, .int .i64 a.s, .int .i64 a.x, .int .i64 a.m, .int .i64 a.u] 41)).alloc (.cells #[.int .i64 b.i, .string b.n, .string b.v, .string b.d, .string b.p, .bool b.ho, .bool b.sc, .bool b.ht, .int .i64 b.s, .int .i64 b.x, .int .i64 b.m, .int .i64 b.u] 41)), w' = i.w) (by kernel_rfl) (by kernel_rfl) (BCl.start _) ?_
    repeat (go_big_quiet_step (first | (go_at_call 100; rename_i i; with_reducible refine (HO.out i).mono ?_; intro e w' h; exact ⟨by rw [h.1, g], i.next h.2⟩)))
    refine wpQuiet_nil ?_
    intro _ hw'
    obtain ⟨i, rfl⟩ := hw'
    clear q0 q1 q2 q3 q4 q5 q6 q7 q8 q9 q10 q11 r0 r1 r2 r3 r4 r5 r6 r7 r8 r9 r10 r11
    go_wp2_with fail
    go_ret
    exact ⟨rfl, HB.out.trans (i.below.mono HB.out.size)⟩
  | true =>
    have eg : ∀ (x y : Operand) (W : World), (eqGuard .eql 109 x y (.agg #[.string a.n, .string a.d, .string a.p, .bool a.ho]) (.agg #[.string b.n, .string b.d, .string b.p, .bool b.ho])).run Tryz.prog W = .ok () W := fun x y W => eql_guard x y a b W
    have ek : ∀ W : World, (binOp .eql 109 (.agg #[.string a.n, .string a.d, .string a.p, .bool a.ho]) (.agg #[.string b.n, .string b.d, .string b.p, .bool b.ho])).run Tryz.prog W = .ok (.bool (keyB a b)) W := fun W => eql_key a b W
    go_enter Tryz.func30, Tryz.ntmps30
    go_upto_region 1 with fail
    refine wp_region_below (fun w' => ∃ i : BCl ((w.alloc (.cells #[.int .i64 a.i, .string a.n, .string a.v, .string a.d, .string a.p, .bool a.ho, .bool a.sc, .bool a.ht, .int .i64 a.s, .int .i64 a.x, .int .i64 a.m, .int .i64 a.u] 41)).alloc (.cells #[.int .i64 b.i, .string b.n, .string b.v, .string b.d, .string b.p, .bool b.ho, .bool b.sc, .bool b.ht, .int .i64 b.s, .int .i64 b.x, .int .i64 b.m, .int .i64 b.u] 41)), w' = i.w) (by kernel_rfl) (by kernel_rfl) (BCl.start _) ?_
    repeat (go_big_quiet_step (first
      | (go_at_call 100; rename_i i; with_reducible refine (HO.out i).mono ?_; intro e w' h; exact ⟨by rw [h.1, g], i.next h.2⟩)
      | (go_at_call 101; rename_i i; with_reducible refine (keyOf_any a i.w).mono ?_; intro e w' h; exact ⟨h.1, i.next h.2⟩)
      | (go_at_call 101; rename_i i; with_reducible refine (keyOf_any b i.w).mono ?_; intro e w' h; exact ⟨h.1, i.next h.2⟩)))
    refine wpQuiet_nil ?_
    intro _ hw'
    obtain ⟨i, rfl⟩ := hw'
    clear q0 q1 q2 q3 q4 q5 q6 q7 q8 q9 q10 q11 r0 r1 r2 r3 r4 r5 r6 r7 r8 r9 r10 r11
    go_wp2_with fail
    go_ret
    exact ⟨bool_end (by simp), HB.out.trans (i.below.mono HB.out.size)⟩
end Go.Proofs.YtpdonghdnaehhaaGreatDoor
