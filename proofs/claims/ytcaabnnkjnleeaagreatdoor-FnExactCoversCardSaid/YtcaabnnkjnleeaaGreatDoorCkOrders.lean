/- SameKey, ComesFirst, GoesFirst of the program and of the model: what they answer. No condition of its own. -/
import Derived.Test.YtcaabnnkjnleeaaGreatDoorCkCmp
import Derived.Test.YtcaabnnkjnleeaaGreatDoorCkSpec
import Derived.Test.YtcaabnnkjnleeaaGreatDoorEqlKey
import Derived.Stop.LaidErr
namespace Go.Proofs.YtcaabnnkjnleeaaGreatDoor
open Go.ChangeShapes Go.WideShapes Go.ChangeAt Go.WideMaps Go.WideElems Go.RowKit

def szC (q : Ck) : Prop := q.n.size ≤ 1048576 ∧ q.v.size ≤ 1048576 ∧ q.d.size ≤ 1048576 ∧ q.p.size ≤ 1048576
theorem sz_of {q : Ck} (h : wtC q ≤ 1048576) : szC q := by unfold wtC at h; exact ⟨by omega, by omega, by omega, by omega⟩
theorem cookieOK_at (q : Ck) (w : World) (h : szC q) (hT : TabAt w) : Calls Tryz.prog 91 #[.agg #[.int .i64 q.i, .string q.n, .string q.v, .string q.d, .string q.p, .bool q.ho, .bool q.sc, .bool q.ht, .int .i64 q.s, .int .i64 q.x, .int .i64 q.m, .int .i64 q.u]] w fun e w' => e = .returned (.bool (ckOK q)) ∧ Below w.heap.size w w' := cookieOK_any q w h.1 h.2.1 h.2.2.1 h.2.2.2 hT
theorem specCk_at (q : Ck) (w : World) (h : szC q) : Calls Tryz.prog 34 #[.agg #[.int .i64 q.i, .string q.n, .string q.v, .string q.d, .string q.p, .bool q.ho, .bool q.sc, .bool q.ht, .int .i64 q.s, .int .i64 q.x, .int .i64 q.m, .int .i64 q.u]] w fun e w' => e = .returned (.bool (ckOK q)) ∧ Below w.heap.size w w' := specCkL q w h.1 h.2.1 h.2.2.1 h.2.2.2
theorem cmpI_neg (x y : Int) : cmpI x y < 0 ↔ x < y := by
  unfold cmpI
  split
  · simp_all
  · split <;> omega
theorem cmpI_zero (x y : Int) : cmpI x y = 0 ↔ x = y := by
  unfold cmpI
  split
  · omega
  · split <;> omega
theorem or_neg (x : Int) (l : List Int) : orL (x :: l) < 0 ↔ x < 0 ∨ (x = 0 ∧ orL l < 0) := by
  by_cases h : x = 0
  · rw [orL, if_neg (by simp [h])]
    simp [h]
  · rw [orL, if_pos h]
    simp [h]
theorem or_none : ¬ orL [] < 0 := by decide
theorem send_first (a b : Ck) : decide (sendI a b < 0) = firstB a b := by
  have h : sendI a b < 0 ↔ b.p.size < a.p.size ∨ (b.p.size = a.p.size ∧ (a.m < b.m ∨ (a.m = b.m ∧ a.i < b.i))) := by
    unfold sendI
    rw [or_neg, or_neg, or_neg, cmpI_neg, cmpI_neg, cmpI_neg, cmpI_zero, cmpI_zero, cmpI_zero]
    simp only [or_none, and_false, or_false]
    omega
  rw [Bool.eq_iff_iff, decide_eq_true_eq, h]
  unfold firstB
  split
  · rw [decide_eq_true_eq]
    omega
  · split
    · rw [decide_eq_true_eq]
      omega
    · rw [decide_eq_true_eq]
      omega
theorem oneI_neg (a b : Bool) : oneI a b < 0 ↔ a = true ∧ b = false := by cases a <;> cases b <;> decide
theorem oneI_zero (a b : Bool) : oneI a b = 0 ↔ a = b := by cases a <;> cases b <;> decide
theorem go_goes (now : Int) (a b : Ck) : decide (goI now a b < 0) = goesB a b now := by
  have h : goI now a b < 0 ↔ (decide (a.x ≤ now) = true ∧ decide (b.x ≤ now) = false) ∨ (decide (a.x ≤ now) = decide (b.x ≤ now) ∧ ((a.sc = false ∧ b.sc = true) ∨ (a.sc = b.sc ∧ (a.u < b.u ∨ (a.u = b.u ∧ a.i < b.i))))) := by
    unfold goI
    rw [or_neg, or_neg, or_neg, or_neg, cmpI_neg, cmpI_neg, cmpI_zero, cmpI_zero, oneI_neg, oneI_neg, oneI_zero, oneI_zero]
    simp only [or_none, and_false, or_false]
    have e1 : ((!a.sc) = true ∧ (!b.sc) = false) ↔ (a.sc = false ∧ b.sc = true) := by cases a.sc <;> cases b.sc <;> decide
    have e2 : ((!a.sc) = (!b.sc)) ↔ (a.sc = b.sc) := by cases a.sc <;> cases b.sc <;> decide
    rw [e1, e2]
  rw [Bool.eq_iff_iff, decide_eq_true_eq, h]
  unfold goesB
  generalize decide (a.x ≤ now) = x
  generalize decide (b.x ≤ now) = y
  generalize a.sc = p
  generalize b.sc = q
  have hu : (if a.u ≠ b.u then decide (a.u < b.u) else decide (a.i < b.i)) = true ↔ (a.u < b.u ∨ (a.u = b.u ∧ a.i < b.i)) := by
    split
    · rw [decide_eq_true_eq]
      omega
    · rw [decide_eq_true_eq]
      omega
  cases x <;> cases y <;> cases p <;> cases q <;> simp only [ne_eq, not_true_eq_false, not_false_eq_true, if_true, if_false, reduceCtorEq, true_and, false_and, and_false, and_true, false_or, or_false, or_true, iff_self, hu] <;> first | exact hu.symm | skip
set_option maxHeartbeats 2000000 in
set_option maxRecDepth 100000 in
theorem bothOK_any (a b : Ck) (w : World) (ha : szC a) (hb : szC b) (hT : TabAt w) : Calls Tryz.prog 36 #[.agg #[.int .i64 a.i, .string a.n, .string a.v, .string a.d, .string a.p, .bool a.ho, .bool a.sc, .bool a.ht, .int .i64 a.s, .int .i64 a.x, .int .i64 a.m, .int .i64 a.u], .agg #[.int .i64 b.i, .string b.n, .string b.v, .string b.d, .string b.p, .bool b.ho, .bool b.sc, .bool b.ht, .int .i64 b.s, .int .i64 b.x, .int .i64 b.m, .int .i64 b.u]] w fun e w' => e = .returned (.bool (ckOK a && ckOK b)) ∧ Below w.heap.size w w' := by
  have HT := Lib.hid hT
  have HA := Lib.hid ha
  have HB := Lib.hid hb
  clear hT ha hb
  have B0 : Hid (Below w.heap.size w ((w.alloc (.cells #[.int .i64 a.i, .string a.n, .string a.v, .string a.d, .string a.p, .bool a.ho, .bool a.sc, .bool a.ht, .int .i64 a.s, .int .i64 a.x, .int .i64 a.m, .int .i64 a.u] 26)).alloc (.cells #[.int .i64 b.i, .string b.n, .string b.v, .string b.d, .string b.p, .bool b.ho, .bool b.sc, .bool b.ht, .int .i64 b.s, .int .i64 b.x, .int .i64 b.m, .int .i64 b.u] 26))) := Lib.hid (((Below.refl _ _).alloc (Nat.le_refl _) _).alloc (by simp) _)
  have P0 := Lib.hid (two_new w a b)
  cases g : ckOK a with
  | false =>
    have G := Lib.hid g
    go_enter Tryz.func36, Tryz.ntmps36
    go_wp2_with fail
    refine (cookieOK_at a _ HA.out (HT.out.below B0.out)).mono ?_
    rintro e w1 ⟨rfl, hb⟩
    have B1 := Lib.hid (B0.out.trans (hb.mono B0.out.size))
    clear hb
    rw [g]
    clear g
    go_wp2_with fail
    go_ret
    exact ⟨rfl, B1.out⟩
  | true =>
    have G := Lib.hid g
    go_enter Tryz.func36, Tryz.ntmps36
    go_wp2_with fail
    refine (cookieOK_at a _ HA.out (HT.out.below B0.out)).mono ?_
    rintro e w1 ⟨rfl, hb⟩
    have B1 := Lib.hid (B0.out.trans (hb.mono B0.out.size))
    have P1 := Lib.hid (P0.out.stays hb)
    clear hb
    rw [g]
    clear g
    obtain ⟨d0, d1, d2, d3, d4, d5, d6, d7, d8, d9, d10, d11⟩ := P1.out.at
    go_wp2_with fail
    refine (cookieOK_at b _ HB.out (HT.out.below B1.out)).mono ?_
    rintro e w2 ⟨rfl, hb⟩
    have B2 := Lib.hid (B1.out.trans (hb.mono B1.out.size))
    clear hb
    go_wp2_with fail
    go_ret
    exact ⟨bool_end (by simp), B2.out⟩
theorem keyOf_any (q : Ck) (w : World) : Calls Tryz.prog 78 #[.agg #[.int .i64 q.i, .string q.n, .string q.v, .string q.d, .string q.p, .bool q.ho, .bool q.sc, .bool q.ht, .int .i64 q.s, .int .i64 q.x, .int .i64 q.m, .int .i64 q.u]] w fun e w' => e = .returned (.agg #[.string q.n, .string q.d, .string q.p, .bool q.ho]) ∧ Below w.heap.size w w' := by
  go_enter Tryz.func78, Tryz.ntmps78
  go_wp2_with fail
  refine bodyPost_ret (v := .agg #[.string q.n, .string q.d, .string q.p, .bool q.ho]) (by simp [results, Tryz.results78, go_sem]) rfl ⟨rfl, ((Below.refl _ _).alloc (Nat.le_refl _) _).alloc (by simp) _⟩
end Go.Proofs.YtcaabnnkjnleeaaGreatDoor
