/- The orders of the program: cmp.Compare and cmp.Or, the sending order and the order in which cookies go. No condition of its own. -/
import Derived.Test.YtpdonghdnaehhaaGreatDoorYCkBlk
import Derived.Test.YtpdonghdnaehhaaGreatDoorQuietTail
import Derived.Test.YtpdonghdnaehhaaGreatDoorBelowCls
import Derived.BigQuiet
import Derived.Deep.DeepCutAuto
namespace Go.Proofs.YtpdonghdnaehhaaGreatDoor
open Go.ChangeShapes Go.WideShapes Go.ChangeAt Go.WideMaps Go.WideElems Go.RowKit

def cmpI (x y : Int) : Int := if x < y then -1 else if y < x then 1 else 0
def orL : List Int → Int
  | [] => 0
  | x :: l => if x ≠ 0 then x else orL l
theorem isNaN_any (x : Int) (w : World) : Calls Tryz.prog 266 #[.int .i64 x] w fun e w' => e = .returned (.bool false) ∧ w = w' := by
  have h : (x != x) = false := by simp
  go_enter Tryz.func266, Tryz.ntmps266
  go_wp2_with fail
  go_ret
  exact ⟨rfl, rfl⟩
theorem compare_any (x y : Int) (w : World) : Calls Tryz.prog 194 #[.int .i64 x, .int .i64 y] w fun e w' => e = .returned (.int .i64 (cmpI x y)) ∧ w = w' := by
  by_cases h1 : x < y
  · have HE : Hid (cmpI x y = -1) := Lib.hid (by unfold cmpI; rw [if_pos h1])
    go_enter Tryz.func194, Tryz.ntmps194
    go_wp2_with (go_at_call 266; refine (isNaN_any _ _).mono ?_; rintro e w' ⟨rfl, rfl⟩)
    go_ret
    exact ⟨by rw [HE.out]; rfl, rfl⟩
  · by_cases h2 : y < x
    · have HE : Hid (cmpI x y = 1) := Lib.hid (by unfold cmpI; rw [if_neg h1, if_pos h2])
      go_enter Tryz.func194, Tryz.ntmps194
      go_wp2_with (go_at_call 266; refine (isNaN_any _ _).mono ?_; rintro e w' ⟨rfl, rfl⟩)
      go_ret
      exact ⟨by rw [HE.out]; rfl, rfl⟩
    · have HE : Hid (cmpI x y = 0) := Lib.hid (by unfold cmpI; rw [if_neg h1, if_neg h2])
      go_enter Tryz.func194, Tryz.ntmps194
      go_wp2_with (go_at_call 266; refine (isNaN_any _ _).mono ?_; rintro e w' ⟨rfl, rfl⟩)
      go_ret
      exact ⟨by rw [HE.out]; rfl, rfl⟩
/-- A row of numbers. -/
def IntsAt (w : World) (B : Nat) (zs : List Int) : Prop := ∀ j (hj : j < zs.length), w.cell? ⟨B, j, none⟩ = some (.int .i64 zs[j])
theorem orL_skip {zs : List Int} {k : Nat} (h : ∀ j (hj : j < zs.length), j < k → zs[j] = 0) (hk : k ≤ zs.length) : orL zs = orL (zs.drop k) := by
  induction k with
  | zero => rfl
  | succ k ih =>
    rw [ih (fun j hj hjk => h j hj (by omega)) (by omega), List.drop_eq_getElem_cons (by omega : k < zs.length), orL, if_neg (by simp [h k (by omega) (by omega)])]
theorem or_any (zs : List Int) (B : Nat) (w : World) (hl : zs.length ≤ 100) (hz : IntsAt w B zs) : Calls Tryz.prog 193 #[.slice (some ⟨B, 0, none⟩) zs.length zs.length] w fun e w' => e = .returned (.int .i64 (orL zs)) ∧ w = w' := by
  have HZ := Lib.hid hz
  clear hz
  go_enter Tryz.func193, Tryz.ntmps193
  go_wp2_with fail
  go_loop [8] (fun i => ∃ k : Nat, k ≤ zs.length ∧ i = .int .i64 k ∧ ∀ j (hj : j < zs.length), j < k → zs[j] = 0) (fun i => zs.length - (intOf i).toNat)
  case atStart => exact ⟨0, Nat.zero_le _, rfl, fun j _ h => by omega⟩
  case round =>
    obtain ⟨k, hk, rfl, hup⟩ := hrel
    have HU := Lib.hid hup
    clear hup
    by_cases hlt : k < zs.length
    · have hki : (k : Int) < zs.length := by omega
      have c0 := HZ.out k hlt
      by_cases h0 : zs[k] = 0
      · have h0' : (zs[k] != 0) = false := by rw [h0]; rfl
        have H0 := Lib.hid h0
        clear h0
        go_wp2_with fail
        go_round
        case rel =>
          refine ⟨k + 1, by omega, by go_num, fun j hj hjk => ?_⟩
          by_cases e : j = k
          · subst e
            exact H0.out
          · exact HU.out j hj (by omega)
        case measure => simp [intOf]; omega
      · have h0' : (zs[k] != 0) = true := by simpa using h0
        have HE : Hid (orL zs = zs[k]) := Lib.hid (by rw [orL_skip HU.out hk, List.drop_eq_getElem_cons hlt, orL, if_pos h0])
        clear h0
        go_wp2_with fail
        go_ret
        exact ⟨by rw [HE.out]; rfl, rfl⟩
    · obtain rfl : k = zs.length := by omega
      have HE : Hid (orL zs = 0) := Lib.hid (by rw [orL_skip HU.out hk, List.drop_of_length_le (Nat.le_refl _)]; rfl)
      go_wp2_with fail
      go_ret
      exact ⟨by rw [HE.out]; rfl, rfl⟩
def oneI (a b : Bool) : Int := if a && !b then -1 else if b && !a then 1 else 0
theorem onlyOne_any (a b : Bool) (w : World) : Calls Tryz.prog 196 #[.bool a, .bool b] w fun e w' => e = .returned (.int .i64 (oneI a b)) ∧ w = w' := by
  cases a <;> cases b
  all_goals
    go_enter Tryz.func196, Tryz.ntmps196
    go_wp2_with fail
    go_ret
    exact ⟨rfl, rfl⟩
theorem expired_any (now : Int) (q : Ck) (w : World) : Calls Tryz.prog 197 #[.int .i64 now, .agg #[.int .i64 q.i, .string q.n, .string q.v, .string q.d, .string q.p, .bool q.ho, .bool q.sc, .bool q.ht, .int .i64 q.s, .int .i64 q.x, .int .i64 q.m, .int .i64 q.u]] w fun e w' => e = .returned (.bool (decide (q.x ≤ now))) ∧ Below w.heap.size w w' := by
  go_enter Tryz.func197, Tryz.ntmps197
  go_wp2_with fail
  go_ret
  exact ⟨rfl, (Below.refl _ _).alloc (Nat.le_refl _) _⟩
def sendI (a b : Ck) : Int := orL [cmpI b.p.size a.p.size, cmpI a.m b.m, cmpI a.i b.i]
def goI (now : Int) (a b : Ck) : Int := orL [oneI (decide (a.x ≤ now)) (decide (b.x ≤ now)), oneI (!a.sc) (!b.sc), cmpI a.u b.u, cmpI a.i b.i]
theorem ints_new (w : World) (zs : List Int) (t : TypeId) : IntsAt (w.alloc (.cells (zs.map fun z => Value.int .i64 z).toArray t)) w.heap.size zs := by
  intro j hj
  rw [World.cell?_alloc_at _ _ _ _ rfl]
  simp [hj]
theorem or3_any (x y z : Int) (w : World) : Calls Tryz.prog 193 #[.slice (some ⟨w.heap.size, 0, none⟩) 3 3] (w.alloc (.cells #[.int .i64 x, .int .i64 y, .int .i64 z] 3)) fun e w' => e = .returned (.int .i64 (orL [x, y, z])) ∧ w.alloc (.cells #[.int .i64 x, .int .i64 y, .int .i64 z] 3) = w' := or_any [x, y, z] w.heap.size _ (by simp) (ints_new w [x, y, z] 3)
theorem or4_any (x y z u : Int) (w : World) : Calls Tryz.prog 193 #[.slice (some ⟨w.heap.size, 0, none⟩) 4 4] (w.alloc (.cells #[.int .i64 x, .int .i64 y, .int .i64 z, .int .i64 u] 3)) fun e w' => e = .returned (.int .i64 (orL [x, y, z, u])) ∧ w.alloc (.cells #[.int .i64 x, .int .i64 y, .int .i64 z, .int .i64 u] 3) = w' := or_any [x, y, z, u] w.heap.size _ (by simp) (ints_new w [x, y, z, u] 3)
theorem two_new (w : World) (a b : Ck) : CkB ((w.alloc (.cells #[.int .i64 a.i, .string a.n, .string a.v, .string a.d, .string a.p, .bool a.ho, .bool a.sc, .bool a.ht, .int .i64 a.s, .int .i64 a.x, .int .i64 a.m, .int .i64 a.u] 41)).alloc (.cells #[.int .i64 b.i, .string b.n, .string b.v, .string b.d, .string b.p, .bool b.ho, .bool b.sc, .bool b.ht, .int .i64 b.s, .int .i64 b.x, .int .i64 b.m, .int .i64 b.u] 41)) (w.heap.size + 1) b := by
  have h := CkB.new (w.alloc (.cells #[.int .i64 a.i, .string a.n, .string a.v, .string a.d, .string a.p, .bool a.ho, .bool a.sc, .bool a.ht, .int .i64 a.s, .int .i64 a.x, .int .i64 a.m, .int .i64 a.u] 41)) b
  rwa [show (w.alloc (.cells #[.int .i64 a.i, .string a.n, .string a.v, .string a.d, .string a.p, .bool a.ho, .bool a.sc, .bool a.ht, .int .i64 a.s, .int .i64 a.x, .int .i64 a.m, .int .i64 a.u] 41)).heap.size = w.heap.size + 1 by simp] at h
set_option maxHeartbeats 4000000 in
set_option maxRecDepth 100000 in
theorem sending_any (a b : Ck) (w : World) : Calls Tryz.prog 95 #[.agg #[.int .i64 a.i, .string a.n, .string a.v, .string a.d, .string a.p, .bool a.ho, .bool a.sc, .bool a.ht, .int .i64 a.s, .int .i64 a.x, .int .i64 a.m, .int .i64 a.u], .agg #[.int .i64 b.i, .string b.n, .string b.v, .string b.d, .string b.p, .bool b.ho, .bool b.sc, .bool b.ht, .int .i64 b.s, .int .i64 b.x, .int .i64 b.m, .int .i64 b.u]] w fun e w' => e = .returned (.int .i64 (sendI a b)) ∧ Below w.heap.size w w' := by
  have hN : Nonempty (BCl ((w.alloc (.cells #[.int .i64 a.i, .string a.n, .string a.v, .string a.d, .string a.p, .bool a.ho, .bool a.sc, .bool a.ht, .int .i64 a.s, .int .i64 a.x, .int .i64 a.m, .int .i64 a.u] 41)).alloc (.cells #[.int .i64 b.i, .string b.n, .string b.v, .string b.d, .string b.p, .bool b.ho, .bool b.sc, .bool b.ht, .int .i64 b.s, .int .i64 b.x, .int .i64 b.m, .int .i64 b.u] 41))) := BCl.full _
  have HB : Hid (Below w.heap.size w ((w.alloc (.cells #[.int .i64 a.i, .string a.n, .string a.v, .string a.d, .string a.p, .bool a.ho, .bool a.sc, .bool a.ht, .int .i64 a.s, .int .i64 a.x, .int .i64 a.m, .int .i64 a.u] 41)).alloc (.cells #[.int .i64 b.i, .string b.n, .string b.v, .string b.d, .string b.p, .bool b.ho, .bool b.sc, .bool b.ht, .int .i64 b.s, .int .i64 b.x, .int .i64 b.m, .int .i64 b.u] 41))) := Lib.hid (((Below.refl _ _).alloc (Nat.le_refl _) _).alloc (by simp) _)
  obtain ⟨c0, c1, c2, c3, c4, c5, c6, c7, c8, c9, c10, c11⟩ := ((CkB.new w a).alloc (.cells #[.int .i64 b.i, .string b.n, .string b.v, .string b.d, .string b.p, .bool b.ho, .bool b.sc, .bool b.ht, .int .i64 b.s, .int .i64 b.x, .int .i64 b.m, .int .i64 b.u] 41)).at
  have hB : CkB ((w.alloc (.cells #[.int .i64 a.i, .string a.n, .string a.v, .string a.d, .string a.p, .bool a.ho, .bool a.sc, .bool a.ht, .int .i64 a.s, .int .i64 a.x, .int .i64 a.m, .int .i64 a.u] 41)).alloc (.cells #[.int .i64 b.i, .string b.n, .string b.v, .string b.d, .string b.p, .bool b.ho, .bool b.sc, .bool b.ht, .int .i64 b.s, .int .i64 b.x, .int .i64 b.m, .int .i64 b.u] 41)) (w.heap.size + 1) b := two_new w a b
  obtain ⟨d0, d1, d2, d3, d4, d5, d6, d7, d8, d9, d10, d11⟩ := hB.at
  have q0 := BCl.cell c0
  have q1 := BCl.cell c1
  have q2 := BCl.cell c2
  have q3 := BCl.cell c3
  have q4 := BCl.cell c4
  have q5 := BCl.cell c5
  have q6 := BCl.cell c6
  have q7 := BCl.cell c7
  have q8 := BCl.cell c8
  have q9 := BCl.cell c9
  have q10 := BCl.cell c10
  have q11 := BCl.cell c11
  have r0 := BCl.cell d0
  have r1 := BCl.cell d1
  have r2 := BCl.cell d2
  have r3 := BCl.cell d3
  have r4 := BCl.cell d4
  have r5 := BCl.cell d5
  have r6 := BCl.cell d6
  have r7 := BCl.cell d7
  have r8 := BCl.cell d8
  have r9 := BCl.cell d9
  have r10 := BCl.cell d10
  have r11 := BCl.cell d11
  clear hB c0 c1 c2 c3 c4 c5 c6 c7 c8 c9 c10 c11 d0 d1 d2 d3 d4 d5 d6 d7 d8 d9 d10 d11
  go_enter Tryz.func95, Tryz.ntmps95
  go_upto_region 1 with fail
  refine wp_region_quiet_tail 17 (fun w' => ∃ i : BCl ((w.alloc (.cells #[.int .i64 a.i, .string a.n, .string a.v, .string a.d, .string a.p, .bool a.ho, .bool a.sc, .bool a.ht, .int .i64 a.s, .int .i64 a.x, .int .i64 a.m, .int .i64 a.u] 41)).alloc (.cells #[.int .i64 b.i, .string b.n, .string b.v, .string b.d, .string b.p, .bool b.ho, .bool b.sc, .bool b.ht, .int .i64 b.s, .int .i64 b.x, .int .i64 b.m, .int .i64 b.u] 41)), w' = i.w) (by kernel_rfl) (by kernel_rfl) (BCl.start _) ?_
  simp only [List.take_succ_cons, List.take_zero, List.drop_succ_cons, List.drop_zero]
  repeat (go_big_quiet_step (first | (go_at_call 194; rename_i i; with_reducible refine (compare_any _ _ i.w).mono ?_; intro e w' h; exact ⟨h.1, i.same h.2⟩)))
  refine wpQuiet_nil ?_
  intro _ hw'
  obtain ⟨i, rfl⟩ := hw'
  clear q0 q1 q2 q3 q4 q5 q6 q7 q8 q9 q10 q11 r0 r1 r2 r3 r4 r5 r6 r7 r8 r9 r10 r11
  go_wp2_with (go_at_call 193; refine (or3_any _ _ _ _).mono ?_; rintro e w' ⟨rfl, rfl⟩)
  go_ret
  exact ⟨rfl, (HB.out.trans (i.below.mono HB.out.size)).alloc (by have := i.below.size; have := HB.out.size; omega) _⟩
set_option maxHeartbeats 8000000 in
set_option maxRecDepth 100000 in
theorem going_any (now : Int) (a b : Ck) (w : World) : Calls Tryz.prog 98 #[.int .i64 now, .agg #[.int .i64 a.i, .string a.n, .string a.v, .string a.d, .string a.p, .bool a.ho, .bool a.sc, .bool a.ht, .int .i64 a.s, .int .i64 a.x, .int .i64 a.m, .int .i64 a.u], .agg #[.int .i64 b.i, .string b.n, .string b.v, .string b.d, .string b.p, .bool b.ho, .bool b.sc, .bool b.ht, .int .i64 b.s, .int .i64 b.x, .int .i64 b.m, .int .i64 b.u]] w fun e w' => e = .returned (.int .i64 (goI now a b)) ∧ Below w.heap.size w w' := by
  have hN : Nonempty (BCl ((w.alloc (.cells #[.int .i64 a.i, .string a.n, .string a.v, .string a.d, .string a.p, .bool a.ho, .bool a.sc, .bool a.ht, .int .i64 a.s, .int .i64 a.x, .int .i64 a.m, .int .i64 a.u] 41)).alloc (.cells #[.int .i64 b.i, .string b.n, .string b.v, .string b.d, .string b.p, .bool b.ho, .bool b.sc, .bool b.ht, .int .i64 b.s, .int .i64 b.x, .int .i64 b.m, .int .i64 b.u] 41))) := BCl.full _
  have HB : Hid (Below w.heap.size w ((w.alloc (.cells #[.int .i64 a.i, .string a.n, .string a.v, .string a.d, .string a.p, .bool a.ho, .bool a.sc, .bool a.ht, .int .i64 a.s, .int .i64 a.x, .int .i64 a.m, .int .i64 a.u] 41)).alloc (.cells #[.int .i64 b.i, .string b.n, .string b.v, .string b.d, .string b.p, .bool b.ho, .bool b.sc, .bool b.ht, .int .i64 b.s, .int .i64 b.x, .int .i64 b.m, .int .i64 b.u] 41))) := Lib.hid (((Below.refl _ _).alloc (Nat.le_refl _) _).alloc (by simp) _)
  obtain ⟨c0, c1, c2, c3, c4, c5, c6, c7, c8, c9, c10, c11⟩ := ((CkB.new w a).alloc (.cells #[.int .i64 b.i, .string b.n, .string b.v, .string b.d, .string b.p, .bool b.ho, .bool b.sc, .bool b.ht, .int .i64 b.s, .int .i64 b.x, .int .i64 b.m, .int .i64 b.u] 41)).at
  have hB : CkB ((w.alloc (.cells #[.int .i64 a.i, .string a.n, .string a.v, .string a.d, .string a.p, .bool a.ho, .bool a.sc, .bool a.ht, .int .i64 a.s, .int .i64 a.x, .int .i64 a.m, .int .i64 a.u] 41)).alloc (.cells #[.int .i64 b.i, .string b.n, .string b.v, .string b.d, .string b.p, .bool b.ho, .bool b.sc, .bool b.ht, .int .i64 b.s, .int .i64 b.x, .int .i64 b.m, .int .i64 b.u] 41)) (w.heap.size + 1) b := two_new w a b
  obtain ⟨d0, d1, d2, d3, d4, d5, d6, d7, d8, d9, d10, d11⟩ := hB.at
  have q0 := BCl.cell c0
  have q1 := BCl.cell c1
  have q2 := BCl.cell c2
  have q3 := BCl.cell c3
  have q4 := BCl.cell c4
  have q5 := BCl.cell c5
  have q6 := BCl.cell c6
  have q7 := BCl.cell c7
  have q8 := BCl.cell c8
  have q9 := BCl.cell c9
  have q10 := BCl.cell c10
  have q11 := BCl.cell c11
  have r0 := BCl.cell d0
  have r1 := BCl.cell d1
  have r2 := BCl.cell d2
  have r3 := BCl.cell d3
  have r4 := BCl.cell d4
  have r5 := BCl.cell d5
  have r6 := BCl.cell d6
  have r7 := BCl.cell d7
  have r8 := BCl.cell d8
  have r9 := BCl.cell d9
  have r10 := BCl.cell d10
  have r11 := BCl.cell d11
  clear hB c0 c1 c2 c3 c4 c5 c6 c7 c8 c9 c10 c11 d0 d1 d2 d3 d4 d5 d6 d7 d8 d9 d10 d11
  go_enter Tryz.func98, Tryz.ntmps98
  go_upto_region 1 with fail
  refine wp_region_quiet_tail 24 (fun w' => ∃ i : BCl ((w.alloc (.cells #[.int .i64 a.i, .string a.n, .string a.v, .string a.d, .string a.p, .bool a.ho, .bool a.sc, .bool a.ht, .int .i64 a.s, .int .i64 a.x, .int .i64 a.m, .int .i64 a.u] 41)).alloc (.cells #[.int .i64 b.i, .string b.n, .string b.v, .string b.d, .string b.p, .bool b.ho, .bool b.sc, .bool b.ht, .int .i64 b.s, .int .i64 b.x, .int .i64 b.m, .int .i64 b.u] 41)), w' = i.w) (by kernel_rfl) (by kernel_rfl) (BCl.start _) ?_
  simp only [List.take_succ_cons, List.take_zero, List.drop_succ_cons, List.drop_zero]
  repeat (go_big_quiet_step (first
    | (go_at_call 194; rename_i i; with_reducible refine (compare_any _ _ i.w).mono ?_; intro e w' h; exact ⟨h.1, i.same h.2⟩)
    | (go_at_call 196; rename_i i; with_reducible refine (onlyOne_any _ _ i.w).mono ?_; intro e w' h; exact ⟨h.1, i.same h.2⟩)
    | (go_at_call 197; rename_i i; with_reducible refine (expired_any now a i.w).mono ?_; intro e w' h; exact ⟨h.1, i.next h.2⟩)
    | (go_at_call 197; rename_i i; with_reducible refine (expired_any now b i.w).mono ?_; intro e w' h; exact ⟨h.1, i.next h.2⟩)))
  refine wpQuiet_nil ?_
  intro _ hw'
  obtain ⟨i, rfl⟩ := hw'
  clear q0 q1 q2 q3 q4 q5 q6 q7 q8 q9 q10 q11 r0 r1 r2 r3 r4 r5 r6 r7 r8 r9 r10 r11
  go_wp2_with (go_at_call 193; refine (or4_any _ _ _ _ _).mono ?_; rintro e w' ⟨rfl, rfl⟩)
  go_ret
  exact ⟨rfl, (HB.out.trans (i.below.mono HB.out.size)).alloc (by have := i.below.size; have := HB.out.size; omega) _⟩
end Go.Proofs.YtpdonghdnaehhaaGreatDoor
