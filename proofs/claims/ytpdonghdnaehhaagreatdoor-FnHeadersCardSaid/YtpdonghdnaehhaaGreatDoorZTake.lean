/- What a token becomes, of the program. -/
import Derived.Test.YtpdonghdnaehhaaGreatDoorZMonth
import Derived.Test.YtpdonghdnaehhaaGreatDoorZGg
namespace Go.Proofs.YtpdonghdnaehhaaGreatDoor
open Go.ChangeShapes Go.WideShapes Go.ChangeAt Go.WideMaps Go.WideElems Go.RowKit

structure Rd where
  t : Option (Int × Int × Int)
  d : Option Int
  m : Nat
  y : Option Int
def dayL (l : List UInt8) : Option Int := (leadL 1 2 l).map (·.1)
def yearL (l : List UInt8) : Option Int := (leadL 2 4 l).map (·.1)
/-- Each token is the first of time, day, month and year that it may be and that is not found yet. -/
def stepR (r : Rd) (l : List UInt8) : Rd :=
  if r.t.isNone && (timeL l).isSome then { r with t := timeL l }
  else if r.d.isNone && (dayL l).isSome then { r with d := dayL l }
  else if decide (r.m = 0) && decide (0 < monL l) then { r with m := monL l }
  else if r.y.isNone && (yearL l).isSome then { r with y := yearL l }
  else r
def fullY (n : Int) : Int := if n ≤ 69 then n + 2000 else if n ≤ 99 then n + 1900 else n
/-- The parts found, as bits. -/
def fnd (a b c d : Bool) : Int := (if a then 1 else 0) + (if b then 2 else 0) + (if c then 4 else 0) + (if d then 8 else 0)
theorem full_any (n : Int) (w : World) (h0 : 0 ≤ n) (h1 : n ≤ 9999) : Calls Tryz.prog 315 #[.int .i64 n] w fun e w' => e = .returned (.int .i64 (fullY n)) ∧ w = w' := by
  by_cases h : n ≤ 69
  · have HE : Hid (fullY n = n + 2000) := if_pos h
    go_enter Tryz.func315, Tryz.ntmps315
    go_wp2
    go_ret
    exact ⟨int_of (by rw [HE.out]; omega), rfl⟩
  · by_cases h2 : n ≤ 99
    · have HE : Hid (fullY n = n + 1900) := by show fullY n = _; rw [fullY, if_neg h, if_pos h2]
      go_enter Tryz.func315, Tryz.ntmps315
      go_wp2
      go_ret
      exact ⟨int_of HE.out.symm, rfl⟩
    · have HE : Hid (fullY n = n) := by show fullY n = _; rw [fullY, if_neg h, if_neg h2]
      go_enter Tryz.func315, Tryz.ntmps315
      go_wp2
      go_ret
      exact ⟨int_of HE.out.symm, rfl⟩
theorem fnd_and : ∀ a b c d : Bool, (bits BinOp.and IntKind.i64 (fnd a b c d) 1 == 0) = !a ∧ (bits BinOp.and IntKind.i64 (fnd a b c d) 2 == 0) = !b ∧ (bits BinOp.and IntKind.i64 (fnd a b c d) 4 == 0) = !c ∧ (bits BinOp.and IntKind.i64 (fnd a b c d) 8 == 0) = !d := by decide
theorem fnd_or : ∀ a b c d : Bool, bits BinOp.or IntKind.i64 (fnd a b c d) 1 = fnd true b c d ∧ bits BinOp.or IntKind.i64 (fnd a b c d) 2 = fnd a true c d ∧ bits BinOp.or IntKind.i64 (fnd a b c d) 4 = fnd a b true d ∧ bits BinOp.or IntKind.i64 (fnd a b c d) 8 = fnd a b c true := by decide
theorem lacks_any (B : Nat) (f p : Int) (w : World) (hc : w.cell? ⟨B, 6, none⟩ = some (.int .i64 f)) : Calls Tryz.prog 314 #[.pointer (some ⟨B, 0, none⟩), .int .i64 p] w fun e w' => e = .returned (.bool (bits BinOp.and IntKind.i64 f p == 0)) ∧ w = w' := by
  go_enter Tryz.func314, Tryz.ntmps314
  go_wp2_with fail
  go_ret
  exact ⟨rfl, rfl⟩
theorem lacks1 (B : Nat) (a b c d : Bool) (w : World) (hc : w.cell? ⟨B, 6, none⟩ = some (.int .i64 (fnd a b c d))) : Calls Tryz.prog 314 #[.pointer (some ⟨B, 0, none⟩), .int .i64 1] w fun e w' => e = .returned (.bool (!a)) ∧ w = w' := by
  have h := lacks_any B _ 1 w hc
  rw [(fnd_and a b c d).1] at h
  exact h
theorem lacks2 (B : Nat) (a b c d : Bool) (w : World) (hc : w.cell? ⟨B, 6, none⟩ = some (.int .i64 (fnd a b c d))) : Calls Tryz.prog 314 #[.pointer (some ⟨B, 0, none⟩), .int .i64 2] w fun e w' => e = .returned (.bool (!b)) ∧ w = w' := by
  have h := lacks_any B _ 2 w hc
  rw [(fnd_and a b c d).2.1] at h
  exact h
theorem lacks4 (B : Nat) (a b c d : Bool) (w : World) (hc : w.cell? ⟨B, 6, none⟩ = some (.int .i64 (fnd a b c d))) : Calls Tryz.prog 314 #[.pointer (some ⟨B, 0, none⟩), .int .i64 4] w fun e w' => e = .returned (.bool (!c)) ∧ w = w' := by
  have h := lacks_any B _ 4 w hc
  rw [(fnd_and a b c d).2.2.1] at h
  exact h
theorem lacks8 (B : Nat) (a b c d : Bool) (w : World) (hc : w.cell? ⟨B, 6, none⟩ = some (.int .i64 (fnd a b c d))) : Calls Tryz.prog 314 #[.pointer (some ⟨B, 0, none⟩), .int .i64 8] w fun e w' => e = .returned (.bool (!d)) ∧ w = w' := by
  have h := lacks_any B _ 8 w hc
  rw [(fnd_and a b c d).2.2.2] at h
  exact h
/-- The block B holds what was read so far. -/
def PD (w : World) (B : Nat) (y m d h n s f : Int) : Prop := w.heap[B]? = some (.cells #[.int .i64 y, .int .i64 m, .int .i64 d, .int .i64 h, .int .i64 n, .int .i64 s, .int .i64 f] 218 (0, 0))
theorem PD.at {w : World} {B : Nat} {y m d h n s f : Int} (hb : PD w B y m d h n s f) : w.cell? ⟨B, 0, none⟩ = some (.int .i64 y) ∧ w.cell? ⟨B, 1, none⟩ = some (.int .i64 m) ∧ w.cell? ⟨B, 2, none⟩ = some (.int .i64 d) ∧ w.cell? ⟨B, 3, none⟩ = some (.int .i64 h) ∧ w.cell? ⟨B, 4, none⟩ = some (.int .i64 n) ∧ w.cell? ⟨B, 5, none⟩ = some (.int .i64 s) ∧ w.cell? ⟨B, 6, none⟩ = some (.int .i64 f) := by
  unfold PD at hb
  refine ⟨?_, ?_, ?_, ?_, ?_, ?_, ?_⟩ <;> simp [World.cell?, hb]
theorem PD.free {w : World} {B : Nat} {y m d h n s f : Int} (hb : PD w B y m d h n s f) (i : Nat) : w.frozen? ⟨B, i, none⟩ = false := by
  unfold PD at hb
  simp [World.frozen?, hb]
theorem PD.lt {w : World} {B : Nat} {y m d h n s f : Int} (hb : PD w B y m d h n s f) : B < w.heap.size := (Array.getElem?_eq_some_iff.1 hb).1
theorem PD.below {w w' : World} {B : Nat} {y m d h n s f : Int} (hp : PD w B y m d h n s f) (hb : Below w.heap.size w w') : PD w' B y m d h n s f := (hb.block B hp.lt).trans hp
theorem PD.set0 {w : World} {B : Nat} {y m d h n s f : Int} (hb : PD w B y m d h n s f) (x : Int) : PD (w.setCell ⟨B, 0, none⟩ (.int .i64 x)) B x m d h n s f := heap_put hb 0 _
theorem PD.set1 {w : World} {B : Nat} {y m d h n s f : Int} (hb : PD w B y m d h n s f) (x : Int) : PD (w.setCell ⟨B, 1, none⟩ (.int .i64 x)) B y x d h n s f := heap_put hb 1 _
theorem PD.set2 {w : World} {B : Nat} {y m d h n s f : Int} (hb : PD w B y m d h n s f) (x : Int) : PD (w.setCell ⟨B, 2, none⟩ (.int .i64 x)) B y m x h n s f := heap_put hb 2 _
theorem PD.set3 {w : World} {B : Nat} {y m d h n s f : Int} (hb : PD w B y m d h n s f) (x : Int) : PD (w.setCell ⟨B, 3, none⟩ (.int .i64 x)) B y m d x n s f := heap_put hb 3 _
theorem PD.set4 {w : World} {B : Nat} {y m d h n s f : Int} (hb : PD w B y m d h n s f) (x : Int) : PD (w.setCell ⟨B, 4, none⟩ (.int .i64 x)) B y m d h x s f := heap_put hb 4 _
theorem PD.set5 {w : World} {B : Nat} {y m d h n s f : Int} (hb : PD w B y m d h n s f) (x : Int) : PD (w.setCell ⟨B, 5, none⟩ (.int .i64 x)) B y m d h n x f := heap_put hb 5 _
theorem PD.set6 {w : World} {B : Nat} {y m d h n s f : Int} (hb : PD w B y m d h n s f) (x : Int) : PD (w.setCell ⟨B, 6, none⟩ (.int .i64 x)) B y m d h n s x := heap_put hb 6 _
/-- What the program holds of the parts read. -/
def PR (w : World) (B : Nat) (r : Rd) : Prop :=
  PD w B ((r.y.map fullY).getD 0) r.m (r.d.getD 0) (r.t.getD (0, 0, 0)).1 (r.t.getD (0, 0, 0)).2.1 (r.t.getD (0, 0, 0)).2.2 (fnd r.t.isSome r.d.isSome (decide (0 < r.m)) r.y.isSome)
def TakePost (w : World) (B : Nat) (r : Rd) (w' : World) : Prop := PR w' B r ∧ w.grownBy w' (some B)
theorem ldN_range (lo hi : Nat) (s : ByteArray) (h4 : hi ≤ 4) : 0 ≤ ldN lo hi s ∧ ldN lo hi s ≤ 9999 := by
  cases h : leadL lo hi s.data.toList with
  | none => rw [(ld_none h).1]; omega
  | some x =>
    obtain ⟨n, r⟩ := x
    rw [(ld_some h).1]
    exact lead_num h h4
theorem grown_four {w w4 : World} {B : Nat} (hb : Below w.heap.size w w4) (i j k m : Nat) (a b c d : Value) : w.grownBy ((((w4.setCell ⟨B, i, none⟩ a).setCell ⟨B, j, none⟩ b).setCell ⟨B, k, none⟩ c).setCell ⟨B, m, none⟩ d) (some B) :=
  grown_then (grown_then (grown_then (grown_then (grown_of_below hb _) (grown_put _ _ _ _)) (grown_put _ _ _ _)) (grown_put _ _ _ _)) (grown_put _ _ _ _)
theorem grown_two {w w4 : World} {B : Nat} (hb : Below w.heap.size w w4) (i j : Nat) (a b : Value) : w.grownBy ((w4.setCell ⟨B, i, none⟩ a).setCell ⟨B, j, none⟩ b) (some B) :=
  grown_then (grown_then (grown_of_below hb _) (grown_put _ _ _ _)) (grown_put _ _ _ _)
/-- The step, said of what is found and of what the token may be. -/
theorem step_eq {r : Rd} {s : ByteArray} {T D M Y C A b2 b4 : Bool} (hT : r.t.isSome = T) (hD : r.d.isSome = D) (hM : decide (0 < r.m) = M) (hY : r.y.isSome = Y) (hC : decide (0 < monB s) = C) (hA : tmB s = A) (h2 : ldB 1 2 s = b2) (h4 : ldB 2 4 s = b4) :
    stepR r s.data.toList = if !T && A then { r with t := timeL s.data.toList } else if !D && b2 then { r with d := dayL s.data.toList } else if !M && C then { r with m := monB s } else if !Y && b4 then { r with y := yearL s.data.toList } else r := by
  have e1 : r.t.isNone = !T := by rw [← hT]; cases r.t <;> rfl
  have e2 : r.d.isNone = !D := by rw [← hD]; cases r.d <;> rfl
  have e3 : decide (r.m = 0) = !M := by rw [← hM, Bool.eq_iff_iff]; simp
  have e4 : r.y.isNone = !Y := by rw [← hY]; cases r.y <;> rfl
  have e5 : (timeL s.data.toList).isSome = A := hA
  have e6 : (dayL s.data.toList).isSome = b2 := by rw [← h2, dayL, Option.isSome_map]; rfl
  have e7 : decide (0 < monL s.data.toList) = C := hC
  have e8 : (yearL s.data.toList).isSome = b4 := by rw [← h4, yearL, Option.isSome_map]; rfl
  unfold stepR
  rw [e1, e2, e3, e4, e5, e6, e7, e8]
  rfl
theorem take_time {w w4 : World} {B : Nat} {r : Rd} {s : ByteArray} {T D M Y : Bool} {c0 c1 c2 : Int} (hp : PR w4 B r) (hb : Below w.heap.size w w4) (hD : r.d.isSome = D) (hM : decide (0 < r.m) = M) (hY : r.y.isSome = Y) (hA : tmB s = true) (hV : tmV s = (c0, c1, c2)) :
    TakePost w B { r with t := timeL s.data.toList } ((((w4.setCell ⟨B, 3, none⟩ (.int .i64 c0)).setCell ⟨B, 4, none⟩ (.int .i64 c1)).setCell ⟨B, 5, none⟩ (.int .i64 c2)).setCell ⟨B, 6, none⟩ (.int .i64 (bits BinOp.or .i64 (fnd T D M Y) 1))) := by
  refine ⟨?_, grown_four hb _ _ _ _ _ _ _ _⟩
  obtain ⟨x, hx⟩ := Option.isSome_iff_exists.1 hA
  have hv : x = (c0, c1, c2) := by rw [← hV, tmV, hx]
  subst hv
  have := (((PD.set3 hp c0).set4 c1).set5 c2).set6 (bits BinOp.or .i64 (fnd T D M Y) 1)
  rw [(fnd_or T D M Y).1] at this ⊢
  unfold PR
  simp only [hx, hD, hM, hY, Option.isSome_some, Option.getD_some]
  exact this
theorem take_day {w w4 : World} {B : Nat} {r : Rd} {s : ByteArray} {T D M Y : Bool} (hp : PR w4 B r) (hb : Below w.heap.size w w4) (hT : r.t.isSome = T) (hM : decide (0 < r.m) = M) (hY : r.y.isSome = Y) (hA : ldB 1 2 s = true) :
    TakePost w B { r with d := dayL s.data.toList } ((w4.setCell ⟨B, 2, none⟩ (.int .i64 (ldN 1 2 s))).setCell ⟨B, 6, none⟩ (.int .i64 (bits BinOp.or .i64 (fnd T D M Y) 2))) := by
  refine ⟨?_, grown_two hb _ _ _ _⟩
  obtain ⟨x, hx⟩ := Option.isSome_iff_exists.1 hA
  obtain ⟨n, q⟩ := x
  have hd : dayL s.data.toList = some (ldN 1 2 s) := by rw [(ld_some hx).1, dayL, hx]; rfl
  have := (PD.set2 hp (ldN 1 2 s)).set6 (bits BinOp.or .i64 (fnd T D M Y) 2)
  rw [(fnd_or T D M Y).2.1] at this ⊢
  unfold PR
  simp only [hd, hT, hM, hY, Option.isSome_some, Option.getD_some]
  exact this
theorem take_month {w w4 : World} {B : Nat} {r : Rd} {s : ByteArray} {T D M Y : Bool} (hp : PR w4 B r) (hb : Below w.heap.size w w4) (hT : r.t.isSome = T) (hD : r.d.isSome = D) (hY : r.y.isSome = Y) (hA : decide (0 < monB s) = true) :
    TakePost w B { r with m := monB s } ((w4.setCell ⟨B, 1, none⟩ (.int .i64 (monB s))).setCell ⟨B, 6, none⟩ (.int .i64 (bits BinOp.or .i64 (fnd T D M Y) 4))) := by
  refine ⟨?_, grown_two hb _ _ _ _⟩
  have := (PD.set1 hp (monB s)).set6 (bits BinOp.or .i64 (fnd T D M Y) 4)
  rw [(fnd_or T D M Y).2.2.1] at this ⊢
  unfold PR
  simp only [hT, hD, hY, hA]
  exact this
theorem take_year {w w4 : World} {B : Nat} {r : Rd} {s : ByteArray} {T D M Y : Bool} (hp : PR w4 B r) (hb : Below w.heap.size w w4) (hT : r.t.isSome = T) (hD : r.d.isSome = D) (hM : decide (0 < r.m) = M) (hA : ldB 2 4 s = true) :
    TakePost w B { r with y := yearL s.data.toList } ((w4.setCell ⟨B, 0, none⟩ (.int .i64 (fullY (ldN 2 4 s)))).setCell ⟨B, 6, none⟩ (.int .i64 (bits BinOp.or .i64 (fnd T D M Y) 8))) := by
  refine ⟨?_, grown_two hb _ _ _ _⟩
  obtain ⟨x, hx⟩ := Option.isSome_iff_exists.1 hA
  obtain ⟨n, q⟩ := x
  have hd : yearL s.data.toList = some (ldN 2 4 s) := by rw [(ld_some hx).1, yearL, hx]; rfl
  have := (PD.set0 hp (fullY (ldN 2 4 s))).set6 (bits BinOp.or .i64 (fnd T D M Y) 8)
  rw [(fnd_or T D M Y).2.2.2] at this ⊢
  unfold PR
  simp only [hd, hT, hD, hM, Option.isSome_some, Option.map_some, Option.getD_some]
  exact this
theorem leaf_time {w w4 : World} {B : Nat} {r : Rd} {s : ByteArray} {T D M Y C A b2 b4 : Bool} {c0 c1 c2 : Int} (hp : PR w4 B r) (hb : Below w.heap.size w w4) (H : r.t.isSome = T ∧ r.d.isSome = D ∧ decide (0 < r.m) = M ∧ r.y.isSome = Y ∧ decide (0 < monB s) = C ∧ tmB s = A ∧ ldB 1 2 s = b2 ∧ ldB 2 4 s = b4) (hV : tmV s = (c0, c1, c2)) (a1 : A = true) (a2 : (!T) = true) :
    TakePost w B (stepR r s.data.toList) ((((w4.setCell ⟨B, 3, none⟩ (.int .i64 c0)).setCell ⟨B, 4, none⟩ (.int .i64 c1)).setCell ⟨B, 5, none⟩ (.int .i64 c2)).setCell ⟨B, 6, none⟩ (.int .i64 (bits BinOp.or .i64 (fnd T D M Y) 1))) := by
  obtain ⟨hT, hD, hM, hY, hC, hA, h2, h4⟩ := H
  rw [step_eq hT hD hM hY hC hA h2 h4]
  rw [if_pos (by rw [a1, a2]; rfl)]
  exact take_time hp hb hD hM hY (hA.trans a1) hV
theorem leaf_day {w w4 : World} {B : Nat} {r : Rd} {s : ByteArray} {T D M Y C A b2 b4 : Bool} (hp : PR w4 B r) (hb : Below w.heap.size w w4) (H : r.t.isSome = T ∧ r.d.isSome = D ∧ decide (0 < r.m) = M ∧ r.y.isSome = Y ∧ decide (0 < monB s) = C ∧ tmB s = A ∧ ldB 1 2 s = b2 ∧ ldB 2 4 s = b4) (q1 : (!T && A) = false) (a1 : b2 = true) (a2 : (!D) = true) :
    TakePost w B (stepR r s.data.toList) ((w4.setCell ⟨B, 2, none⟩ (.int .i64 (ldN 1 2 s))).setCell ⟨B, 6, none⟩ (.int .i64 (bits BinOp.or .i64 (fnd T D M Y) 2))) := by
  obtain ⟨hT, hD, hM, hY, hC, hA, h2, h4⟩ := H
  rw [step_eq hT hD hM hY hC hA h2 h4]
  rw [q1, if_neg (by simp), if_pos (by rw [a1, a2]; rfl)]
  exact take_day hp hb hT hM hY (h2.trans a1)
theorem leaf_month {w w4 : World} {B : Nat} {r : Rd} {s : ByteArray} {T D M Y C A b2 b4 : Bool} (hp : PR w4 B r) (hb : Below w.heap.size w w4) (H : r.t.isSome = T ∧ r.d.isSome = D ∧ decide (0 < r.m) = M ∧ r.y.isSome = Y ∧ decide (0 < monB s) = C ∧ tmB s = A ∧ ldB 1 2 s = b2 ∧ ldB 2 4 s = b4) (q1 : (!T && A) = false) (q2 : (!D && b2) = false) (a1 : C = true) (a2 : (!M) = true) :
    TakePost w B (stepR r s.data.toList) ((w4.setCell ⟨B, 1, none⟩ (.int .i64 (monB s))).setCell ⟨B, 6, none⟩ (.int .i64 (bits BinOp.or .i64 (fnd T D M Y) 4))) := by
  obtain ⟨hT, hD, hM, hY, hC, hA, h2, h4⟩ := H
  rw [step_eq hT hD hM hY hC hA h2 h4]
  rw [q1, if_neg (by simp), q2, if_neg (by simp), if_pos (by rw [a1, a2]; rfl)]
  exact take_month hp hb hT hD hY (hC.trans a1)
theorem leaf_year {w w4 : World} {B : Nat} {r : Rd} {s : ByteArray} {T D M Y C A b2 b4 : Bool} (hp : PR w4 B r) (hb : Below w.heap.size w w4) (H : r.t.isSome = T ∧ r.d.isSome = D ∧ decide (0 < r.m) = M ∧ r.y.isSome = Y ∧ decide (0 < monB s) = C ∧ tmB s = A ∧ ldB 1 2 s = b2 ∧ ldB 2 4 s = b4) (q1 : (!T && A) = false) (q2 : (!D && b2) = false) (q3 : (!M && C) = false) (a1 : b4 = true) (a2 : (!Y) = true) :
    TakePost w B (stepR r s.data.toList) ((w4.setCell ⟨B, 0, none⟩ (.int .i64 (fullY (ldN 2 4 s)))).setCell ⟨B, 6, none⟩ (.int .i64 (bits BinOp.or .i64 (fnd T D M Y) 8))) := by
  obtain ⟨hT, hD, hM, hY, hC, hA, h2, h4⟩ := H
  rw [step_eq hT hD hM hY hC hA h2 h4]
  rw [q1, if_neg (by simp), q2, if_neg (by simp), q3, if_neg (by simp), if_pos (by rw [a1, a2]; rfl)]
  exact take_year hp hb hT hD hM (h4.trans a1)
theorem leaf_none {w w4 : World} {B : Nat} {r : Rd} {s : ByteArray} {T D M Y C A b2 b4 : Bool} (hp : PR w4 B r) (hb : Below w.heap.size w w4) (H : r.t.isSome = T ∧ r.d.isSome = D ∧ decide (0 < r.m) = M ∧ r.y.isSome = Y ∧ decide (0 < monB s) = C ∧ tmB s = A ∧ ldB 1 2 s = b2 ∧ ldB 2 4 s = b4) (q1 : (!T && A) = false) (q2 : (!D && b2) = false) (q3 : (!M && C) = false) (q4 : (!Y && b4) = false) :
    TakePost w B (stepR r s.data.toList) w4 := by
  obtain ⟨hT, hD, hM, hY, hC, hA, h2, h4⟩ := H
  rw [step_eq hT hD hM hY hC hA h2 h4]
  rw [q1, if_neg (by simp), q2, if_neg (by simp), q3, if_neg (by simp), q4, if_neg (by simp)]
  exact ⟨hp, grown_of_below hb _⟩
theorem and_no1 {a b : Bool} (h : a = false) : (a && b) = false := by rw [h]; rfl
theorem and_no2 {a b : Bool} (h : ¬ b = true) : (a && b) = false := by cases b <;> simp_all
theorem take_drew {w w4 : World} {B : Nat} {r : Rd} (h : TakePost w B r w4) : TakePost w B r w4.drew := ⟨h.1, grown_then h.2 ⟨rfl, rfl, rfl, Nat.le_refl _, fun _ _ _ => rfl⟩⟩
set_option maxHeartbeats 4000000 in
set_option maxRecDepth 100000 in
theorem take_any (B : Nat) (r : Rd) (s : ByteArray) (w : World) (hp : PR w B r) (hs : s.size ≤ 65536) (hT : TabAt w) (hM : MonthsAt w) (hX : MaxIs w) : Calls Tryz.prog 258 #[.pointer (some ⟨B, 0, none⟩), .string s] w fun e w' => e = .returned (.tuple #[]) ∧ TakePost w B (stepR r s.data.toList) w' := by
  have HT := Lib.hid hT
  have HMo := Lib.hid hM
  have HX := Lib.hid hX
  have HP := Lib.hid hp
  clear hT hM hX hp
  go_enter Tryz.func258, Tryz.ntmps258
  go_wp2_with fail
  refine (implTime s _ hs HT.out HX.out).mono ?_
  rintro e w1 ⟨rfl, hb⟩
  have HB1 := Lib.hid hb
  clear hb
  obtain ⟨c0, c1, c2, htm⟩ : ∃ a b c : Int, tmV s = (a, b, c) := ⟨_, _, _, rfl⟩
  rw [htm]
  have HTM := Lib.hid htm
  clear htm
  have HBA := Lib.hid (HB1.out.alloc HB1.out.size (.cells #[.int .i64 c0, .int .i64 c1, .int .i64 c2] 251))
  go_wp2_with fail
  refine (implLead12 s _ hs (HT.out.below HBA.out)).mono ?_
  rintro e w2 ⟨rfl, hb⟩
  have HC2 := Lib.hid ((Tri.new w1 c0 c1 c2).below hb)
  have HB2 := Lib.hid (HBA.out.trans (hb.mono HBA.out.size))
  clear hb
  go_wp2_with fail
  refine (implMonth s _ (HT.out.below HB2.out) (HMo.out.below HB2.out)).mono ?_
  rintro e w3 ⟨rfl, hb⟩
  have HC3 := Lib.hid (HC2.out.below hb)
  have HB3 := Lib.hid (HB2.out.trans (hb.mono HB2.out.size))
  clear hb
  go_wp2_with fail
  refine (implLead24 s _ hs (HT.out.below HB3.out)).mono ?_
  rintro e w4 ⟨rfl, hb⟩
  have hc4 := HC3.out.below hb
  have HC4 := Lib.hid hc4
  have HB4 := Lib.hid (HB3.out.trans (hb.mono HB3.out.size))
  have hpr : PR w4 B r := PD.below HP.out HB4.out
  have HP4 := Lib.hid hpr
  have hp4 := hpr
  unfold PR at hp4
  clear hpr
  obtain ⟨vy, hvy⟩ : ∃ v, (r.y.map fullY).getD 0 = v := ⟨_, rfl⟩
  obtain ⟨vd, hvd⟩ : ∃ v, r.d.getD 0 = v := ⟨_, rfl⟩
  obtain ⟨vh, hvh⟩ : ∃ v, (r.t.getD (0, 0, 0)).1 = v := ⟨_, rfl⟩
  obtain ⟨vn, hvn⟩ : ∃ v, (r.t.getD (0, 0, 0)).2.1 = v := ⟨_, rfl⟩
  obtain ⟨vs, hvs⟩ : ∃ v, (r.t.getD (0, 0, 0)).2.2 = v := ⟨_, rfl⟩
  rw [hvy, hvd, hvh, hvn, hvs] at hp4
  have f0 := hp4.free 0
  have f1 := hp4.free 1
  have f2 := hp4.free 2
  have f3 := hp4.free 3
  have f4 := hp4.free 4
  have f5 := hp4.free 5
  have f6 := hp4.free 6
  obtain ⟨g0, g1, g2, g3, g4, g5, g6⟩ := hp4.at
  obtain ⟨k0, k1, k2⟩ := hc4.at
  have hne : w1.heap.size ≠ B := Nat.ne_of_gt (Nat.lt_of_lt_of_le (PD.lt HP.out) HB1.out.size)
  obtain ⟨hy1, hy2⟩ := ldN_range 2 4 s (by omega)
  clear hvy hvd hvh hvn hvs
  clear hb hc4 hp4
  obtain ⟨T, hT⟩ : ∃ T, r.t.isSome = T := ⟨_, rfl⟩
  obtain ⟨D, hD⟩ : ∃ D, r.d.isSome = D := ⟨_, rfl⟩
  obtain ⟨M, hM⟩ : ∃ M, decide (0 < r.m) = M := ⟨_, rfl⟩
  obtain ⟨Y, hY⟩ : ∃ Y, r.y.isSome = Y := ⟨_, rfl⟩
  obtain ⟨C, hC⟩ : ∃ C, decide (0 < monB s) = C := ⟨_, rfl⟩
  obtain ⟨A, hA⟩ : ∃ A, tmB s = A := ⟨_, rfl⟩
  obtain ⟨b2, hb2⟩ : ∃ b2, ldB 1 2 s = b2 := ⟨_, rfl⟩
  obtain ⟨b4, hb4⟩ : ∃ b4, ldB 2 4 s = b4 := ⟨_, rfl⟩
  rw [hT, hD, hM, hY] at g6
  rw [hA, hb2, hC, hb4]
  have HH := Lib.hid (And.intro hT (And.intro hD (And.intro hM (And.intro hY (And.intro hC (And.intro hA (And.intro hb2 hb4)))))))
  clear hT hD hM hY hC hA hb2 hb4
  go_wp2_with (first | (go_at_call 315; refine (full_any _ _ hy1 hy2).mono ?_; rintro e w' ⟨rfl, rfl⟩) | (go_at_call 314; first
    | (with_reducible (refine (lacks1 B T D M Y _ g6).mono ?_); rintro e w' ⟨rfl, rfl⟩)
    | (with_reducible (refine (lacks2 B T D M Y _ g6).mono ?_); rintro e w' ⟨rfl, rfl⟩)
    | (with_reducible (refine (lacks4 B T D M Y _ g6).mono ?_); rintro e w' ⟨rfl, rfl⟩)
    | (with_reducible (refine (lacks8 B T D M Y _ g6).mono ?_); rintro e w' ⟨rfl, rfl⟩)))
  · clear HT HMo HX HBA HC2 HC3 HB1 HB2 HB3 g0 g1 g2
    go_region
    go_wp2_with fail
    refine bodyPost_end (v := .tuple #[]) (by simp [results, Tryz.results258, go_sem]) rfl ⟨rfl, ?_⟩
    refine take_drew ?_
    (with_reducible refine leaf_time HP4.out HB4.out HH.out HTM.out ?_ ?_) <;> first | assumption | (refine and_no2 ?_; assumption) | (refine and_no1 ?_; assumption)
  all_goals refine bodyPost_end (v := .tuple #[]) (by simp [results, Tryz.results258, go_sem]) rfl ⟨rfl, ?_⟩
  all_goals clear HT HMo HX HBA HC2 HC3 HB1 HB2 HB3 f0 f1 f2 f3 f4 f5 f6 g0 g1 g2 g3 g4 g5 g6 k0 k1 k2
  all_goals first
    | ((with_reducible refine leaf_day HP4.out HB4.out HH.out ?_ ?_ ?_) <;> first | assumption | (refine and_no2 ?_; assumption) | (refine and_no1 ?_; assumption))
    | ((with_reducible refine leaf_month HP4.out HB4.out HH.out ?_ ?_ ?_ ?_) <;> first | assumption | (refine and_no2 ?_; assumption) | (refine and_no1 ?_; assumption))
    | ((with_reducible refine leaf_year HP4.out HB4.out HH.out ?_ ?_ ?_ ?_ ?_) <;> first | assumption | (refine and_no2 ?_; assumption) | (refine and_no1 ?_; assumption))
    | ((with_reducible refine leaf_none HP4.out HB4.out HH.out ?_ ?_ ?_ ?_) <;> first | assumption | (refine and_no2 ?_; assumption) | (refine and_no1 ?_; assumption))
end Go.Proofs.YtpdonghdnaehhaaGreatDoor
