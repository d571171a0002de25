/- DateOf of the model, and the walks of the laws on DateOK, Seconds, DateOf and Weekday. No condition of its own. -/
import Derived.Test.YtgokolgknendiaaDateOf
import Derived.Test.YtgokolgknendiaaDateArg
namespace Go.Proofs.Ytgokolgknendiaa
open Go.ChangeShapes Go.WideShapes Go.ChangeAt Go.WideMaps Go.WideElems Go.RowKit

theorem below_step {w a b : World} (h : Below w.heap.size w a) (h2 : Below a.heap.size a b) : Below w.heap.size w b := h.trans (h2.mono h.size)
theorem six_at {w : World} {B : Nat} {T : TypeId} {y m d h n s : Int} (hb : w.heap[B]? = some (.cells #[.int .i64 y, .int .i64 m, .int .i64 d, .int .i64 h, .int .i64 n, .int .i64 s] T (0, 0))) : w.cell? ⟨B, 0, none⟩ = some (.int .i64 y) ∧ w.cell? ⟨B, 1, none⟩ = some (.int .i64 m) ∧ w.cell? ⟨B, 2, none⟩ = some (.int .i64 d) ∧ w.cell? ⟨B, 3, none⟩ = some (.int .i64 h) ∧ w.cell? ⟨B, 4, none⟩ = some (.int .i64 n) ∧ w.cell? ⟨B, 5, none⟩ = some (.int .i64 s) := by
  refine ⟨?_, ?_, ?_, ?_, ?_, ?_⟩ <;> simp [World.cell?, hb]
/-- The block just made, seen behind a call. -/
theorem six_new {w w2 : World} {T : TypeId} {y m d h n s : Int} (hb : Below (w.alloc (.cells #[.int .i64 y, .int .i64 m, .int .i64 d, .int .i64 h, .int .i64 n, .int .i64 s] T)).heap.size (w.alloc (.cells #[.int .i64 y, .int .i64 m, .int .i64 d, .int .i64 h, .int .i64 n, .int .i64 s] T)) w2) :
    (w.heap.size < w2.heap.size) ∧ w2.cell? ⟨w.heap.size, 0, none⟩ = some (.int .i64 y) ∧ w2.cell? ⟨w.heap.size, 1, none⟩ = some (.int .i64 m) ∧ w2.cell? ⟨w.heap.size, 2, none⟩ = some (.int .i64 d) ∧ w2.cell? ⟨w.heap.size, 3, none⟩ = some (.int .i64 h) ∧ w2.cell? ⟨w.heap.size, 4, none⟩ = some (.int .i64 n) ∧ w2.cell? ⟨w.heap.size, 5, none⟩ = some (.int .i64 s) :=
  ⟨by have := hb.size; simp at this; omega, six_at ((hb.block w.heap.size (by simp)).trans (heap_alloc_new w _))⟩
theorem ok_first : okB ⟨1601, 1, 1, 0, 0, 0⟩ = true := by decide
theorem ok_last : okB ⟨9999, 12, 31, 0, 0, 0⟩ = true := by decide
theorem secs_first : secsN ⟨1601, 1, 1, 0, 0, 0⟩ = -11644473600 := by decide
theorem secs_last : secsN ⟨9999, 12, 31, 0, 0, 0⟩ = 253402214400 := by decide
theorem specDateIn (n : Int) (w : World) (h1 : -11644473600 ≤ n) (h2 : n ≤ 253402300799) : Calls Try.prog 18 #[.int .i64 n] w (DatePost w n) := by
  have hin : inB n (-11644473600) 253402300799 = true := in_iff.2 ⟨h1, h2⟩
  have HI := Lib.hid hin
  clear hin
  go_enter Try.func18, Try.ntmps18
  go_wp2_with fail
  refine (specSecsL 1601 1 1 0 0 0 _ ok_first).mono ?_
  rintro e w1 ⟨rfl, hb⟩
  rw [secs_first]
  have hres : Blk w1 w.heap.size 0 0 0 0 0 0 := (hb.block w.heap.size (by simp)).trans (Blk.new w 0 0 0 0 0 0)
  have HR1 := Lib.hid hres
  have HB1 := Lib.hid (((Below.refl w.heap.size w).alloc (Nat.le_refl _) _).trans (hb.mono (by simp)))
  clear hb hres
  go_wp2_with fail
  refine (specSecsL 9999 12 31 0 0 0 _ ok_last).mono ?_
  rintro e w2 ⟨rfl, hb⟩
  rw [secs_last]
  have hres : Blk w2 w.heap.size 0 0 0 0 0 0 := (hb.block w.heap.size HR1.out.lt).trans HR1.out
  have HR2 := Lib.hid hres
  have HB2 := Lib.hid (HB1.out.trans (hb.mono HB1.out.size))
  clear hb hres
  go_wp2_with fail
  refine (in_any _ _ _ _).mono ?_
  rintro e w' ⟨rfl, rfl⟩
  rw [HI.out]
  go_wp2_with fail
  refine (specOf (n + 11644473600) _ (by omega) (by omega)).mono ?_
  rintro e w3 ⟨y, m, d, h, q, s, hdate, rfl, hb⟩
  have HD := Lib.hid hdate
  have hres : Blk w3 w.heap.size 0 0 0 0 0 0 := (hb.block w.heap.size HR2.out.lt).trans HR2.out
  have HR3 := Lib.hid hres
  have HB3 := Lib.hid (HB2.out.trans (hb.mono HB2.out.size))
  have f0 := hres.free 0
  have f1 := hres.free 1
  have f2 := hres.free 2
  have f3 := hres.free 3
  have f4 := hres.free 4
  have f5 := hres.free 5
  obtain ⟨r0, r1, r2, r3, r4, r5⟩ := hres.at
  clear hres hb hdate
  go_wp2_with fail
  obtain ⟨q0, q1, q2, q3, q4, q5⟩ := (HR3.out.put y m d h q s).at
  refine bodyPost_ret (v := .tuple #[.agg #[.int .i64 y, .int .i64 m, .int .i64 d, .int .i64 h, .int .i64 q, .int .i64 s], .int .i64 0]) (by simp [results, Try.results18, go_sem, q0, q1, q2, q3, q4, q5]) rfl ?_
  exact ⟨y, m, d, h, q, s, HD.out, rfl, Blk.putBelow HB3.out (Nat.le_refl _) _ _ _ _ _ _⟩
theorem specDateOut (n : Int) (w : World) (h : n < -11644473600 ∨ 253402300799 < n) : Calls Try.prog 18 #[.int .i64 n] w (OutPost w) := by
  have hin : inB n (-11644473600) 253402300799 = false := by
    cases hh : inB n (-11644473600) 253402300799 with
    | false => rfl
    | true => obtain ⟨a, b⟩ := in_iff.1 hh; omega
  have HI := Lib.hid hin
  clear hin
  go_enter Try.func18, Try.ntmps18
  go_wp2_with fail
  refine (specSecsL 1601 1 1 0 0 0 _ ok_first).mono ?_
  rintro e w1 ⟨rfl, hb⟩
  rw [secs_first]
  have hres : Blk w1 w.heap.size 0 0 0 0 0 0 := (hb.block w.heap.size (by simp)).trans (Blk.new w 0 0 0 0 0 0)
  have HR1 := Lib.hid hres
  have HB1 := Lib.hid (((Below.refl w.heap.size w).alloc (Nat.le_refl _) _).trans (hb.mono (by simp)))
  clear hb hres
  go_wp2_with fail
  refine (specSecsL 9999 12 31 0 0 0 _ ok_last).mono ?_
  rintro e w2 ⟨rfl, hb⟩
  rw [secs_last]
  have hres : Blk w2 w.heap.size 0 0 0 0 0 0 := (hb.block w.heap.size HR1.out.lt).trans HR1.out
  have HR2 := Lib.hid hres
  have HB2 := Lib.hid (HB1.out.trans (hb.mono HB1.out.size))
  clear hb
  have f0 := hres.free 0
  have f1 := hres.free 1
  have f2 := hres.free 2
  have f3 := hres.free 3
  have f4 := hres.free 4
  have f5 := hres.free 5
  obtain ⟨r0, r1, r2, r3, r4, r5⟩ := hres.at
  clear hres
  go_wp2_with fail
  refine (in_any _ _ _ _).mono ?_
  rintro e w' ⟨rfl, rfl⟩
  rw [HI.out]
  go_wp2_with fail
  obtain ⟨q0, q1, q2, q3, q4, q5⟩ := (HR2.out.put 0 0 0 0 0 0).at
  refine bodyPost_ret (v := .tuple #[.agg #[.int .i64 0, .int .i64 0, .int .i64 0, .int .i64 0, .int .i64 0, .int .i64 0], .int .i64 4]) (by simp [results, Try.results18, go_sem, q0, q1, q2, q3, q4, q5]) rfl ?_
  exact ⟨rfl, Blk.putBelow HB2.out (Nat.le_refl _) _ _ _ _ _ _⟩
theorem specDateOK (y m d h n s : Int) (w : World) : Calls Try.prog 13 #[.agg #[.int .i64 y, .int .i64 m, .int .i64 d, .int .i64 h, .int .i64 n, .int .i64 s]] w fun e w' => e = .returned (.bool (okB ⟨y, m, d, h, n, s⟩)) ∧ Below w.heap.size w w' := by
  go_enter Try.func13, Try.ntmps13
  go_wp2_with fail
  refine (specOK y m d h n s _).mono ?_
  rintro e w1 ⟨rfl, hb⟩
  have HB := Lib.hid (((Below.refl w.heap.size w).alloc (Nat.le_refl _) _).trans (hb.mono (by simp)))
  clear hb
  go_wp2_with fail
  go_ret
  exact ⟨rfl, HB.out⟩
theorem six_keep {w w2 : World} {B : Nat} {y m d h n s : Int} (hb : Below w.heap.size w w2) (c : w.cell? ⟨B, 0, none⟩ = some (.int .i64 y) ∧ w.cell? ⟨B, 1, none⟩ = some (.int .i64 m) ∧ w.cell? ⟨B, 2, none⟩ = some (.int .i64 d) ∧ w.cell? ⟨B, 3, none⟩ = some (.int .i64 h) ∧ w.cell? ⟨B, 4, none⟩ = some (.int .i64 n) ∧ w.cell? ⟨B, 5, none⟩ = some (.int .i64 s)) :
    w2.cell? ⟨B, 0, none⟩ = some (.int .i64 y) ∧ w2.cell? ⟨B, 1, none⟩ = some (.int .i64 m) ∧ w2.cell? ⟨B, 2, none⟩ = some (.int .i64 d) ∧ w2.cell? ⟨B, 3, none⟩ = some (.int .i64 h) ∧ w2.cell? ⟨B, 4, none⟩ = some (.int .i64 n) ∧ w2.cell? ⟨B, 5, none⟩ = some (.int .i64 s) :=
  ⟨cell_kept hb c.1, cell_kept hb c.2.1, cell_kept hb c.2.2.1, cell_kept hb c.2.2.2.1, cell_kept hb c.2.2.2.2.1, cell_kept hb c.2.2.2.2.2⟩
theorem walk_FnExactDateOK (W : World) (y m d h n s : Int) (_ : laidMetH Try.prog Rows.fnExactDateOKRow.laid W) (_ : W.ShapedOpen Try.prog) :
    Calls Try.prog 4 #[.agg #[.int .i64 y, .int .i64 m, .int .i64 d, .int .i64 h, .int .i64 n, .int .i64 s]] W fun e w' => e = .returned (.bool true) ∧ Below W.heap.size W w' := by
  have g1 : (okB ⟨y, m, d, h, n, s⟩ != okB ⟨y, m, d, h, n, s⟩) = false := by simp
  go_enter Try.func4, Try.ntmps4
  go_wp2_with fail
  refine (toDate_any y m d h n s _).mono ?_
  rintro e w1 ⟨rfl, hb⟩
  obtain ⟨hz, hr⟩ := six_new hb
  have HR := Lib.hid hr
  have HB1 := Lib.hid (below_step ((Below.refl W.heap.size W).alloc (Nat.le_refl _) _) hb)
  clear hb hr
  go_wp2_with fail
  refine (specDateOK y m d h n s _).mono ?_
  rintro e w2 ⟨rfl, hb⟩
  obtain ⟨r0, r1, r2, r3, r4, r5⟩ := six_keep hb HR.out
  have HB2 := Lib.hid (below_step HB1.out hb)
  clear hb HR
  go_wp2_with fail
  refine (toDate_any y m d h n s _).mono ?_
  rintro e w3 ⟨rfl, hb⟩
  have HB3 := Lib.hid (below_step HB2.out hb)
  clear hb r0 r1 r2 r3 r4 r5
  go_wp2_with fail
  refine (implOK y m d h n s _).mono ?_
  rintro e w4 ⟨rfl, hb⟩
  have HB4 := Lib.hid (below_step HB3.out hb)
  clear hb
  go_wp2_with fail
  go_ret
  exact ⟨rfl, HB4.out⟩
theorem walk_FnExactSeconds (W : World) (y m d h n s : Int) (_ : laidMetH Try.prog Rows.fnExactSecondsRow.laid W) (_ : W.ShapedOpen Try.prog) :
    Calls Try.prog 5 #[.agg #[.int .i64 y, .int .i64 m, .int .i64 d, .int .i64 h, .int .i64 n, .int .i64 s]] W fun e w' => e = .returned (.bool true) ∧ Below W.heap.size W w' := by
  have g1 : (secV ⟨y, m, d, h, n, s⟩ != secV ⟨y, m, d, h, n, s⟩) = false := by simp
  have g2 : (okC ⟨y, m, d, h, n, s⟩ != okC ⟨y, m, d, h, n, s⟩) = false := by simp
  go_enter Try.func5, Try.ntmps5
  go_wp2_with fail
  refine (toDate_any y m d h n s _).mono ?_
  rintro e w1 ⟨rfl, hb⟩
  obtain ⟨hz, hr⟩ := six_new hb
  have HR := Lib.hid hr
  have HB1 := Lib.hid (below_step ((Below.refl W.heap.size W).alloc (Nat.le_refl _) _) hb)
  clear hb hr
  go_wp2_with fail
  refine (specSecs y m d h n s _).mono ?_
  rintro e w2 ⟨rfl, hb⟩
  obtain ⟨r0, r1, r2, r3, r4, r5⟩ := six_keep hb HR.out
  have HB2 := Lib.hid (below_step HB1.out hb)
  clear hb HR
  go_wp2_with fail
  refine (toDate_any y m d h n s _).mono ?_
  rintro e w3 ⟨rfl, hb⟩
  have HB3 := Lib.hid (below_step HB2.out hb)
  clear hb r0 r1 r2 r3 r4 r5
  go_wp2_with fail
  refine (implSecs y m d h n s _).mono ?_
  rintro e w4 ⟨rfl, hb⟩
  have HB4 := Lib.hid (below_step HB3.out hb)
  clear hb
  go_wp2_with fail
  go_ret
  exact ⟨rfl, HB4.out⟩
theorem walk_FnExactWeekday (W : World) (y m d h n s : Int) (_ : laidMetH Try.prog Rows.fnExactWeekdayRow.laid W) (_ : W.ShapedOpen Try.prog) :
    Calls Try.prog 7 #[.agg #[.int .i64 y, .int .i64 m, .int .i64 d, .int .i64 h, .int .i64 n, .int .i64 s]] W fun e w' => e = .returned (.bool true) ∧ Below W.heap.size W w' := by
  have g1 : (weekV ⟨y, m, d, h, n, s⟩ != weekV ⟨y, m, d, h, n, s⟩) = false := by simp
  have g2 : (okC ⟨y, m, d, h, n, s⟩ != okC ⟨y, m, d, h, n, s⟩) = false := by simp
  go_enter Try.func7, Try.ntmps7
  go_wp2_with fail
  refine (toDate_any y m d h n s _).mono ?_
  rintro e w1 ⟨rfl, hb⟩
  obtain ⟨hz, hr⟩ := six_new hb
  have HR := Lib.hid hr
  have HB1 := Lib.hid (below_step ((Below.refl W.heap.size W).alloc (Nat.le_refl _) _) hb)
  clear hb hr
  go_wp2_with fail
  refine (specWeek y m d h n s _).mono ?_
  rintro e w2 ⟨rfl, hb⟩
  obtain ⟨r0, r1, r2, r3, r4, r5⟩ := six_keep hb HR.out
  have HB2 := Lib.hid (below_step HB1.out hb)
  clear hb HR
  go_wp2_with fail
  refine (toDate_any y m d h n s _).mono ?_
  rintro e w3 ⟨rfl, hb⟩
  have HB3 := Lib.hid (below_step HB2.out hb)
  clear hb r0 r1 r2 r3 r4 r5
  go_wp2_with fail
  refine (implWeek y m d h n s _).mono ?_
  rintro e w4 ⟨rfl, hb⟩
  have HB4 := Lib.hid (below_step HB3.out hb)
  clear hb
  go_wp2_with fail
  go_ret
  exact ⟨rfl, HB4.out⟩
theorem walk_FnExactDateOf (W : World) (x : Int) (_ : (Lit.int .i64 x).wf = true) (_ : laidMetH Try.prog Rows.fnExactDateOfRow.laid W) (_ : W.ShapedOpen Try.prog) :
    Calls Try.prog 6 #[.int .i64 x] W fun e w' => e = .returned (.bool true) ∧ Below W.heap.size W w' := by
  by_cases hr : -11644473600 ≤ x ∧ x ≤ 253402300799
  · obtain ⟨h1, h2⟩ := hr
    go_enter Try.func6, Try.ntmps6
    go_wp2_with fail
    refine (specDateIn x _ h1 h2).mono ?_
    rintro e w1 ⟨y, m, d, h, q, s, hd, rfl, hb⟩
    have HD := Lib.hid hd
    have HB := Lib.hid hb
    clear hb hd
    go_wp2_with fail
    refine (implDateIn x _ h1 h2).mono ?_
    rintro e w2 ⟨y', m', d', h', q', s', hd, rfl, hb⟩
    have he := hd.uniq HD.out
    simp only [Dt.mk.injEq] at he
    obtain ⟨rfl, rfl, rfl, rfl, rfl, rfl⟩ := he
    have HB2 := Lib.hid (below_step (HB.out.alloc HB.out.size _) hb)
    obtain ⟨hz, r0, r1, r2, r3, r4, r5⟩ := six_new hb
    clear hb hd
    go_wp2_with fail
    refine (eqDate_any _ _ _ _ _ _ _).mono ?_
    rintro e w3 ⟨rfl, hb⟩
    have HB3 := Lib.hid (below_step (HB2.out.alloc HB2.out.size _) hb)
    clear hb
    go_wp2_with fail
    go_ret
    exact ⟨rfl, HB3.out⟩
  · have hr2 : x < -11644473600 ∨ 253402300799 < x := by omega
    have HR := Lib.hid hr2
    clear hr hr2
    go_enter Try.func6, Try.ntmps6
    go_wp2_with fail
    refine (specDateOut x _ HR.out).mono ?_
    rintro e w1 ⟨rfl, hb⟩
    have HB := Lib.hid hb
    clear hb
    go_wp2_with fail
    refine (implDateOut x _ HR.out).mono ?_
    rintro e w2 ⟨rfl, hb⟩
    have HB2 := Lib.hid (below_step (HB.out.alloc HB.out.size _) hb)
    obtain ⟨hz, r0, r1, r2, r3, r4, r5⟩ := six_new hb
    clear hb
    go_wp2_with fail
    refine (eqDate_any _ _ _ _ _ _ _).mono ?_
    rintro e w3 ⟨rfl, hb⟩
    have HB3 := Lib.hid (below_step (HB2.out.alloc HB2.out.size _) hb)
    clear hb
    go_wp2_with fail
    go_ret
    exact ⟨rfl, HB3.out⟩
end Go.Proofs.Ytgokolgknendiaa
