/- Seconds and Weekday of the program and of the model: what they answer, at every date. No condition of its own. -/
import Derived.Test.YtpdonghdnaehhaaGreatDoorZGe
import Derived.Deep.RegionHeld3
namespace Go.Proofs.YtpdonghdnaehhaaGreatDoor
open Go.ChangeShapes Go.WideShapes Go.ChangeAt Go.WideMaps Go.WideElems Go.RowKit

def secV (a : Dt) : Int := if okB a then secsN a else 0
def okC (a : Dt) : Int := if okB a then 0 else 1
theorem dt_keep {w w1 w2 : World} {B : Nat} {y m d h n s : Int} (hS : w1.cell? ⟨B, 0, none⟩ = some (.int .i64 y) ∧ w1.cell? ⟨B, 1, none⟩ = some (.int .i64 m) ∧ w1.cell? ⟨B, 2, none⟩ = some (.int .i64 d) ∧ w1.cell? ⟨B, 3, none⟩ = some (.int .i64 h) ∧ w1.cell? ⟨B, 4, none⟩ = some (.int .i64 n) ∧ w1.cell? ⟨B, 5, none⟩ = some (.int .i64 s) ∧ Below w.heap.size w w1) (hb : Below w1.heap.size w1 w2) :
    w2.cell? ⟨B, 0, none⟩ = some (.int .i64 y) ∧ w2.cell? ⟨B, 1, none⟩ = some (.int .i64 m) ∧ w2.cell? ⟨B, 2, none⟩ = some (.int .i64 d) ∧ w2.cell? ⟨B, 3, none⟩ = some (.int .i64 h) ∧ w2.cell? ⟨B, 4, none⟩ = some (.int .i64 n) ∧ w2.cell? ⟨B, 5, none⟩ = some (.int .i64 s) ∧ Below w.heap.size w w2 :=
  ⟨cell_kept hb hS.1, cell_kept hb hS.2.1, cell_kept hb hS.2.2.1, cell_kept hb hS.2.2.2.1, cell_kept hb hS.2.2.2.2.1, cell_kept hb hS.2.2.2.2.2.1, hS.2.2.2.2.2.2.trans (hb.mono hS.2.2.2.2.2.2.size)⟩
theorem dt_new (w : World) (y m d h n s : Int) : (w.alloc (.cells #[.int .i64 y, .int .i64 m, .int .i64 d, .int .i64 h, .int .i64 n, .int .i64 s] 158)).cell? ⟨w.heap.size, 0, none⟩ = some (.int .i64 y) ∧ (w.alloc (.cells #[.int .i64 y, .int .i64 m, .int .i64 d, .int .i64 h, .int .i64 n, .int .i64 s] 158)).cell? ⟨w.heap.size, 1, none⟩ = some (.int .i64 m) ∧ (w.alloc (.cells #[.int .i64 y, .int .i64 m, .int .i64 d, .int .i64 h, .int .i64 n, .int .i64 s] 158)).cell? ⟨w.heap.size, 2, none⟩ = some (.int .i64 d) ∧ (w.alloc (.cells #[.int .i64 y, .int .i64 m, .int .i64 d, .int .i64 h, .int .i64 n, .int .i64 s] 158)).cell? ⟨w.heap.size, 3, none⟩ = some (.int .i64 h) ∧ (w.alloc (.cells #[.int .i64 y, .int .i64 m, .int .i64 d, .int .i64 h, .int .i64 n, .int .i64 s] 158)).cell? ⟨w.heap.size, 4, none⟩ = some (.int .i64 n) ∧ (w.alloc (.cells #[.int .i64 y, .int .i64 m, .int .i64 d, .int .i64 h, .int .i64 n, .int .i64 s] 158)).cell? ⟨w.heap.size, 5, none⟩ = some (.int .i64 s) ∧ Below w.heap.size w (w.alloc (.cells #[.int .i64 y, .int .i64 m, .int .i64 d, .int .i64 h, .int .i64 n, .int .i64 s] 158)) :=
  ⟨by simp, by simp, by simp, by simp, by simp, by simp, (Below.refl _ _).alloc (Nat.le_refl _) _⟩
theorem dt_drew {w w1 : World} {B : Nat} {y m d h n s : Int} (hS : w1.cell? ⟨B, 0, none⟩ = some (.int .i64 y) ∧ w1.cell? ⟨B, 1, none⟩ = some (.int .i64 m) ∧ w1.cell? ⟨B, 2, none⟩ = some (.int .i64 d) ∧ w1.cell? ⟨B, 3, none⟩ = some (.int .i64 h) ∧ w1.cell? ⟨B, 4, none⟩ = some (.int .i64 n) ∧ w1.cell? ⟨B, 5, none⟩ = some (.int .i64 s) ∧ Below w.heap.size w w1) : w1.drew.cell? ⟨B, 0, none⟩ = some (.int .i64 y) ∧ w1.drew.cell? ⟨B, 1, none⟩ = some (.int .i64 m) ∧ w1.drew.cell? ⟨B, 2, none⟩ = some (.int .i64 d) ∧ w1.drew.cell? ⟨B, 3, none⟩ = some (.int .i64 h) ∧ w1.drew.cell? ⟨B, 4, none⟩ = some (.int .i64 n) ∧ w1.drew.cell? ⟨B, 5, none⟩ = some (.int .i64 s) ∧ Below w.heap.size w w1.drew :=
  ⟨hS.1, hS.2.1, hS.2.2.1, hS.2.2.2.1, hS.2.2.2.2.1, hS.2.2.2.2.2.1, hS.2.2.2.2.2.2.drew⟩
theorem ints_of {a b p q : Int} (h : a = b) (h' : p = q) : Ending.returned (.tuple #[.int .i64 a, .int .i64 p]) = .returned (.tuple #[.int .i64 b, .int .i64 q]) := by rw [h, h']
theorem implSecs (y m d h n s : Int) (w : World) : Calls Tryz.prog 171 #[.agg #[.int .i64 y, .int .i64 m, .int .i64 d, .int .i64 h, .int .i64 n, .int .i64 s]] w fun e w' => e = .returned (.tuple #[.int .i64 (secV ⟨y, m, d, h, n, s⟩), .int .i64 (okC ⟨y, m, d, h, n, s⟩)]) ∧ Below w.heap.size w w' := by
  cases hok : okB ⟨y, m, d, h, n, s⟩ with
  | false =>
    have HO := Lib.hid hok
    clear hok
    go_enter Tryz.func171, Tryz.ntmps171
    go_wp2_with (go_at_call 259; refine (implOK _ _ _ _ _ _ _).mono ?_; rintro e w' ⟨rfl, hb⟩; have HB := Lib.hid hb; clear hb; rw [HO.out])
    go_ret2
    exact ⟨ints_of (by simp [secV, HO.out]) (by simp [okC, HO.out]), ((Below.refl _ _).alloc (Nat.le_refl _) _).trans (HB.out.mono (by simp))⟩
  | true =>
    have HO := Lib.hid hok
    obtain ⟨⟨hy1, hy2⟩, ⟨hm1, hm2⟩, ⟨hd1, hd2⟩, ⟨hh1, hh2⟩, ⟨hn1, hn2⟩, ⟨hs1, hs2⟩⟩ := (ok_iff _).1 hok
    obtain ⟨hdn1, hdn2⟩ := dayN_range hok
    have hd3 := (mdays_le y m).2
    simp only at hy1 hy2 hm1 hm2 hd1 hd2 hh1 hh2 hn1 hn2 hs1 hs2
    clear hok
    have HR := Lib.hid (⟨hy1, hy2⟩ : 1601 ≤ y ∧ y ≤ 9999)
    go_enter Tryz.func171, Tryz.ntmps171
    go_wp2_with fail
    refine (implOK y m d h n s _).mono ?_
    rintro e w1 ⟨rfl, hb⟩
    have hS1 := dt_drew (dt_keep (dt_new w y m d h n s) hb)
    clear hb
    rw [HO.out]
    go_wp2_with fail
    obtain ⟨N, hN⟩ : ∃ N, dayN ⟨y, m, d, h, n, s⟩ = N := ⟨_, rfl⟩
    rw [hN] at hdn1 hdn2
    have e1 : IntKind.i64.wrap (N * 86400) = N * 86400 := IntWalk.i64_in _ (by omega)
    have e2 : IntKind.i64.wrap (-11644473600 + N * 86400) = -11644473600 + N * 86400 := IntWalk.i64_in _ (by clear e1; omega)
    have e3 : IntKind.i64.wrap (h * 3600) = h * 3600 := IntWalk.i64_in _ (by clear e1 e2; omega)
    have e4 : IntKind.i64.wrap (-11644473600 + N * 86400 + h * 3600) = -11644473600 + N * 86400 + h * 3600 := IntWalk.i64_in _ (by clear e1 e2 e3; omega)
    have e5 : IntKind.i64.wrap (n * 60) = n * 60 := IntWalk.i64_in _ (by clear e1 e2 e3 e4; omega)
    have e6 : IntKind.i64.wrap (-11644473600 + N * 86400 + h * 3600 + n * 60) = -11644473600 + N * 86400 + h * 3600 + n * 60 := IntWalk.i64_in _ (by clear e1 e2 e3 e4 e5; omega)
    have e7 : IntKind.i64.wrap (-11644473600 + N * 86400 + h * 3600 + n * 60 + s) = -11644473600 + N * 86400 + h * 3600 + n * 60 + s := IntWalk.i64_in _ (by clear e1 e2 e3 e4 e5 e6; omega)
    have HN := Lib.hid hN
    clear hN
    go_region_held3 (fun w' => w'.cell? ⟨w.heap.size, 0, none⟩ = some (.int .i64 y) ∧ w'.cell? ⟨w.heap.size, 1, none⟩ = some (.int .i64 m) ∧ w'.cell? ⟨w.heap.size, 2, none⟩ = some (.int .i64 d) ∧ w'.cell? ⟨w.heap.size, 3, none⟩ = some (.int .i64 h) ∧ w'.cell? ⟨w.heap.size, 4, none⟩ = some (.int .i64 n) ∧ w'.cell? ⟨w.heap.size, 5, none⟩ = some (.int .i64 s) ∧ Below w.heap.size w w') (first | assumption)
      (first | (go_at_call 260; refine (implNum y m d h n s _ ⟨hy1, hy2⟩ ⟨hm1, hm2⟩ ⟨hd1, by omega⟩).mono ?_; rintro e w' ⟨rfl, hb⟩; have hS := dt_keep (by assumption) hb; clear hb; rw [HN.out]))
    clear e1 e2 e3 e4 e5 e6 e7
    go_wp2_with fail
    go_ret2
    refine ⟨ints_of ?_ (by simp [okC, HO.out]), ?_⟩
    · rw [secV, if_pos HO.out, secsN, HN.out]
      simp only
      omega
    · exact hS.2.2.2.2.2.2
theorem specSecsL (y m d h n s : Int) (w : World) (hok : okB ⟨y, m, d, h, n, s⟩ = true) : Calls Tryz.prog 241 #[.agg #[.int .i64 y, .int .i64 m, .int .i64 d, .int .i64 h, .int .i64 n, .int .i64 s]] w fun e w' => e = .returned (.int .i64 (secsN ⟨y, m, d, h, n, s⟩)) ∧ Below w.heap.size w w' := by
  obtain ⟨⟨hy1, hy2⟩, ⟨hm1, hm2⟩, ⟨hd1, hd2⟩, ⟨hh1, hh2⟩, ⟨hn1, hn2⟩, ⟨hs1, hs2⟩⟩ := (ok_iff _).1 hok
  obtain ⟨hdn1, hdn2⟩ := dayN_range hok
  have hd3 := (mdays_le y m).2
  simp only at hy1 hy2 hm1 hm2 hd1 hd2 hh1 hh2 hn1 hn2 hs1 hs2
  clear hok
  have hS1 := dt_drew (dt_new w y m d h n s)
  obtain ⟨N, hN⟩ : ∃ N, dayN ⟨y, m, d, h, n, s⟩ - 134774 = N := ⟨_, rfl⟩
  have hN1 : -134774 ≤ N := by omega
  have hN2 : N ≤ 2932896 := by omega
  have HN := Lib.hid hN
  clear hN hdn1 hdn2
  go_enter Tryz.func241, Tryz.ntmps241
  go_wp2_with fail
  have e1 : IntKind.i64.wrap (86400 * N) = 86400 * N := IntWalk.i64_in _ (by omega)
  have e2 : IntKind.i64.wrap (3600 * h) = 3600 * h := IntWalk.i64_in _ (by clear e1; omega)
  have e3 : IntKind.i64.wrap (86400 * N + 3600 * h) = 86400 * N + 3600 * h := IntWalk.i64_in _ (by clear e1 e2; omega)
  have e4 : IntKind.i64.wrap (60 * n) = 60 * n := IntWalk.i64_in _ (by clear e1 e2 e3; omega)
  have e5 : IntKind.i64.wrap (86400 * N + 3600 * h + 60 * n) = 86400 * N + 3600 * h + 60 * n := IntWalk.i64_in _ (by clear e1 e2 e3 e4; omega)
  have e6 : IntKind.i64.wrap (86400 * N + 3600 * h + 60 * n + s) = 86400 * N + 3600 * h + 60 * n + s := IntWalk.i64_in _ (by clear e1 e2 e3 e4 e5; omega)
  go_region_held3 (fun w' => w'.cell? ⟨w.heap.size, 0, none⟩ = some (.int .i64 y) ∧ w'.cell? ⟨w.heap.size, 1, none⟩ = some (.int .i64 m) ∧ w'.cell? ⟨w.heap.size, 2, none⟩ = some (.int .i64 d) ∧ w'.cell? ⟨w.heap.size, 3, none⟩ = some (.int .i64 h) ∧ w'.cell? ⟨w.heap.size, 4, none⟩ = some (.int .i64 n) ∧ w'.cell? ⟨w.heap.size, 5, none⟩ = some (.int .i64 s) ∧ Below w.heap.size w w') (first | assumption)
    (first | (go_at_call 300; refine (specNum y m d h n s _ ⟨hy1, hy2⟩ ⟨hm1, hm2⟩ ⟨hd1, by clear e1 e2 e3 e4 e5 e6; omega⟩).mono ?_; rintro e w' ⟨rfl, hb⟩; have hS := dt_keep (by assumption) hb; clear hb; rw [HN.out]))
  clear e1 e2 e3 e4 e5 e6
  go_wp2_with fail
  go_ret
  refine ⟨int_of ?_, hS.2.2.2.2.2.2⟩
  have hN := HN.out
  unfold secsN
  simp only
  omega
def weekV (a : Dt) : Int := if okB a then weekN a else 0
theorem implWeek (y m d h n s : Int) (w : World) : Calls Tryz.prog 237 #[.agg #[.int .i64 y, .int .i64 m, .int .i64 d, .int .i64 h, .int .i64 n, .int .i64 s]] w fun e w' => e = .returned (.tuple #[.int .i64 (weekV ⟨y, m, d, h, n, s⟩), .int .i64 (okC ⟨y, m, d, h, n, s⟩)]) ∧ Below w.heap.size w w' := by
  cases hok : okB ⟨y, m, d, h, n, s⟩ with
  | false =>
    have HO := Lib.hid hok
    clear hok
    go_enter Tryz.func237, Tryz.ntmps237
    go_wp2_with (go_at_call 259; refine (implOK _ _ _ _ _ _ _).mono ?_; rintro e w' ⟨rfl, hb⟩; have HB := Lib.hid hb; clear hb; rw [HO.out])
    go_ret2
    exact ⟨ints_of (by simp [weekV, HO.out]) (by simp [okC, HO.out]), ((Below.refl _ _).alloc (Nat.le_refl _) _).trans (HB.out.mono (by simp))⟩
  | true =>
    have HO := Lib.hid hok
    obtain ⟨⟨hy1, hy2⟩, ⟨hm1, hm2⟩, ⟨hd1, hd2⟩, _⟩ := (ok_iff _).1 hok
    obtain ⟨hdn1, hdn2⟩ := dayN_range hok
    have hd3 := (mdays_le y m).2
    simp only at hy1 hy2 hm1 hm2 hd1 hd2
    have hd31 : d ≤ 31 := by omega
    obtain ⟨N, hN⟩ : ∃ N, dayN ⟨y, m, d, h, n, s⟩ = N := ⟨_, rfl⟩
    rw [hN] at hdn1 hdn2
    have HN := Lib.hid hN
    clear hok hN hd2 hd3
    go_enter Tryz.func237, Tryz.ntmps237
    go_wp2_with fail
    refine (implOK y m d h n s _).mono ?_
    rintro e w1 ⟨rfl, hb⟩
    have hS1 := dt_keep (dt_new w y m d h n s) hb
    clear hb
    rw [HO.out]
    obtain ⟨c0, c1, c2, c3, c4, c5, hb1⟩ := hS1
    have HB1 := Lib.hid hb1
    clear hb1
    go_wp2_with fail
    refine (implNum y m d h n s _ ⟨hy1, hy2⟩ ⟨hm1, hm2⟩ ⟨hd1, hd31⟩).mono ?_
    rintro e w2 ⟨rfl, hb⟩
    have HB2 := Lib.hid (HB1.out.trans (hb.mono HB1.out.size))
    clear hb
    rw [HN.out]
    go_wp2_with fail
    go_ret2
    refine ⟨ints_of ?_ (by simp [okC, HO.out]), HB2.out⟩
    rw [weekV, if_pos HO.out, weekN, HN.out]
    omega
theorem specWeekL (y m d h n s : Int) (w : World) (hok : okB ⟨y, m, d, h, n, s⟩ = true) : Calls Tryz.prog 242 #[.agg #[.int .i64 y, .int .i64 m, .int .i64 d, .int .i64 h, .int .i64 n, .int .i64 s]] w fun e w' => e = .returned (.int .i64 (weekN ⟨y, m, d, h, n, s⟩)) ∧ Below w.heap.size w w' := by
  obtain ⟨⟨hy1, hy2⟩, ⟨hm1, hm2⟩, ⟨hd1, hd2⟩, _⟩ := (ok_iff _).1 hok
  obtain ⟨hdn1, hdn2⟩ := dayN_range hok
  have hd3 := (mdays_le y m).2
  simp only at hy1 hy2 hm1 hm2 hd1 hd2
  have hd31 : d ≤ 31 := by omega
  obtain ⟨N, hN⟩ : ∃ N, dayN ⟨y, m, d, h, n, s⟩ = N := ⟨_, rfl⟩
  rw [hN] at hdn1 hdn2
  have HN := Lib.hid hN
  clear hok hN hd2 hd3
  go_enter Tryz.func242, Tryz.ntmps242
  go_wp2_with fail
  refine (specNum y m d h n s _ ⟨hy1, hy2⟩ ⟨hm1, hm2⟩ ⟨hd1, hd31⟩).mono ?_
  rintro e w2 ⟨rfl, hb⟩
  have HB2 := Lib.hid (((Below.refl _ _).alloc (Nat.le_refl _) _).trans (hb.mono (by simp)))
  clear hb
  rw [HN.out]
  go_wp2_with fail
  go_ret
  refine ⟨int_of ?_, HB2.out⟩
  rw [weekN, HN.out]
  omega
end Go.Proofs.YtpdonghdnaehhaaGreatDoor

namespace Go.Proofs.YtpdonghdnaehhaaGreatDoor
open Go.ChangeShapes Go.WideShapes Go.ChangeAt Go.WideMaps Go.WideElems Go.RowKit

theorem before_guess {n : Int} (h : 0 ≤ n) : before (1601 + n / 366) ≤ n := by
  unfold before
  omega
theorem msum_one (y : Int) (k : Nat) : msum y (k + 1) = msum y k + mdays y ((k : Int) + 1) := by
  rw [msum_step]
  congr 2
theorem before_top {y n : Int} (h : before y ≤ n) (hn : n ≤ 3067670) : y ≤ 9999 := by
  have : ¬ 10000 ≤ y := fun hh => by
    have := before_mono hh
    have e : before 10000 = 3067671 := by decide
    omega
  omega
/-- The number in a cell. -/
def numAt (w : World) (B i : Nat) : Int := intOf ((w.cell? ⟨B, i, none⟩).getD (.int .i64 0))
theorem numAt_eq {w : World} {B i : Nat} {x : Int} (h : w.cell? ⟨B, i, none⟩ = some (.int .i64 x)) : numAt w B i = x := by
  rw [numAt, h]
  rfl
def MonthRel (w : World) (y left : Int) (v : Value) (wr : World) : Prop :=
  ∃ k : Nat, k ≤ 11 ∧ v = .int .i64 (left - msum y k) ∧ msum y k ≤ left ∧ Blk wr (w.heap.size + 1) y ((k : Int) + 1) 0 0 0 0 ∧ Blk wr w.heap.size 0 0 0 0 0 0 ∧ Below w.heap.size w wr
theorem month_next {y left : Int} {k : Nat} (h1 : msum y k + mdays y ((k : Int) + 1) ≤ left) (h2 : left < before (y + 1) - before y) (hk : k ≤ 11) : k + 1 ≤ 11 := by
  have hs := before_step y
  rw [← msum_all] at hs
  have h3 := msum_one y k
  have : ¬ 12 ≤ k + 1 := fun hh => by
    have := msum_mono y hh
    omega
  omega
def YearRel (w : World) (n : Int) (wr : World) : Prop :=
  ∃ y : Int, 1601 ≤ y ∧ before y ≤ n ∧ Blk wr (w.heap.size + 1) y 1 0 0 0 0 ∧ Blk wr w.heap.size 0 0 0 0 0 0 ∧ Below w.heap.size w wr
def DayPost (w : World) (n : Int) (e : Ending) (w' : World) : Prop :=
  ∃ (y d : Int) (m : Nat), IsDay n y m d ∧ e = .returned (.agg #[.int .i64 y, .int .i64 ((m : Int) + 1), .int .i64 d, .int .i64 0, .int .i64 0, .int .i64 0]) ∧ Below w.heap.size w w'
theorem implOfDay (n : Int) (w : World) (h1 : 0 ≤ n) (h2 : n ≤ 3067670) : Calls Tryz.prog 236 #[.int .i64 n] w (DayPost w n) := by
  have g0 := before_guess h1
  go_enter Tryz.func236, Tryz.ntmps236
  go_wp2_with fail
  go_loopw [] (fun wr => YearRel w n wr) (fun wr => (3067671 - before (numAt wr (w.heap.size + 1) 0)).toNat)
  case atStart =>
    exact ⟨1601 + n / 366, by omega, g0, by have := Blk.new (w.alloc (.cells #[.int .i64 0, .int .i64 0, .int .i64 0, .int .i64 0, .int .i64 0, .int .i64 0] 158)) (1601 + n / 366) 1 0 0 0 0; simpa using this, (Blk.new w 0 0 0 0 0 0).alloc _, ((Below.refl _ _).alloc (Nat.le_refl _) _).alloc (by simp) _⟩
  case round =>
    obtain ⟨y, hy, hyn, hblk, hres, hb⟩ := hrel
    have HK := Lib.hid hblk
    have HR := Lib.hid hres
    have HB := Lib.hid hb
    have hy9 := before_top hyn h2
    have hf := hblk.free 0
    obtain ⟨c0, c1, _⟩ := hblk.at
    clear hblk hb hres
    by_cases hlt : before (y + 1) ≤ n
    · go_wp2_with (go_at_call 294; refine (implBefore _ _ (by omega) (by omega)).mono ?_; rintro e w' ⟨rfl, rfl⟩)
      go_roundw
      case rel => exact ⟨y + 1, by omega, hlt, HK.out.year _, HR.out.other (by omega), HB.out.setCell (by simp) _⟩
      case measure =>
        have := before_lt y
        rw [numAt_eq c0, numAt_eq (HK.out.year _).at.1]
        omega
    · obtain ⟨hb1, hb2⟩ := before_range hy (by omega)
      go_wp2_with (go_at_call 294; refine (implBefore _ _ (by omega) (by omega)).mono ?_; rintro e w' ⟨rfl, rfl⟩)
      have hz : n < before (y + 1) := by omega
      go_loopw [0] (fun v wr => MonthRel w y (n - before y) v wr) (fun v _ => (intOf v).toNat)
      case atStart => exact ⟨0, by omega, by simp [msum], by simp [msum]; omega, HK.out, HR.out, HB.out⟩
      case round =>
        clear HK HR HB hf c0 c1
        obtain ⟨k, hk, rfl, hle, hblk, hres, hb⟩ := hrel
        have HK := Lib.hid hblk
        have HR := Lib.hid hres
        have HB := Lib.hid hb
        have hf := hblk.free 1
        have hf2 := hblk.free 2
        obtain ⟨c0, c1, c2, c3, c4, c5⟩ := hblk.at
        obtain ⟨hd1, hd2⟩ := mdays_le y ((k : Int) + 1)
        have hm0 := msum_nonneg y k
        clear hblk hb hres
        by_cases hlt2 : mdays y ((k : Int) + 1) ≤ n - before y - msum y k
        · have HL := Lib.hid hlt2
          go_wp2_with (go_at_call 295; refine (implDays _ _ _ (by omega) (by omega)).mono ?_; rintro e w' ⟨rfl, rfl⟩)
          go_roundw
          case rel =>
            have hk2 := month_next (y := y) (left := n - before y) (k := k) (by omega) (by omega) hk
            refine ⟨k + 1, hk2, ?_, ?_, HK.out.month _, HR.out.other (by omega), HB.out.setCell (by simp) _⟩
            · rw [msum_one]
              congr 1
              omega
            · rw [msum_one]
              omega
          case measure => simp [intOf]; omega
        · have HL := Lib.hid hlt2
          have f0 := HR.out.free 0
          have f1 := HR.out.free 1
          have f2 := HR.out.free 2
          have f3 := HR.out.free 3
          have f4 := HR.out.free 4
          have f5 := HR.out.free 5
          obtain ⟨r0, r1, r2, r3, r4, r5⟩ := HR.out.at
          go_wp2_with (go_at_call 295; refine (implDays _ _ _ (by omega) (by omega)).mono ?_; rintro e w' ⟨rfl, rfl⟩)
          obtain ⟨q0, q1, q2, q3, q4, q5⟩ := ((HR.out.other (B' := w.heap.size + 1) (i := 2) (v := .int .i64 (n - before y - msum y k + 1)) (by omega)).put y ((k : Int) + 1) (n - before y - msum y k + 1) 0 0 0).at
          refine bodyPost_ret (v := .agg #[.int .i64 y, .int .i64 ((k : Int) + 1), .int .i64 (n - before y - msum y k + 1), .int .i64 0, .int .i64 0, .int .i64 0]) (by simp [results, Tryz.results236, go_sem, q0, q1, q2, q3, q4, q5]) rfl ?_
          refine ⟨y, _, k, ⟨hy, hyn, hz, hk, hle, by have := HL.out; rw [msum_one]; omega, rfl⟩, rfl, Blk.putBelow (HB.out.setCell (by simp) _) (Nat.le_refl _) _ _ _ _ _ _⟩
def DatePost (w : World) (n : Int) (e : Ending) (w' : World) : Prop :=
  ∃ y m d h q s : Int, IsDate (n + 11644473600) ⟨y, m, d, h, q, s⟩ ∧ e = .returned (.tuple #[.agg #[.int .i64 y, .int .i64 m, .int .i64 d, .int .i64 h, .int .i64 q, .int .i64 s], .int .i64 0]) ∧ Below w.heap.size w w'
set_option maxHeartbeats 1000000 in
theorem implDateIn (n : Int) (w : World) (h1 : -11644473600 ≤ n) (h2 : n ≤ 253402300799) : Calls Tryz.prog 153 #[.int .i64 n] w (DatePost w n) := by
  go_enter Tryz.func153, Tryz.ntmps153
  go_wp2_with fail
  refine (implOfDay ((n + 11644473600) / 86400) _ (by omega) (by omega)).mono ?_
  rintro e w1 ⟨y, d, m, hday, rfl, hb⟩
  have HD := Lib.hid hday
  have hres : Blk w1 w.heap.size 0 0 0 0 0 0 := (hb.block w.heap.size (by simp)).trans (Blk.new w 0 0 0 0 0 0)
  have HR := Lib.hid hres
  have HB := Lib.hid (((Below.refl w.heap.size w).alloc (Nat.le_refl _) _).trans (hb.mono (by simp)))
  have hlt : w.heap.size < w1.heap.size := hres.lt
  have hne : w.heap.size ≠ w1.heap.size := by omega
  have f0 := hres.free 0
  have f1 := hres.free 1
  have f2 := hres.free 2
  have f3 := hres.free 3
  have f4 := hres.free 4
  have f5 := hres.free 5
  obtain ⟨r0, r1, r2, r3, r4, r5⟩ := hres.at
  clear hres hb hday
  go_wp2_with fail
  obtain ⟨N, hN⟩ : ∃ N, n + 11644473600 = N := ⟨_, rfl⟩
  rw [hN]
  obtain ⟨q0, q1, q2, q3, q4, q5⟩ := ((HR.out.put y ((m : Int) + 1) d (N % 86400 / 3600) (N / 60 % 60) (N % 60)).alloc (.cells #[.int .i64 y, .int .i64 ((m : Int) + 1), .int .i64 d, .int .i64 (N % 86400 / 3600), .int .i64 (N / 60 % 60), .int .i64 (N % 60)] 158)).at
  refine bodyPost_ret (v := .tuple #[.agg #[.int .i64 y, .int .i64 ((m : Int) + 1), .int .i64 d, .int .i64 (N % 86400 / 3600), .int .i64 (N / 60 % 60), .int .i64 (N % 60)], .int .i64 0]) (by simp [results, Tryz.results153, go_sem, q0, q1, q2, q3, q4, q5]) rfl ?_
  have hbel := Blk.putBelow HB.out (Nat.le_refl _) y ((m : Int) + 1) d (N % 86400 / 3600) (N / 60 % 60) (N % 60)
  refine ⟨y, (m : Int) + 1, d, _, _, _, ⟨m, HD.out, rfl, ?_, ?_, ?_⟩, rfl, ?_⟩
  · rw [hN]
  · simp only [hN]
    omega
  · simp only [hN]
    omega
  · first | exact hbel.alloc hbel.size _ | exact Blk.putBelow (HB.out.alloc HB.out.size _) (Nat.le_refl _) _ _ _ _ _ _
def OutPost (w : World) (e : Ending) (w' : World) : Prop := e = .returned (.tuple #[.agg #[.int .i64 0, .int .i64 0, .int .i64 0, .int .i64 0, .int .i64 0, .int .i64 0], .int .i64 4]) ∧ Below w.heap.size w w'
theorem implDateOut (n : Int) (w : World) (h : n < -11644473600 ∨ 253402300799 < n) : Calls Tryz.prog 153 #[.int .i64 n] w (OutPost w) := by
  rcases h with h | h
  all_goals
    go_enter Tryz.func153, Tryz.ntmps153
    go_wp2_with fail
    refine bodyPost_ret (v := .tuple #[.agg #[.int .i64 0, .int .i64 0, .int .i64 0, .int .i64 0, .int .i64 0, .int .i64 0], .int .i64 4]) (by simp [results, Tryz.results153, go_sem]) rfl ⟨rfl, (Below.refl _ _).alloc (Nat.le_refl _) _⟩
def YearRel2 (w : World) (D h q s : Int) (v : Value) (wr : World) : Prop :=
  ∃ y : Int, v = .int .i64 (D - before y) ∧ 1601 ≤ y ∧ before y ≤ D ∧ Blk wr (w.heap.size + 1) y 1 0 h q s ∧ Blk wr w.heap.size 0 0 0 0 0 0 ∧ Below w.heap.size w wr
def MonthRel2 (w : World) (y left h q s : Int) (v : Value) (wr : World) : Prop :=
  ∃ k : Nat, k ≤ 11 ∧ v = .int .i64 (left - msum y k) ∧ msum y k ≤ left ∧ Blk wr (w.heap.size + 1) y ((k : Int) + 1) 0 h q s ∧ Blk wr w.heap.size 0 0 0 0 0 0 ∧ Below w.heap.size w wr
theorem cycle (D : Int) : before (1601 + 400 * (D / 146097)) = D - D % 146097 := by
  unfold before
  omega
def OfPost (w : World) (n : Int) (e : Ending) (w' : World) : Prop :=
  ∃ y m d h q s : Int, IsDate n ⟨y, m, d, h, q, s⟩ ∧ e = .returned (.agg #[.int .i64 y, .int .i64 m, .int .i64 d, .int .i64 h, .int .i64 q, .int .i64 s]) ∧ Below w.heap.size w w'
set_option maxHeartbeats 1000000 in
theorem specOf (n : Int) (w : World) (h1 : 0 ≤ n) (h2 : n ≤ 265046774399) : Calls Tryz.prog 162 #[.int .i64 n] w (OfPost w n) := by
  obtain ⟨D, hD⟩ : ∃ D, n / 86400 = D := ⟨_, rfl⟩
  have hD1 : 0 ≤ D := by omega
  have hD2 : D ≤ 3067670 := by omega
  have hcy := cycle D
  have HD := Lib.hid hD
  go_enter Tryz.func162, Tryz.ntmps162
  go_wp2_with fail
  rw [HD.out]
  clear hD
  go_loopw [4] (fun v wr => YearRel2 w D (n % 86400 / 3600) (n % 86400 / 60 % 60) (n % 60) v wr) (fun v _ => (intOf v).toNat)
  case atStart =>
    refine ⟨1601 + 400 * (D / 146097), by congr 1; omega, by omega, by omega, ?_, ?_, ?_⟩
    · have := Blk.new (w.alloc (.cells #[.int .i64 0, .int .i64 0, .int .i64 0, .int .i64 0, .int .i64 0, .int .i64 0] 158)) (1601 + 400 * (D / 146097)) 1 0 (n % 86400 / 3600) (n % 86400 / 60 % 60) (n % 60)
      simpa using this
    · exact (Blk.new w 0 0 0 0 0 0).alloc _
    · exact ((Below.refl _ _).alloc (Nat.le_refl _) _).alloc (by simp) _
  case round =>
    obtain ⟨y, rfl, hy, hyn, hblk, hres, hb⟩ := hrel
    have HK := Lib.hid hblk
    have HR := Lib.hid hres
    have HB := Lib.hid hb
    have hy9 := before_top hyn hD2
    have hf := hblk.free 0
    obtain ⟨c0, c1, _⟩ := hblk.at
    obtain ⟨hb1, hb2⟩ := before_range hy (by omega)
    obtain ⟨hb3, hb4⟩ := before_range (y := y + 1) (by omega) (by omega)
    have hlt := before_lt y
    clear hblk hb hres hcy
    by_cases hle : before (y + 1) ≤ D
    · have g1 : decide (before (y + 1) + 584388 - (before y + 584388) ≤ D - before y) = true := decide_eq_true (by omega)
      have e1 : IntKind.i64.wrap (y + 1) = y + 1 := IntWalk.i64_in _ (by omega)
      have e2 : IntKind.i64.wrap (before (y + 1) + 584388 - (before y + 584388)) = before (y + 1) + 584388 - (before y + 584388) := IntWalk.i64_in _ (by clear e1; omega)
      go_wp2_with fail
      go_quiet ((go_at_call 244; exact Calls.quiet_of_same ((specBefore _ _ (by clear e1 e2; omega) (by clear e1 e2; omega)).mono fun e w' h => ⟨h.1, h.2.symm⟩)))
      go_wp2_with fail
      generalize hW : World.drewN wr _ = w2
      have HK2 : Hid (Blk w2 (w.heap.size + 1) y 1 0 (n % 86400 / 3600) (n % 86400 / 60 % 60) (n % 60)) := by rw [← hW]; exact HK
      have HR2 : Hid (Blk w2 w.heap.size 0 0 0 0 0 0) := by rw [← hW]; exact HR
      have HB2 : Hid (Below w.heap.size w w2) := by rw [← hW]; exact Lib.hid (drewN_below HB.out _)
      clear hW c0 c1 hf
      obtain ⟨c0, c1, _⟩ := HK2.out.at
      have hf := HK2.out.free 0
      have e3 : IntKind.i64.wrap (D - before y - (before (y + 1) + 584388 - (before y + 584388))) = D - before y - (before (y + 1) + 584388 - (before y + 584388)) := IntWalk.i64_in _ (by clear e1 e2; omega)
      go_quiet ((go_at_call 244; exact Calls.quiet_of_same ((specBefore _ _ (by clear e1 e2 e3; omega) (by clear e1 e2 e3; omega)).mono fun e w' h => ⟨h.1, h.2.symm⟩)))
      clear e1 e2 e3
      go_wp2_with fail
      go_roundw
      case rel => exact ⟨y + 1, by congr 1; omega, by omega, hle, HK2.out.year _, HR2.out.other (by omega), (drewN_below HB2.out _).setCell (by simp) _⟩
      case measure => simp [intOf]; omega
    · have g1 : decide (before (y + 1) + 584388 - (before y + 584388) ≤ D - before y) = false := decide_eq_false (by omega)
      have e1 : IntKind.i64.wrap (y + 1) = y + 1 := IntWalk.i64_in _ (by omega)
      have e2 : IntKind.i64.wrap (before (y + 1) + 584388 - (before y + 584388)) = before (y + 1) + 584388 - (before y + 584388) := IntWalk.i64_in _ (by clear e1; omega)
      go_wp2_with fail
      go_quiet ((go_at_call 244; exact Calls.quiet_of_same ((specBefore _ _ (by clear e1 e2; omega) (by clear e1 e2; omega)).mono fun e w' h => ⟨h.1, h.2.symm⟩)))
      clear e1 e2 g1
      generalize hW : World.drewN wr _ = w2
      have HK2 : Hid (Blk w2 (w.heap.size + 1) y 1 0 (n % 86400 / 3600) (n % 86400 / 60 % 60) (n % 60)) := by rw [← hW]; exact HK
      have HR2 : Hid (Blk w2 w.heap.size 0 0 0 0 0 0) := by rw [← hW]; exact HR
      have HB2 : Hid (Below w.heap.size w w2) := by rw [← hW]; exact Lib.hid (drewN_below HB.out _)
      clear hW c0 c1 hf HK HR HB
      have hz : D < before (y + 1) := by omega
      go_wp2_with fail
      go_loopw [4] (fun v wr => MonthRel2 w y (D - before y) (n % 86400 / 3600) (n % 86400 / 60 % 60) (n % 60) v wr) (fun v _ => (intOf v).toNat)
      case atStart => exact ⟨0, by omega, by simp [msum], by simp [msum]; omega, HK2.out, HR2.out, HB2.out⟩
      case round =>
        clear HK2 HR2 HB2
        obtain ⟨k, hk, rfl, hle, hblk, hres, hb⟩ := hrel
        have HK := Lib.hid hblk
        have HR := Lib.hid hres
        have HB := Lib.hid hb
        have hf := hblk.free 1
        have hf2 := hblk.free 2
        obtain ⟨c0, c1, c2, c3, c4, c5⟩ := hblk.at
        obtain ⟨hd1, hd2⟩ := mdays_le y ((k : Int) + 1)
        have hm0 := msum_nonneg y k
        clear hblk hb hres
        by_cases hlt2 : mdays y ((k : Int) + 1) ≤ D - before y - msum y k
        · have HL := Lib.hid hlt2
          go_wp2_with (go_at_call 245; refine (specDays _ _ _ (by omega) (by omega)).mono ?_; rintro e w' ⟨rfl, rfl⟩)
          go_roundw
          case rel =>
            have hk2 := month_next (y := y) (left := D - before y) (k := k) (by omega) (by omega) hk
            refine ⟨k + 1, hk2, ?_, ?_, HK.out.month _, HR.out.other (by omega), HB.out.setCell (by simp) _⟩
            · rw [msum_one]
              congr 1
              omega
            · rw [msum_one]
              omega
          case measure => simp [intOf]; omega
        · have HL := Lib.hid hlt2
          have f0 := HR.out.free 0
          have f1 := HR.out.free 1
          have f2 := HR.out.free 2
          have f3 := HR.out.free 3
          have f4 := HR.out.free 4
          have f5 := HR.out.free 5
          obtain ⟨r0, r1, r2, r3, r4, r5⟩ := HR.out.at
          go_wp2_with (go_at_call 245; refine (specDays _ _ _ (by omega) (by omega)).mono ?_; rintro e w' ⟨rfl, rfl⟩)
          generalize hA : n % 86400 / 3600 = sh
          generalize hB : n % 86400 / 60 % 60 = sm
          generalize hC : n % 60 = ss
          obtain ⟨q0, q1, q2, q3, q4, q5⟩ := ((HR.out.other (B' := w.heap.size + 1) (i := 2) (v := .int .i64 (D - before y - msum y k + 1)) (by omega)).put y ((k : Int) + 1) (D - before y - msum y k + 1) (sh) (sm) (ss)).at
          refine bodyPost_ret (v := .agg #[.int .i64 y, .int .i64 ((k : Int) + 1), .int .i64 (D - before y - msum y k + 1), .int .i64 (sh), .int .i64 (sm), .int .i64 (ss)]) (by simp [results, Tryz.results162, go_sem, q0, q1, q2, q3, q4, q5]) rfl ?_
          refine ⟨y, _, _, _, _, _, ⟨k, ?_, rfl, hA.symm, hB.symm, by show ss = n % 86400 % 60; omega⟩, rfl, Blk.putBelow (HB.out.setCell (by simp) _) (Nat.le_refl _) _ _ _ _ _ _⟩
          rw [HD.out]
          have hm := msum_one y k
          have hl := HL.out
          exact ⟨hy, hyn, hz, hk, hle, (by show D - before y < msum y (k + 1); omega), rfl⟩
end Go.Proofs.YtpdonghdnaehhaaGreatDoor
