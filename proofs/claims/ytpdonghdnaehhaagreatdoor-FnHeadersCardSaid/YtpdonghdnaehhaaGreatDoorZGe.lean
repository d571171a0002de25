/- The number of a date's day, of the program and of the model; Seconds and Weekday. The dates are valid where a premise says so. -/
import Derived.Test.YtpdonghdnaehhaaGreatDoorZDateOK
namespace Go.Proofs.YtpdonghdnaehhaaGreatDoor
open Go.ChangeShapes Go.WideShapes Go.ChangeAt Go.WideMaps Go.WideElems Go.RowKit

theorem before_range {y : Int} (h1 : 1601 ≤ y) (h2 : y ≤ 10000) : 0 ≤ before y ∧ before y ≤ 3067671 := by
  unfold before
  omega
def NumRel (c : Int) (w : World) (y m d : Int) (nn kk : Value) (wr : World) : Prop :=
  ∃ k : Nat, (k : Int) + 1 ≤ m ∧ kk = .int .i64 ((k : Int) + 1) ∧ nn = .int .i64 (c + msum y k) ∧ Below w.heap.size w wr ∧ wr.cell? ⟨w.heap.size, 0, none⟩ = some (.int .i64 y) ∧ wr.cell? ⟨w.heap.size, 1, none⟩ = some (.int .i64 m) ∧ wr.cell? ⟨w.heap.size, 2, none⟩ = some (.int .i64 d)
theorem numRel_next {c : Int} {w : World} {y m d x : Int} {k : Nat} {wr : World} (hk : (k : Int) + 1 + 1 ≤ m) (hx : x = c + msum y k + mdays y ((k : Int) + 1)) (hb : Below w.heap.size w wr) (h0 : wr.cell? ⟨w.heap.size, 0, none⟩ = some (.int .i64 y)) (h1 : wr.cell? ⟨w.heap.size, 1, none⟩ = some (.int .i64 m)) (h2 : wr.cell? ⟨w.heap.size, 2, none⟩ = some (.int .i64 d)) :
    NumRel c w y m d (.int .i64 x) (.int .i64 ((k : Int) + 1 + 1)) wr :=
  ⟨k + 1, by omega, by go_num, by rw [hx, msum_step]; congr 1; push_cast; omega, hb, h0, h1, h2⟩
theorem implNum (y m d h n s : Int) (w : World) (hy : 1601 ≤ y ∧ y ≤ 9999) (hm : 1 ≤ m ∧ m ≤ 12) (hd : 1 ≤ d ∧ d ≤ 31) : Calls Tryz.prog 260 #[.agg #[.int .i64 y, .int .i64 m, .int .i64 d, .int .i64 h, .int .i64 n, .int .i64 s]] w fun e w' => e = .returned (.int .i64 (dayN ⟨y, m, d, h, n, s⟩)) ∧ Below w.heap.size w w' := by
  obtain ⟨hy1, hy2⟩ := hy
  obtain ⟨hm1, hm2⟩ := hm
  obtain ⟨hd1, hd2⟩ := hd
  obtain ⟨hb1, hb2⟩ := before_range hy1 (by omega)
  have e1 : IntKind.i64.wrap (before y + d) = before y + d := IntWalk.i64_in _ (by omega)
  have e2 : IntKind.i64.wrap (before y + d - 1) = before y + d - 1 := IntWalk.i64_in _ (by omega)
  go_enter Tryz.func260, Tryz.ntmps260
  go_wp2_with fail
  go_quiet ((go_at_call 294; exact Calls.quiet_of_same ((implBefore _ _ hy1 (by omega)).mono fun e w' h => ⟨h.1, h.2.symm⟩)))
  clear e1 e2
  go_wp2_with fail
  go_loopw [3, 4] (fun nn kk wr => NumRel (before y + d - 1) w y m d nn kk wr) (fun _ kk _ => (m - intOf kk).toNat)
  case atStart => exact ⟨0, by omega, rfl, by simp [msum], drewN_below ((Below.refl _ _).alloc (Nat.le_refl _) _) _, by simp, by simp, by simp⟩
  case round =>
    obtain ⟨k, hk, rfl, rfl, hb, hc0, hc1, hc2⟩ := hrel
    have HB := Lib.hid hb
    have hms := msum_nonneg y k
    have hml := msum_le y k
    obtain ⟨hd3, hd4⟩ := mdays_le y ((k : Int) + 1)
    clear hb
    by_cases hlt : (k : Int) + 1 < m
    · have HC0 := Lib.hid hc0
      have HC1 := Lib.hid hc1
      have HC2 := Lib.hid hc2
      have e3 : IntKind.i64.wrap (before y + d - 1 + msum y k + mdays y ((k : Int) + 1)) = before y + d - 1 + msum y k + mdays y ((k : Int) + 1) := IntWalk.i64_in _ (by omega)
      have g1 : decide ((k : Int) + 1 < m) = true := by simpa using hlt
      go_wp2_with (go_at_call 295; refine (implDays _ _ _ (by omega) (by omega)).mono ?_; rintro e w' ⟨rfl, rfl⟩)
      clear e3
      go_roundw
      case rel => exact numRel_next (by omega) rfl HB.out HC0.out HC1.out HC2.out
      case measure => simp [intOf]; omega
    · have HE : Hid (before y + d - 1 + msum y k = dayN ⟨y, m, d, h, n, s⟩) := by
        show before y + d - 1 + msum y k = dayN ⟨y, m, d, h, n, s⟩
        unfold dayN
        simp only
        rw [show m.toNat - 1 = k by omega]
        omega
      have g1 : decide ((k : Int) + 1 < m) = false := by simpa using hlt
      go_wp2_with fail
      go_ret
      exact ⟨int_of HE.out, HB.out⟩
theorem specNum (y m d h n s : Int) (w : World) (hy : 1601 ≤ y ∧ y ≤ 9999) (hm : 1 ≤ m ∧ m ≤ 12) (hd : 1 ≤ d ∧ d ≤ 31) : Calls Tryz.prog 300 #[.agg #[.int .i64 y, .int .i64 m, .int .i64 d, .int .i64 h, .int .i64 n, .int .i64 s]] w fun e w' => e = .returned (.int .i64 (dayN ⟨y, m, d, h, n, s⟩ - 134774)) ∧ Below w.heap.size w w' := by
  obtain ⟨hy1, hy2⟩ := hy
  obtain ⟨hm1, hm2⟩ := hm
  obtain ⟨hd1, hd2⟩ := hd
  obtain ⟨hb1, hb2⟩ := before_range hy1 (by omega)
  have e0 : before 1970 = 134774 := by decide
  have E0 := Lib.hid e0
  clear e0
  go_enter Tryz.func300, Tryz.ntmps300
  go_wp2_with fail
  refine (specBefore y _ hy1 (by omega)).mono ?_
  rintro e w' ⟨rfl, rfl⟩
  go_wp2_with fail
  refine (specBefore 1970 _ (by omega) (by omega)).mono ?_
  rintro e w' ⟨rfl, rfl⟩
  rw [E0.out]
  go_wp2_with fail
  go_loopw [3, 4] (fun nn kk wr => NumRel (before y - 134774) w y m d nn kk wr) (fun _ kk _ => (m - intOf kk).toNat)
  case atStart => exact ⟨0, by omega, rfl, by show Value.int .i64 (before y + 584388 - 719162) = .int .i64 (before y - 134774 + 0); congr 1; omega, (Below.refl _ _).alloc (Nat.le_refl _) _, by simp, by simp, by simp⟩
  case round =>
    obtain ⟨k, hk, rfl, rfl, hb, hc0, hc1, hc2⟩ := hrel
    have HB := Lib.hid hb
    have hms := msum_nonneg y k
    have hml := msum_le y k
    obtain ⟨hd3, hd4⟩ := mdays_le y ((k : Int) + 1)
    clear hb
    by_cases hlt : (k : Int) + 1 < m
    · have HC0 := Lib.hid hc0
      have HC1 := Lib.hid hc1
      have HC2 := Lib.hid hc2
      have e3 : IntKind.i64.wrap (before y - 134774 + msum y k + mdays y ((k : Int) + 1)) = before y - 134774 + msum y k + mdays y ((k : Int) + 1) := IntWalk.i64_in _ (by omega)
      have g1 : decide ((k : Int) + 1 < m) = true := by simpa using hlt
      go_wp2_with (go_at_call 245; refine (specDays _ _ _ (by omega) (by omega)).mono ?_; rintro e w' ⟨rfl, rfl⟩)
      clear e3
      go_roundw
      case rel => exact numRel_next (by clear hd3 hd4; omega) rfl HB.out HC0.out HC1.out HC2.out
      case measure => simp [intOf]; omega
    · have HE : Hid (before y - 134774 + msum y k + d - 1 = dayN ⟨y, m, d, h, n, s⟩ - 134774) := by
        show before y - 134774 + msum y k + d - 1 = dayN ⟨y, m, d, h, n, s⟩ - 134774
        unfold dayN
        simp only
        rw [show m.toNat - 1 = k by omega]
        omega
      have g1 : decide ((k : Int) + 1 < m) = false := by simpa using hlt
      go_wp2_with fail
      go_ret
      exact ⟨int_of HE.out, HB.out⟩
end Go.Proofs.YtpdonghdnaehhaaGreatDoor

namespace Go.Proofs.YtpdonghdnaehhaaGreatDoor
open Go.ChangeShapes Go.WideShapes Go.ChangeAt Go.WideMaps Go.WideElems Go.RowKit

/-- The block B holds a date. -/
def Blk (w : World) (B : Nat) (y m d h n s : Int) : Prop := w.heap[B]? = some (.cells #[.int .i64 y, .int .i64 m, .int .i64 d, .int .i64 h, .int .i64 n, .int .i64 s] 158 (0, 0))
theorem Blk.at {w : World} {B : Nat} {y m d h n s : Int} (hb : Blk w B y m d h n s) : w.cell? ⟨B, 0, none⟩ = some (.int .i64 y) ∧ w.cell? ⟨B, 1, none⟩ = some (.int .i64 m) ∧ w.cell? ⟨B, 2, none⟩ = some (.int .i64 d) ∧ w.cell? ⟨B, 3, none⟩ = some (.int .i64 h) ∧ w.cell? ⟨B, 4, none⟩ = some (.int .i64 n) ∧ w.cell? ⟨B, 5, none⟩ = some (.int .i64 s) := by
  unfold Blk at hb
  refine ⟨?_, ?_, ?_, ?_, ?_, ?_⟩ <;> simp [World.cell?, hb]
theorem Blk.free {w : World} {B : Nat} {y m d h n s : Int} (hb : Blk w B y m d h n s) (i : Nat) : w.frozen? ⟨B, i, none⟩ = false := by
  unfold Blk at hb
  simp [World.frozen?, hb]
theorem Blk.lt {w : World} {B : Nat} {y m d h n s : Int} (hb : Blk w B y m d h n s) : B < w.heap.size := (Array.getElem?_eq_some_iff.1 hb).1
theorem Blk.other {w : World} {B B' i : Nat} {y m d h n s : Int} {v : Value} (hb : Blk w B y m d h n s) (hne : B' ≠ B) : Blk (w.setCell ⟨B', i, none⟩ v) B y m d h n s := by
  unfold Blk at *
  rw [Below.heap_setCell _ _ _ _ (Ne.symm hne)]
  exact hb
theorem Blk.alloc {w : World} {B : Nat} {y m d h n s : Int} (hb : Blk w B y m d h n s) (o : Obj) : Blk (w.alloc o) B y m d h n s := (Below.heap_alloc _ _ _ hb.lt).trans hb
theorem heap_set {w : World} {b : Nat} {cs : Array Value} {t : TypeId} {fr : Nat × Nat} (h : w.heap[b]? = some (.cells cs t fr)) (i : Nat) (v : Value) : (w.setCell ⟨b, i, none⟩ v).heap[b]? = some (.cells (cs.setIfInBounds i v) t fr) := by
  simp only [World.setCell, Array.getElem?_modify, if_true, h]
  rfl
theorem Blk.year {w : World} {B : Nat} {y m d h n s : Int} (hb : Blk w B y m d h n s) (x : Int) : Blk (w.setCell ⟨B, 0, none⟩ (.int .i64 x)) B x m d h n s := heap_set hb 0 _
theorem Blk.month {w : World} {B : Nat} {y m d h n s : Int} (hb : Blk w B y m d h n s) (x : Int) : Blk (w.setCell ⟨B, 1, none⟩ (.int .i64 x)) B y x d h n s := heap_set hb 1 _
theorem Blk.day {w : World} {B : Nat} {y m d h n s : Int} (hb : Blk w B y m d h n s) (x : Int) : Blk (w.setCell ⟨B, 2, none⟩ (.int .i64 x)) B y m x h n s := heap_set hb 2 _
theorem Blk.hour {w : World} {B : Nat} {y m d h n s : Int} (hb : Blk w B y m d h n s) (x : Int) : Blk (w.setCell ⟨B, 3, none⟩ (.int .i64 x)) B y m d x n s := heap_set hb 3 _
theorem Blk.minute {w : World} {B : Nat} {y m d h n s : Int} (hb : Blk w B y m d h n s) (x : Int) : Blk (w.setCell ⟨B, 4, none⟩ (.int .i64 x)) B y m d h x s := heap_set hb 4 _
theorem Blk.second {w : World} {B : Nat} {y m d h n s : Int} (hb : Blk w B y m d h n s) (x : Int) : Blk (w.setCell ⟨B, 5, none⟩ (.int .i64 x)) B y m d h n x := heap_set hb 5 _
/-- A whole date written into its block. -/
theorem Blk.put {w : World} {B : Nat} {y m d h n s : Int} (hb : Blk w B y m d h n s) (y' m' d' h' n' s' : Int) : Blk ((((((w.setCell ⟨B, 0, none⟩ (.int .i64 y')).setCell ⟨B, 1, none⟩ (.int .i64 m')).setCell ⟨B, 2, none⟩ (.int .i64 d')).setCell ⟨B, 3, none⟩ (.int .i64 h')).setCell ⟨B, 4, none⟩ (.int .i64 n')).setCell ⟨B, 5, none⟩ (.int .i64 s')) B y' m' d' h' n' s' :=
  (((((hb.year _).month _).day _).hour _).minute _).second _
theorem Blk.putBelow {w wr : World} {B C : Nat} (hb : Below C w wr) (hB : C ≤ B) (y' m' d' h' n' s' : Int) : Below C w ((((((wr.setCell ⟨B, 0, none⟩ (.int .i64 y')).setCell ⟨B, 1, none⟩ (.int .i64 m')).setCell ⟨B, 2, none⟩ (.int .i64 d')).setCell ⟨B, 3, none⟩ (.int .i64 h')).setCell ⟨B, 4, none⟩ (.int .i64 n')).setCell ⟨B, 5, none⟩ (.int .i64 s')) :=
  (((((hb.setCell hB _).setCell hB _).setCell hB _).setCell hB _).setCell hB _).setCell hB _
theorem Blk.new (w : World) (y m d h n s : Int) : Blk (w.alloc (.cells #[.int .i64 y, .int .i64 m, .int .i64 d, .int .i64 h, .int .i64 n, .int .i64 s] 158)) w.heap.size y m d h n s := heap_alloc_new w _
end Go.Proofs.YtpdonghdnaehhaaGreatDoor
