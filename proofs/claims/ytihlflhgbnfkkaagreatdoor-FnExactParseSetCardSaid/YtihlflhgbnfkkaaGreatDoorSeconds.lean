/- Seconds and Weekday of the program and of the model: what they answer, at every date. No condition of its own. -/
import Derived.Test.YtihlflhgbnfkkaaGreatDoorDayNum
import Derived.Deep.RegionHeld3
namespace Go.Proofs.YtihlflhgbnfkkaaGreatDoor
open Go.ChangeShapes Go.WideShapes Go.ChangeAt Go.WideMaps Go.WideElems Go.RowKit

def secV (a : Dt) : Int := if okB a then secsN a else 0
def okC (a : Dt) : Int := if okB a then 0 else 1
theorem dt_keep {w w1 w2 : World} {B : Nat} {y m d h n s : Int} (hS : w1.cell? ⟨B, 0, none⟩ = some (.int .i64 y) ∧ w1.cell? ⟨B, 1, none⟩ = some (.int .i64 m) ∧ w1.cell? ⟨B, 2, none⟩ = some (.int .i64 d) ∧ w1.cell? ⟨B, 3, none⟩ = some (.int .i64 h) ∧ w1.cell? ⟨B, 4, none⟩ = some (.int .i64 n) ∧ w1.cell? ⟨B, 5, none⟩ = some (.int .i64 s) ∧ Below w.heap.size w w1) (hb : Below w1.heap.size w1 w2) :
    w2.cell? ⟨B, 0, none⟩ = some (.int .i64 y) ∧ w2.cell? ⟨B, 1, none⟩ = some (.int .i64 m) ∧ w2.cell? ⟨B, 2, none⟩ = some (.int .i64 d) ∧ w2.cell? ⟨B, 3, none⟩ = some (.int .i64 h) ∧ w2.cell? ⟨B, 4, none⟩ = some (.int .i64 n) ∧ w2.cell? ⟨B, 5, none⟩ = some (.int .i64 s) ∧ Below w.heap.size w w2 :=
  ⟨cell_kept hb hS.1, cell_kept hb hS.2.1, cell_kept hb hS.2.2.1, cell_kept hb hS.2.2.2.1, cell_kept hb hS.2.2.2.2.1, cell_kept hb hS.2.2.2.2.2.1, hS.2.2.2.2.2.2.trans (hb.mono hS.2.2.2.2.2.2.size)⟩
theorem dt_new (w : World) (y m d h n s : Int) : (w.alloc (.cells #[.int .i64 y, .int .i64 m, .int .i64 d, .int .i64 h, .int .i64 n, .int .i64 s] 90)).cell? ⟨w.heap.size, 0, none⟩ = some (.int .i64 y) ∧ (w.alloc (.cells #[.int .i64 y, .int .i64 m, .int .i64 d, .int .i64 h, .int .i64 n, .int .i64 s] 90)).cell? ⟨w.heap.size, 1, none⟩ = some (.int .i64 m) ∧ (w.alloc (.cells #[.int .i64 y, .int .i64 m, .int .i64 d, .int .i64 h, .int .i64 n, .int .i64 s] 90)).cell? ⟨w.heap.size, 2, none⟩ = some (.int .i64 d) ∧ (w.alloc (.cells #[.int .i64 y, .int .i64 m, .int .i64 d, .int .i64 h, .int .i64 n, .int .i64 s] 90)).cell? ⟨w.heap.size, 3, none⟩ = some (.int .i64 h) ∧ (w.alloc (.cells #[.int .i64 y, .int .i64 m, .int .i64 d, .int .i64 h, .int .i64 n, .int .i64 s] 90)).cell? ⟨w.heap.size, 4, none⟩ = some (.int .i64 n) ∧ (w.alloc (.cells #[.int .i64 y, .int .i64 m, .int .i64 d, .int .i64 h, .int .i64 n, .int .i64 s] 90)).cell? ⟨w.heap.size, 5, none⟩ = some (.int .i64 s) ∧ Below w.heap.size w (w.alloc (.cells #[.int .i64 y, .int .i64 m, .int .i64 d, .int .i64 h, .int .i64 n, .int .i64 s] 90)) :=
  ⟨by simp, by simp, by simp, by simp, by simp, by simp, (Below.refl _ _).alloc (Nat.le_refl _) _⟩
theorem dt_drew {w w1 : World} {B : Nat} {y m d h n s : Int} (hS : w1.cell? ⟨B, 0, none⟩ = some (.int .i64 y) ∧ w1.cell? ⟨B, 1, none⟩ = some (.int .i64 m) ∧ w1.cell? ⟨B, 2, none⟩ = some (.int .i64 d) ∧ w1.cell? ⟨B, 3, none⟩ = some (.int .i64 h) ∧ w1.cell? ⟨B, 4, none⟩ = some (.int .i64 n) ∧ w1.cell? ⟨B, 5, none⟩ = some (.int .i64 s) ∧ Below w.heap.size w w1) : w1.drew.cell? ⟨B, 0, none⟩ = some (.int .i64 y) ∧ w1.drew.cell? ⟨B, 1, none⟩ = some (.int .i64 m) ∧ w1.drew.cell? ⟨B, 2, none⟩ = some (.int .i64 d) ∧ w1.drew.cell? ⟨B, 3, none⟩ = some (.int .i64 h) ∧ w1.drew.cell? ⟨B, 4, none⟩ = some (.int .i64 n) ∧ w1.drew.cell? ⟨B, 5, none⟩ = some (.int .i64 s) ∧ Below w.heap.size w w1.drew :=
  ⟨hS.1, hS.2.1, hS.2.2.1, hS.2.2.2.1, hS.2.2.2.2.1, hS.2.2.2.2.2.1, hS.2.2.2.2.2.2.drew⟩
theorem ints_of {a b p q : Int} (h : a = b) (h' : p = q) : Ending.returned (.tuple #[.int .i64 a, .int .i64 p]) = .returned (.tuple #[.int .i64 b, .int .i64 q]) := by rw [h, h']
theorem implSecs (y m d h n s : Int) (w : World) : Calls Tryz.prog 102 #[.agg #[.int .i64 y, .int .i64 m, .int .i64 d, .int .i64 h, .int .i64 n, .int .i64 s]] w fun e w' => e = .returned (.tuple #[.int .i64 (secV ⟨y, m, d, h, n, s⟩), .int .i64 (okC ⟨y, m, d, h, n, s⟩)]) ∧ Below w.heap.size w w' := by
  cases hok : okB ⟨y, m, d, h, n, s⟩ with
  | false =>
    have HO := Lib.hid hok
    clear hok
    go_enter Tryz.func102, Tryz.ntmps102
    go_wp2_with (go_at_call 162; refine (implOK _ _ _ _ _ _ _).mono ?_; rintro e w' ⟨rfl, hb⟩; have HB := Lib.hid hb; clear hb; rw [HO.out])
    go_ret2
    exact ⟨ints_of (by simp [secV, HO.out]) (by simp [okC, HO.out]), ((Below.refl _ _).alloc (Nat.le_refl _) _).trans (HB.out.mono (by simp))⟩
  | true =>
    have HO := Lib.hid hok
    obtain ⟨⟨hy1, hy2⟩, ⟨hm1, hm2⟩, ⟨hd1, hd2⟩, ⟨hh1, hh2⟩, ⟨hn1, hn2⟩, ⟨hs1, hs2⟩⟩ := (ok_iff _).1 hok
    obtain ⟨hdn1, hdn2⟩ := dayN_range hok
    have hd3 := (mdays_le y m).2
    simp only at hy1 hy2 hm1 hm2 hd1 hd2 hh1 hh2 hn1 hn2 hs1 hs2
    clear hok
    have HR := Lib.hid (⟨hy1, hy2⟩ : 1601 ≤ y ∧ y ≤ 9999)
    go_enter Tryz.func102, Tryz.ntmps102
    go_wp2_with fail
    refine (implOK y m d h n s _).mono ?_
    rintro e w1 ⟨rfl, hb⟩
    have hS1 := dt_drew (dt_keep (dt_new w y m d h n s) hb)
    clear hb
    rw [HO.out]
    go_wp2_with fail
    obtain ⟨N, hN⟩ : ∃ N, dayN ⟨y, m, d, h, n, s⟩ = N := ⟨_, rfl⟩
    rw [hN] at hdn1 hdn2
    have e1 : IntKind.i64.wrap (N * 86400) = N * 86400 := IntWalk.i64_in _ (by omega)
    have e2 : IntKind.i64.wrap (-11644473600 + N * 86400) = -11644473600 + N * 86400 := IntWalk.i64_in _ (by clear e1; omega)
    have e3 : IntKind.i64.wrap (h * 3600) = h * 3600 := IntWalk.i64_in _ (by clear e1 e2; omega)
    have e4 : IntKind.i64.wrap (-11644473600 + N * 86400 + h * 3600) = -11644473600 + N * 86400 + h * 3600 := IntWalk.i64_in _ (by clear e1 e2 e3; omega)
    have e5 : IntKind.i64.wrap (n * 60) = n * 60 := IntWalk.i64_in _ (by clear e1 e2 e3 e4; omega)
    have e6 : IntKind.i64.wrap (-11644473600 + N * 86400 + h * 3600 + n * 60) = -11644473600 + N * 86400 + h * 3600 + n * 60 := IntWalk.i64_in _ (by clear e1 e2 e3 e4 e5; omega)
    have e7 : IntKind.i64.wrap (-11644473600 + N * 86400 + h * 3600 + n * 60 + s) = -11644473600 + N * 86400 + h * 3600 + n * 60 + s := IntWalk.i64_in _ (by clear e1 e2 e3 e4 e5 e6; omega)
    have HN := Lib.hid hN
    clear hN
    go_region_held3 (fun w' => w'.cell? ⟨w.heap.size, 0, none⟩ = some (.int .i64 y) ∧ w'.cell? ⟨w.heap.size, 1, none⟩ = some (.int .i64 m) ∧ w'.cell? ⟨w.heap.size, 2, none⟩ = some (.int .i64 d) ∧ w'.cell? ⟨w.heap.size, 3, none⟩ = some (.int .i64 h) ∧ w'.cell? ⟨w.heap.size, 4, none⟩ = some (.int .i64 n) ∧ w'.cell? ⟨w.heap.size, 5, none⟩ = some (.int .i64 s) ∧ Below w.heap.size w w') (first | assumption)
      (first | (go_at_call 163; refine (implNum y m d h n s _ ⟨hy1, hy2⟩ ⟨hm1, hm2⟩ ⟨hd1, by omega⟩).mono ?_; rintro e w' ⟨rfl, hb⟩; have hS := dt_keep (by assumption) hb; clear hb; rw [HN.out]))
    clear e1 e2 e3 e4 e5 e6 e7
    go_wp2_with fail
    go_ret2
    refine ⟨ints_of ?_ (by simp [okC, HO.out]), ?_⟩
    · rw [secV, if_pos HO.out, secsN, HN.out]
      simp only
      omega
    · exact hS.2.2.2.2.2.2
theorem specSecsL (y m d h n s : Int) (w : World) (hok : okB ⟨y, m, d, h, n, s⟩ = true) : Calls Tryz.prog 144 #[.agg #[.int .i64 y, .int .i64 m, .int .i64 d, .int .i64 h, .int .i64 n, .int .i64 s]] w fun e w' => e = .returned (.int .i64 (secsN ⟨y, m, d, h, n, s⟩)) ∧ Below w.heap.size w w' := by
  obtain ⟨⟨hy1, hy2⟩, ⟨hm1, hm2⟩, ⟨hd1, hd2⟩, ⟨hh1, hh2⟩, ⟨hn1, hn2⟩, ⟨hs1, hs2⟩⟩ := (ok_iff _).1 hok
  obtain ⟨hdn1, hdn2⟩ := dayN_range hok
  have hd3 := (mdays_le y m).2
  simp only at hy1 hy2 hm1 hm2 hd1 hd2 hh1 hh2 hn1 hn2 hs1 hs2
  clear hok
  have hS1 := dt_drew (dt_new w y m d h n s)
  obtain ⟨N, hN⟩ : ∃ N, dayN ⟨y, m, d, h, n, s⟩ - 134774 = N := ⟨_, rfl⟩
  have hN1 : -134774 ≤ N := by omega
  have hN2 : N ≤ 2932896 := by omega
  have HN := Lib.hid hN
  clear hN hdn1 hdn2
  go_enter Tryz.func144, Tryz.ntmps144
  go_wp2_with fail
  have e1 : IntKind.i64.wrap (86400 * N) = 86400 * N := IntWalk.i64_in _ (by omega)
  have e2 : IntKind.i64.wrap (3600 * h) = 3600 * h := IntWalk.i64_in _ (by clear e1; omega)
  have e3 : IntKind.i64.wrap (86400 * N + 3600 * h) = 86400 * N + 3600 * h := IntWalk.i64_in _ (by clear e1 e2; omega)
  have e4 : IntKind.i64.wrap (60 * n) = 60 * n := IntWalk.i64_in _ (by clear e1 e2 e3; omega)
  have e5 : IntKind.i64.wrap (86400 * N + 3600 * h + 60 * n) = 86400 * N + 3600 * h + 60 * n := IntWalk.i64_in _ (by clear e1 e2 e3 e4; omega)
  have e6 : IntKind.i64.wrap (86400 * N + 3600 * h + 60 * n + s) = 86400 * N + 3600 * h + 60 * n + s := IntWalk.i64_in _ (by clear e1 e2 e3 e4 e5; omega)
  go_region_held3 (fun w' => w'.cell? ⟨w.heap.size, 0, none⟩ = some (.int .i64 y) ∧ w'.cell? ⟨w.heap.size, 1, none⟩ = some (.int .i64 m) ∧ w'.cell? ⟨w.heap.size, 2, none⟩ = some (.int .i64 d) ∧ w'.cell? ⟨w.heap.size, 3, none⟩ = some (.int .i64 h) ∧ w'.cell? ⟨w.heap.size, 4, none⟩ = some (.int .i64 n) ∧ w'.cell? ⟨w.heap.size, 5, none⟩ = some (.int .i64 s) ∧ Below w.heap.size w w') (first | assumption)
    (first | (go_at_call 185; refine (specNum y m d h n s _ ⟨hy1, hy2⟩ ⟨hm1, hm2⟩ ⟨hd1, by clear e1 e2 e3 e4 e5 e6; omega⟩).mono ?_; rintro e w' ⟨rfl, hb⟩; have hS := dt_keep (by assumption) hb; clear hb; rw [HN.out]))
  clear e1 e2 e3 e4 e5 e6
  go_wp2_with fail
  go_ret
  refine ⟨int_of ?_, hS.2.2.2.2.2.2⟩
  have hN := HN.out
  unfold secsN
  simp only
  omega
def weekV (a : Dt) : Int := if okB a then weekN a else 0
theorem implWeek (y m d h n s : Int) (w : World) : Calls Tryz.prog 140 #[.agg #[.int .i64 y, .int .i64 m, .int .i64 d, .int .i64 h, .int .i64 n, .int .i64 s]] w fun e w' => e = .returned (.tuple #[.int .i64 (weekV ⟨y, m, d, h, n, s⟩), .int .i64 (okC ⟨y, m, d, h, n, s⟩)]) ∧ Below w.heap.size w w' := by
  cases hok : okB ⟨y, m, d, h, n, s⟩ with
  | false =>
    have HO := Lib.hid hok
    clear hok
    go_enter Tryz.func140, Tryz.ntmps140
    go_wp2_with (go_at_call 162; refine (implOK _ _ _ _ _ _ _).mono ?_; rintro e w' ⟨rfl, hb⟩; have HB := Lib.hid hb; clear hb; rw [HO.out])
    go_ret2
    exact ⟨ints_of (by simp [weekV, HO.out]) (by simp [okC, HO.out]), ((Below.refl _ _).alloc (Nat.le_refl _) _).trans (HB.out.mono (by simp))⟩
  | true =>
    have HO := Lib.hid hok
    obtain ⟨⟨hy1, hy2⟩, ⟨hm1, hm2⟩, ⟨hd1, hd2⟩, _⟩ := (ok_iff _).1 hok
    obtain ⟨hdn1, hdn2⟩ := dayN_range hok
    have hd3 := (mdays_le y m).2
    simp only at hy1 hy2 hm1 hm2 hd1 hd2
    have hd31 : d ≤ 31 := by omega
    obtain ⟨N, hN⟩ : ∃ N, dayN ⟨y, m, d, h, n, s⟩ = N := ⟨_, rfl⟩
    rw [hN] at hdn1 hdn2
    have HN := Lib.hid hN
    clear hok hN hd2 hd3
    go_enter Tryz.func140, Tryz.ntmps140
    go_wp2_with fail
    refine (implOK y m d h n s _).mono ?_
    rintro e w1 ⟨rfl, hb⟩
    have hS1 := dt_keep (dt_new w y m d h n s) hb
    clear hb
    rw [HO.out]
    obtain ⟨c0, c1, c2, c3, c4, c5, hb1⟩ := hS1
    have HB1 := Lib.hid hb1
    clear hb1
    go_wp2_with fail
    refine (implNum y m d h n s _ ⟨hy1, hy2⟩ ⟨hm1, hm2⟩ ⟨hd1, hd31⟩).mono ?_
    rintro e w2 ⟨rfl, hb⟩
    have HB2 := Lib.hid (HB1.out.trans (hb.mono HB1.out.size))
    clear hb
    rw [HN.out]
    go_wp2_with fail
    go_ret2
    refine ⟨ints_of ?_ (by simp [okC, HO.out]), HB2.out⟩
    rw [weekV, if_pos HO.out, weekN, HN.out]
    omega
theorem specWeekL (y m d h n s : Int) (w : World) (hok : okB ⟨y, m, d, h, n, s⟩ = true) : Calls Tryz.prog 145 #[.agg #[.int .i64 y, .int .i64 m, .int .i64 d, .int .i64 h, .int .i64 n, .int .i64 s]] w fun e w' => e = .returned (.int .i64 (weekN ⟨y, m, d, h, n, s⟩)) ∧ Below w.heap.size w w' := by
  obtain ⟨⟨hy1, hy2⟩, ⟨hm1, hm2⟩, ⟨hd1, hd2⟩, _⟩ := (ok_iff _).1 hok
  obtain ⟨hdn1, hdn2⟩ := dayN_range hok
  have hd3 := (mdays_le y m).2
  simp only at hy1 hy2 hm1 hm2 hd1 hd2
  have hd31 : d ≤ 31 := by omega
  obtain ⟨N, hN⟩ : ∃ N, dayN ⟨y, m, d, h, n, s⟩ = N := ⟨_, rfl⟩
  rw [hN] at hdn1 hdn2
  have HN := Lib.hid hN
  clear hok hN hd2 hd3
  go_enter Tryz.func145, Tryz.ntmps145
  go_wp2_with fail
  refine (specNum y m d h n s _ ⟨hy1, hy2⟩ ⟨hm1, hm2⟩ ⟨hd1, hd31⟩).mono ?_
  rintro e w2 ⟨rfl, hb⟩
  have HB2 := Lib.hid (((Below.refl _ _).alloc (Nat.le_refl _) _).trans (hb.mono (by simp)))
  clear hb
  rw [HN.out]
  go_wp2_with fail
  go_ret
  refine ⟨int_of ?_, HB2.out⟩
  rw [weekN, HN.out]
  omega
end Go.Proofs.YtihlflhgbnfkkaaGreatDoor
