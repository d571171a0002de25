/- DateText of the program and of the model: what they answer. -/
import Derived.Test.YtpdonghdnaehhaaGreatDoorZGf
import Derived.Test.YtpdonghdnaehhaaGreatDoorZGe
import Derived.Test.YtpdonghdnaehhaaGreatDoorShelf
import Derived.Lib.ItoaNum
import Derived.RegionTactic
namespace Go.Proofs.YtpdonghdnaehhaaGreatDoor
open Go.ChangeShapes Go.WideShapes Go.ChangeAt Go.WideMaps Go.WideElems Go.RowKit

/-- A number of two digits. -/
def twoL (n : Int) : List UInt8 := [UInt8.ofNat (48 + n.toNat / 10), UInt8.ofNat (48 + n.toNat % 10)]
def twoT (n : Int) : ByteArray := ⟨(twoL n).toArray⟩
theorem two_conv (n : Int) (h0 : 0 ≤ n) (h1 : n ≤ 99) (W' : World) : (convert 22 9 (.slice (some ⟨W'.heap.size, 0, none⟩) 2 2)).run Tryz.prog (W'.alloc (.cells #[.int .u8 (48 + n / 10), .int .u8 (48 + n % 10)] 5)) = .ok (.string (twoT n)) (W'.alloc (.cells #[.int .u8 (48 + n / 10), .int .u8 (48 + n % 10)] 5)) :=
  run_convert_bytes_back (P := Tryz.prog) _ 22 9 5 ⟨W'.heap.size, 0, none⟩ 2 (twoL n) Tryz.underlying22 Tryz.underlying5 Tryz.underlying9 (fun j hj => by
    match j, hj with
    | 0, _ =>
      rw [show Addr.add ⟨W'.heap.size, 0, none⟩ 0 = ⟨W'.heap.size, 0, none⟩ by simp [Addr.add], World.cell?_alloc_at _ _ _ _ rfl]
      simp [twoL]
      omega
    | 1, _ =>
      rw [show Addr.add ⟨W'.heap.size, 0, none⟩ 1 = ⟨W'.heap.size, 1, none⟩ by simp [Addr.add], World.cell?_alloc_at _ _ _ _ rfl]
      simp [twoL]
      omega)
theorem two_any (n : Int) (w : World) (h0 : 0 ≤ n) (h1 : n ≤ 99) : Calls Tryz.prog 238 #[.int .i64 n] w fun e w' => e = .returned (.string (twoT n)) ∧ Below w.heap.size w w' := by
  have hcv := two_conv n h0 h1
  have b1 : 0 ≤ n / 10 := by omega
  have b2 : n / 10 ≤ 9 := by omega
  have b3 : 0 ≤ n % 10 := by omega
  have b4 : n % 10 ≤ 9 := by omega
  go_enter Tryz.func238, Tryz.ntmps238
  go_wp2_with fail
  go_ret
  exact ⟨rfl, (Below.refl _ _).alloc (Nat.le_refl _) _⟩
def dnames : List (List UInt8) := [[83, 117, 110], [77, 111, 110], [84, 117, 101], [87, 101, 100], [84, 104, 117], [70, 114, 105], [83, 97, 116]]
def dnam (k : Int) : ByteArray := ⟨(dnames.getD k.toNat []).toArray⟩
def mnames : List (List UInt8) := [[], [74, 97, 110], [70, 101, 98], [77, 97, 114], [65, 112, 114], [77, 97, 121], [74, 117, 110], [74, 117, 108], [65, 117, 103], [83, 101, 112], [79, 99, 116], [78, 111, 118], [68, 101, 99]]
def mnam (k : Int) : ByteArray := ⟨(mnames.getD k.toNat []).toArray⟩
theorem var_keep {P : Program} {w w' : World} (hb : Below w.heap.size w w') {name : String} {cs : Array Value} (h : w.var? P name = some cs) : w'.var? P name = some cs := by
  unfold World.var? at *
  cases hg : P.globalNamed name with
  | none => rw [hg] at h; cases h
  | some g =>
    rw [hg, Option.bind_some] at h
    rw [Option.bind_some]
    by_cases hlt : g < w.heap.size
    · rw [hb.block g hlt]
      exact h
    · rw [Array.getElem?_eq_none (by omega)] at h
      cases h
def PowAt (w : World) : Prop := Lib.TabIs Tryz.prog w "internal/strconv.uint64pow10" .u64 Lib.pow10Tab
theorem PowAt.below {w w' : World} (h : PowAt w) (hb : Below w.heap.size w w') : PowAt w' := var_keep hb h
theorem grow_below {w w' : World} (h : ∃ k os, w' = Go.Sort.grow (w.drewN k) os) : Below w.heap.size w w' := by
  obtain ⟨k, os, rfl⟩ := h
  refine ⟨rfl, rfl, rfl, by simp [Go.Sort.grow], fun j hj => ?_⟩
  show (w.heap ++ os)[j]? = w.heap[j]?
  rw [Array.getElem?_append_left hj]
theorem year_any (n : Int) (w : World) (h0 : 0 ≤ n) (h1 : n ≤ 9999) (hN : PowAt w) : Calls Tryz.prog 67 #[.int .i64 n] w fun e w' => e = .returned (.string ⟨(Lib.itoa n).toArray⟩) ∧ Below w.heap.size w w' := by
  refine (Tryz.strconv_Itoa n (by omega) (by omega) w hN).mono ?_
  rintro e w' ⟨rfl, hw⟩
  exact ⟨rfl, grow_below hw⟩
theorem add_text (a b : ByteArray) (h : a.size + b.size ≤ 1000000) : Op.stringOp .add a b = pure (.string (a ++ b)) := by
  have hm : IntKind.i64.max = 9223372036854775807 := by decide
  unfold Op.stringOp
  simp only [hm]
  rw [if_neg (by omega)]
theorem txt_keep {w w1 w2 : World} {y m d h n s : Int} {kk mm : Nat} {D M : ByteArray} (hS : w1.cell? ⟨w.heap.size, 0, none⟩ = some (.int .i64 y) ∧ w1.cell? ⟨w.heap.size, 1, none⟩ = some (.int .i64 m) ∧ w1.cell? ⟨w.heap.size, 2, none⟩ = some (.int .i64 d) ∧ w1.cell? ⟨w.heap.size, 3, none⟩ = some (.int .i64 h) ∧ w1.cell? ⟨w.heap.size, 4, none⟩ = some (.int .i64 n) ∧ w1.cell? ⟨w.heap.size, 5, none⟩ = some (.int .i64 s) ∧ w1.cell? ⟨1, kk, none⟩ = some (.string D) ∧ w1.cell? ⟨2, mm, none⟩ = some (.string M) ∧ PowAt w1 ∧ Below w.heap.size w w1) (hb : Below w1.heap.size w1 w2) :
    w2.cell? ⟨w.heap.size, 0, none⟩ = some (.int .i64 y) ∧ w2.cell? ⟨w.heap.size, 1, none⟩ = some (.int .i64 m) ∧ w2.cell? ⟨w.heap.size, 2, none⟩ = some (.int .i64 d) ∧ w2.cell? ⟨w.heap.size, 3, none⟩ = some (.int .i64 h) ∧ w2.cell? ⟨w.heap.size, 4, none⟩ = some (.int .i64 n) ∧ w2.cell? ⟨w.heap.size, 5, none⟩ = some (.int .i64 s) ∧ w2.cell? ⟨1, kk, none⟩ = some (.string D) ∧ w2.cell? ⟨2, mm, none⟩ = some (.string M) ∧ PowAt w2 ∧ Below w.heap.size w w2 :=
  ⟨cell_kept hb hS.1, cell_kept hb hS.2.1, cell_kept hb hS.2.2.1, cell_kept hb hS.2.2.2.1, cell_kept hb hS.2.2.2.2.1, cell_kept hb hS.2.2.2.2.2.1, cell_kept hb hS.2.2.2.2.2.2.1, cell_kept hb hS.2.2.2.2.2.2.2.1, hS.2.2.2.2.2.2.2.2.1.below hb, hS.2.2.2.2.2.2.2.2.2.trans (hb.mono hS.2.2.2.2.2.2.2.2.2.size)⟩
theorem txt_pow {w w1 : World} {y m d h n s : Int} {kk mm : Nat} {D M : ByteArray} (hS : w1.cell? ⟨w.heap.size, 0, none⟩ = some (.int .i64 y) ∧ w1.cell? ⟨w.heap.size, 1, none⟩ = some (.int .i64 m) ∧ w1.cell? ⟨w.heap.size, 2, none⟩ = some (.int .i64 d) ∧ w1.cell? ⟨w.heap.size, 3, none⟩ = some (.int .i64 h) ∧ w1.cell? ⟨w.heap.size, 4, none⟩ = some (.int .i64 n) ∧ w1.cell? ⟨w.heap.size, 5, none⟩ = some (.int .i64 s) ∧ w1.cell? ⟨1, kk, none⟩ = some (.string D) ∧ w1.cell? ⟨2, mm, none⟩ = some (.string M) ∧ PowAt w1 ∧ Below w.heap.size w w1) : PowAt w1 := hS.2.2.2.2.2.2.2.2.1
theorem txt_drew {w w1 : World} {y m d h n s : Int} {kk mm : Nat} {D M : ByteArray} (hS : w1.cell? ⟨w.heap.size, 0, none⟩ = some (.int .i64 y) ∧ w1.cell? ⟨w.heap.size, 1, none⟩ = some (.int .i64 m) ∧ w1.cell? ⟨w.heap.size, 2, none⟩ = some (.int .i64 d) ∧ w1.cell? ⟨w.heap.size, 3, none⟩ = some (.int .i64 h) ∧ w1.cell? ⟨w.heap.size, 4, none⟩ = some (.int .i64 n) ∧ w1.cell? ⟨w.heap.size, 5, none⟩ = some (.int .i64 s) ∧ w1.cell? ⟨1, kk, none⟩ = some (.string D) ∧ w1.cell? ⟨2, mm, none⟩ = some (.string M) ∧ PowAt w1 ∧ Below w.heap.size w w1) : w1.drew.cell? ⟨w.heap.size, 0, none⟩ = some (.int .i64 y) ∧ w1.drew.cell? ⟨w.heap.size, 1, none⟩ = some (.int .i64 m) ∧ w1.drew.cell? ⟨w.heap.size, 2, none⟩ = some (.int .i64 d) ∧ w1.drew.cell? ⟨w.heap.size, 3, none⟩ = some (.int .i64 h) ∧ w1.drew.cell? ⟨w.heap.size, 4, none⟩ = some (.int .i64 n) ∧ w1.drew.cell? ⟨w.heap.size, 5, none⟩ = some (.int .i64 s) ∧ w1.drew.cell? ⟨1, kk, none⟩ = some (.string D) ∧ w1.drew.cell? ⟨2, mm, none⟩ = some (.string M) ∧ PowAt w1.drew ∧ Below w.heap.size w w1.drew :=
  ⟨hS.1, hS.2.1, hS.2.2.1, hS.2.2.2.1, hS.2.2.2.2.1, hS.2.2.2.2.2.1, hS.2.2.2.2.2.2.1, hS.2.2.2.2.2.2.2.1, hS.2.2.2.2.2.2.2.2.1, hS.2.2.2.2.2.2.2.2.2.drew⟩
def txtL (D M : List UInt8) (y d h n s : Int) : List UInt8 := D ++ [44, 32] ++ twoL d ++ [32] ++ M ++ [32] ++ Lib.itoa y ++ [32] ++ twoL h ++ [58] ++ twoL n ++ [58] ++ twoL s ++ [32, 71, 77, 84]
theorem txt_eq {D M Y T1 T2 T3 T4 T5 T6 T7 T8 T9 U1 U2 U3 U4 : ByteArray} {y d h n s : Int} (hY : ⟨(Lib.itoa y).toArray⟩ = Y) (H : D ++ ⟨#[44, 32]⟩ = T1 ∧ T1 ++ twoT d = T2 ∧ T2 ++ ⟨#[32]⟩ = T3 ∧ T3 ++ M = T4 ∧ T4 ++ ⟨#[32]⟩ = T5 ∧ T5 ++ Y = T6) (K : twoT h ++ ⟨#[58]⟩ = U1 ∧ U1 ++ twoT n = U2 ∧ U2 ++ ⟨#[58]⟩ = U3 ∧ U3 ++ twoT s = U4) (L : T6 ++ ⟨#[32]⟩ = T7 ∧ T7 ++ U4 = T8 ∧ T8 ++ ⟨#[32, 71, 77, 84]⟩ = T9) :
    T9 = ⟨(txtL D.data.toList M.data.toList y d h n s).toArray⟩ := by
  obtain ⟨rfl, rfl, rfl, rfl, rfl, rfl⟩ := H
  obtain ⟨rfl, rfl, rfl, rfl⟩ := K
  obtain ⟨rfl, rfl, rfl⟩ := L
  subst hY
  apply bytes_inj
  simp [txtL, twoT]
theorem two_size (n : Int) : (twoT n).size = 2 := rfl
set_option maxHeartbeats 2000000 in
set_option maxRecDepth 100000 in
theorem implTextIn (y m d h n s : Int) (w : World) (kk mm : Nat) (D M : ByteArray) (hD : D.size = 3) (hM : M.size = 3) (Y : ByteArray) (hY : ⟨(Lib.itoa y).toArray⟩ = Y) (hYs : Y.size ≤ 100) (hok : okB ⟨y, m, d, h, n, s⟩ = true) (hkk : weekV ⟨y, m, d, h, n, s⟩ = kk) (hmm : m = mm)
    (hcD : w.cell? ⟨1, kk, none⟩ = some (.string D)) (hcM : w.cell? ⟨2, mm, none⟩ = some (.string M)) (hP : PowAt w) :
    Calls Tryz.prog 154 #[.agg #[.int .i64 y, .int .i64 m, .int .i64 d, .int .i64 h, .int .i64 n, .int .i64 s]] w fun e w' => e = .returned (.tuple #[.string ⟨(txtL D.data.toList M.data.toList y d h n s).toArray⟩, .int .i64 0]) ∧ Below w.heap.size w w' := by
  subst hmm
  have hwk : (kk : Int) ≤ 6 := by
    rw [← hkk]
    unfold weekV weekN
    split <;> omega
  have hc : okC ⟨y, mm, d, h, n, s⟩ = 0 := by simp [okC, hok]
  obtain ⟨⟨hy1, hy2⟩, ⟨hm1, hm2⟩, ⟨hd1, hd2⟩, ⟨hh1, hh2⟩, ⟨hn1, hn2⟩, ⟨hs1, hs2⟩⟩ := (ok_iff _).1 hok
  have hd3 := (mdays_le y mm).2
  simp only at hy1 hy2 hm1 hm2 hd1 hd2 hh1 hh2 hn1 hn2 hs1 hs2
  have hd31 : d ≤ 31 := by omega
  have i1 : (kk : Int) < 7 := by omega
  have i2 : (0 : Int) ≤ kk := by omega
  have i3 : (mm : Int) < 13 := by omega
  have i4 : (0 : Int) ≤ mm := by omega
  have i5 : kk < 7 := by omega
  have i6 : mm < 13 := by omega
  have a1 := add_text D ⟨#[44, 32]⟩ (by rw [hD]; decide)
  obtain ⟨T1, hT1⟩ : ∃ T, D ++ ⟨#[44, 32]⟩ = T := ⟨_, rfl⟩
  have hs1' : T1.size = 5 := by rw [← hT1, ByteArray.size_append, hD]; rfl
  rw [hT1] at a1
  have a2 := add_text T1 (twoT d) (by rw [hs1', two_size]; omega)
  obtain ⟨T2, hT2⟩ : ∃ T, T1 ++ twoT d = T := ⟨_, rfl⟩
  have hs2' : T2.size = 7 := by rw [← hT2, ByteArray.size_append, hs1', two_size]
  rw [hT2] at a2
  have a3 := add_text T2 ⟨#[32]⟩ (by rw [hs2']; decide)
  obtain ⟨T3, hT3⟩ : ∃ T, T2 ++ ⟨#[32]⟩ = T := ⟨_, rfl⟩
  have hs3' : T3.size = 8 := by rw [← hT3, ByteArray.size_append, hs2']; rfl
  rw [hT3] at a3
  have a4 := add_text T3 M (by rw [hs3', hM]; omega)
  obtain ⟨T4, hT4⟩ : ∃ T, T3 ++ M = T := ⟨_, rfl⟩
  have hs4' : T4.size = 11 := by rw [← hT4, ByteArray.size_append, hs3', hM]
  rw [hT4] at a4
  have a5 := add_text T4 ⟨#[32]⟩ (by rw [hs4']; decide)
  obtain ⟨T5, hT5⟩ : ∃ T, T4 ++ ⟨#[32]⟩ = T := ⟨_, rfl⟩
  have hs5' : T5.size = 12 := by rw [← hT5, ByteArray.size_append, hs4']; rfl
  rw [hT5] at a5
  have a6 := add_text T5 Y (by rw [hs5']; omega)
  obtain ⟨T6, hT6⟩ : ∃ T, T5 ++ Y = T := ⟨_, rfl⟩
  rw [hT6] at a6
  have hs6' : T6.size ≤ 112 := by rw [← hT6, ByteArray.size_append, hs5']; omega
  have u1 := add_text (twoT h) ⟨#[58]⟩ (by rw [two_size]; decide)
  obtain ⟨U1, hU1⟩ : ∃ T, twoT h ++ ⟨#[58]⟩ = T := ⟨_, rfl⟩
  have hv1 : U1.size = 3 := by rw [← hU1, ByteArray.size_append, two_size]; rfl
  rw [hU1] at u1
  have u2 := add_text U1 (twoT n) (by rw [hv1, two_size]; omega)
  obtain ⟨U2, hU2⟩ : ∃ T, U1 ++ twoT n = T := ⟨_, rfl⟩
  have hv2 : U2.size = 5 := by rw [← hU2, ByteArray.size_append, hv1, two_size]
  rw [hU2] at u2
  have u3 := add_text U2 ⟨#[58]⟩ (by rw [hv2]; decide)
  obtain ⟨U3, hU3⟩ : ∃ T, U2 ++ ⟨#[58]⟩ = T := ⟨_, rfl⟩
  have hv3 : U3.size = 6 := by rw [← hU3, ByteArray.size_append, hv2]; rfl
  rw [hU3] at u3
  have u4 := add_text U3 (twoT s) (by rw [hv3, two_size]; omega)
  obtain ⟨U4, hU4⟩ : ∃ T, U3 ++ twoT s = T := ⟨_, rfl⟩
  have hv4 : U4.size = 8 := by rw [← hU4, ByteArray.size_append, hv3, two_size]
  rw [hU4] at u4
  have a7 := add_text T6 ⟨#[32]⟩ (by show T6.size + 1 ≤ _; omega)
  obtain ⟨T7, hT7⟩ : ∃ T, T6 ++ ⟨#[32]⟩ = T := ⟨_, rfl⟩
  have hs7' : T7.size ≤ 113 := by rw [← hT7, ByteArray.size_append]; show T6.size + 1 ≤ _; omega
  rw [hT7] at a7
  have a8 := add_text T7 U4 (by rw [hv4]; omega)
  obtain ⟨T8, hT8⟩ : ∃ T, T7 ++ U4 = T := ⟨_, rfl⟩
  have hs8' : T8.size ≤ 121 := by rw [← hT8, ByteArray.size_append, hv4]; omega
  rw [hT8] at a8
  have a9 := add_text T8 ⟨#[32, 71, 77, 84]⟩ (by show T8.size + 4 ≤ _; omega)
  obtain ⟨T9, hT9⟩ : ∃ T, T8 ++ ⟨#[32, 71, 77, 84]⟩ = T := ⟨_, rfl⟩
  rw [hT9] at a9
  have b1 : h ≤ 99 := by omega
  have b2 : n ≤ 99 := by omega
  have b3 : s ≤ 99 := by omega
  have HR := Lib.hid (txt_eq hY ⟨hT1, hT2, hT3, hT4, hT5, hT6⟩ ⟨hU1, hU2, hU3, hU4⟩ ⟨hT7, hT8, hT9⟩)
  have HC := Lib.hid hc
  have HK := Lib.hid hkk
  have HCD := Lib.hid hcD
  have HCM := Lib.hid hcM
  have HP := Lib.hid hP
  have HY := Lib.hid hY
  clear hc hkk hcD hcM hP hY hT1 hT2 hT3 hT4 hT5 hT6 hs1' hs2' hs3' hs4' hs5' hs6' hs7' hs8' hv1 hv2 hv3 hv4 hU1 hU2 hU3 hU4 hT7 hT8 hT9 hD hM hYs hd2 hd3
  go_enter Tryz.func154, Tryz.ntmps154
  go_wp2_with fail
  refine (implWeek y mm d h n s _).mono ?_
  rintro e w1 ⟨rfl, hb⟩
  rw [HC.out, HK.out]
  have hb1 : Below w.heap.size w w1 := ((Below.refl w.heap.size w).alloc (Nat.le_refl _) _).trans (hb.mono (by simp))
  obtain ⟨z0, z1, z2, z3, z4, z5⟩ := Blk.at ((hb.block w.heap.size (by simp)).trans (Blk.new w y mm d h n s))
  have hS1 : w1.cell? ⟨w.heap.size, 0, none⟩ = some (.int .i64 y) ∧ w1.cell? ⟨w.heap.size, 1, none⟩ = some (.int .i64 mm) ∧ w1.cell? ⟨w.heap.size, 2, none⟩ = some (.int .i64 d) ∧ w1.cell? ⟨w.heap.size, 3, none⟩ = some (.int .i64 h) ∧ w1.cell? ⟨w.heap.size, 4, none⟩ = some (.int .i64 n) ∧ w1.cell? ⟨w.heap.size, 5, none⟩ = some (.int .i64 s) ∧ w1.cell? ⟨1, kk, none⟩ = some (.string D) ∧ w1.cell? ⟨2, mm, none⟩ = some (.string M) ∧ PowAt w1 ∧ Below w.heap.size w w1 := ⟨z0, z1, z2, z3, z4, z5, cell_kept hb1 HCD.out, cell_kept hb1 HCM.out, HP.out.below hb1, hb1⟩
  have hS2 := txt_drew hS1
  have HS1 := Lib.hid hS1
  clear hb hb1 z0 z1 z2 z3 z4 z5 hS1
  go_wp2_with fail
  go_region_held3 (fun w' => w'.cell? ⟨w.heap.size, 0, none⟩ = some (.int .i64 y) ∧ w'.cell? ⟨w.heap.size, 1, none⟩ = some (.int .i64 mm) ∧ w'.cell? ⟨w.heap.size, 2, none⟩ = some (.int .i64 d) ∧ w'.cell? ⟨w.heap.size, 3, none⟩ = some (.int .i64 h) ∧ w'.cell? ⟨w.heap.size, 4, none⟩ = some (.int .i64 n) ∧ w'.cell? ⟨w.heap.size, 5, none⟩ = some (.int .i64 s) ∧ w'.cell? ⟨1, kk, none⟩ = some (.string D) ∧ w'.cell? ⟨2, mm, none⟩ = some (.string M) ∧ PowAt w' ∧ Below w.heap.size w w') (first | assumption)
    (first
      | (go_at_call 238; refine (two_any d _ (by omega) (by omega)).mono ?_; rintro e w' ⟨rfl, hb⟩; have hS := txt_keep (by assumption) hb; clear hb)
      | (go_at_call 67; refine (year_any y _ (by omega) (by omega) (txt_pow (by assumption))).mono ?_; rintro e w' ⟨rfl, hb⟩; rw [HY.out]; have hS := txt_keep (by assumption) hb; clear hb))
  clear a1 a2 a3 a4 a5 a6
  have HS3 := Lib.hid hS
  have hS4 := txt_drew hS
  clear hS hS2
  go_wp2_with fail
  go_region_held3 (fun w' => w'.cell? ⟨w.heap.size, 0, none⟩ = some (.int .i64 y) ∧ w'.cell? ⟨w.heap.size, 1, none⟩ = some (.int .i64 mm) ∧ w'.cell? ⟨w.heap.size, 2, none⟩ = some (.int .i64 d) ∧ w'.cell? ⟨w.heap.size, 3, none⟩ = some (.int .i64 h) ∧ w'.cell? ⟨w.heap.size, 4, none⟩ = some (.int .i64 n) ∧ w'.cell? ⟨w.heap.size, 5, none⟩ = some (.int .i64 s) ∧ w'.cell? ⟨1, kk, none⟩ = some (.string D) ∧ w'.cell? ⟨2, mm, none⟩ = some (.string M) ∧ PowAt w' ∧ Below w.heap.size w w') (first | assumption)
    (first | (go_at_call 238; refine (two_any _ _ (by assumption) (by assumption)).mono ?_; rintro e w' ⟨rfl, hb⟩; have hS := txt_keep (by assumption) hb; clear hb))
  clear u1 u2 u3 u4
  have HS5 := Lib.hid hS
  clear hS hS4
  go_wp2_with fail
  go_ret2
  exact ⟨by rw [HR.out]; rfl, HS5.out.2.2.2.2.2.2.2.2.2⟩
end Go.Proofs.YtpdonghdnaehhaaGreatDoor
