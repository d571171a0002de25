/- DateText of the model: what it answers. -/
import Derived.Test.YtpdonghdnaehhaaGreatDoorZDateText
import Derived.Deep.RegionWith
namespace Go.Proofs.YtpdonghdnaehhaaGreatDoor
open Go.ChangeShapes Go.WideShapes Go.ChangeAt Go.WideMaps Go.WideElems Go.RowKit

def digT (k : Nat) : ByteArray := ⟨(Lib.decDigits k).toArray⟩
def dig1 (c : Nat) : ByteArray := ⟨#[UInt8.ofNat (48 + c)]⟩
/-- One digit made into a text: in every world in which its block still lies. -/
theorem one_conv (c : Nat) (hc : c ≤ 9) (W : World) (B : Nat) (h : W.cell? ⟨B, 0, none⟩ = some (.int .u8 (48 + (c : Int)))) : (convert 22 9 (.slice (some ⟨B, 0, none⟩) 1 1)).run Tryz.prog W = .ok (.string (dig1 c)) W :=
  run_convert_bytes_back (P := Tryz.prog) _ 22 9 5 ⟨B, 0, none⟩ 1 [UInt8.ofNat (48 + c)] Tryz.underlying22 Tryz.underlying5 Tryz.underlying9 (fun j hj => by
    obtain rfl : j = 0 := by simp at hj; exact hj
    rw [show Addr.add ⟨B, 0, none⟩ 0 = ⟨B, 0, none⟩ by simp [Addr.add], h]
    simp
    omega)
theorem one_new (c : Nat) (hc : c ≤ 9) (x : Int) (hx : x = 48 + (c : Int)) (W' : World) : (convert 22 9 (.slice (some ⟨W'.heap.size, 0, none⟩) 1 1)).run Tryz.prog (W'.alloc (.cells #[.int .u8 x] 5)) = .ok (.string (dig1 c)) (W'.alloc (.cells #[.int .u8 x] 5)) :=
  by
  subst hx
  exact one_conv c hc _ _ (by rw [World.cell?_alloc_at _ _ _ _ rfl]; rfl)
theorem one_keep (c : Nat) (hc : c ≤ 9) (x : Int) (hx : x = 48 + (c : Int)) {W w' : World} (hb : Below (W.alloc (.cells #[.int .u8 x] 5)).heap.size (W.alloc (.cells #[.int .u8 x] 5)) w') : (convert 22 9 (.slice (some ⟨W.heap.size, 0, none⟩) 1 1)).run Tryz.prog w' = .ok (.string (dig1 c)) w' :=
  by
  subst hx
  exact one_conv c hc _ _ (cell_kept hb (by rw [World.cell?_alloc_at _ _ _ _ rfl]; rfl))
theorem one_keep2 (c : Nat) (hc : c ≤ 9) (x : Int) (hx : x = 48 + (c : Int)) {W w' : World} (hb : Below (W.alloc (.cells #[.int .u8 x] 5)).drew.heap.size (W.alloc (.cells #[.int .u8 x] 5)).drew w') : (convert 22 9 (.slice (some ⟨W.heap.size, 0, none⟩) 1 1)).run Tryz.prog w' = .ok (.string (dig1 c)) w' := by
  subst hx
  exact one_conv c hc _ _ (cell_kept hb (show (W.alloc (.cells #[.int .u8 (48 + (c : Int))] 5)).cell? _ = _ by rw [World.cell?_alloc_at _ _ _ _ rfl]; rfl))
theorem one_newd (c : Nat) (hc : c ≤ 9) (x : Int) (hx : x = 48 + (c : Int)) (W' : World) : (convert 22 9 (.slice (some ⟨W'.heap.size, 0, none⟩) 1 1)).run Tryz.prog (W'.alloc (.cells #[.int .u8 x] 5)).drew = .ok (.string (dig1 c)) (W'.alloc (.cells #[.int .u8 x] 5)).drew := by
  subst hx
  exact one_conv c hc _ _ (show (W'.alloc (.cells #[.int .u8 (48 + (c : Int))] 5)).cell? _ = _ by rw [World.cell?_alloc_at _ _ _ _ rfl]; rfl)
theorem d_step {w w' : World} (hb : Below w.drew.heap.size w.drew w') : Below w.heap.size w w' := (Below.refl w.heap.size w).drew.trans hb
theorem d_step2 {w w' : World} {o : Obj} (hb : Below (w.alloc o).drew.heap.size (w.alloc o).drew w') : Below w.heap.size w w' :=
  ((Below.refl w.heap.size w).alloc (Nat.le_refl _) o).trans ((d_step hb).mono (by simp))
theorem dig_step {k : Nat} (h : ¬ k < 10) : digT (k / 10) ++ dig1 (k % 10) = digT k := by
  apply bytes_inj
  unfold digT dig1
  conv => rhs; rw [Lib.decDigits, dif_neg h]
  simp
theorem digT_size : ∀ (j k : Nat), k < 10 ^ (j + 1) → (digT k).size ≤ j + 1 := by
  intro j
  induction j with
  | zero =>
    intro k hk
    show (Lib.decDigits k).toArray.size ≤ 1
    rw [Lib.decDigits, dif_pos (by simpa using hk)]
    simp
  | succ j ih =>
    intro k hk
    by_cases h : k < 10
    · show (Lib.decDigits k).toArray.size ≤ j + 1 + 1
      rw [Lib.decDigits, dif_pos h]
      simp
    · rw [← dig_step h, ByteArray.size_append]
      have := ih (k / 10) (by rw [Nat.pow_succ] at hk; omega)
      show _ + 1 ≤ _
      omega
theorem wrap8 : ∀ r : Fin 10, IntKind.u8.wrap (48 + ((r.val : Nat) : Int)) = 48 + ((r.val : Nat) : Int) := by decide
set_option maxHeartbeats 400000 in
set_option maxRecDepth 100000 in
theorem digits_any : ∀ (j k : Nat) (w : World), k < 10 ^ (j + 1) → j ≤ 8 → Calls Tryz.prog 163 #[.int .i64 k] w fun e w' => e = .returned (.string (digT k)) ∧ Below w.heap.size w w' := by
  intro j
  induction j with
  | zero =>
    intro k w hk _
    have hk9 : k ≤ 9 := by omega
    have hcv := one_new k hk9 (48 + (k : Int)) rfl
    have HE : Hid (dig1 k = digT k) := Lib.hid (by unfold dig1 digT; rw [Lib.decDigits, dif_pos (by omega)])
    go_enter Tryz.func163, Tryz.ntmps163
    go_wp2_with fail
    go_ret
    exact ⟨by rw [← HE.out]; rfl, (Below.refl _ _).alloc (Nat.le_refl _) _⟩
  | succ j ih =>
    intro k w hk hj
    have hpow : (10 : Nat) ^ (j + 1 + 1) ≤ 10 ^ 9 := Nat.pow_le_pow_right (by omega) (by omega)
    have hkk : k < 1000000000 := by omega
    have hk10 : k / 10 < 10 ^ (j + 1) := by rw [Nat.pow_succ] at hk; omega
    clear hpow
    by_cases h : k < 10
    · have hk9 : k ≤ 9 := by omega
      have hcv := one_new k hk9 (48 + (k : Int)) rfl
      have HE : Hid (dig1 k = digT k) := Lib.hid (by unfold dig1 digT; rw [Lib.decDigits, dif_pos h])
      clear ih hk hk10
      go_enter Tryz.func163, Tryz.ntmps163
      go_wp2_with fail
      go_ret
      exact ⟨by rw [← HE.out]; rfl, (Below.refl _ _).alloc (Nat.le_refl _) _⟩
    · have hm9 : k % 10 ≤ 9 := by omega
      have hx : 48 + (k : Int) % 10 = 48 + ((k % 10 : Nat) : Int) := by omega
      have hcv := one_new (k % 10) hm9 (48 + (k : Int) % 10) hx
      have hcv2 := one_newd (k % 10) hm9 (48 + (k : Int) % 10) hx
      have m1 : 0 ≤ (k : Int) % 10 := by omega
      have m2 : (k : Int) % 10 ≤ 9 := by omega
      have hsz := digT_size j (k / 10) hk10
      have hadd := add_text (digT (k / 10)) (dig1 (k % 10)) (by show _ + 1 ≤ _; omega)
      rw [dig_step h] at hadd
      have IH : Hid (∀ W : World, Calls Tryz.prog 163 #[.int .i64 ((k : Int) / 10)] W fun e w' => e = .returned (.string (digT (k / 10))) ∧ Below W.heap.size W w') := Lib.hid fun W => by
        have := ih (k / 10) W hk10 (by omega)
        rw [show ((k / 10 : Nat) : Int) = (k : Int) / 10 by omega] at this
        exact this
      have t1 : Int.tdiv (k : Int) 10 = (k : Int) / 10 := Int.tdiv_eq_ediv_of_nonneg (by omega)
      have t2 : Int.tmod (k : Int) 10 = (k : Int) % 10 := Int.tmod_eq_emod_of_nonneg (by omega)
      have v1 : IntKind.i64.wrap ((k : Int) / 10) = (k : Int) / 10 := IntWalk.i64_in _ (by clear t1 t2; omega)
      have v2 : IntKind.i64.wrap ((k : Int) % 10) = (k : Int) % 10 := IntWalk.i64_in _ (by clear t1 t2 v1; omega)
      have v3 : IntKind.i64.wrap (48 + (k : Int) % 10) = 48 + (k : Int) % 10 := IntWalk.i64_in _ (by clear t1 t2 v1 v2; omega)
      have v4 : IntKind.u8.wrap (48 + (k : Int) % 10) = 48 + (k : Int) % 10 := by
        have := wrap8 ⟨k % 10, by clear t1 t2 v1 v2 v3; omega⟩
        rw [hx]
        exact this
      have HX := Lib.hid hx
      clear ih hk hk10 hsz hx
      go_enter Tryz.func163, Tryz.ntmps163
      go_wp2_with fail
      go_region_with (first | (go_at_call 163; refine (IH.out _).mono ?_; rintro e w' ⟨rfl, hb⟩; first | (have hcw : (convert 22 9 (.slice (some ⟨w.heap.size, 0, none⟩) 1 1)).run Tryz.prog w' = .ok (.string (dig1 (k % 10))) w' := one_keep (k % 10) hm9 (48 + (k : Int) % 10) HX.out hb) | (have hcw : (convert 22 9 (.slice (some ⟨w.heap.size, 0, none⟩) 1 1)).run Tryz.prog w' = .ok (.string (dig1 (k % 10))) w' := one_keep2 (k % 10) hm9 (48 + (k : Int) % 10) HX.out hb) | skip))
      all_goals
        go_wp2_with fail
        go_ret
        first
          | exact ⟨rfl, d_step2 hb⟩
          | exact ⟨rfl, (d_step hb).alloc (d_step hb).size _⟩
          | exact ⟨rfl, ((d_step hb).alloc (d_step hb).size _).drew⟩
theorem twoS_any (n : Int) (w : World) (h0 : 0 ≤ n) (h1 : n ≤ 99) : Calls Tryz.prog 243 #[.int .i64 n] w fun e w' => e = .returned (.string (twoT n)) ∧ Below w.heap.size w w' := by
  obtain ⟨k, rfl⟩ : ∃ k : Nat, n = k := ⟨n.toNat, by omega⟩
  by_cases hk : k < 10
  · have hadd := add_text ⟨#[48]⟩ (digT k) (by have := digT_size 1 k (by omega); show 1 + _ ≤ _; omega)
    have he : (⟨#[48]⟩ : ByteArray) ++ digT k = twoT k := by
      apply bytes_inj
      unfold digT twoT twoL
      rw [Lib.decDigits, dif_pos hk]
      simp [show k / 10 = 0 by omega, show k % 10 = k by omega]
    rw [he] at hadd
    clear he
    go_enter Tryz.func243, Tryz.ntmps243
    go_wp2_with fail
    refine (digits_any 1 k _ (by omega) (by omega)).mono ?_
    rintro e w1 ⟨rfl, hb⟩
    have HB := Lib.hid hb
    clear hb
    go_wp2_with fail
    go_ret
    exact ⟨rfl, HB.out⟩
  · have he : digT k = twoT k := by
      unfold digT twoT twoL
      rw [Lib.decDigits_two hk (by omega)]
      rfl
    have HE := Lib.hid he
    clear he
    go_enter Tryz.func243, Tryz.ntmps243
    go_wp2_with fail
    refine (digits_any 1 k _ (by omega) (by omega)).mono ?_
    rintro e w1 ⟨rfl, hb⟩
    have HB := Lib.hid hb
    rw [HE.out]
    clear hb
    go_wp2_with fail
    go_ret
    exact ⟨rfl, HB.out⟩
theorem yearS_any (n : Int) (w : World) (h0 : 0 ≤ n) (h1 : n ≤ 9999) : Calls Tryz.prog 163 #[.int .i64 n] w fun e w' => e = .returned (.string ⟨(Lib.itoa n).toArray⟩) ∧ Below w.heap.size w w' := by
  obtain ⟨k, rfl⟩ : ∃ k : Nat, n = k := ⟨n.toNat, by omega⟩
  refine (digits_any 3 k w (by omega) (by omega)).mono ?_
  rintro e w' ⟨rfl, hb⟩
  refine ⟨?_, hb⟩
  unfold digT Lib.itoa
  rw [if_neg (by omega)]
  rfl
theorem s_keep {w w1 w2 : World} {y d h n s : Int} {mm : Nat} (hS : w1.cell? ⟨w.heap.size, 0, none⟩ = some (.int .i64 y) ∧ w1.cell? ⟨w.heap.size, 1, none⟩ = some (.int .i64 mm) ∧ w1.cell? ⟨w.heap.size, 2, none⟩ = some (.int .i64 d) ∧ w1.cell? ⟨w.heap.size, 3, none⟩ = some (.int .i64 h) ∧ w1.cell? ⟨w.heap.size, 4, none⟩ = some (.int .i64 n) ∧ w1.cell? ⟨w.heap.size, 5, none⟩ = some (.int .i64 s) ∧ Below w.heap.size w w1) (hb : Below w1.heap.size w1 w2) :
    w2.cell? ⟨w.heap.size, 0, none⟩ = some (.int .i64 y) ∧ w2.cell? ⟨w.heap.size, 1, none⟩ = some (.int .i64 mm) ∧ w2.cell? ⟨w.heap.size, 2, none⟩ = some (.int .i64 d) ∧ w2.cell? ⟨w.heap.size, 3, none⟩ = some (.int .i64 h) ∧ w2.cell? ⟨w.heap.size, 4, none⟩ = some (.int .i64 n) ∧ w2.cell? ⟨w.heap.size, 5, none⟩ = some (.int .i64 s) ∧ Below w.heap.size w w2 :=
  ⟨cell_kept hb hS.1, cell_kept hb hS.2.1, cell_kept hb hS.2.2.1, cell_kept hb hS.2.2.2.1, cell_kept hb hS.2.2.2.2.1, cell_kept hb hS.2.2.2.2.2.1, hS.2.2.2.2.2.2.trans (hb.mono hS.2.2.2.2.2.2.size)⟩
theorem s_drew {w w1 : World} {y d h n s : Int} {mm : Nat} (hS : w1.cell? ⟨w.heap.size, 0, none⟩ = some (.int .i64 y) ∧ w1.cell? ⟨w.heap.size, 1, none⟩ = some (.int .i64 mm) ∧ w1.cell? ⟨w.heap.size, 2, none⟩ = some (.int .i64 d) ∧ w1.cell? ⟨w.heap.size, 3, none⟩ = some (.int .i64 h) ∧ w1.cell? ⟨w.heap.size, 4, none⟩ = some (.int .i64 n) ∧ w1.cell? ⟨w.heap.size, 5, none⟩ = some (.int .i64 s) ∧ Below w.heap.size w w1) : w1.drew.cell? ⟨w.heap.size, 0, none⟩ = some (.int .i64 y) ∧ w1.drew.cell? ⟨w.heap.size, 1, none⟩ = some (.int .i64 mm) ∧ w1.drew.cell? ⟨w.heap.size, 2, none⟩ = some (.int .i64 d) ∧ w1.drew.cell? ⟨w.heap.size, 3, none⟩ = some (.int .i64 h) ∧ w1.drew.cell? ⟨w.heap.size, 4, none⟩ = some (.int .i64 n) ∧ w1.drew.cell? ⟨w.heap.size, 5, none⟩ = some (.int .i64 s) ∧ Below w.heap.size w w1.drew :=
  ⟨hS.1, hS.2.1, hS.2.2.1, hS.2.2.2.1, hS.2.2.2.2.1, hS.2.2.2.2.2.1, hS.2.2.2.2.2.2.drew⟩
def dayC : ByteArray := ⟨#[83, 117, 110, 77, 111, 110, 84, 117, 101, 87, 101, 100, 84, 104, 117, 70, 114, 105, 83, 97, 116]⟩
def moC : ByteArray := ⟨#[74, 97, 110, 70, 101, 98, 77, 97, 114, 65, 112, 114, 77, 97, 121, 74, 117, 110, 74, 117, 108, 65, 117, 103, 83, 101, 112, 79, 99, 116, 78, 111, 118, 68, 101, 99]⟩
theorem day_cut {k : Nat} (hk : k < 7) : dayC.extract (3 * k) (3 * k + 3) = dnam k := by
  have : ∀ k : Fin 7, dayC.extract (3 * k) (3 * k + 3) = dnam (k.val : Nat) := by decide
  exact this ⟨k, hk⟩
theorem mo_cut {k : Nat} (h1 : 1 ≤ k) (hk : k < 13) : moC.extract (3 * k - 3) (3 * k) = mnam k := by
  have : ∀ k : Fin 13, 1 ≤ k.val → moC.extract (3 * k - 3) (3 * k) = mnam (k.val : Nat) := by decide
  exact this ⟨k, hk⟩ h1
theorem dnam_size {k : Nat} (hk : k < 7) : (dnam k).size = 3 := by
  have : ∀ k : Fin 7, (dnam (k.val : Nat)).size = 3 := by decide
  exact this ⟨k, hk⟩
theorem mnam_size {k : Nat} (h1 : 1 ≤ k) (hk : k < 13) : (mnam k).size = 3 := by
  have : ∀ k : Fin 13, 1 ≤ k.val → (mnam (k.val : Nat)).size = 3 := by decide
  exact this ⟨k, hk⟩ h1
theorem stxt_eq {D M Y T1 T2 T3 T4 T5 T6 T7 T8 T9 T10 T11 T12 T13 : ByteArray} {y d h n s : Int} (hY : ⟨(Lib.itoa y).toArray⟩ = Y) (H : D ++ ⟨#[44, 32]⟩ = T1 ∧ T1 ++ twoT d = T2 ∧ T2 ++ ⟨#[32]⟩ = T3 ∧ T3 ++ M = T4 ∧ T4 ++ ⟨#[32]⟩ = T5 ∧ T5 ++ Y = T6 ∧ T6 ++ ⟨#[32]⟩ = T7 ∧ T7 ++ twoT h = T8 ∧ T8 ++ ⟨#[58]⟩ = T9 ∧ T9 ++ twoT n = T10 ∧ T10 ++ ⟨#[58]⟩ = T11 ∧ T11 ++ twoT s = T12 ∧ T12 ++ ⟨#[32, 71, 77, 84]⟩ = T13) : T13 = ⟨(txtL D.data.toList M.data.toList y d h n s).toArray⟩ := by
  obtain ⟨rfl, rfl, rfl, rfl, rfl, rfl, rfl, rfl, rfl, rfl, rfl, rfl, rfl⟩ := H
  subst hY
  apply bytes_inj
  simp [txtL, twoT]
set_option maxHeartbeats 4000000 in
set_option maxRecDepth 100000 in
theorem specTextL (y d h n s : Int) (w : World) (kk mm : Nat) (D M : ByteArray) (hDe : dnam kk = D) (hMe : mnam mm = M) (Y : ByteArray) (hY : ⟨(Lib.itoa y).toArray⟩ = Y) (hYs : Y.size ≤ 100) (hok : okB ⟨y, mm, d, h, n, s⟩ = true) (hkk : weekN ⟨y, mm, d, h, n, s⟩ = kk) :
    Calls Tryz.prog 161 #[.agg #[.int .i64 y, .int .i64 mm, .int .i64 d, .int .i64 h, .int .i64 n, .int .i64 s]] w fun e w' => e = .returned (.string ⟨(txtL D.data.toList M.data.toList y d h n s).toArray⟩) ∧ Below w.heap.size w w' := by
  have i5 : kk < 7 := by
    have : weekN ⟨y, mm, d, h, n, s⟩ ≤ 6 := by unfold weekN; omega
    omega
  obtain ⟨⟨hy1, hy2⟩, ⟨hm1, hm2⟩, ⟨hd1, hd2⟩, ⟨hh1, hh2⟩, ⟨hn1, hn2⟩, ⟨hs1, hs2⟩⟩ := (ok_iff _).1 hok
  have hd3 := (mdays_le y mm).2
  simp only at hy1 hy2 hm1 hm2 hd1 hd2 hh1 hh2 hn1 hn2 hs1 hs2
  have i6 : mm < 13 := by omega
  have i7 : 1 ≤ mm := by omega
  have hD : D.size = 3 := by rw [← hDe]; exact dnam_size i5
  have hM : M.size = 3 := by rw [← hMe]; exact mnam_size i7 i6
  have hcD := (day_cut i5).trans hDe
  have hcM := (mo_cut i7 i6).trans hMe
  unfold dayC at hcD
  unfold moC at hcM
  have d99 : d ≤ 99 := by omega
  have b0 : 0 ≤ d := by omega
  have b1 : h ≤ 99 := by omega
  have b2 : n ≤ 99 := by omega
  have b3 : s ≤ 99 := by omega
  have by0 : 0 ≤ y := by omega
  have j1 : (0 : Int) ≤ 3 * (kk : Int) := by omega
  have j2 : 3 * (kk : Int) ≤ 3 * (kk : Int) + 3 := by omega
  have j3 : 3 * (kk : Int) + 3 ≤ 21 := by omega
  have j4 : (0 : Int) ≤ 3 * (mm : Int) - 3 := by omega
  have j5 : 3 * (mm : Int) - 3 ≤ 3 * (mm : Int) := by omega
  have j6 : 3 * (mm : Int) ≤ 36 := by omega
  have j7 : (0 : Int) ≤ 3 * (kk : Int) + 3 := by omega
  have j8 : (0 : Int) ≤ 3 * (mm : Int) := by omega
  have j9 : (3 : Int) ≤ 3 * (mm : Int) := by omega
  have j10 : 3 ≤ 3 * mm := by omega
  have j11 : 3 * mm ≤ 36 := by omega
  have j12 : 3 * mm - 3 ≤ 3 * mm := by omega
  have j13 : (1 : Int) ≤ (mm : Int) := by omega
  have j14 : (mm : Int) ≤ 12 := by omega
  have z0 : D.size ≤ 3 := by omega
  have q0 : (⟨#[44, 32]⟩ : ByteArray).size ≤ 2 := by first | decide | (rw [two_size]; decide) | omega | exact Nat.le_refl _
  have a0 := add_text D ⟨#[44, 32]⟩ (by omega)
  obtain ⟨T1, hT1⟩ : ∃ T, D ++ ⟨#[44, 32]⟩ = T := ⟨_, rfl⟩
  have z1 : T1.size ≤ 5 := by rw [← hT1, ByteArray.size_append]; omega
  rw [hT1] at a0
  have q1 : (twoT d : ByteArray).size ≤ 2 := by first | decide | (rw [two_size]; decide) | omega | exact Nat.le_refl _
  have a1 := add_text T1 (twoT d) (by omega)
  obtain ⟨T2, hT2⟩ : ∃ T, T1 ++ twoT d = T := ⟨_, rfl⟩
  have z2 : T2.size ≤ 7 := by rw [← hT2, ByteArray.size_append]; omega
  rw [hT2] at a1
  have q2 : (⟨#[32]⟩ : ByteArray).size ≤ 1 := by first | decide | (rw [two_size]; decide) | omega | exact Nat.le_refl _
  have a2 := add_text T2 ⟨#[32]⟩ (by omega)
  obtain ⟨T3, hT3⟩ : ∃ T, T2 ++ ⟨#[32]⟩ = T := ⟨_, rfl⟩
  have z3 : T3.size ≤ 8 := by rw [← hT3, ByteArray.size_append]; omega
  rw [hT3] at a2
  have q3 : (M : ByteArray).size ≤ 3 := by first | decide | (rw [two_size]; decide) | omega | exact Nat.le_refl _
  have a3 := add_text T3 M (by omega)
  obtain ⟨T4, hT4⟩ : ∃ T, T3 ++ M = T := ⟨_, rfl⟩
  have z4 : T4.size ≤ 11 := by rw [← hT4, ByteArray.size_append]; omega
  rw [hT4] at a3
  have q4 : (⟨#[32]⟩ : ByteArray).size ≤ 1 := by first | decide | (rw [two_size]; decide) | omega | exact Nat.le_refl _
  have a4 := add_text T4 ⟨#[32]⟩ (by omega)
  obtain ⟨T5, hT5⟩ : ∃ T, T4 ++ ⟨#[32]⟩ = T := ⟨_, rfl⟩
  have z5 : T5.size ≤ 12 := by rw [← hT5, ByteArray.size_append]; omega
  rw [hT5] at a4
  have q5 : (Y : ByteArray).size ≤ 100 := by first | decide | (rw [two_size]; decide) | omega | exact Nat.le_refl _
  have a5 := add_text T5 Y (by omega)
  obtain ⟨T6, hT6⟩ : ∃ T, T5 ++ Y = T := ⟨_, rfl⟩
  have z6 : T6.size ≤ 112 := by rw [← hT6, ByteArray.size_append]; omega
  rw [hT6] at a5
  have q6 : (⟨#[32]⟩ : ByteArray).size ≤ 1 := by first | decide | (rw [two_size]; decide) | omega | exact Nat.le_refl _
  have a6 := add_text T6 ⟨#[32]⟩ (by omega)
  obtain ⟨T7, hT7⟩ : ∃ T, T6 ++ ⟨#[32]⟩ = T := ⟨_, rfl⟩
  have z7 : T7.size ≤ 113 := by rw [← hT7, ByteArray.size_append]; omega
  rw [hT7] at a6
  have q7 : (twoT h : ByteArray).size ≤ 2 := by first | decide | (rw [two_size]; decide) | omega | exact Nat.le_refl _
  have a7 := add_text T7 (twoT h) (by omega)
  obtain ⟨T8, hT8⟩ : ∃ T, T7 ++ twoT h = T := ⟨_, rfl⟩
  have z8 : T8.size ≤ 115 := by rw [← hT8, ByteArray.size_append]; omega
  rw [hT8] at a7
  have q8 : (⟨#[58]⟩ : ByteArray).size ≤ 1 := by first | decide | (rw [two_size]; decide) | omega | exact Nat.le_refl _
  have a8 := add_text T8 ⟨#[58]⟩ (by omega)
  obtain ⟨T9, hT9⟩ : ∃ T, T8 ++ ⟨#[58]⟩ = T := ⟨_, rfl⟩
  have z9 : T9.size ≤ 116 := by rw [← hT9, ByteArray.size_append]; omega
  rw [hT9] at a8
  have q9 : (twoT n : ByteArray).size ≤ 2 := by first | decide | (rw [two_size]; decide) | omega | exact Nat.le_refl _
  have a9 := add_text T9 (twoT n) (by omega)
  obtain ⟨T10, hT10⟩ : ∃ T, T9 ++ twoT n = T := ⟨_, rfl⟩
  have z10 : T10.size ≤ 118 := by rw [← hT10, ByteArray.size_append]; omega
  rw [hT10] at a9
  have q10 : (⟨#[58]⟩ : ByteArray).size ≤ 1 := by first | decide | (rw [two_size]; decide) | omega | exact Nat.le_refl _
  have a10 := add_text T10 ⟨#[58]⟩ (by omega)
  obtain ⟨T11, hT11⟩ : ∃ T, T10 ++ ⟨#[58]⟩ = T := ⟨_, rfl⟩
  have z11 : T11.size ≤ 119 := by rw [← hT11, ByteArray.size_append]; omega
  rw [hT11] at a10
  have q11 : (twoT s : ByteArray).size ≤ 2 := by first | decide | (rw [two_size]; decide) | omega | exact Nat.le_refl _
  have a11 := add_text T11 (twoT s) (by omega)
  obtain ⟨T12, hT12⟩ : ∃ T, T11 ++ twoT s = T := ⟨_, rfl⟩
  have z12 : T12.size ≤ 121 := by rw [← hT12, ByteArray.size_append]; omega
  rw [hT12] at a11
  have q12 : (⟨#[32, 71, 77, 84]⟩ : ByteArray).size ≤ 4 := by first | decide | (rw [two_size]; decide) | omega | exact Nat.le_refl _
  have a12 := add_text T12 ⟨#[32, 71, 77, 84]⟩ (by omega)
  obtain ⟨T13, hT13⟩ : ∃ T, T12 ++ ⟨#[32, 71, 77, 84]⟩ = T := ⟨_, rfl⟩
  have z13 : T13.size ≤ 125 := by rw [← hT13, ByteArray.size_append]; omega
  rw [hT13] at a12
  have HR := Lib.hid (stxt_eq (y := y) hY ⟨hT1, hT2, hT3, hT4, hT5, hT6, hT7, hT8, hT9, hT10, hT11, hT12, hT13⟩)
  have w1 : IntKind.i64.wrap (3 * (kk : Int)) = 3 * (kk : Int) := IntWalk.i64_in _ (by omega)
  have w2 : IntKind.i64.wrap (3 * (kk : Int) + 3) = 3 * (kk : Int) + 3 := IntWalk.i64_in _ (by clear w1; omega)
  have w3 : IntKind.i64.wrap (3 * (mm : Int)) = 3 * (mm : Int) := IntWalk.i64_in _ (by clear w1 w2; omega)
  have w4 : IntKind.i64.wrap (3 * (mm : Int) - 3) = 3 * (mm : Int) - 3 := IntWalk.i64_in _ (by clear w1 w2 w3; omega)
  have n1 : (3 * (kk : Int)).toNat = 3 * kk := by clear w1 w2 w3 w4; omega
  have n2 : (3 * (kk : Int) + 3).toNat = 3 * kk + 3 := by clear w1 w2 w3 w4; omega
  have n3 : (3 * (mm : Int)).toNat = 3 * mm := by clear w1 w2 w3 w4; omega
  have n4 : (3 * (mm : Int) - 3).toNat = 3 * mm - 3 := by clear w1 w2 w3 w4; omega
  have HK := Lib.hid hkk
  have HOK := Lib.hid hok
  have HY := Lib.hid hY
  clear hkk hok hY hd2 hd3 hYs hD hM hDe hMe q0 q1 q2 q3 q4 q5 q6 q7 q8 q9 q10 q11 q12 z0 z1 z2 z3 z4 z5 z6 z7 z8 z9 z10 z11 z12 z13 hT1 hT2 hT3 hT4 hT5 hT6 hT7 hT8 hT9 hT10 hT11 hT12 hT13
  go_enter Tryz.func161, Tryz.ntmps161
  go_wp2_with fail
  refine (specWeekL y mm d h n s _ HOK.out).mono ?_
  rintro e w1' ⟨rfl, hb⟩
  rw [HK.out]
  have hb1 : Below w.heap.size w w1' := ((Below.refl w.heap.size w).alloc (Nat.le_refl _) _).trans (hb.mono (by simp))
  obtain ⟨x0, x1, x2, x3, x4, x5⟩ := Blk.at ((hb.block w.heap.size (by simp)).trans (Blk.new w y mm d h n s))
  have hS2 := s_drew (w := w) ⟨x0, x1, x2, x3, x4, x5, hb1⟩
  clear hb hb1 x0 x1 x2 x3 x4 x5
  go_wp2_with fail
  go_region_held3 (fun w' => w'.cell? ⟨w.heap.size, 0, none⟩ = some (.int .i64 y) ∧ w'.cell? ⟨w.heap.size, 1, none⟩ = some (.int .i64 mm) ∧ w'.cell? ⟨w.heap.size, 2, none⟩ = some (.int .i64 d) ∧ w'.cell? ⟨w.heap.size, 3, none⟩ = some (.int .i64 h) ∧ w'.cell? ⟨w.heap.size, 4, none⟩ = some (.int .i64 n) ∧ w'.cell? ⟨w.heap.size, 5, none⟩ = some (.int .i64 s) ∧ Below w.heap.size w w') (first | assumption)
    (first | (go_at_call 243; refine (twoS_any _ _ (by assumption) (by assumption)).mono ?_; rintro e w' ⟨rfl, hb⟩; have hS := s_keep (by assumption) hb; clear hb))
  have hS4 := s_drew hS
  clear hS hS2 w1 w2 w3 w4 n1 n2 n3 n4 hcD hcM
  go_wp2_with fail
  go_region_held3 (fun w' => w'.cell? ⟨w.heap.size, 0, none⟩ = some (.int .i64 y) ∧ w'.cell? ⟨w.heap.size, 1, none⟩ = some (.int .i64 mm) ∧ w'.cell? ⟨w.heap.size, 2, none⟩ = some (.int .i64 d) ∧ w'.cell? ⟨w.heap.size, 3, none⟩ = some (.int .i64 h) ∧ w'.cell? ⟨w.heap.size, 4, none⟩ = some (.int .i64 n) ∧ w'.cell? ⟨w.heap.size, 5, none⟩ = some (.int .i64 s) ∧ Below w.heap.size w w') (first | assumption)
    (first
      | (go_at_call 243; refine (twoS_any _ _ (by assumption) (by assumption)).mono ?_; rintro e w' ⟨rfl, hb⟩; have hS := s_keep (by assumption) hb; clear hb)
      | (go_at_call 163; refine (yearS_any _ _ (by assumption) (by assumption)).mono ?_; rintro e w' ⟨rfl, hb⟩; rw [HY.out]; have hS := s_keep (by assumption) hb; clear hb))
  have HS5 := Lib.hid hS
  clear hS hS4
  go_wp2_with fail
  go_ret
  exact ⟨by rw [HR.out]; rfl, HS5.out.2.2.2.2.2.2⟩
end Go.Proofs.YtpdonghdnaehhaaGreatDoor
