/- The model's l00Number: which texts are numerals of at most 18 digits, and what they are. The text has at most maxLen bytes. -/
import Derived.Test.YtcaabnnkjnleeaaGreatDoorDecimal
import Derived.Test.YtcaabnnkjnleeaaGreatDoorOctetMath
import Derived.Deep.DeepCutAuto
namespace Go.Proofs.YtcaabnnkjnleeaaGreatDoor
open Go.ChangeShapes Go.WideShapes Go.ChangeAt Go.WideMaps Go.WideElems Go.RowKit

theorem dB_digit : dB = digitB := rfl
def zeroB (u : ByteArray) : Bool := u.data.toList.head? == some 48
/-- What the model's l00Number answers. -/
def numOK (t : ByteArray) : Bool := decide (1 ≤ (restB t).size ∧ (restB t).size ≤ 18) && !(zeroB (restB t) && (decide (1 < (restB t).size) || negB t)) && allB (restB t) digitB
def numV (t : ByteArray) : Int := if numOK t then sgnB t * (valL (restB t).data.toList : Int) else 0
theorem zero_at {u : ByteArray} (h : 0 < u.size) : (((u[0]'h).toNat : Int) == 48) = zeroB u := by
  have hl : 0 < u.data.toList.length := by simpa using h
  have e : u.data.toList.head? = some (u[0]'h) := by
    rw [← List.drop_zero (l := u.data.toList), List.drop_eq_getElem_cons hl]
    rfl
  rw [zeroB, e, Bool.eq_iff_iff]
  simp
  rw [← UInt8.toNat_inj]
  show _ ↔ (u[0]'h).toNat = 48
  omega
theorem num_no {t u : ByteArray} (hu : restB t = u) (h : (decide (1 ≤ u.size ∧ u.size ≤ 18) && !(zeroB u && (decide (1 < u.size) || negB t)) && allB u digitB) = false) : numOK t = false ∧ numV t = 0 := by
  have : numOK t = false := by rw [numOK, hu]; exact h
  exact ⟨this, by rw [numV, this]; rfl⟩
theorem num_yes {t u : ByteArray} (hu : restB t = u) (h : (decide (1 ≤ u.size ∧ u.size ≤ 18) && !(zeroB u && (decide (1 < u.size) || negB t)) && allB u digitB) = true) : numOK t = true ∧ numV t = sgnB t * (valL u.data.toList : Int) := by
  have : numOK t = true := by rw [numOK, hu]; exact h
  exact ⟨this, by rw [numV, this, hu]; rfl⟩
theorem val_step {u : ByteArray} {k a : Nat} (hk : k < u.size) (ha : a = valL (u.data.toList.take k)) (hlt : a < 10 ^ k) (hd : digitB (u[k]'hk) = true) :
    a * 10 + ((u[k]'hk).toNat - 48) = valL (u.data.toList.take (k + 1)) ∧ a * 10 + ((u[k]'hk).toNat - 48) < 10 ^ (k + 1) := by
  have hb := (digit_iff _).1 hd
  rw [take_snoc u k hk, valL_snoc, ← ha, Nat.pow_succ]
  exact ⟨rfl, by omega⟩
theorem pow17 {k a : Nat} (h : a < 10 ^ k) (hk : k ≤ 17) : a < 100000000000000000 := Nat.lt_of_lt_of_le h (Nat.le_trans (Nat.pow_le_pow_right (by decide) hk) (by decide))
def NumRel (u : ByteArray) (n i : Value) : Prop := ∃ (k a : Nat), k ≤ u.size ∧ i = .int .i64 k ∧ Upto u digitB k ∧ n = .int .i64 a ∧ a = valL (u.data.toList.take k) ∧ a < 10 ^ k
set_option maxHeartbeats 2000000 in
set_option maxRecDepth 100000 in
theorem number_any (t : ByteArray) (w : World) (hs : t.size ≤ maxLen) : Calls Tryz.prog 174 #[.string t] w fun e w' => e = .returned (.tuple #[.int .i64 (numV t), .bool (numOK t)]) ∧ w = w' := by
  unfold maxLen at hs
  cases hn : negB t with
  | true =>
    obtain ⟨h0, f1, _, _, _, hu, hsg⟩ := neg_true hn
    have HN := Lib.hid hn
    have HS := Lib.hid hsg
    have hz : (t.extract 1 t.size).size = t.size - 1 := by simp
    have HR : Hid (restB t = t.extract 1 t.size) := hu
    have s1 : (1 : Int) ≤ t.size := by omega
    clear hsg hu hn
    obtain ⟨u, hu⟩ : ∃ u, u = t.extract 1 t.size := ⟨_, rfl⟩
    rw [← hu] at HR hz
    have HU := Lib.hid hu
    clear hu
    have hz1 : u.size ≤ t.size - 1 := by omega
    have hz2 : t.size - 1 ≤ u.size := by omega
    clear hz
    go_enter Tryz.func174, Tryz.ntmps174
    go_upto_if 14 with fail
    go_cut [0, 4] (fun v0 v4 wx => v0 = .string u ∧ v4 = .int .i64 (-1) ∧ w = wx)
    case first =>
      go_wp2_with fail
      go_meet
      exact ⟨by rw [HU.out], rfl, rfl⟩
    case rest =>
      obtain ⟨rfl, rfl, rfl⟩ := hcut
      clear f1
      by_cases hu0 : 0 < u.size
      · have fz := zero_at hu0
        have g0 : ((u.size : Int) == 0) = false := by
          rw [beq_eq_false_iff_ne]
          omega
        by_cases hu18 : u.size ≤ 18
        · cases hzb : zeroB u with
          | true =>
            rw [hzb] at fz
            have HX := Lib.hid (num_no HR.out (by rw [hzb, HN.out]; simp))
            clear hzb
            go_wp2
            all_goals go_ret2
            all_goals exact ⟨pair_end HX.out.2.symm HX.out.1.symm, rfl⟩
          | false =>
            rw [hzb] at fz
            go_wp2
            clear fz g0
            go_loop [5, 6] (fun n i => NumRel u n i) (fun _ i => u.size - (intOf i).toNat)
            case atStart => exact ⟨0, 0, Nat.zero_le _, rfl, upto_zero _ _, rfl, rfl, by decide⟩
            case round =>
              obtain ⟨k, a, hk, rfl, hup, rfl, hA, hlt10⟩ := hrel
              have HP := Lib.hid hup
              have HA := Lib.hid hA
              have HL := Lib.hid hlt10
              clear hup hA
              by_cases hlt : k < u.size
              · have ha17 := pow17 hlt10 (by omega)
                clear hlt10
                cases hd : digitB (u[k]'hlt) with
                | true =>
                  have HD := Lib.hid hd
                  obtain ⟨hb1, hb2⟩ := (digit_iff _).1 hd
                  clear hd
                  go_wp2
                  go_round
                  case rel =>
                    obtain ⟨e1, e2⟩ := val_step hlt HA.out HL.out HD.out
                    exact ⟨k + 1, a * 10 + ((u[k]'hlt).toNat - 48), by omega, by go_num, upto_succ HP.out hlt HD.out, num_end (by omega), e1, e2⟩
                  case measure => simp [intOf]; omega
                | false =>
                  have HX := Lib.hid (num_no HR.out (by rw [all_false_at hlt hd]; simp))
                  have hnd : ¬ (48 ≤ (u[k]'hlt).toNat ∧ (u[k]'hlt).toNat ≤ 57) := fun h => by rw [(digit_iff _).2 h] at hd; cases hd
                  clear hd
                  rcases (show (u[k]'hlt).toNat < 48 ∨ 57 < (u[k]'hlt).toNat by omega) with h2 | h2
                  all_goals
                    clear hnd
                    go_wp2
                    go_ret2
                    exact ⟨pair_end HX.out.2.symm HX.out.1.symm, rfl⟩
              · clear hlt10
                have hk18 : a < 1000000000000000000 := Nat.lt_of_lt_of_le HL.out (Nat.le_trans (Nat.pow_le_pow_right (by decide) (show k ≤ 18 by omega)) (by decide))
                have HX := Lib.hid (num_yes HR.out (by rw [all_of_upto HP.out (by omega)]; simp [hzb]; omega))
                have HE : Hid ((a : Int) = valL u.data.toList) := by
                  show _ = _
                  rw [HA.out, List.take_of_length_le (by simp; omega)]
                go_wp2
                go_ret2
                exact ⟨pair_end (by rw [HX.out.2, HS.out, ← HE.out]; omega) HX.out.1.symm, rfl⟩
        · have HX := Lib.hid (num_no HR.out (by rw [decide_eq_false (by omega)]; rfl))
          clear fz
          go_wp2
          go_ret2
          exact ⟨pair_end HX.out.2.symm HX.out.1.symm, rfl⟩
      · have g0 : ((u.size : Int) == 0) = true := by
          rw [beq_iff_eq]
          omega
        have HX := Lib.hid (num_no HR.out (by rw [decide_eq_false (by omega)]; rfl))
        go_wp2
        go_ret2
        exact ⟨pair_end HX.out.2.symm HX.out.1.symm, rfl⟩
  | false =>
    obtain ⟨hu, hsg, hf, _⟩ := neg_false hn
    have HN := Lib.hid hn
    have HS := Lib.hid hsg
    have HR : Hid (restB t = t) := hu
    clear hsg hu hn
    obtain ⟨u, hut⟩ : ∃ u, u = t := ⟨t, rfl⟩
    subst hut
    by_cases hh0 : 0 < u.size
    · have f1 := hf hh0
      clear hf
      by_cases hu0 : 0 < u.size
      · have fz := zero_at hu0
        have g0 : ((u.size : Int) == 0) = false := by
          rw [beq_eq_false_iff_ne]
          omega
        by_cases hu18 : u.size ≤ 18
        · cases hzb : zeroB u with
          | true =>
            rw [hzb] at fz
            by_cases hu1 : 1 < u.size
            · have HX := Lib.hid (num_no HR.out (by rw [hzb]; simp [hu1]))
              clear hzb
              go_enter Tryz.func174, Tryz.ntmps174
              go_wp2
              go_ret2
              exact ⟨pair_end HX.out.2.symm HX.out.1.symm, rfl⟩
            · go_enter Tryz.func174, Tryz.ntmps174
              go_wp2
              clear fz g0
              go_loop [5, 6] (fun n i => NumRel u n i) (fun _ i => u.size - (intOf i).toNat)
              case atStart => exact ⟨0, 0, Nat.zero_le _, rfl, upto_zero _ _, rfl, rfl, by decide⟩
              case round =>
                obtain ⟨k, a, hk, rfl, hup, rfl, hA, hlt10⟩ := hrel
                have HP := Lib.hid hup
                have HA := Lib.hid hA
                have HL := Lib.hid hlt10
                clear hup hA
                by_cases hlt : k < u.size
                · have ha17 := pow17 hlt10 (by omega)
                  clear hlt10
                  cases hd : digitB (u[k]'hlt) with
                  | true =>
                    have HD := Lib.hid hd
                    obtain ⟨hb1, hb2⟩ := (digit_iff _).1 hd
                    clear hd
                    go_wp2
                    go_round
                    case rel =>
                      obtain ⟨e1, e2⟩ := val_step hlt HA.out HL.out HD.out
                      exact ⟨k + 1, a * 10 + ((u[k]'hlt).toNat - 48), by omega, by go_num, upto_succ HP.out hlt HD.out, num_end (by omega), e1, e2⟩
                    case measure => simp [intOf]; omega
                  | false =>
                    have HX := Lib.hid (num_no HR.out (by rw [all_false_at hlt hd]; simp))
                    have hnd : ¬ (48 ≤ (u[k]'hlt).toNat ∧ (u[k]'hlt).toNat ≤ 57) := fun h => by rw [(digit_iff _).2 h] at hd; cases hd
                    clear hd
                    rcases (show (u[k]'hlt).toNat < 48 ∨ 57 < (u[k]'hlt).toNat by omega) with h2 | h2
                    all_goals
                      clear hnd
                      go_wp2
                      go_ret2
                      exact ⟨pair_end HX.out.2.symm HX.out.1.symm, rfl⟩
                · clear hlt10
                  have hk18 : a < 1000000000000000000 := Nat.lt_of_lt_of_le HL.out (Nat.le_trans (Nat.pow_le_pow_right (by decide) (show k ≤ 18 by omega)) (by decide))
                  have HX := Lib.hid (num_yes HR.out (by rw [all_of_upto HP.out (by omega)]; simp [hzb, HN.out]; omega))
                  have HE : Hid ((a : Int) = valL u.data.toList) := by
                    show _ = _
                    rw [HA.out, List.take_of_length_le (by simp; omega)]
                  go_wp2
                  go_ret2
                  exact ⟨pair_end (by rw [HX.out.2, HS.out, ← HE.out]; omega) HX.out.1.symm, rfl⟩
          | false =>
            rw [hzb] at fz
            go_enter Tryz.func174, Tryz.ntmps174
            go_wp2
            clear fz g0
            go_loop [5, 6] (fun n i => NumRel u n i) (fun _ i => u.size - (intOf i).toNat)
            case atStart => exact ⟨0, 0, Nat.zero_le _, rfl, upto_zero _ _, rfl, rfl, by decide⟩
            case round =>
              obtain ⟨k, a, hk, rfl, hup, rfl, hA, hlt10⟩ := hrel
              have HP := Lib.hid hup
              have HA := Lib.hid hA
              have HL := Lib.hid hlt10
              clear hup hA
              by_cases hlt : k < u.size
              · have ha17 := pow17 hlt10 (by omega)
                clear hlt10
                cases hd : digitB (u[k]'hlt) with
                | true =>
                  have HD := Lib.hid hd
                  obtain ⟨hb1, hb2⟩ := (digit_iff _).1 hd
                  clear hd
                  go_wp2
                  go_round
                  case rel =>
                    obtain ⟨e1, e2⟩ := val_step hlt HA.out HL.out HD.out
                    exact ⟨k + 1, a * 10 + ((u[k]'hlt).toNat - 48), by omega, by go_num, upto_succ HP.out hlt HD.out, num_end (by omega), e1, e2⟩
                  case measure => simp [intOf]; omega
                | false =>
                  have HX := Lib.hid (num_no HR.out (by rw [all_false_at hlt hd]; simp))
                  have hnd : ¬ (48 ≤ (u[k]'hlt).toNat ∧ (u[k]'hlt).toNat ≤ 57) := fun h => by rw [(digit_iff _).2 h] at hd; cases hd
                  clear hd
                  rcases (show (u[k]'hlt).toNat < 48 ∨ 57 < (u[k]'hlt).toNat by omega) with h2 | h2
                  all_goals
                    clear hnd
                    go_wp2
                    go_ret2
                    exact ⟨pair_end HX.out.2.symm HX.out.1.symm, rfl⟩
              · clear hlt10
                have hk18 : a < 1000000000000000000 := Nat.lt_of_lt_of_le HL.out (Nat.le_trans (Nat.pow_le_pow_right (by decide) (show k ≤ 18 by omega)) (by decide))
                have HX := Lib.hid (num_yes HR.out (by rw [all_of_upto HP.out (by omega)]; simp [hzb]; omega))
                have HE : Hid ((a : Int) = valL u.data.toList) := by
                  show _ = _
                  rw [HA.out, List.take_of_length_le (by simp; omega)]
                go_wp2
                go_ret2
                exact ⟨pair_end (by rw [HX.out.2, HS.out, ← HE.out]; omega) HX.out.1.symm, rfl⟩
        · have HX := Lib.hid (num_no HR.out (by rw [decide_eq_false (by omega)]; rfl))
          clear fz
          go_enter Tryz.func174, Tryz.ntmps174
          go_wp2
          go_ret2
          exact ⟨pair_end HX.out.2.symm HX.out.1.symm, rfl⟩
      · have g0 : ((u.size : Int) == 0) = true := by
          rw [beq_iff_eq]
          omega
        have HX := Lib.hid (num_no HR.out (by rw [decide_eq_false (by omega)]; rfl))
        go_enter Tryz.func174, Tryz.ntmps174
        go_wp2
        go_ret2
        exact ⟨pair_end HX.out.2.symm HX.out.1.symm, rfl⟩
    · clear hf
      have HX := Lib.hid (num_no HR.out (by rw [decide_eq_false (by omega)]; rfl))
      have g0 : ((u.size : Int) == 0) = true := by
        rw [beq_iff_eq]
        omega
      go_enter Tryz.func174, Tryz.ntmps174
      go_wp2
      go_ret2
      exact ⟨pair_end HX.out.2.symm HX.out.1.symm, rfl⟩
end Go.Proofs.YtcaabnnkjnleeaaGreatDoor
