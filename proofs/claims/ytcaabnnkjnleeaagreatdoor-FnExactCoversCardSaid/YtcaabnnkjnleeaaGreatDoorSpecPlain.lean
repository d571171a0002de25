/- The model's l04Plain: what it answers. No condition of its own. -/
import Derived.Test.YtcaabnnkjnleeaaGreatDoorPairOK
namespace Go.Proofs.YtcaabnnkjnleeaaGreatDoor
open Go.ChangeShapes Go.WideShapes Go.ChangeAt Go.WideMaps Go.WideElems Go.RowKit

/-- None of the bytes of the second text. -/
def freeB (wo : ByteArray) (b : UInt8) : Bool := !decide (findB wo b < wo.size)
def trimW (s : ByteArray) : ByteArray := ⟨(rightL (leftL s.data.toList)).toArray⟩
def plainW (s wo : ByteArray) : Bool := allB s plainB && (((trimW s).toList == s.toList) && allB s (freeB wo))
theorem specPlain (s wo : ByteArray) (w : World) (hs : s.size ≤ 1048576) (hw : wo.size ≤ 100) : Calls Tryz.prog 86 #[.string s, .string wo] w fun e w' => e = .returned (.bool (plainW s wo)) ∧ w = w' := by
  have hs0 : Hid (s.size ≤ maxLen) := Lib.hid (by unfold maxLen; omega)
  have hw0 : Hid (wo.size ≤ maxLen) := Lib.hid (by unfold maxLen; omega)
  cases g1 : allB s plainB with
  | false =>
    have G1 := Lib.hid g1
    go_enter Tryz.func86, Tryz.ntmps86
    go_wp2_with fail
    refine (specControl s _ hs0.out).mono ?_
    rintro e w' ⟨rfl, rfl⟩
    rw [g1]
    clear g1
    go_wp2_with fail
    go_ret
    exact ⟨bool_end (by simp [plainW, G1.out]), rfl⟩
  | true =>
    have G1 := Lib.hid g1
    cases g2 : ((trimW s).toList == s.toList) with
    | false =>
      have G2 := Lib.hid g2
      have n2 : ((trimW s).toList != s.toList) = true := by rw [bne, g2]; rfl
      go_enter Tryz.func86, Tryz.ntmps86
      go_wp2_with fail
      refine (specControl s _ hs0.out).mono ?_
      rintro e w' ⟨rfl, rfl⟩
      rw [g1]
      clear g1
      go_wp2_with fail
      refine (specTrimL s _ hs0.out).mono ?_
      rintro e w' ⟨rfl, rfl⟩
      rw [show (⟨(rightL (leftL s.data.toList)).toArray⟩ : ByteArray) = trimW s from rfl]
      go_wp2_with fail
      go_ret
      exact ⟨bool_end (by simp [plainW, G2.out]), rfl⟩
    | true =>
      have G2 := Lib.hid g2
      have n2 : ((trimW s).toList != s.toList) = false := by rw [bne, g2]; rfl
      go_enter Tryz.func86, Tryz.ntmps86
      go_wp2_with fail
      refine (specControl s _ hs0.out).mono ?_
      rintro e w' ⟨rfl, rfl⟩
      rw [g1]
      clear g1
      go_wp2_with fail
      refine (specTrimL s _ hs0.out).mono ?_
      rintro e w' ⟨rfl, rfl⟩
      rw [show (⟨(rightL (leftL s.data.toList)).toArray⟩ : ByteArray) = trimW s from rfl]
      go_wp2_with fail
      go_loop [5] (fun i => ∃ k : Nat, k ≤ s.size ∧ i = .int .i64 k ∧ Upto s (freeB wo) k) (fun i => s.size - (intOf i).toNat)
      case atStart => exact ⟨0, Nat.zero_le _, rfl, upto_zero _ _⟩
      case round =>
        obtain ⟨k, hk, rfl, hup⟩ := hrel
        have HU := Lib.hid hup
        clear hup
        by_cases hlt : k < s.size
        · by_cases hf : findB wo (s[k]'hlt) < wo.size
          · have hfi : (findB wo (s[k]'hlt) : Int) < wo.size := by omega
            have HF : Hid (freeB wo (s[k]'hlt) = false) := Lib.hid (by unfold freeB; rw [decide_eq_true hf]; rfl)
            go_wp2_with fail
            refine (find_any wo (s[k]'hlt) _ hw0.out).mono ?_
            rintro e w' ⟨rfl, rfl⟩
            go_wp2_with fail
            go_ret
            exact ⟨bool_end (by simp [plainW, all_false_at hlt HF.out]), rfl⟩
          · have hfi : (wo.size : Int) ≤ findB wo (s[k]'hlt) := by omega
            have HF : Hid (freeB wo (s[k]'hlt) = true) := Lib.hid (by unfold freeB; rw [decide_eq_false hf]; rfl)
            go_wp2_with fail
            refine (find_any wo (s[k]'hlt) _ hw0.out).mono ?_
            rintro e w' ⟨rfl, rfl⟩
            go_wp2_with fail
            go_round
            case rel => exact ⟨k + 1, by omega, by go_num, upto_succ HU.out hlt HF.out⟩
            case measure => simp [intOf]; omega
        · go_wp2_with fail
          go_ret
          exact ⟨bool_end (by simp [plainW, G1.out, G2.out, all_of_upto HU.out (by omega)]), rfl⟩
/-- At a text of at most 65536 bytes the model asks what the program asks. -/
theorem trimW_small {s : ByteArray} (h : s.size ≤ 65536) : trimW s = trimB s := by rw [trimB, if_pos h]; rfl
theorem free_one (c b : UInt8) : freeB ⟨#[c]⟩ b = noneB c b := by
  unfold freeB noneB findB
  show (!decide ([c].findIdx (· == b) < 1)) = !(b == c)
  rw [List.findIdx_cons, List.findIdx_nil]
  cases h : (c == b) with
  | true =>
    have e : b = c := (eq_of_beq h).symm
    subst e
    simp
  | false =>
    have e : (b == c) = false := by rw [Bool.beq_comm] at h; simpa using h
    rw [e]
    rfl
theorem free_two (c c2 b : UInt8) : freeB ⟨#[c, c2]⟩ b = (noneB c b && noneB c2 b) := by
  unfold freeB noneB findB
  show (!decide ([c, c2].findIdx (· == b) < 2)) = (!(b == c) && !(b == c2))
  rw [List.findIdx_cons, List.findIdx_cons, List.findIdx_nil]
  cases h : (c == b) with
  | true =>
    have e : b = c := (eq_of_beq h).symm
    subst e
    simp
  | false =>
    have e : (b == c) = false := by
      rw [beq_eq_false_iff_ne] at h ⊢
      exact Ne.symm h
    cases h2 : (c2 == b) with
    | true =>
      have e2 : b = c2 := (eq_of_beq h2).symm
      subst e2
      simp
    | false =>
      have e2 : (b == c2) = false := by
        rw [beq_eq_false_iff_ne] at h2 ⊢
        exact Ne.symm h2
      simp [e, e2]
theorem all_and (s : ByteArray) (f g : UInt8 → Bool) : allB s (fun b => f b && g b) = (allB s f && allB s g) := by
  unfold allB
  induction s.data.toList with
  | nil => rfl
  | cons b l ih =>
    simp only [List.all_cons, ih]
    cases f b <;> cases g b <;> simp
theorem plainW_one {s : ByteArray} (h : s.size ≤ 65536) : plainW s ⟨#[59]⟩ = plainS s := by
  have e : freeB ⟨#[59]⟩ = noneB 59 := funext fun b => free_one 59 b
  unfold plainW plainS controlOK
  rw [trimW_small h, e, decide_eq_true h]
  cases allB s plainB <;> cases allB s (noneB 59) <;> cases ((trimB s).toList == s.toList) <;> rfl
theorem plainW_two {s : ByteArray} (h : s.size ≤ 65536) : plainW s ⟨#[61, 59]⟩ = (plainS s && allB s (noneB 61)) := by
  have e : freeB ⟨#[61, 59]⟩ = fun b => (noneB 61 b && noneB 59 b) := funext fun b => free_two 61 59 b
  unfold plainW plainS controlOK
  rw [trimW_small h, e, all_and, decide_eq_true h]
  cases allB s plainB <;> cases allB s (noneB 59) <;> cases allB s (noneB 61) <;> cases ((trimB s).toList == s.toList) <;> rfl
end Go.Proofs.YtcaabnnkjnleeaaGreatDoor
