/- Decimal of the program and of the model: what they answer; the law's walk. No condition of its own. -/
import Derived.Test.YtihlflhgbnfkkaaGreatDoorClasses
namespace Go.Proofs.YtihlflhgbnfkkaaGreatDoor
open Go.ChangeShapes Go.WideShapes Go.ChangeAt Go.WideMaps Go.WideElems Go.RowKit

/-- The number that digits are, as far as the greatest one. -/
def acc (l : List UInt8) : Int := l.foldl (fun n b => min (10 * n + ((b.toNat : Int) - 48)) 1000000000000) 0
theorem acc_snoc (l : List UInt8) (b : UInt8) : acc (l ++ [b]) = min (10 * acc l + ((b.toNat : Int) - 48)) 1000000000000 := by simp [acc]
theorem take_snoc (s : ByteArray) (k : Nat) (h : k < s.size) : s.data.toList.take (k + 1) = s.data.toList.take k ++ [s[k]] := by
  rw [List.take_succ_eq_append_getElem (by simpa using h)]
  rfl
theorem digit_iff (b : UInt8) : digitB b = true ↔ 48 ≤ b.toNat ∧ b.toNat ≤ 57 := by simp [digitB]
theorem digit_cls (b : UInt8) : digitB b = (cls b.toNat == 4) := by
  have h : ∀ n : Fin 256, digitB (UInt8.ofNat n) = (cls n == 4) := by decide +kernel
  have := h ⟨b.toNat, b.toNat_lt⟩
  simpa using this
theorem acc_step {s : ByteArray} {k : Nat} (hk : k < s.size) {a : Int} (ha : a = acc (s.data.toList.take k)) (h0 : 0 ≤ a) (h1 : a ≤ 1000000000000) (hd : digitB (s[k]'hk) = true) :
    (if (1000000000000 : Int) < 10 * a + (s[k]'hk).toNat - 48 then (1000000000000 : Int) else 10 * a + (s[k]'hk).toNat - 48) = acc (s.data.toList.take (k + 1)) ∧ 0 ≤ acc (s.data.toList.take (k + 1)) ∧ acc (s.data.toList.take (k + 1)) ≤ 1000000000000 := by
  rw [take_snoc s k hk, acc_snoc, ← ha]
  have := (digit_iff _).1 hd
  rw [Int.min_def]
  split <;> split <;> omega

/-- A stroke stands ahead. -/
def negB (t : ByteArray) : Bool := t.data.toList.head? == some 45
def restB (t : ByteArray) : ByteArray := if negB t then t.extract 1 t.size else t
def sgnB (t : ByteArray) : Int := if negB t then -1 else 1
theorem neg_true {t : ByteArray} (h : negB t = true) : ∃ h0 : 0 < t.size, (((t[0]'h0).toNat : Int) == 45) = true ∧ t.toList.isEmpty = false ∧ ((t.extract 0 1).toList == [45]) = true ∧ (!(t.extract 0 1).toList == [45]) = false ∧ restB t = t.extract 1 t.size ∧ sgnB t = -1 := by
  obtain ⟨⟨l⟩⟩ := t
  cases l with
  | nil => exact absurd h (by decide)
  | cons b l =>
    have hb : b = 45 := by simpa [negB] using h
    subst hb
    have e : ((ByteArray.mk ⟨45 :: l⟩).extract 0 1).toList = [45] := by
      rw [ByteArray.toList_eq]
      simp
    refine ⟨by show 0 < (45 :: l).length; simp, rfl, ?_, by rw [e]; rfl, by rw [e]; rfl, if_pos h, if_pos h⟩
    rw [ByteArray.toList_eq]
    rfl
theorem neg_false {t : ByteArray} (h : negB t = false) : restB t = t ∧ sgnB t = 1 ∧ (∀ h0 : 0 < t.size, (((t[0]'h0).toNat : Int) == 45) = false) ∧ (0 < t.size → ((t.extract 0 1).toList == [45]) = false ∧ (!(t.extract 0 1).toList == [45]) = true) := by
  have hne : ¬ negB t = true := by simp [h]
  obtain ⟨⟨l⟩⟩ := t
  refine ⟨if_neg hne, if_neg hne, ?_, ?_⟩
  · cases l with
    | nil => intro h0; exact absurd h0 (by show ¬ 0 < ([] : List UInt8).length; simp)
    | cons b l =>
      intro h0
      have hb : ¬ b = 45 := by simpa [negB] using h
      show (((b.toNat : Nat) : Int) == 45) = false
      rw [beq_eq_false_iff_ne]
      intro e
      exact hb (UInt8.toNat_inj.1 (by show b.toNat = 45; omega))
  · cases l with
    | nil => intro h0; exact absurd h0 (by show ¬ 0 < ([] : List UInt8).length; simp)
    | cons b l =>
      intro _
      have hb : ¬ b = 45 := by simpa [negB] using h
      have e : ((ByteArray.mk ⟨b :: l⟩).extract 0 1).toList = [b] := by
        rw [ByteArray.toList_eq]
        simp
      rw [e]
      simp [hb]
/-- What the model's l01Decimal answers, and Decimal. -/
def decAll (t : ByteArray) : Bool := allB (restB t) digitB
def decN (t : ByteArray) : Int := if decAll t then sgnB t * acc (restB t).data.toList else 0
def decOK (t : ByteArray) : Bool := decAll t && decide (0 < (restB t).size)
theorem num_end {a b : Int} (h : a = b) : Value.int .i64 a = .int .i64 b := by rw [h]
theorem pair_end {a b : Int} {p q : Bool} (h : a = b) (h' : p = q) : Ending.returned (.tuple #[.int .i64 a, .bool p]) = .returned (.tuple #[.int .i64 b, .bool q]) := by rw [h, h']
theorem ints_end {a b p q : Int} (h : a = b) (h' : p = q) : Ending.returned (.tuple #[.int .i64 a, .int .i64 p]) = .returned (.tuple #[.int .i64 b, .int .i64 q]) := by rw [h, h']

set_option maxHeartbeats 400000 in
theorem specDec (t : ByteArray) (w : World) (hs : t.size ≤ maxLen) : Calls Tryz.prog 58 #[.string t] w fun e w' => e = .returned (.tuple #[.int .i64 (decN t), .bool (decOK t)]) ∧ w = w' := by
  unfold maxLen at hs
  cases hn : negB t with
  | true =>
    obtain ⟨h0, f1, _, _, _, hu, hsg⟩ := neg_true hn
    have HS := Lib.hid hsg
    have HR := Lib.hid hu
    have hz : (t.extract 1 t.size).size = t.size - 1 := by simp
    clear hsg hu hn
    go_enter Tryz.func58, Tryz.ntmps58
    go_wp2
    generalize hu : t.extract 1 t.size = u at *
    have HU := Lib.hid hu
    clear hu
    have hz1 : u.size ≤ t.size - 1 := by omega
    clear hz
    go_loop [5, 6] (fun n i => ∃ (k : Nat) (a : Int), k ≤ u.size ∧ i = .int .i64 k ∧ Upto u digitB k ∧ n = .int .i64 a ∧ a = acc (u.data.toList.take k) ∧ 0 ≤ a ∧ a ≤ 1000000000000) (fun _ i => u.size - (intOf i).toNat)
    case atStart => exact ⟨0, 0, Nat.zero_le _, rfl, upto_zero _ _, rfl, rfl, by omega, by omega⟩
    case round =>
      obtain ⟨k, a, hk, rfl, hup, rfl, hA, ha0, ha1⟩ := hrel
      have HP := Lib.hid hup
      have HA := Lib.hid hA
      clear hup hA
      by_cases hlt : k < u.size
      · cases hd : digitB (u[k]'hlt) with
        | false =>
          have hnd : (!digitB (u[k]'hlt)) = true := by rw [hd]; rfl
          have HD := Lib.hid hd
          clear hd
          go_wp2_with (go_at_call 118; refine (digit_any _ _).mono ?_; rintro e w' ⟨rfl, rfl⟩)
          go_ret2
          have hall : decAll t = false := by unfold decAll; rw [HR.out]; exact all_false_at hlt HD.out
          exact ⟨pair_end (by unfold decN; rw [hall]; rfl) (by unfold decOK; rw [hall]; rfl), rfl⟩
        | true =>
          have hnd : (!digitB (u[k]'hlt)) = false := by rw [hd]; rfl
          have HD := Lib.hid hd
          have hb := (digit_iff _).1 hd
          obtain ⟨hb1, hb2⟩ := hb
          clear hd
          go_wp2_with (go_at_call 118; refine (digit_any _ _).mono ?_; rintro e w' ⟨rfl, rfl⟩)
          go_round
          case rel =>
            obtain ⟨e1, e2, e3⟩ := acc_step hlt HA.out ha0 ha1 HD.out
            exact ⟨k + 1, _, by omega, by go_num, upto_succ HP.out hlt HD.out, rfl, e1, by rw [e1]; exact e2, by rw [e1]; exact e3⟩
          case measure => simp [intOf]; omega
      · go_wp2
        go_ret2
        have hall : decAll t = true := by unfold decAll; rw [HR.out]; exact all_of_upto HP.out (by omega)
        refine ⟨pair_end ?_ ?_, rfl⟩
        · unfold decN
          have hA := HA.out
          rw [List.take_of_length_le (by simp; omega)] at hA
          rw [hall, if_pos rfl, HR.out, HS.out, ← hA]
          omega
        · unfold decOK
          rw [hall, HR.out]
          simp
  | false =>
    obtain ⟨hu, hsg, hf, _⟩ := neg_false hn
    have HS := Lib.hid hsg
    have HR := Lib.hid hu
    clear hsg hu hn
    obtain ⟨u, hut⟩ : ∃ u, u = t := ⟨t, rfl⟩
    subst hut
    by_cases h0 : 0 < u.size
    · have f1 := hf h0
      clear hf
      go_enter Tryz.func58, Tryz.ntmps58
      go_wp2
      go_loop [5, 6] (fun n i => ∃ (k : Nat) (a : Int), k ≤ u.size ∧ i = .int .i64 k ∧ Upto u digitB k ∧ n = .int .i64 a ∧ a = acc (u.data.toList.take k) ∧ 0 ≤ a ∧ a ≤ 1000000000000) (fun _ i => u.size - (intOf i).toNat)
      case atStart => exact ⟨0, 0, Nat.zero_le _, rfl, upto_zero _ _, rfl, rfl, by omega, by omega⟩
      case round =>
        obtain ⟨k, a, hk, rfl, hup, rfl, hA, ha0, ha1⟩ := hrel
        have HP := Lib.hid hup
        have HA := Lib.hid hA
        clear hup hA
        by_cases hlt : k < u.size
        · cases hd : digitB (u[k]'hlt) with
          | false =>
            have hnd : (!digitB (u[k]'hlt)) = true := by rw [hd]; rfl
            have HD := Lib.hid hd
            clear hd
            go_wp2_with (go_at_call 118; refine (digit_any _ _).mono ?_; rintro e w' ⟨rfl, rfl⟩)
            go_ret2
            have hall : decAll u = false := by unfold decAll; rw [HR.out]; exact all_false_at hlt HD.out
            exact ⟨pair_end (by unfold decN; rw [hall]; rfl) (by unfold decOK; rw [hall]; rfl), rfl⟩
          | true =>
            have hnd : (!digitB (u[k]'hlt)) = false := by rw [hd]; rfl
            have HD := Lib.hid hd
            have hb := (digit_iff _).1 hd
            obtain ⟨hb1, hb2⟩ := hb
            clear hd
            go_wp2_with (go_at_call 118; refine (digit_any _ _).mono ?_; rintro e w' ⟨rfl, rfl⟩)
            go_round
            case rel =>
              obtain ⟨e1, e2, e3⟩ := acc_step hlt HA.out ha0 ha1 HD.out
              exact ⟨k + 1, _, by omega, by go_num, upto_succ HP.out hlt HD.out, rfl, e1, by rw [e1]; exact e2, by rw [e1]; exact e3⟩
            case measure => simp [intOf]; omega
        · go_wp2
          go_ret2
          have hall : decAll u = true := by unfold decAll; rw [HR.out]; exact all_of_upto HP.out (by omega)
          refine ⟨pair_end ?_ ?_, rfl⟩
          · unfold decN
            have hA := HA.out
            rw [List.take_of_length_le (by simp; omega)] at hA
            rw [hall, if_pos rfl, HR.out, HS.out, ← hA]
            omega
          · simp [decOK, hall, HR.out, h0]
    · clear hf
      have h1 : u.size ≤ 0 := by omega
      go_enter Tryz.func58, Tryz.ntmps58
      go_wp2
      go_loop [5, 6] (fun n i => n = .int .i64 0 ∧ i = .int .i64 0) (fun _ i => (intOf i).toNat)
      case atStart => exact ⟨rfl, rfl⟩
      case round =>
        obtain ⟨rfl, rfl⟩ := hrel
        go_wp2
        go_ret2
        have hall : decAll u = true := by unfold decAll; rw [HR.out]; exact all_of_upto (upto_zero _ _) h1
        have hnil : u.data.toList = [] := List.eq_nil_of_length_eq_zero (by simpa using h1)
        refine ⟨pair_end ?_ ?_, rfl⟩
        · unfold decN
          rw [hall, if_pos rfl, HR.out, HS.out, hnil]
          rfl
        · simp [decOK, hall, HR.out, h0]
/-- What Decimal answers. -/
def dN (t : ByteArray) : Int := if t.size ≤ 65536 ∧ decOK t = true then decN t else 0
def dC (t : ByteArray) : Int := if t.size ≤ 65536 then (if decOK t = true then 0 else 3) else 2
def DecRel (w : World) (u : ByteArray) (n : Value) (wr : World) : Prop := ∃ (pos : Nat) (a : Int), pos ≤ u.size ∧ wr = w.iter u pos ∧ Upto u digitB pos ∧ n = .int .i64 a ∧ a = acc (u.data.toList.take pos) ∧ 0 ≤ a ∧ a ≤ 1000000000000
/-- What strings.CutPrefix answers at a stroke. -/
theorem stroke_any (t : ByteArray) (w : World) (hs : t.size ≤ maxLen) : Calls Tryz.prog 59 #[.string t, .string ⟨#[45]⟩] w fun e w' => e = .returned (.tuple #[.string (restB t), .bool (negB t)]) ∧ w = w' := by
  unfold maxLen at hs
  cases hn : negB t with
  | true =>
    obtain ⟨h0, _, _, _, f5, hu, _⟩ := neg_true hn
    rw [hu]
    clear hu hn
    go_enter Tryz.func59, Tryz.ntmps59
    go_wp2
    go_ret2
    exact ⟨rfl, rfl⟩
  | false =>
    obtain ⟨hu, _, _, hf⟩ := neg_false hn
    rw [hu]
    clear hu hn
    by_cases h0 : 0 < t.size
    · have f5 := (hf h0).2
      clear hf
      go_enter Tryz.func59, Tryz.ntmps59
      go_wp2
      go_ret2
      exact ⟨rfl, rfl⟩
    · clear hf
      go_enter Tryz.func59, Tryz.ntmps59
      go_wp2
      go_ret2
      exact ⟨rfl, rfl⟩
theorem rest_size (t : ByteArray) : (restB t).size ≤ t.size := by
  unfold restB
  split
  · simp
  · exact Nat.le_refl _
theorem sgn_true {t : ByteArray} (h : negB t = true) : sgnB t = -1 := if_pos h
theorem sgn_false {t : ByteArray} (h : negB t = false) : sgnB t = 1 := if_neg (by simp [h])
theorem empty_size {u : ByteArray} (h : u.toList.isEmpty = true) : u.size = 0 := by
  rw [ByteArray.toList_eq, List.isEmpty_iff] at h
  have := congrArg List.length h
  simpa using this
theorem some_size {u : ByteArray} (h : u.toList.isEmpty = false) : 0 < u.size := by
  rw [ByteArray.toList_eq] at h
  rcases Nat.eq_zero_or_pos u.size with h0 | h0
  · have : u.data.toList = [] := List.eq_nil_of_length_eq_zero (by simpa using h0)
    rw [this] at h
    cases h
  · exact h0
set_option maxHeartbeats 800000 in
theorem implDecimal (t : ByteArray) (w : World) (hs : t.size ≤ maxLen) (hT : TabAt w) : Calls Tryz.prog 57 #[.string t] w fun e w' => e = .returned (.tuple #[.int .i64 (dN t), .int .i64 (dC t)]) ∧ Below w.heap.size w w' := by
  have HT := Lib.hid hT
  have hs0 := Lib.hid hs
  clear hT
  unfold maxLen at hs
  by_cases hl : t.size ≤ 65536
  · have hz := rest_size t
    cases he : (restB t).toList.isEmpty with
    | true =>
      go_enter Tryz.func57, Tryz.ntmps57
      go_wp2_with (go_at_call 59; refine (stroke_any _ _ hs0.out).mono ?_; rintro e w' ⟨rfl, rfl⟩)
      go_ret2
      have hok : decOK t = false := by simp [decOK, empty_size he]
      exact ⟨ints_end (by simp [dN, hok]) (by simp [dC, hok, hl]), Below.refl _ _⟩
    | false =>
      have HZ := Lib.hid (some_size he)
      go_enter Tryz.func57, Tryz.ntmps57
      go_wp2_with (go_at_call 59; refine (stroke_any _ _ hs0.out).mono ?_; rintro e w' ⟨rfl, rfl⟩)
      generalize hu : restB t = u at *
      have HR := Lib.hid hu
      clear hu he
      go_loopw [6] (fun n wr => DecRel w u n wr) (fun _ wr => u.size - wr.iterPos w.heap.size)
      case atStart => exact ⟨0, 0, Nat.zero_le _, rfl, upto_zero _ _, rfl, rfl, by omega, by omega⟩
      case round =>
        obtain ⟨pos, a, hk, rfl, hup, rfl, hA, ha0, ha1⟩ := hrel
        have HP := Lib.hid hup
        have HA := Lib.hid hA
        clear hup hA
        by_cases hp : pos < u.size
        · have hnx : ∀ ty, (Instr.next (.pointer (some ⟨w.heap.size, 0, none⟩)) true ty).run Tryz.prog (w.iter u pos) = _ := fun ty => run_next_any w u pos ty hp
          have hmx := decode_max u pos
          cases hd : digitB (u[pos]'hp) with
          | false =>
            have hc : (cls (Utf8.decode u pos).1 != 4) = true := by
              rcases rune_cases u pos hp with ⟨_, h⟩ | ⟨_, h⟩
              · rw [h, bne, ← digit_cls, hd]; rfl
              · rw [cls_high h]; rfl
            have HD := Lib.hid hd
            clear hd
            go_wp2_with (go_at_call 96; refine (classOf_any _ _ hmx (HT.out.below ((Below.refl _ _).alloc (Nat.le_refl _) _))).mono ?_; rintro e w' ⟨rfl, rfl⟩)
            go_ret2
            have hall : decOK t = false := by
              have : decAll t = false := by unfold decAll; rw [HR.out]; exact all_false_at hp HD.out
              simp [decOK, this]
            exact ⟨ints_end (by simp [dN, hall]) (by simp [dC, hall, hl]), (Below.refl _ _).alloc (Nat.le_refl _) _⟩
          | true =>
            obtain ⟨hb1, hb2⟩ := (digit_iff _).1 hd
            have hdec := decode_ascii u pos hp (by omega)
            have hc : (cls (Utf8.decode u pos).1 != 4) = false := by
              rw [hdec, bne, ← digit_cls, hd]; rfl
            have HD := Lib.hid hd
            have HX := Lib.hid hdec
            have hv1 : 48 ≤ (Utf8.decode u pos).1 := by rw [hdec]; exact hb1
            have hv2 : (Utf8.decode u pos).1 ≤ 57 := by rw [hdec]; exact hb2
            clear hd hdec hmx
            by_cases hm : (1000000000000 : Int) < 10 * a + (((Utf8.decode u pos).1 : Int) - 48)
            all_goals
              go_wp2_with (go_at_call 96; refine (classOf_any _ _ (by omega) (HT.out.below ((Below.refl _ _).alloc (Nat.le_refl _) _))).mono ?_; rintro e w' ⟨rfl, rfl⟩)
              go_roundw
              case rel =>
                obtain ⟨e1, e2, e3⟩ := acc_step hp HA.out ha0 ha1 HD.out
                refine ⟨pos + 1, acc (u.data.toList.take (pos + 1)), by omega, ?_, upto_succ HP.out hp HD.out, ?_, rfl, e2, e3⟩
                · rw [HX.out]; rfl
                · rw [← e1]
                  have hx := HX.out
                  have hx1 : (Utf8.decode u pos).1 = (u[pos]'hp).toNat := by rw [hx]
                  refine num_end ?_
                  split <;> omega
              case measure =>
                have m1 : (w.alloc (.stringIter u (pos + (Utf8.decode u pos).2))).iterPos w.heap.size = pos + (Utf8.decode u pos).2 := World.iterPos_iter w u _
                rw [m1, HX.out]
                first | omega | (rw [World.iterPos_iter]; omega)
        · have hnx : ∀ ty, (Instr.next (.pointer (some ⟨w.heap.size, 0, none⟩)) true ty).run Tryz.prog (w.iter u pos) = _ := fun ty => run_next_end w u pos ty hp
          have hall : decAll t = true := by unfold decAll; rw [HR.out]; exact all_of_upto HP.out (by omega)
          have hok : decOK t = true := by simp [decOK, hall, HR.out, HZ.out]
          have hN : dN t = sgnB t * a := by
            have hA := HA.out
            rw [List.take_of_length_le (by simp; omega)] at hA
            rw [hA]
            simp [dN, hok, hl, decN, hall, HR.out]
          have hC : dC t = 0 := by simp [dC, hok, hl]
          have HN := Lib.hid hN
          have HC := Lib.hid hC
          clear hN hC hok hall
          go_wp2
          · have hn : negB t = true := by assumption
            go_ret2
            refine ⟨ints_end ?_ HC.out.symm, (Below.refl _ _).alloc (Nat.le_refl _) _⟩
            rw [HN.out, sgn_true hn]
            omega
          · have hn : negB t = false := by assumption
            go_ret2
            refine ⟨ints_end ?_ HC.out.symm, (Below.refl _ _).alloc (Nat.le_refl _) _⟩
            rw [HN.out, sgn_false hn]
            omega
  · go_enter Tryz.func57, Tryz.ntmps57
    go_wp2
    go_ret2
    exact ⟨ints_end (by simp [dN, hl]) (by simp [dC, hl]), Below.refl _ _⟩
end Go.Proofs.YtihlflhgbnfkkaaGreatDoor
