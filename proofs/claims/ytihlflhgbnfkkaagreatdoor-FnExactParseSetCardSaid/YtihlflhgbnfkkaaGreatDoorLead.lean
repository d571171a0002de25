/- The numbers that begin a text, of the program and of the model: what they answer. -/
import Derived.Test.YtihlflhgbnfkkaaGreatDoorDecimal
import Derived.Test.YtihlflhgbnfkkaaGreatDoorReadMath
import Derived.Test.YtihlflhgbnfkkaaGreatDoorShelf
import Derived.Test.YtihlflhgbnfkkaaGreatDoorDateOK
import Derived.Shelf.Strings.SlTrimAscii
namespace Go.Proofs.YtihlflhgbnfkkaaGreatDoor
open Go.ChangeShapes Go.WideShapes Go.ChangeAt Go.WideMaps Go.WideElems Go.RowKit

theorem dig_same (b : UInt8) : digitB b = digB b := rfl
theorem acc_val : ∀ (k : Nat) (l : List UInt8), l.length = k → k ≤ 12 → (∀ b ∈ l, digB b = true) → acc l = val l
  | 0, l, hl, _, _ => by
    obtain rfl := List.eq_nil_of_length_eq_zero hl
    rfl
  | k + 1, l, hl, hk, h => by
    obtain ⟨m, b, rfl⟩ : ∃ m b, l = m ++ [b] :=
      ⟨l.dropLast, l.getLast (by intro e; subst e; simp at hl), (List.dropLast_concat_getLast _).symm⟩
    have hm : m.length = k := by simp at hl; omega
    have hdm : ∀ x ∈ m, digB x = true := fun x hx => h x (by simp [hx])
    rw [acc_snoc, acc_val k m hm (by omega) hdm, val_snoc]
    obtain ⟨b1, b2⟩ := val_bound (k + 1) (m ++ [b]) hl h
    rw [val_snoc] at b1 b2
    have : (10 : Int) ^ (k + 1) ≤ 10 ^ 12 := by
      have : (10 : Nat) ^ (k + 1) ≤ 10 ^ 12 := Nat.pow_le_pow_right (by omega) (by omega)
      exact_mod_cast this
    have e : (10 : Int) ^ 12 = 1000000000000 := by decide
    rw [e] at this
    omega
theorem dec_small {u : ByteArray} (h1 : 1 ≤ u.size) (h4 : u.size ≤ 4) (hd : ∀ b ∈ u.data.toList, digB b = true) : dN u = val u.data.toList ∧ dC u = 0 := by
  have hneg : negB u = false := by
    cases hh : u.data.toList with
    | nil => simp [negB, hh]
    | cons b t =>
      have := (dig_iff b).1 (hd b (by rw [hh]; simp))
      simp only [negB, hh, List.head?_cons, beq_eq_false_iff_ne, ne_eq, Option.some.injEq]
      rintro rfl
      simp at this
  have hr : restB u = u := by simp [restB, hneg]
  have hall : decAll u = true := by
    unfold decAll allB
    rw [hr]
    exact List.all_eq_true.2 hd
  have hok : decOK u = true := by
    simp only [decOK, hall, hr, Bool.true_and, decide_eq_true_eq]
    omega
  have hsg : sgnB u = 1 := by simp [sgnB, hneg]
  refine ⟨?_, ?_⟩
  · unfold dN decN
    rw [if_pos ⟨by omega, hok⟩, if_pos hall, hsg, hr, acc_val u.size u.data.toList (by simp) (by omega) hd]
    omega
  · unfold dC
    rw [if_pos (by omega), if_pos hok]
theorem trim_digits (l : List UInt8) : Lib.trimLeftS l [48, 49, 50, 51, 52, 53, 54, 55, 56, 57] = l.drop (digN l) := by
  rw [digN_drop]
  unfold Lib.trimLeftS
  congr 1
  funext b
  rw [Bool.eq_iff_iff, dig_iff]
  simp only [List.contains_eq_mem, List.mem_cons, List.not_mem_nil, or_false, decide_eq_true_eq]
  constructor
  · rintro (rfl | rfl | rfl | rfl | rfl | rfl | rfl | rfl | rfl | rfl) <;> decide
  · intro ⟨h1, h2⟩
    have h : b.toNat = 48 ∨ b.toNat = 49 ∨ b.toNat = 50 ∨ b.toNat = 51 ∨ b.toNat = 52 ∨ b.toNat = 53 ∨ b.toNat = 54 ∨ b.toNat = 55 ∨ b.toNat = 56 ∨ b.toNat = 57 := by omega
    simpa [← UInt8.toNat_inj] using h
/-- What begins a text: the number, what is behind it, and whether there is one. -/
def ldN (lo hi : Nat) (s : ByteArray) : Int := match leadL lo hi s.data.toList with | some (n, _) => n | none => 0
def ldR (lo hi : Nat) (s : ByteArray) : ByteArray := match leadL lo hi s.data.toList with | some (_, r) => ⟨r.toArray⟩ | none => ⟨#[]⟩
def ldB (lo hi : Nat) (s : ByteArray) : Bool := (leadL lo hi s.data.toList).isSome
theorem ld_none {lo hi : Nat} {s : ByteArray} (h : leadL lo hi s.data.toList = none) : ldN lo hi s = 0 ∧ ldR lo hi s = ⟨#[]⟩ ∧ ldB lo hi s = false := by simp [ldN, ldR, ldB, h]
theorem ld_some {lo hi : Nat} {s : ByteArray} {n : Int} {r : List UInt8} (h : leadL lo hi s.data.toList = some (n, r)) : ldN lo hi s = n ∧ ldR lo hi s = ⟨r.toArray⟩ ∧ ldB lo hi s = true := by simp [ldN, ldR, ldB, h]
theorem nsb_end {a b : Int} {s t : ByteArray} {p q : Bool} (h1 : a = b) (h2 : s = t) (h3 : p = q) : Ending.returned (.tuple #[.int .i64 a, .string s, .bool p]) = .returned (.tuple #[.int .i64 b, .string t, .bool q]) := by rw [h1, h2, h3]
def LeadPost (w : World) (lo hi : Nat) (s : ByteArray) (e : Ending) (w' : World) : Prop := e = .returned (.tuple #[.int .i64 (ldN lo hi s), .string (ldR lo hi s), .bool (ldB lo hi s)]) ∧ Below w.heap.size w w'
theorem trimLeft_any (s : ByteArray) (w : World) : Calls Tryz.prog 228 #[.string s, .string ⟨#[48, 49, 50, 51, 52, 53, 54, 55, 56, 57]⟩] w fun e w' => e = .returned (.string ⟨(s.data.toList.drop (digN s.data.toList)).toArray⟩) ∧ Below w.heap.size w w' := by
  refine (Any.strings_TrimLeft_laid Tryz.lays161 (by kernel_rfl) s ⟨#[48, 49, 50, 51, 52, 53, 54, 55, 56, 57]⟩ w (by decide) (ascii_of_all (by decide))).mono ?_
  rintro e w' ⟨rfl, hb⟩
  refine ⟨?_, hb⟩
  rw [show (⟨#[48, 49, 50, 51, 52, 53, 54, 55, 56, 57]⟩ : ByteArray).data.toList = [48, 49, 50, 51, 52, 53, 54, 55, 56, 57] from rfl, trim_digits]
set_option maxHeartbeats 1000000 in
set_option maxRecDepth 100000 in
theorem implLead (s : ByteArray) (lo hi : Nat) (w : World) (h1 : 1 ≤ lo) (h4 : hi ≤ 4) (hs : s.size ≤ 65536) (hT : TabAt w) : Calls Tryz.prog 197 #[.string s, .int .i64 lo, .int .i64 hi] w (LeadPost w lo hi s) := by
  have HT := Lib.hid hT
  clear hT
  obtain ⟨k, hk⟩ : ∃ k, digN s.data.toList = k := ⟨_, rfl⟩
  have hkl : k ≤ s.size := by have := digN_le s.data.toList; simp at this; omega
  obtain ⟨R, hR⟩ : ∃ R : ByteArray, R = ⟨(s.data.toList.drop k).toArray⟩ := ⟨_, rfl⟩
  have hRs : R.size = s.size - k := by
    rw [hR]
    show (List.drop k s.data.toList).toArray.size = _
    simp
  have hRl : R.data.toList = s.data.toList.drop k := by rw [hR]
  cases hL : leadL lo hi s.data.toList with
  | none =>
    obtain ⟨e1, e2, e3⟩ := ld_none hL
    have HE := Lib.hid e1
    have HE2 := Lib.hid e2
    have HE3 := Lib.hid e3
    have hno := lead_none hL
    rw [hk] at hno
    have HK := Lib.hid hk
    have HR := Lib.hid hR
    have HRS := Lib.hid hRs
    clear e1 e2 e3 hL hk hR hRl
    have hz : (s.size : Int) - (R.size : Int) = k := by omega
    have HZ := Lib.hid hz
    clear hz
    rcases Nat.lt_or_ge k lo with hlo | hlo
    · go_enter Tryz.func197, Tryz.ntmps197
      go_wp2_with fail
      refine (trimLeft_any s _).mono ?_
      rintro e w1 ⟨rfl, hb⟩
      rw [HK.out, ← HR.out]
      have HB := Lib.hid hb
      clear hb
      go_wp2_with fail
      refine bodyPost_ret (v := .tuple #[.int .i64 0, .string ⟨#[]⟩, .bool false]) (by simp [results, Tryz.results197, go_sem]) rfl ?_
      exact ⟨nsb_end HE.out.symm HE2.out.symm HE3.out.symm, HB.out⟩
    · have hhi : hi < k := by omega
      clear hno
      go_enter Tryz.func197, Tryz.ntmps197
      go_wp2_with fail
      refine (trimLeft_any s _).mono ?_
      rintro e w1 ⟨rfl, hb⟩
      rw [HK.out, ← HR.out]
      have HB := Lib.hid hb
      clear hb
      go_wp2_with fail
      refine bodyPost_ret (v := .tuple #[.int .i64 0, .string ⟨#[]⟩, .bool false]) (by simp [results, Tryz.results197, go_sem]) rfl ?_
      exact ⟨nsb_end HE.out.symm HE2.out.symm HE3.out.symm, HB.out⟩
  | some x =>
    obtain ⟨n, r⟩ := x
    obtain ⟨e1, e2, e3⟩ := ld_some hL
    obtain ⟨a1, a2, a3, a4⟩ := lead_some hL
    have hdg := digN_all s.data.toList
    rw [hk] at a1 a2 a3 a4 hdg
    have hxs : (s.extract 0 k).data.toList = s.data.toList.take k := by simp
    obtain ⟨d1, d2⟩ := dec_small (u := s.extract 0 k) (by simp; omega) (by simp; omega) (by rw [hxs]; exact hdg)
    rw [hxs, ← a3] at d1
    have HD1 := Lib.hid d1
    have HD2 := Lib.hid d2
    have HE := Lib.hid e1
    have HE2 := Lib.hid e2
    have HE3 := Lib.hid e3
    have HK := Lib.hid hk
    have HR := Lib.hid hR
    have HR4 : Hid (R = ⟨r.toArray⟩) := by show R = _; rw [hR, a4]
    have hz : (s.size : Int) - (R.size : Int) = k := by omega
    clear e1 e2 e3 hL hk hR hRl d1 d2 hdg a3 a4 hxs hRs
    go_enter Tryz.func197, Tryz.ntmps197
    go_wp2_with fail
    refine (trimLeft_any s _).mono ?_
    rintro e w1 ⟨rfl, hb⟩
    rw [HK.out, ← HR.out]
    have HB := Lib.hid hb
    clear hb
    have hsz2 : (s.extract 0 k).size ≤ maxLen := by unfold maxLen; simp; omega
    have HZ2 := Lib.hid hsz2
    clear hsz2
    go_wp2_with fail
    refine (implDecimal (s.extract 0 k) _ HZ2.out (HT.out.below HB.out)).mono ?_
    rintro e w2 ⟨rfl, hb⟩
    rw [HD1.out, HD2.out]
    have HB2 := Lib.hid (HB.out.trans (hb.mono HB.out.size))
    clear hb
    go_wp2_with fail
    refine bodyPost_ret (v := .tuple #[.int .i64 n, .string R, .bool true]) (by simp [results, Tryz.results197, go_sem]) rfl ?_
    exact ⟨nsb_end HE.out.symm (HR4.out.trans HE2.out.symm) HE3.out.symm, HB2.out⟩
/-- The model answers the same, where there is such a number. -/
def SLeadPost (w : World) (lo hi : Nat) (s : ByteArray) (e : Ending) (w' : World) : Prop :=
  ∃ (n : Int) (r : ByteArray), e = .returned (.tuple #[.int .i64 n, .string r, .bool (ldB lo hi s)]) ∧ (ldB lo hi s = true → n = ldN lo hi s ∧ r = ldR lo hi s) ∧ Below w.heap.size w w'
def LeadRel (s : ByteArray) (hi : Nat) (kk nn : Value) : Prop :=
  ∃ k : Nat, k ≤ s.size ∧ k ≤ hi + 1 ∧ Upto s digitB k ∧ kk = .int .i64 k ∧ nn = .int .i64 (val (s.data.toList.take k))
theorem upto_take {s : ByteArray} {k : Nat} (h : Upto s digitB k) : ∀ b ∈ s.data.toList.take k, digB b = true := by
  intro b hb
  obtain ⟨j, hj, rfl⟩ := List.mem_iff_getElem.1 hb
  rw [List.length_take] at hj
  have := h j (by simp at hj; omega) (by omega)
  rw [List.getElem_take]
  exact this
theorem digN_split {s : ByteArray} {k : Nat} (h : Upto s digitB k) (hk : k ≤ s.size) : digN s.data.toList = k + digN (s.data.toList.drop k) := by
  conv => lhs; rw [← List.take_append_drop k s.data.toList]
  unfold digN
  rw [List.takeWhile_append_of_pos (upto_take h), List.length_append, List.length_take]
  congr 1
  simp
  omega
theorem lead_end {s : ByteArray} {lo hi k : Nat} (hk : k ≤ s.size) (hu : Upto s digitB k) (hx : k = hi + 1 ∨ ∀ h : k < s.size, digitB (s[k]'h) = false) :
    inB k lo hi = ldB lo hi s ∧ (ldB lo hi s = true → val (s.data.toList.take k) = ldN lo hi s ∧ s.extract k s.size = ldR lo hi s) := by
  have hd := digN_split hu hk
  rcases hx with rfl | hx
  · have hno : leadL lo hi s.data.toList = none := if_neg (by omega)
    obtain ⟨_, _, e3⟩ := ld_none hno
    refine ⟨?_, fun h => by rw [e3] at h; cases h⟩
    rw [e3]
    cases hh : inB ((hi + 1 : Nat) : Int) lo hi with
    | false => rfl
    | true => have := in_iff.1 hh; omega
  · have h0 : digN (s.data.toList.drop k) = 0 := by
      by_cases hks : k < s.size
      · have hdr : s.data.toList.drop k = s[k]'hks :: s.data.toList.drop (k + 1) := by
          have := List.drop_eq_getElem_cons (l := s.data.toList) (i := k) (by simpa using hks)
          rw [this]
          rfl
        rw [hdr, digN, List.takeWhile_cons, if_neg (by have := hx hks; rw [dig_same] at this; rw [this]; simp)]
        rfl
      · rw [List.drop_eq_nil_of_le (by simp; omega)]
        rfl
    rw [h0, Nat.add_zero] at hd
    by_cases hr : lo ≤ k ∧ k ≤ hi
    · have hyes : leadL lo hi s.data.toList = some (val (s.data.toList.take k), s.data.toList.drop k) := by
        unfold leadL
        rw [hd, if_pos hr]
      obtain ⟨e1, e2, e3⟩ := ld_some hyes
      refine ⟨?_, fun _ => ⟨e1.symm, ?_⟩⟩
      · rw [e3]
        exact in_iff.2 ⟨by omega, by omega⟩
      · rw [e2]
        apply bytes_inj
        rw [Lib.extract_to_end]
    · have hno : leadL lo hi s.data.toList = none := if_neg (by rw [hd]; exact hr)
      obtain ⟨_, _, e3⟩ := ld_none hno
      refine ⟨?_, fun h => by rw [e3] at h; cases h⟩
      rw [e3]
      cases hh : inB (k : Int) lo hi with
      | false => rfl
      | true => have := in_iff.1 hh; omega
set_option maxHeartbeats 1000000 in
set_option maxRecDepth 100000 in
theorem specLead (s : ByteArray) (lo hi : Nat) (w : World) (h4 : hi ≤ 4) : Calls Tryz.prog 204 #[.string s, .int .i64 lo, .int .i64 hi] w (SLeadPost w lo hi s) := by
  go_enter Tryz.func204, Tryz.ntmps204
  go_wp2_with fail
  go_loop [9, 10] (fun kk nn => LeadRel s hi kk nn) (fun kk _ => s.size - (intOf kk).toNat)
  case atStart => exact ⟨0, Nat.zero_le _, by omega, upto_zero _ _, rfl, rfl⟩
  case round =>
    obtain ⟨k, hk, hkh, hup, rfl, rfl⟩ := hrel
    have HU := Lib.hid hup
    obtain ⟨b1, b2⟩ := val_bound k (s.data.toList.take k) (by simp; omega) (upto_take hup)
    have b3 : val (s.data.toList.take k) < 100000 := by
      have : (10 : Int) ^ k ≤ 10 ^ 5 := by
        have : (10 : Nat) ^ k ≤ 10 ^ 5 := Nat.pow_le_pow_right (by omega) (by omega)
        exact_mod_cast this
      have e : (10 : Int) ^ 5 = 100000 := by decide
      omega
    obtain ⟨V, hV⟩ : ∃ V, val (s.data.toList.take k) = V := ⟨_, rfl⟩
    rw [hV] at b1 b3
    rw [hV]
    have HV := Lib.hid hV
    clear hup b2 hV
    by_cases hlt : k < s.size
    · by_cases hle : k ≤ hi
      · cases hd : digitB (s[k]'hlt) with
        | true =>
          have hdb := (digit_iff _).1 hd
          have HD := Lib.hid hd
          clear hd
          go_wp2_with (go_at_call 118; refine (digit_any _ _).mono ?_; rintro e w' ⟨rfl, rfl⟩; rw [HD.out])
          go_round
          case rel =>
            refine ⟨k + 1, by omega, by omega, upto_succ HU.out hlt HD.out, by go_num, ?_⟩
            rw [take_snoc s k hlt, val_snoc, HV.out]
            congr 1
            omega
          case measure => simp [intOf]; omega
        | false =>
          have HE := Lib.hid (lead_end (lo := lo) (hi := hi) hk HU.out (.inr fun _ => hd))
          have HD := Lib.hid hd
          clear hd
          go_wp2_with (go_at_call 118; refine (digit_any _ _).mono ?_; rintro e w' ⟨rfl, rfl⟩; rw [HD.out])
          have emin : min (k : Int) (s.size : Int) = k := by omega
          go_quiet ((go_at_call 89; exact Calls.quiet_of_same ((in_any _ _ _ _).mono fun e w' h => ⟨by rw [h.1, HE.out.1], h.2.symm⟩)))
          clear emin
          go_wp2_with fail
          go_ret3
          exact ⟨V, _, rfl, fun h => ⟨by rw [← (HE.out.2 h).1, HV.out], (HE.out.2 h).2⟩, drewN_below (Below.refl _ _) _⟩
      · have HE := Lib.hid (lead_end (lo := lo) (hi := hi) hk HU.out (.inl (by omega)))
        go_wp2_with fail
        have emin : min (k : Int) (s.size : Int) = k := by omega
        go_quiet ((go_at_call 89; exact Calls.quiet_of_same ((in_any _ _ _ _).mono fun e w' h => ⟨by rw [h.1, HE.out.1], h.2.symm⟩)))
        clear emin
        go_wp2_with fail
        go_ret3
        exact ⟨V, _, rfl, fun h => ⟨by rw [← (HE.out.2 h).1, HV.out], (HE.out.2 h).2⟩, drewN_below (Below.refl _ _) _⟩
    · have HE := Lib.hid (lead_end (lo := lo) (hi := hi) hk HU.out (.inr fun h => absurd h hlt))
      go_wp2_with fail
      have emin : min (k : Int) (s.size : Int) = k := by omega
      go_quiet ((go_at_call 89; exact Calls.quiet_of_same ((in_any _ _ _ _).mono fun e w' h => ⟨by rw [h.1, HE.out.1], h.2.symm⟩)))
      clear emin
      go_wp2_with fail
      go_ret3
      exact ⟨V, _, rfl, fun h => ⟨by rw [← (HE.out.2 h).1, HV.out], (HE.out.2 h).2⟩, drewN_below (Below.refl _ _) _⟩
end Go.Proofs.YtihlflhgbnfkkaaGreatDoor
