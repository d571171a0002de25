/- What a parsed header's text is. No program is named here but by the functions of bytes and dates. No condition. -/
import Derived.Test.YtpdonghdnaehhaaGreatDoorZSetMath
import Derived.Test.YtpdonghdnaehhaaGreatDoorZDateText
import Derived.Test.YtpdonghdnaehhaaGreatDoorZGf
import Derived.Test.YtpdonghdnaehhaaGreatDoorZSplit
import Derived.Test.YtpdonghdnaehhaaGreatDoorShelf
import Derived.Test.YtpdonghdnaehhaaGreatDoorZGd
import Derived.Test.YtpdonghdnaehhaaGreatDoorZGl
namespace Go.Proofs.YtpdonghdnaehhaaGreatDoor
open Go.WideShapes

def tExp : ByteArray := ⟨#[59, 32, 69, 120, 112, 105, 114, 101, 115, 61]⟩
def tAge : ByteArray := ⟨#[59, 32, 77, 97, 120, 45, 65, 103, 101, 61]⟩
def tDom : ByteArray := ⟨#[59, 32, 68, 111, 109, 97, 105, 110, 61]⟩
def tDot : ByteArray := ⟨#[59, 32, 68, 111, 109, 97, 105, 110, 61, 46]⟩
def tPath : ByteArray := ⟨#[59, 32, 80, 97, 116, 104, 61]⟩
def tSecu : ByteArray := ⟨#[59, 32, 83, 101, 99, 117, 114, 101]⟩
def tHttp : ByteArray := ⟨#[59, 32, 72, 116, 116, 112, 79, 110, 108, 121]⟩
def tSame : ByteArray := ⟨#[59, 32, 83, 97, 109, 101, 83, 105, 116, 101, 61]⟩
/-- The date of a number of seconds. -/
noncomputable def dateN (x : Int) : Dt := @Classical.epsilon Dt ⟨⟨0, 0, 0, 0, 0, 0⟩⟩ fun a => IsDate (x + 11644473600) a
theorem dateN_is {x : Int} {a : Dt} (h : IsDate (x + 11644473600) a) : dateN x = a := (Classical.epsilon_spec_aux ⟨⟨0, 0, 0, 0, 0, 0⟩⟩ _ ⟨a, h⟩).uniq h
def siteW (s : Int) : ByteArray := if s = 1 then ⟨#[78, 111, 110, 101]⟩ else if s = 2 then ⟨#[76, 97, 120]⟩ else ⟨#[83, 116, 114, 105, 99, 116]⟩
def domT (d : ByteArray) : ByteArray := if dotB d then ⟨#[46]⟩ ++ d else d
def cat0 (n v : ByteArray) : ByteArray := n ++ ⟨#[61]⟩ ++ v
def addE (t : ByteArray) (he : Bool) (E : ByteArray) : ByteArray := if he then t ++ (tExp ++ E) else t
def addA (t : ByteArray) (ha : Bool) (A : ByteArray) : ByteArray := if ha then t ++ (tAge ++ A) else t
def addD (t d : ByteArray) : ByteArray := if d.size = 0 then t else t ++ (tDom ++ domT d)
def addP (t : ByteArray) (hp : Bool) (p : ByteArray) : ByteArray := if hp then t ++ (tPath ++ p) else t
def addS (t : ByteArray) (sc : Bool) : ByteArray := if sc then t ++ tSecu else t
def addH (t : ByteArray) (ho : Bool) : ByteArray := if ho then t ++ tHttp else t
def addT (t : ByteArray) (s : Int) : ByteArray := if s = 4 then t else t ++ (tSame ++ siteW s)
end Go.Proofs.YtpdonghdnaehhaaGreatDoor

namespace Go.Proofs.YtpdonghdnaehhaaGreatDoor
open Go.ChangeShapes Go.WideShapes Go.ChangeAt Go.WideMaps Go.WideElems Go.RowKit

theorem all_find (s : ByteArray) (c : UInt8) : allB s (noneB c) = !decide (findB s c < s.size) := by
  have h : findB s c < s.size ↔ ∃ x ∈ s.data.toList, (x == c) = true := by
    rw [findB, show s.size = s.data.toList.length by simp]
    exact List.findIdx_lt_length
  by_cases g : findB s c < s.size
  · obtain ⟨x, hx, hc⟩ := h.1 g
    rw [decide_eq_true g]
    show s.data.toList.all (noneB c) = false
    rw [List.all_eq_false]
    exact ⟨x, hx, by simp [noneB, hc]⟩
  · rw [decide_eq_false g]
    show s.data.toList.all (noneB c) = true
    rw [List.all_eq_true]
    intro x hx
    have : ¬ (x == c) = true := fun e => g (h.2 ⟨x, hx, e⟩)
    simpa [noneB] using this
theorem contains_any (s : ByteArray) (c : UInt8) (w : World) : Calls Tryz.prog 181 #[.string s, .string ⟨#[c]⟩] w fun e w' => e = .returned (.bool (!allB s (noneB c))) ∧ w = w' := by
  refine (Tryz.strings_Contains_one s c w).mono ?_
  rintro e w' ⟨rfl, rfl⟩
  refine ⟨?_, rfl⟩
  rw [all_find, index_find]
  by_cases g : findB s c < s.size
  · rw [if_pos g, decide_eq_true g]
    simp
  · rw [if_neg g, decide_eq_false g]
    first | rfl | simp
theorem plain_any (s : ByteArray) (w : World) (hs : s.size ≤ maxLen) (hT : TabAt w) : Calls Tryz.prog 180 #[.string s] w fun e w' => e = .returned (.bool (plainS s)) ∧ Below w.heap.size w w' := by
  have HT := Lib.hid hT
  have hs0 := Lib.hid hs
  clear hT hs
  go_enter Tryz.func180, Tryz.ntmps180
  go_wp2_with fail
  refine (implControl s _ hs0.out HT.out).mono ?_
  rintro e w1 ⟨rfl, hb⟩
  have B1 := Lib.hid hb
  clear hb
  cases g1 : controlOK s with
  | true =>
    have G1 := Lib.hid g1
    go_wp2_with fail
    go_ret
    exact ⟨bool_end (by simp [plainS, G1.out]), B1.out⟩
  | false =>
    have G1 := Lib.hid g1
    go_wp2_with fail
    refine (contains_any s 59 _).mono ?_
    rintro e w' ⟨rfl, rfl⟩
    cases g2 : allB s (noneB 59) with
    | false =>
      have G2 := Lib.hid g2
      go_wp2_with fail
      go_ret
      exact ⟨bool_end (by simp [plainS, G2.out]), B1.out⟩
    | true =>
      have G2 := Lib.hid g2
      go_wp2_with fail
      refine (implTrim s _ hs0.out).mono ?_
      rintro e w2 ⟨rfl, hb⟩
      have B2 := Lib.hid (B1.out.trans (hb.mono B1.out.size))
      clear hb
      go_wp2_with fail
      go_ret
      exact ⟨bool_end (by simp [plainS, G1.out, G2.out]), B2.out⟩
theorem pairOK_any (n v : ByteArray) (w : World) (hn : n.size ≤ 1048576) (hv : v.size ≤ 1048576) (hT : TabAt w) : Calls Tryz.prog 78 #[.string n, .string v] w fun e w' => e = .returned (.bool (pairOKB n v)) ∧ Below w.heap.size w w' := by
  have HT := Lib.hid hT
  have hn0 : Hid (n.size ≤ maxLen) := Lib.hid (by unfold maxLen; omega)
  have hv0 : Hid (v.size ≤ maxLen) := Lib.hid (by unfold maxLen; omega)
  clear hT
  by_cases h1 : 0 < n.size + v.size
  · by_cases h2 : n.size + v.size ≤ 100
    · have h1' : (0 : Int) < (n.size : Int) + v.size := by omega
      have h2' : (n.size : Int) + v.size ≤ 100 := by omega
      go_enter Tryz.func78, Tryz.ntmps78
      go_wp2_with fail
      refine (plain_any n _ hn0.out HT.out).mono ?_
      rintro e w1 ⟨rfl, hb⟩
      have B1 := Lib.hid hb
      clear hb
      cases g1 : plainS n with
      | false =>
        have G1 := Lib.hid g1
        go_wp2_with fail
        go_ret
        exact ⟨bool_end (by simp [pairOKB, G1.out]), B1.out⟩
      | true =>
        have G1 := Lib.hid g1
        go_wp2_with fail
        refine (plain_any v _ hv0.out (HT.out.below B1.out)).mono ?_
        rintro e w2 ⟨rfl, hb⟩
        have B2 := Lib.hid (B1.out.trans (hb.mono B1.out.size))
        clear hb
        cases g2 : plainS v with
        | false =>
          have G2 := Lib.hid g2
          go_wp2_with fail
          go_ret
          exact ⟨bool_end (by simp [pairOKB, G2.out]), B2.out⟩
        | true =>
          have G2 := Lib.hid g2
          go_wp2_with fail
          refine (contains_any n 61 _).mono ?_
          rintro e w' ⟨rfl, rfl⟩
          go_wp2_with fail
          go_ret
          exact ⟨bool_end (by simp [pairOKB, G1.out, G2.out, h2]; omega), B2.out⟩
    · have h1' : (0 : Int) < (n.size : Int) + v.size := by omega
      have h2' : (100 : Int) < (n.size : Int) + v.size := by omega
      go_enter Tryz.func78, Tryz.ntmps78
      go_wp2_with fail
      go_ret
      exact ⟨bool_end (by simp [pairOKB, h2]), Below.refl _ _⟩
  · have h1' : (n.size : Int) + v.size ≤ 0 := by omega
    go_enter Tryz.func78, Tryz.ntmps78
    go_wp2_with fail
    go_ret
    exact ⟨bool_end (by simp [pairOKB]; omega), Below.refl _ _⟩
theorem prefix_head (s : ByteArray) (c : UInt8) : Lib.hasPrefix s.data.toList [c] = (s.data.toList.head? == some c) := by
  unfold Lib.hasPrefix
  cases s.data.toList with
  | nil => rfl
  | cons b l =>
    simp only [List.isPrefixOf, Bool.and_true, List.head?_cons, Option.some_beq_some]
    exact Bool.beq_comm
theorem prefix_any (s : ByteArray) (c : UInt8) (w : World) : Calls Tryz.prog 156 #[.string s, .string ⟨#[c]⟩] w fun e w' => e = .returned (.bool (s.data.toList.head? == some c)) ∧ w = w' := by
  refine (Tryz.strings_HasPrefix s ⟨#[c]⟩ w).mono ?_
  rintro e w' ⟨rfl, rfl⟩
  refine ⟨?_, rfl⟩
  show Ending.returned (.bool (Lib.hasPrefix s.data.toList [c])) = _
  rw [prefix_head]
end Go.Proofs.YtpdonghdnaehhaaGreatDoor

namespace Go.Proofs.YtpdonghdnaehhaaGreatDoor
open Go.ChangeShapes Go.WideShapes Go.ChangeAt Go.WideMaps Go.WideElems Go.RowKit

/-- None of the bytes of the second text. -/
def freeB (wo : ByteArray) (b : UInt8) : Bool := !decide (findB wo b < wo.size)
def trimW (s : ByteArray) : ByteArray := ⟨(rightL (leftL s.data.toList)).toArray⟩
def plainW (s wo : ByteArray) : Bool := allB s plainB && (((trimW s).toList == s.toList) && allB s (freeB wo))
theorem specPlain (s wo : ByteArray) (w : World) (hs : s.size ≤ 1048576) (hw : wo.size ≤ 100) : Calls Tryz.prog 157 #[.string s, .string wo] w fun e w' => e = .returned (.bool (plainW s wo)) ∧ w = w' := by
  have hs0 : Hid (s.size ≤ maxLen) := Lib.hid (by unfold maxLen; omega)
  have hw0 : Hid (wo.size ≤ maxLen) := Lib.hid (by unfold maxLen; omega)
  cases g1 : allB s plainB with
  | false =>
    have G1 := Lib.hid g1
    go_enter Tryz.func157, Tryz.ntmps157
    go_wp2_with fail
    refine (specControl s _ hs0.out).mono ?_
    rintro e w' ⟨rfl, rfl⟩
    rw [g1]
    clear g1
    go_wp2_with fail
    go_ret
    exact ⟨bool_end (by simp [plainW, G1.out]), rfl⟩
  | true =>
    have G1 := Lib.hid g1
    cases g2 : ((trimW s).toList == s.toList) with
    | false =>
      have G2 := Lib.hid g2
      have n2 : ((trimW s).toList != s.toList) = true := by rw [bne, g2]; rfl
      go_enter Tryz.func157, Tryz.ntmps157
      go_wp2_with fail
      refine (specControl s _ hs0.out).mono ?_
      rintro e w' ⟨rfl, rfl⟩
      rw [g1]
      clear g1
      go_wp2_with fail
      refine (specTrimL s _ hs0.out).mono ?_
      rintro e w' ⟨rfl, rfl⟩
      rw [show (⟨(rightL (leftL s.data.toList)).toArray⟩ : ByteArray) = trimW s from rfl]
      go_wp2_with fail
      go_ret
      exact ⟨bool_end (by simp [plainW, G2.out]), rfl⟩
    | true =>
      have G2 := Lib.hid g2
      have n2 : ((trimW s).toList != s.toList) = false := by rw [bne, g2]; rfl
      go_enter Tryz.func157, Tryz.ntmps157
      go_wp2_with fail
      refine (specControl s _ hs0.out).mono ?_
      rintro e w' ⟨rfl, rfl⟩
      rw [g1]
      clear g1
      go_wp2_with fail
      refine (specTrimL s _ hs0.out).mono ?_
      rintro e w' ⟨rfl, rfl⟩
      rw [show (⟨(rightL (leftL s.data.toList)).toArray⟩ : ByteArray) = trimW s from rfl]
      go_wp2_with fail
      go_loop [5] (fun i => ∃ k : Nat, k ≤ s.size ∧ i = .int .i64 k ∧ Upto s (freeB wo) k) (fun i => s.size - (intOf i).toNat)
      case atStart => exact ⟨0, Nat.zero_le _, rfl, upto_zero _ _⟩
      case round =>
        obtain ⟨k, hk, rfl, hup⟩ := hrel
        have HU := Lib.hid hup
        clear hup
        by_cases hlt : k < s.size
        · by_cases hf : findB wo (s[k]'hlt) < wo.size
          · have hfi : (findB wo (s[k]'hlt) : Int) < wo.size := by omega
            have HF : Hid (freeB wo (s[k]'hlt) = false) := Lib.hid (by unfold freeB; rw [decide_eq_true hf]; rfl)
            go_wp2_with fail
            refine (find_any wo (s[k]'hlt) _ hw0.out).mono ?_
            rintro e w' ⟨rfl, rfl⟩
            go_wp2_with fail
            go_ret
            exact ⟨bool_end (by simp [plainW, all_false_at hlt HF.out]), rfl⟩
          · have hfi : (wo.size : Int) ≤ findB wo (s[k]'hlt) := by omega
            have HF : Hid (freeB wo (s[k]'hlt) = true) := Lib.hid (by unfold freeB; rw [decide_eq_false hf]; rfl)
            go_wp2_with fail
            refine (find_any wo (s[k]'hlt) _ hw0.out).mono ?_
            rintro e w' ⟨rfl, rfl⟩
            go_wp2_with fail
            go_round
            case rel => exact ⟨k + 1, by omega, by go_num, upto_succ HU.out hlt HF.out⟩
            case measure => simp [intOf]; omega
        · go_wp2_with fail
          go_ret
          exact ⟨bool_end (by simp [plainW, G1.out, G2.out, all_of_upto HU.out (by omega)]), rfl⟩
/-- At a text of at most 65536 bytes the model asks what the program asks. -/
theorem trimW_small {s : ByteArray} (h : s.size ≤ 65536) : trimW s = trimB s := by rw [trimB, if_pos h]; rfl
theorem free_one (c b : UInt8) : freeB ⟨#[c]⟩ b = noneB c b := by
  unfold freeB noneB findB
  show (!decide ([c].findIdx (· == b) < 1)) = !(b == c)
  rw [List.findIdx_cons, List.findIdx_nil]
  cases h : (c == b) with
  | true =>
    have e : b = c := (eq_of_beq h).symm
    subst e
    simp
  | false =>
    have e : (b == c) = false := by rw [Bool.beq_comm] at h; simpa using h
    rw [e]
    rfl
theorem free_two (c c2 b : UInt8) : freeB ⟨#[c, c2]⟩ b = (noneB c b && noneB c2 b) := by
  unfold freeB noneB findB
  show (!decide ([c, c2].findIdx (· == b) < 2)) = (!(b == c) && !(b == c2))
  rw [List.findIdx_cons, List.findIdx_cons, List.findIdx_nil]
  cases h : (c == b) with
  | true =>
    have e : b = c := (eq_of_beq h).symm
    subst e
    simp
  | false =>
    have e : (b == c) = false := by
      rw [beq_eq_false_iff_ne] at h ⊢
      exact Ne.symm h
    cases h2 : (c2 == b) with
    | true =>
      have e2 : b = c2 := (eq_of_beq h2).symm
      subst e2
      simp
    | false =>
      have e2 : (b == c2) = false := by
        rw [beq_eq_false_iff_ne] at h2 ⊢
        exact Ne.symm h2
      simp [e, e2]
theorem all_and (s : ByteArray) (f g : UInt8 → Bool) : allB s (fun b => f b && g b) = (allB s f && allB s g) := by
  unfold allB
  induction s.data.toList with
  | nil => rfl
  | cons b l ih =>
    simp only [List.all_cons, ih]
    cases f b <;> cases g b <;> simp
theorem plainW_one {s : ByteArray} (h : s.size ≤ 65536) : plainW s ⟨#[59]⟩ = plainS s := by
  have e : freeB ⟨#[59]⟩ = noneB 59 := funext fun b => free_one 59 b
  unfold plainW plainS controlOK
  rw [trimW_small h, e, decide_eq_true h]
  cases allB s plainB <;> cases allB s (noneB 59) <;> cases ((trimB s).toList == s.toList) <;> rfl
theorem plainW_two {s : ByteArray} (h : s.size ≤ 65536) : plainW s ⟨#[61, 59]⟩ = (plainS s && allB s (noneB 61)) := by
  have e : freeB ⟨#[61, 59]⟩ = fun b => (noneB 61 b && noneB 59 b) := funext fun b => free_two 61 59 b
  unfold plainW plainS controlOK
  rw [trimW_small h, e, all_and, decide_eq_true h]
  cases allB s plainB <;> cases allB s (noneB 59) <;> cases allB s (noneB 61) <;> cases ((trimB s).toList == s.toList) <;> rfl
end Go.Proofs.YtpdonghdnaehhaaGreatDoor

namespace Go.Proofs.YtpdonghdnaehhaaGreatDoor
open Go.ChangeShapes Go.WideShapes Go.ChangeAt Go.WideMaps Go.WideElems Go.RowKit

/-- What a text may begin with: nothing, another byte, a colon. -/
theorem colon_ways (R : ByteArray) : (R.toList.isEmpty = true ∧ R.data.toList = []) ∨ (∃ h0 : 0 < R.size, R.toList.isEmpty = false ∧ (((R[0]'h0).toNat : Int) != 58) = true ∧ ∀ r, R.data.toList ≠ 58 :: r) ∨
    (∃ h0 : 0 < R.size, R.toList.isEmpty = false ∧ (((R[0]'h0).toNat : Int) != 58) = false ∧ R.data.toList = 58 :: (R.extract 1 R.size).data.toList) := by
  cases hR : R.data.toList with
  | nil => exact .inl ⟨by rw [ByteArray.toList_eq, hR]; rfl, rfl⟩
  | cons b l =>
    have h0 : 0 < R.size := by
      have := congrArg List.length hR
      simp at this
      omega
    have hb : R[0]'h0 = b := by
      have : R.data.toList[0]? = some b := by rw [hR]; rfl
      have h2 : R.data.toList[0]? = some (R[0]'h0) := by
        rw [List.getElem?_eq_getElem (by simpa using h0)]
        rfl
      rw [h2] at this
      exact Option.some.inj this
    have he : R.toList.isEmpty = false := by rw [ByteArray.toList_eq, hR]; rfl
    have hx : (R.extract 1 R.size).data.toList = l := by rw [Lib.extract_to_end, hR]; rfl
    by_cases h58 : b = 58
    · subst h58
      exact .inr (.inr ⟨h0, he, by rw [hb]; rfl, by rw [hx]⟩)
    · refine .inr (.inl ⟨h0, he, ?_, fun r h => h58 (by simp at h; exact h.1)⟩)
      rw [hb, bne_iff_ne]
      intro h
      exact h58 (UInt8.toNat_inj.1 (by have e : (58 : UInt8).toNat = 58 := rfl
                                       rw [e]; omega))
/-- The time, its three numbers, and whether there is one. -/
def tmB (s : ByteArray) : Bool := (timeL s.data.toList).isSome
def TimePost (w : World) (s : ByteArray) (e : Ending) (w' : World) : Prop :=
  ∃ a b c : Int, e = .returned (.tuple #[.int .i64 a, .int .i64 b, .int .i64 c, .bool (tmB s)]) ∧ (∀ x, timeL s.data.toList = some x → x = (a, b, c)) ∧ Below w.heap.size w w'
theorem timePost_no {w w' : World} {s : ByteArray} {a b c : Int} (h : timeL s.data.toList = none) (hb : Below w.heap.size w w') : TimePost w s (.returned (.tuple #[.int .i64 a, .int .i64 b, .int .i64 c, .bool false])) w' :=
  ⟨a, b, c, by simp [tmB, h], fun x hx => (by rw [h] at hx; cases hx), hb⟩
theorem timePost_yes {w w' : World} {s : ByteArray} {a b c : Int} (h : timeL s.data.toList = some (a, b, c)) (hb : Below w.heap.size w w') : TimePost w s (.returned (.tuple #[.int .i64 a, .int .i64 b, .int .i64 c, .bool true])) w' :=
  ⟨a, b, c, by simp [tmB, h], fun x hx => (by rw [h] at hx; cases hx; rfl), hb⟩
theorem specLead12 (s : ByteArray) (w : World) : Calls Tryz.prog 319 #[.string s, .int .i64 1, .int .i64 2] w (SLeadPost w 1 2 s) := specLead s 1 2 w (by omega)
theorem specLead24 (s : ByteArray) (w : World) : Calls Tryz.prog 319 #[.string s, .int .i64 2, .int .i64 4] w (SLeadPost w 2 4 s) := specLead s 2 4 w (by omega)
theorem implLead12 (s : ByteArray) (w : World) (hs : s.size ≤ 65536) (hT : TabAt w) : Calls Tryz.prog 312 #[.string s, .int .i64 1, .int .i64 2] w (LeadPost w 1 2 s) := implLead s 1 2 w (by omega) (by omega) hs hT
theorem implLead24 (s : ByteArray) (w : World) (hs : s.size ≤ 65536) (hT : TabAt w) : Calls Tryz.prog 312 #[.string s, .int .i64 2, .int .i64 4] w (LeadPost w 2 4 s) := implLead s 2 4 w (by omega) (by omega) hs hT
set_option maxHeartbeats 1000000 in
set_option maxRecDepth 100000 in
theorem specTime (s : ByteArray) (w : World) : Calls Tryz.prog 318 #[.string s] w (TimePost w s) := by
  cases h1 : leadL 1 2 s.data.toList with
  | none =>
    have HN : Hid (timeL s.data.toList = none) := by show timeL _ = none; unfold timeL; rw [h1]
    have HB := Lib.hid (ld_none h1).2.2
    clear h1
    go_enter Tryz.func318, Tryz.ntmps318
    go_wp2_with fail
    refine (specLead12 s _).mono ?_
    rintro e w1 ⟨n, r, rfl, _, hb⟩
    rw [HB.out]
    have HB1 := Lib.hid hb
    clear hb
    go_wp2_with fail
    refine bodyPost_ret (v := .tuple #[.int .i64 0, .int .i64 0, .int .i64 0, .bool false]) (by simp [results, Tryz.results318, go_sem]) rfl ?_
    exact timePost_no HN.out HB1.out
  | some x =>
    obtain ⟨h, q⟩ := x
    obtain ⟨e1, e2, e3⟩ := ld_some h1
    have HE1 := Lib.hid e1
    have HE2 := Lib.hid e2
    have HE3 := Lib.hid e3
    have HL1 := Lib.hid h1
    obtain ⟨R, hR⟩ : ∃ R : ByteArray, R = ⟨q.toArray⟩ := ⟨_, rfl⟩
    have hRq : R.data.toList = q := by rw [hR]
    have HRQ := Lib.hid hRq
    have HR := Lib.hid hR
    clear e1 e2 e3 h1 hR hRq
    rcases colon_ways R with ⟨c1, c2⟩ | ⟨h0, c1, c2, c3⟩ | ⟨h0, c1, c2, c3⟩
    · have HN : Hid (timeL s.data.toList = none) := by
        show timeL _ = none
        unfold timeL
        rw [HL1.out, ← HRQ.out, c2]
      clear c2
      go_enter Tryz.func318, Tryz.ntmps318
      go_wp2_with fail
      refine (specLead12 s _).mono ?_
      rintro e w1 ⟨n, r, rfl, hv, hb⟩
      obtain ⟨rfl, rfl⟩ := hv HE3.out
      rw [HE3.out, HE2.out, ← HR.out, HE1.out]
      have HB1 := Lib.hid hb
      clear hb hv
      go_wp2_with fail
      refine bodyPost_ret (v := .tuple #[.int .i64 0, .int .i64 0, .int .i64 0, .bool false]) (by simp [results, Tryz.results318, go_sem]) rfl ?_
      exact timePost_no HN.out HB1.out
    · have HN : Hid (timeL s.data.toList = none) := by
        show timeL _ = none
        unfold timeL
        rw [HL1.out, ← HRQ.out]
        split
        · rename_i heq
          simp only [Option.some.injEq, Prod.mk.injEq] at heq
          exact absurd heq.2 (c3 _)
        · rfl
      clear c3
      go_enter Tryz.func318, Tryz.ntmps318
      go_wp2_with fail
      refine (specLead12 s _).mono ?_
      rintro e w1 ⟨n, r, rfl, hv, hb⟩
      obtain ⟨rfl, rfl⟩ := hv HE3.out
      rw [HE3.out, HE2.out, ← HR.out, HE1.out]
      have HB1 := Lib.hid hb
      clear hb hv
      go_wp2_with fail
      refine bodyPost_ret (v := .tuple #[.int .i64 0, .int .i64 0, .int .i64 0, .bool false]) (by simp [results, Tryz.results318, go_sem]) rfl ?_
      exact timePost_no HN.out HB1.out
    · have HT1 : Hid (timeL s.data.toList = (match leadL 1 2 (R.extract 1 R.size).data.toList with
          | some (n, 58 :: q) => (match leadL 1 2 q with | some (s, _) => some (h, n, s) | none => none)
          | _ => none)) := by
        show timeL _ = _
        unfold timeL
        rw [HL1.out, ← HRQ.out, c3]
        rfl
      clear c3
      obtain ⟨S, hS⟩ : ∃ S : ByteArray, R.extract 1 R.size = S := ⟨_, rfl⟩
      rw [hS] at HT1
      have HS := Lib.hid hS
      clear hS
      cases h2 : leadL 1 2 S.data.toList with
      | none =>
        have HN : Hid (timeL s.data.toList = none) := by show timeL _ = none; rw [HT1.out, h2]
        have HB := Lib.hid (ld_none h2).2.2
        clear h2 HT1
        go_enter Tryz.func318, Tryz.ntmps318
        go_wp2_with fail
        refine (specLead12 s _).mono ?_
        rintro e w1 ⟨n, r, rfl, hv, hb⟩
        obtain ⟨rfl, rfl⟩ := hv HE3.out
        rw [HE3.out, HE2.out, ← HR.out, HE1.out]
        have HB1 := Lib.hid hb
        clear hb hv
        go_wp2_with fail
        rw [HS.out]
        refine (specLead12 S _).mono ?_
        rintro e w2 ⟨n, r, rfl, _, hb⟩
        rw [HB.out]
        have HB2 := Lib.hid (HB1.out.trans (hb.mono HB1.out.size))
        clear hb
        go_wp2_with fail
        refine bodyPost_ret (v := .tuple #[.int .i64 0, .int .i64 0, .int .i64 0, .bool false]) (by simp [results, Tryz.results318, go_sem]) rfl ?_
        exact timePost_no HN.out HB2.out
      | some x =>
        obtain ⟨n2, q2⟩ := x
        obtain ⟨e1, e2, e3⟩ := ld_some h2
        have HF1 := Lib.hid e1
        have HF2 := Lib.hid e2
        have HF3 := Lib.hid e3
        have HL2 := Lib.hid h2
        obtain ⟨R2, hR⟩ : ∃ R : ByteArray, R = ⟨q2.toArray⟩ := ⟨_, rfl⟩
        have hRq : R2.data.toList = q2 := by rw [hR]
        have HRQ2 := Lib.hid hRq
        have HR2 := Lib.hid hR
        clear e1 e2 e3 h2 hR hRq
        rcases colon_ways R2 with ⟨d1, d2⟩ | ⟨k0, d1, d2, d3⟩ | ⟨k0, d1, d2, d3⟩
        · have HN : Hid (timeL s.data.toList = none) := by show timeL _ = none; rw [HT1.out, HL2.out, ← HRQ2.out, d2]
          clear d2 HT1
          go_enter Tryz.func318, Tryz.ntmps318
          go_wp2_with fail
          refine (specLead12 s _).mono ?_
          rintro e w1 ⟨n, r, rfl, hv, hb⟩
          obtain ⟨rfl, rfl⟩ := hv HE3.out
          rw [HE3.out, HE2.out, ← HR.out, HE1.out]
          have HB1 := Lib.hid hb
          clear hb hv
          go_wp2_with fail
          rw [HS.out]
          refine (specLead12 S _).mono ?_
          rintro e w2 ⟨n, r, rfl, hv, hb⟩
          obtain ⟨rfl, rfl⟩ := hv HF3.out
          rw [HF3.out, HF2.out, ← HR2.out, HF1.out]
          have HB2 := Lib.hid (HB1.out.trans (hb.mono HB1.out.size))
          clear hb hv
          go_wp2_with fail
          refine bodyPost_ret (v := .tuple #[.int .i64 0, .int .i64 0, .int .i64 0, .bool false]) (by simp [results, Tryz.results318, go_sem]) rfl ?_
          exact timePost_no HN.out HB2.out
        · have HN : Hid (timeL s.data.toList = none) := by
            show timeL _ = none
            rw [HT1.out, HL2.out, ← HRQ2.out]
            split
            · rename_i heq
              simp only [Option.some.injEq, Prod.mk.injEq] at heq
              exact absurd heq.2 (d3 _)
            · rfl
          clear d3 HT1
          go_enter Tryz.func318, Tryz.ntmps318
          go_wp2_with fail
          refine (specLead12 s _).mono ?_
          rintro e w1 ⟨n, r, rfl, hv, hb⟩
          obtain ⟨rfl, rfl⟩ := hv HE3.out
          rw [HE3.out, HE2.out, ← HR.out, HE1.out]
          have HB1 := Lib.hid hb
          clear hb hv
          go_wp2_with fail
          rw [HS.out]
          refine (specLead12 S _).mono ?_
          rintro e w2 ⟨n, r, rfl, hv, hb⟩
          obtain ⟨rfl, rfl⟩ := hv HF3.out
          rw [HF3.out, HF2.out, ← HR2.out, HF1.out]
          have HB2 := Lib.hid (HB1.out.trans (hb.mono HB1.out.size))
          clear hb hv
          go_wp2_with fail
          refine bodyPost_ret (v := .tuple #[.int .i64 0, .int .i64 0, .int .i64 0, .bool false]) (by simp [results, Tryz.results318, go_sem]) rfl ?_
          exact timePost_no HN.out HB2.out
        · obtain ⟨S2, hS⟩ : ∃ S : ByteArray, R2.extract 1 R2.size = S := ⟨_, rfl⟩
          have HT2 : Hid (timeL s.data.toList = (match leadL 1 2 S2.data.toList with | some (s, _) => some (h, n2, s) | none => none)) := by
            show timeL _ = _
            rw [HT1.out, HL2.out, ← HRQ2.out, d3, hS]
            rfl
          have HS2 := Lib.hid hS
          clear hS d3 HT1
          go_enter Tryz.func318, Tryz.ntmps318
          go_wp2_with fail
          refine (specLead12 s _).mono ?_
          rintro e w1 ⟨n, r, rfl, hv, hb⟩
          obtain ⟨rfl, rfl⟩ := hv HE3.out
          rw [HE3.out, HE2.out, ← HR.out, HE1.out]
          have HB1 := Lib.hid hb
          clear hb hv
          go_wp2_with fail
          rw [HS.out]
          refine (specLead12 S _).mono ?_
          rintro e w2 ⟨n, r, rfl, hv, hb⟩
          obtain ⟨rfl, rfl⟩ := hv HF3.out
          rw [HF3.out, HF2.out, ← HR2.out, HF1.out]
          have HB2 := Lib.hid (HB1.out.trans (hb.mono HB1.out.size))
          clear hb hv
          go_wp2_with fail
          rw [HS2.out]
          refine (specLead12 S2 _).mono ?_
          rintro e w3 ⟨n, r, rfl, hv, hb⟩
          have HV := Lib.hid hv
          have HB3 := Lib.hid (HB2.out.trans (hb.mono HB2.out.size))
          clear hb hv
          go_wp2_with fail
          refine bodyPost_ret (v := .tuple #[.int .i64 h, .int .i64 n2, .int .i64 n, .bool (ldB 1 2 S2)]) (by simp [results, Tryz.results318, go_sem]) rfl ?_
          cases h3 : leadL 1 2 S2.data.toList with
          | none =>
            rw [(ld_none h3).2.2]
            exact timePost_no (by rw [HT2.out, h3]) HB3.out
          | some x =>
            obtain ⟨s3, q3⟩ := x
            obtain ⟨e1, e2, e3⟩ := ld_some h3
            rw [e3, (HV.out e3).1, e1]
            exact timePost_yes (by rw [HT2.out, h3]) HB3.out
theorem cut3_vals (s : ByteArray) : Lib.splitB ⟨#[58]⟩ 0 (min 3 (s.size + 1) - 1) s = (cutN 2 s.data.toList).map fun l => ⟨l.toArray⟩ := by
  have h : (Lib.splitB ⟨#[58]⟩ 0 (min 3 (s.size + 1) - 1) s).map (·.data.toList) = cutN 2 s.data.toList := by
    rw [Lib.splitB_data, show min 3 (s.size + 1) - 1 = min 2 s.data.toList.length by simp; omega]
    exact cutN_min 2 _
  rw [← h, List.map_map]
  conv => lhs; rw [← List.map_id (Lib.splitB ⟨#[58]⟩ 0 (min 3 (s.size + 1) - 1) s)]
  refine List.map_congr_left fun x _ => ?_
  simp
/-- The library's variable holds some number. -/
def MaxIs (w : World) : Prop := ∃ m : Int, w.cell? ⟨5, 0, none⟩ = some (.int .i64 m)
theorem MaxIs.below {w w' : World} (h : MaxIs w) (hb : Below w.heap.size w w') : MaxIs w' := by
  obtain ⟨m, h⟩ := h
  exact ⟨m, cell_kept hb h⟩
theorem splitN_any (s : ByteArray) (w : World) (hs : s.size ≤ 65536) (hm : MaxIs w) : Calls Tryz.prog 344 #[.string s, .string ⟨#[58]⟩, .int .i64 3] w (fun e w' => ∃ v, e = .returned v ∧ TextsIn w' w.heap.size v (cutN 2 s.data.toList) ∧ Below w.heap.size w w') := by
  obtain ⟨m, hm⟩ := hm
  refine (Tryz.strings_SplitN s ⟨#[58]⟩ 3 m w (by omega) hm (Nat.le_refl 1) (by omega) (by omega)).mono ?_
  rintro e w' ⟨rfl, rfl⟩
  rw [cut3_vals, List.length_map]
  have hl := cutN_len 2 s.data.toList
  have hp := cutN_pos 2 s.data.toList
  have hmin : (cutN 2 s.data.toList).length ≤ min 3 (s.size + 1) := by
    have h := cutN_len (min 2 s.data.toList.length) s.data.toList
    rw [cutN_min] at h
    simp at h
    omega
  refine ⟨_, rfl, ⟨w.heap.size, _, rfl, Nat.le_refl _, by simp, hmin, by unfold maxLen; omega, fun j _ => ?_, fun j hj => ?_⟩, (Below.refl _ _).alloc (Nat.le_refl _) _⟩
  · exact frozen_none (heap_alloc_new w _) j
  · rw [World.cell?_alloc_at _ _ _ _ rfl]
    unfold Lib.cellsOf
    rw [List.getElem?_toArray, List.getElem?_append_left (by simpa using hj)]
    simp [strV, hj]
/-- The block B holds three numbers. -/
def Tri (w : World) (B : Nat) (a b c : Int) : Prop := w.heap[B]? = some (.cells #[.int .i64 a, .int .i64 b, .int .i64 c] 251 (0, 0))
theorem Tri.at {w : World} {B : Nat} {a b c : Int} (h : Tri w B a b c) : w.cell? ⟨B, 0, none⟩ = some (.int .i64 a) ∧ w.cell? ⟨B, 1, none⟩ = some (.int .i64 b) ∧ w.cell? ⟨B, 2, none⟩ = some (.int .i64 c) := by
  unfold Tri at h
  refine ⟨?_, ?_, ?_⟩ <;> simp [World.cell?, h]
theorem Tri.free {w : World} {B : Nat} {a b c : Int} (h : Tri w B a b c) (i : Nat) : w.frozen? ⟨B, i, none⟩ = false := by
  unfold Tri at h
  simp [World.frozen?, h]
theorem Tri.lt {w : World} {B : Nat} {a b c : Int} (h : Tri w B a b c) : B < w.heap.size := (Array.getElem?_eq_some_iff.1 h).1
theorem heap_put {w : World} {b : Nat} {cs : Array Value} {t : TypeId} {fr : Nat × Nat} (h : w.heap[b]? = some (.cells cs t fr)) (i : Nat) (v : Value) : (w.setCell ⟨b, i, none⟩ v).heap[b]? = some (.cells (cs.setIfInBounds i v) t fr) := by
  simp only [World.setCell, Array.getElem?_modify, if_true, h]
  rfl
theorem Tri.one {w : World} {B : Nat} {a b c : Int} (h : Tri w B a b c) (x : Int) : Tri (w.setCell ⟨B, 0, none⟩ (.int .i64 x)) B x b c := heap_put h 0 _
theorem Tri.two {w : World} {B : Nat} {a b c : Int} (h : Tri w B a b c) (x : Int) : Tri (w.setCell ⟨B, 1, none⟩ (.int .i64 x)) B a x c := heap_put h 1 _
theorem Tri.three {w : World} {B : Nat} {a b c : Int} (h : Tri w B a b c) (x : Int) : Tri (w.setCell ⟨B, 2, none⟩ (.int .i64 x)) B a b x := heap_put h 2 _
theorem Tri.other {w : World} {B B' i : Nat} {a b c : Int} {v : Value} (h : Tri w B a b c) (hne : B' ≠ B) : Tri (w.setCell ⟨B', i, none⟩ v) B a b c := by
  unfold Tri at *
  rw [Below.heap_setCell _ _ _ _ (Ne.symm hne)]
  exact h
theorem Tri.put {w : World} {B : Nat} {a b c : Int} (h : Tri w B a b c) (x y z : Int) : Tri (((w.setCell ⟨B, 0, none⟩ (.int .i64 x)).setCell ⟨B, 1, none⟩ (.int .i64 y)).setCell ⟨B, 2, none⟩ (.int .i64 z)) B x y z := ((h.one x).two y).three z
theorem Tri.putBelow {w wr : World} {B C : Nat} (hb : Below C w wr) (hB : C ≤ B) (x y z : Int) : Below C w (((wr.setCell ⟨B, 0, none⟩ (.int .i64 x)).setCell ⟨B, 1, none⟩ (.int .i64 y)).setCell ⟨B, 2, none⟩ (.int .i64 z)) :=
  ((hb.setCell hB _).setCell hB _).setCell hB _
theorem Tri.new (w : World) (a b c : Int) : Tri (w.alloc (.cells #[.int .i64 a, .int .i64 b, .int .i64 c] 251)) w.heap.size a b c := heap_alloc_new w _
theorem Tri.alloc {w : World} {B : Nat} {a b c : Int} (h : Tri w B a b c) (o : Obj) : Tri (w.alloc o) B a b c := (Below.heap_alloc _ _ _ h.lt).trans h
theorem Tri.below {w w' : World} {B : Nat} {a b c : Int} (h : Tri w B a b c) (hb : Below w.heap.size w w') : Tri w' B a b c := (hb.block B h.lt).trans h
def tmV (s : ByteArray) : Int × Int × Int := match timeL s.data.toList with | some x => x | none => (0, 0, 0)
def ITimePost (w : World) (s : ByteArray) (e : Ending) (w' : World) : Prop :=
  e = .returned (.tuple #[.agg #[.int .i64 (tmV s).1, .int .i64 (tmV s).2.1, .int .i64 (tmV s).2.2], .bool (tmB s)]) ∧ Below w.heap.size w w'
theorem itime_no {w w' : World} {s : ByteArray} (h : timeL s.data.toList = none) (hb : Below w.heap.size w w') : ITimePost w s (.returned (.tuple #[.agg #[.int .i64 0, .int .i64 0, .int .i64 0], .bool false])) w' := by
  refine ⟨?_, hb⟩
  simp [tmV, tmB, h]
theorem itime_yes {w w' : World} {s : ByteArray} {a b c : Int} (h : timeL s.data.toList = some (a, b, c)) (hb : Below w.heap.size w w') : ITimePost w s (.returned (.tuple #[.agg #[.int .i64 a, .int .i64 b, .int .i64 c], .bool true])) w' := by
  refine ⟨?_, hb⟩
  simp [tmV, tmB, h]
def TimeRel (w : World) (g : Nat) (a b c : List UInt8) (v : Value) (wr : World) : Prop :=
  ∃ k : Nat, k ≤ 3 ∧ v = .int .i64 k ∧ Below w.heap.size w wr ∧ Tri wr w.heap.size 0 0 0 ∧ wr.cell? ⟨g, 0, none⟩ = some (.string ⟨a.toArray⟩) ∧ wr.cell? ⟨g, 1, none⟩ = some (.string ⟨b.toArray⟩) ∧ wr.cell? ⟨g, 2, none⟩ = some (.string ⟨c.toArray⟩) ∧
    ∃ x y z : Int, Tri wr (w.heap.size + 1) x y z ∧ (1 ≤ k → fullL a = some x) ∧ (2 ≤ k → fullL b = some y) ∧ (3 ≤ k → ∃ r, leadL 1 2 c = some (z, r))
set_option maxHeartbeats 4000000 in
set_option maxRecDepth 100000 in
theorem implTime (s : ByteArray) (w : World) (hs : s.size ≤ 65536) (hT : TabAt w) (hM : MaxIs w) : Calls Tryz.prog 311 #[.string s] w (ITimePost w s) := by
  have hT2 := hT
  have HT := Lib.hid hT2
  have HM := Lib.hid hM
  clear hT hM hT2
  go_enter Tryz.func311, Tryz.ntmps311
  go_wp2_with fail
  have hb0 := ((Below.refl w.heap.size w).alloc (Nat.le_refl _) (.cells #[.int .i64 0, .int .i64 0, .int .i64 0] 251)).alloc (by simp) (.cells #[.int .i64 0, .int .i64 0, .int .i64 0] 251)
  refine (splitN_any s _ hs (HM.out.below hb0)).mono ?_
  rintro e w1 ⟨v, rfl, ht, hb⟩
  have hB1 : Below w.heap.size w w1 := hb0.trans (hb.mono (by simp; omega))
  have hr : Tri w1 w.heap.size 0 0 0 := ((Tri.new w 0 0 0).alloc _).below hb
  have hc : Tri w1 (w.heap.size + 1) 0 0 0 := by
    have := (Tri.new (w.alloc (.cells #[.int .i64 0, .int .i64 0, .int .i64 0] 251)) 0 0 0).below hb
    simpa using this
  obtain ⟨g, cap, rfl, t1, t2, t3, t4, t5, t6⟩ := ht
  have HB1 := Lib.hid hB1
  have HR := Lib.hid hr
  have HC := Lib.hid hc
  have HG := Lib.hid t6
  have hg1 : w.heap.size + 2 ≤ g := by simpa using t1
  clear hb0 hb hB1 t1 t3 t4 t5 t6 hc
  by_cases hlen : (cutN 2 s.data.toList).length < 3
  · have hN : timeL s.data.toList = none := by
      rw [time_cut]
      unfold timeF
      split
      · rename_i heq
        rw [heq] at hlen
        simp at hlen
      · rfl
    have HN := Lib.hid hN
    have f0 := hr.free 0
    have f1 := hr.free 1
    have f2 := hr.free 2
    obtain ⟨r0, r1, r2⟩ := hr.at
    clear hr hN
    go_wp2_with fail
    obtain ⟨q0, q1, q2⟩ := (HR.out.put 0 0 0).at
    refine bodyPost_ret (v := .tuple #[.agg #[.int .i64 0, .int .i64 0, .int .i64 0], .bool false]) (by simp [results, Tryz.results311, go_sem, q0, q1, q2]) rfl ?_
    exact itime_no HN.out (Tri.putBelow HB1.out (Nat.le_refl _) _ _ _)
  · obtain ⟨a, b, c, hps⟩ : ∃ a b c, cutN 2 s.data.toList = [a, b, c] := by
      have hl := cutN_len 2 s.data.toList
      match hh : cutN 2 s.data.toList with
      | [] => rw [hh] at hlen; simp at hlen
      | [_] => rw [hh] at hlen; simp at hlen
      | [_, _] => rw [hh] at hlen; simp at hlen
      | [a, b, c] => exact ⟨a, b, c, rfl⟩
      | _ :: _ :: _ :: _ :: _ => rw [hh] at hl; simp at hl
    have hsz := cutN_size 2 s.data.toList
    have g0 : w1.cell? ⟨g, 0, none⟩ = some (.string ⟨a.toArray⟩) := by
      have := HG.out 0 (by rw [hps]; simp)
      simpa [hps, strV] using this
    have g1 : w1.cell? ⟨g, 1, none⟩ = some (.string ⟨b.toArray⟩) := by
      have := HG.out 1 (by rw [hps]; simp)
      simpa [hps, strV] using this
    have g2 : w1.cell? ⟨g, 2, none⟩ = some (.string ⟨c.toArray⟩) := by
      have := HG.out 2 (by rw [hps]; simp)
      simpa [hps, strV] using this
    rw [hps] at hsz
    have ha : (⟨a.toArray⟩ : ByteArray).size ≤ 65536 := by
      have := hsz a (by simp)
      simp at this
      show a.toArray.size ≤ _
      simp
      omega
    have hb : (⟨b.toArray⟩ : ByteArray).size ≤ 65536 := by
      have := hsz b (by simp)
      simp at this
      show b.toArray.size ≤ _
      simp
      omega
    have hc : (⟨c.toArray⟩ : ByteArray).size ≤ 65536 := by
      have := hsz c (by simp)
      simp at this
      show c.toArray.size ≤ _
      simp
      omega
    have hTm : timeL s.data.toList = time3 a b c := by rw [time_cut, hps]; rfl
    have HTM := Lib.hid hTm
    rw [hps]
    clear hsz hTm HG hlen hps hr
    go_wp2_with fail
    go_loopw [20] (fun v wr => TimeRel w g a b c v wr) (fun v _ => 3 - (intOf v).toNat)
    case atStart => exact ⟨0, by omega, rfl, HB1.out, HR.out, g0, g1, g2, 0, 0, 0, HC.out, fun h => by omega, fun h => by omega, fun h => by omega⟩
    case round =>
      clear g0 g1 g2 HB1 HR HC
      obtain ⟨k, hk, rfl, hbw, hr, g0, g1, g2, x, y, z, hc1, hx, hy, hz⟩ := hrel
      have HB := Lib.hid hbw
      have HR := Lib.hid hr
      have HC := Lib.hid hc1
      have HX := Lib.hid hx
      have HY := Lib.hid hy
      have HZ := Lib.hid hz
      have HG0 := Lib.hid g0
      have HG1 := Lib.hid g1
      have HG2 := Lib.hid g2
      have hTw := HT.out.below hbw
      have HTW := Lib.hid hTw
      clear hbw hr hc1 hx hy hz g0 g1 g2 hTw
      rcases (show k = 0 ∨ k = 1 ∨ k = 2 ∨ k = 3 by omega) with rfl | rfl | rfl | rfl
      · have gk := HG0.out
        obtain ⟨U, hU⟩ : ∃ U : ByteArray, U = ⟨a.toArray⟩ := ⟨_, rfl⟩
        have hUl : U.data.toList = a := by rw [hU]
        rw [← hU] at gk ha
        cases hL : leadL 1 2 U.data.toList with
        | none =>
          have HN : Hid (timeL s.data.toList = none) := by
            show timeL _ = none
            rw [hUl] at hL
            rw [HTM.out]
            simp [time3, fullL, hL]
          have HLB := Lib.hid (ld_none hL).2.2
          clear hL hU hUl
          go_wp2_with fail
          refine (implLead12 U _ ha HTW.out).mono ?_
          rintro e w2 ⟨rfl, hb⟩
          rw [HLB.out]
          have hr2 := HR.out.below hb
          have HR2 := Lib.hid hr2
          have HB2 := Lib.hid (HB.out.trans (hb.mono HB.out.size))
          have f0 := hr2.free 0
          have f1 := hr2.free 1
          have f2 := hr2.free 2
          obtain ⟨r0, r1, r2⟩ := hr2.at
          clear hb hr2
          go_wp2_with fail
          obtain ⟨q0, q1, q2⟩ := (HR2.out.put 0 0 0).at
          refine bodyPost_ret (v := .tuple #[.agg #[.int .i64 0, .int .i64 0, .int .i64 0], .bool false]) (by simp [results, Tryz.results311, go_sem, q0, q1, q2]) rfl ?_
          exact itime_no HN.out (Tri.putBelow HB2.out (Nat.le_refl _) _ _ _)
        | some X =>
          obtain ⟨n, q⟩ := X
          obtain ⟨e1, e2, e3⟩ := ld_some hL
          have HE1 := Lib.hid e1
          have HE2 := Lib.hid e2
          have HE3 := Lib.hid e3
          clear e1 e2 e3
          cases q with
          | nil =>
            have HF : Hid (fullL a = some n) := by show fullL _ = _; rw [← hUl, fullL, hL]
            clear hL hU hUl
            go_wp2_with fail
            refine (implLead12 U _ ha HTW.out).mono ?_
            rintro e w2 ⟨rfl, hb⟩
            rw [HE3.out, HE2.out, HE1.out]
            have hc2 := HC.out.below hb
            have HC2 := Lib.hid hc2
            have HR2 := Lib.hid (HR.out.below hb)
            have HB2 := Lib.hid (HB.out.trans (hb.mono HB.out.size))
            have HH0 := Lib.hid (cell_kept hb HG0.out)
            have HH1 := Lib.hid (cell_kept hb HG1.out)
            have HH2 := Lib.hid (cell_kept hb HG2.out)
            have fk := hc2.free 0
            have ck := hc2.at.1
            clear hb hc2 gk
            go_wp2_with fail
            go_roundw
            case rel =>
              refine ⟨1, by omega, rfl, HB2.out.setCell (by show w.heap.size ≤ w.heap.size + 1; omega) _, HR2.out.other (by omega), ?_, ?_, ?_, n, y, z, HC2.out.one n, fun _ => HF.out, fun h => by omega, fun h => by omega⟩
              · rw [World.cell?_setCell_far _ _ _ _ (by simp; omega)]; exact HH0.out
              · rw [World.cell?_setCell_far _ _ _ _ (by simp; omega)]; exact HH1.out
              · rw [World.cell?_setCell_far _ _ _ _ (by simp; omega)]; exact HH2.out
            case measure => simp [intOf]
          | cons d q =>
            have HN : Hid (timeL s.data.toList = none) := by
              show timeL _ = none
              rw [hUl] at hL
              rw [HTM.out]
              simp [time3, fullL, hL]
            obtain ⟨R, hR⟩ : ∃ R : ByteArray, R = ⟨(d :: q).toArray⟩ := ⟨_, rfl⟩
            have he1 : R.toList.isEmpty = false := by rw [hR, ByteArray.toList_eq]; rfl
            have HRR := Lib.hid hR
            clear hL hU hUl hR
            go_wp2_with fail
            refine (implLead12 U _ ha HTW.out).mono ?_
            rintro e w2 ⟨rfl, hb⟩
            rw [HE3.out, HE2.out, HE1.out, ← HRR.out]
            have hr2 := HR.out.below hb
            have HR2 := Lib.hid hr2
            have HB2 := Lib.hid (HB.out.trans (hb.mono HB.out.size))
            have f0 := hr2.free 0
            have f1 := hr2.free 1
            have f2 := hr2.free 2
            obtain ⟨r0, r1, r2⟩ := hr2.at
            clear hb hr2
            go_wp2_with fail
            obtain ⟨q0, q1, q2⟩ := (HR2.out.put 0 0 0).at
            refine bodyPost_ret (v := .tuple #[.agg #[.int .i64 0, .int .i64 0, .int .i64 0], .bool false]) (by simp [results, Tryz.results311, go_sem, q0, q1, q2]) rfl ?_
            exact itime_no HN.out (Tri.putBelow HB2.out (Nat.le_refl _) _ _ _)
      · have gk := HG1.out
        obtain ⟨U, hU⟩ : ∃ U : ByteArray, U = ⟨b.toArray⟩ := ⟨_, rfl⟩
        have hUl : U.data.toList = b := by rw [hU]
        rw [← hU] at gk hb
        cases hL : leadL 1 2 U.data.toList with
        | none =>
          have HN : Hid (timeL s.data.toList = none) := by
            show timeL _ = none
            rw [hUl] at hL
            rw [HTM.out]
            unfold time3
            rw [HX.out (by omega)]
            simp [fullL, hL]
          have HLB := Lib.hid (ld_none hL).2.2
          clear hL hU hUl
          go_wp2_with fail
          refine (implLead12 U _ hb HTW.out).mono ?_
          rintro e w2 ⟨rfl, hb⟩
          rw [HLB.out]
          have hr2 := HR.out.below hb
          have HR2 := Lib.hid hr2
          have HB2 := Lib.hid (HB.out.trans (hb.mono HB.out.size))
          have f0 := hr2.free 0
          have f1 := hr2.free 1
          have f2 := hr2.free 2
          obtain ⟨r0, r1, r2⟩ := hr2.at
          clear hb hr2
          go_wp2_with fail
          obtain ⟨q0, q1, q2⟩ := (HR2.out.put 0 0 0).at
          refine bodyPost_ret (v := .tuple #[.agg #[.int .i64 0, .int .i64 0, .int .i64 0], .bool false]) (by simp [results, Tryz.results311, go_sem, q0, q1, q2]) rfl ?_
          exact itime_no HN.out (Tri.putBelow HB2.out (Nat.le_refl _) _ _ _)
        | some X =>
          obtain ⟨n, q⟩ := X
          obtain ⟨e1, e2, e3⟩ := ld_some hL
          have HE1 := Lib.hid e1
          have HE2 := Lib.hid e2
          have HE3 := Lib.hid e3
          clear e1 e2 e3
          cases q with
          | nil =>
            have HF : Hid (fullL b = some n) := by show fullL _ = _; rw [← hUl, fullL, hL]
            clear hL hU hUl
            go_wp2_with fail
            refine (implLead12 U _ hb HTW.out).mono ?_
            rintro e w2 ⟨rfl, hb⟩
            rw [HE3.out, HE2.out, HE1.out]
            have hc2 := HC.out.below hb
            have HC2 := Lib.hid hc2
            have HR2 := Lib.hid (HR.out.below hb)
            have HB2 := Lib.hid (HB.out.trans (hb.mono HB.out.size))
            have HH0 := Lib.hid (cell_kept hb HG0.out)
            have HH1 := Lib.hid (cell_kept hb HG1.out)
            have HH2 := Lib.hid (cell_kept hb HG2.out)
            have fk := hc2.free 1
            have ck := hc2.at.2.1
            clear hb hc2 gk
            go_wp2_with fail
            go_roundw
            case rel =>
              refine ⟨2, by omega, rfl, HB2.out.setCell (by show w.heap.size ≤ w.heap.size + 1; omega) _, HR2.out.other (by omega), ?_, ?_, ?_, x, n, z, HC2.out.two n, fun _ => HX.out (by omega), fun _ => HF.out, fun h => by omega⟩
              · rw [World.cell?_setCell_far _ _ _ _ (by simp; omega)]; exact HH0.out
              · rw [World.cell?_setCell_far _ _ _ _ (by simp; omega)]; exact HH1.out
              · rw [World.cell?_setCell_far _ _ _ _ (by simp; omega)]; exact HH2.out
            case measure => simp [intOf]
          | cons d q =>
            have HN : Hid (timeL s.data.toList = none) := by
              show timeL _ = none
              rw [hUl] at hL
              rw [HTM.out]
              unfold time3
              rw [HX.out (by omega)]
              simp [fullL, hL]
            obtain ⟨R, hR⟩ : ∃ R : ByteArray, R = ⟨(d :: q).toArray⟩ := ⟨_, rfl⟩
            have he1 : R.toList.isEmpty = false := by rw [hR, ByteArray.toList_eq]; rfl
            have HRR := Lib.hid hR
            clear hL hU hUl hR
            go_wp2_with fail
            refine (implLead12 U _ hb HTW.out).mono ?_
            rintro e w2 ⟨rfl, hb⟩
            rw [HE3.out, HE2.out, HE1.out, ← HRR.out]
            have hr2 := HR.out.below hb
            have HR2 := Lib.hid hr2
            have HB2 := Lib.hid (HB.out.trans (hb.mono HB.out.size))
            have f0 := hr2.free 0
            have f1 := hr2.free 1
            have f2 := hr2.free 2
            obtain ⟨r0, r1, r2⟩ := hr2.at
            clear hb hr2
            go_wp2_with fail
            obtain ⟨q0, q1, q2⟩ := (HR2.out.put 0 0 0).at
            refine bodyPost_ret (v := .tuple #[.agg #[.int .i64 0, .int .i64 0, .int .i64 0], .bool false]) (by simp [results, Tryz.results311, go_sem, q0, q1, q2]) rfl ?_
            exact itime_no HN.out (Tri.putBelow HB2.out (Nat.le_refl _) _ _ _)
      · have gk := HG2.out
        obtain ⟨U, hU⟩ : ∃ U : ByteArray, U = ⟨c.toArray⟩ := ⟨_, rfl⟩
        have hUl : U.data.toList = c := by rw [hU]
        rw [← hU] at gk hc
        cases hL : leadL 1 2 U.data.toList with
        | none =>
          have HN : Hid (timeL s.data.toList = none) := by
            show timeL _ = none
            rw [hUl] at hL
            rw [HTM.out]
            simp [time3, HX.out (by omega), HY.out (by omega), hL]
          have HLB := Lib.hid (ld_none hL).2.2
          clear hL hU hUl
          go_wp2_with fail
          refine (implLead12 U _ hc HTW.out).mono ?_
          rintro e w2 ⟨rfl, hb⟩
          rw [HLB.out]
          have hr2 := HR.out.below hb
          have HR2 := Lib.hid hr2
          have HB2 := Lib.hid (HB.out.trans (hb.mono HB.out.size))
          have f0 := hr2.free 0
          have f1 := hr2.free 1
          have f2 := hr2.free 2
          obtain ⟨r0, r1, r2⟩ := hr2.at
          clear hb hr2
          go_wp2_with fail
          obtain ⟨q0, q1, q2⟩ := (HR2.out.put 0 0 0).at
          refine bodyPost_ret (v := .tuple #[.agg #[.int .i64 0, .int .i64 0, .int .i64 0], .bool false]) (by simp [results, Tryz.results311, go_sem, q0, q1, q2]) rfl ?_
          exact itime_no HN.out (Tri.putBelow HB2.out (Nat.le_refl _) _ _ _)
        | some X =>
          obtain ⟨n, q⟩ := X
          obtain ⟨e1, e2, e3⟩ := ld_some hL
          have HE1 := Lib.hid e1
          have HE2 := Lib.hid e2
          have HE3 := Lib.hid e3
          clear e1 e2 e3
          have HF : Hid (∃ r, leadL 1 2 c = some (n, r)) := Lib.hid ⟨q, by rw [← hUl]; exact hL⟩
          clear hL hU hUl
          go_wp2_with fail
          refine (implLead12 U _ hc HTW.out).mono ?_
          rintro e w2 ⟨rfl, hb⟩
          rw [HE3.out, HE2.out, HE1.out]
          have hc2 := HC.out.below hb
          have HC2 := Lib.hid hc2
          have HR2 := Lib.hid (HR.out.below hb)
          have HB2 := Lib.hid (HB.out.trans (hb.mono HB.out.size))
          have HH0 := Lib.hid (cell_kept hb HG0.out)
          have HH1 := Lib.hid (cell_kept hb HG1.out)
          have HH2 := Lib.hid (cell_kept hb HG2.out)
          have fk := hc2.free 2
          have ck := hc2.at.2.2
          clear hb hc2 gk
          go_wp2_with fail
          all_goals
            go_roundw
            case rel =>
              refine ⟨3, by omega, rfl, HB2.out.setCell (by show w.heap.size ≤ w.heap.size + 1; omega) _, HR2.out.other (by omega), ?_, ?_, ?_, x, y, n, HC2.out.three n, fun _ => HX.out (by omega), fun _ => HY.out (by omega), fun _ => HF.out⟩
              · rw [World.cell?_setCell_far _ _ _ _ (by simp; omega)]; exact HH0.out
              · rw [World.cell?_setCell_far _ _ _ _ (by simp; omega)]; exact HH1.out
              · rw [World.cell?_setCell_far _ _ _ _ (by simp; omega)]; exact HH2.out
            case measure => simp [intOf]
      · have HT3 : Hid (timeL s.data.toList = some (x, y, z)) := by
          show timeL _ = _
          obtain ⟨r, hr⟩ := HZ.out (by omega)
          rw [HTM.out]
          simp [time3, HX.out (by omega), HY.out (by omega), hr]
        have hr2 := HR.out
        have hc2 := HC.out
        have f0 := hr2.free 0
        have f1 := hr2.free 1
        have f2 := hr2.free 2
        obtain ⟨r0, r1, r2⟩ := hr2.at
        obtain ⟨s0, s1, s2⟩ := hc2.at
        clear hr2 hc2
        go_wp2_with fail
        obtain ⟨q0, q1, q2⟩ := (HR.out.put x y z).at
        refine bodyPost_ret (v := .tuple #[.agg #[.int .i64 x, .int .i64 y, .int .i64 z], .bool true]) (by simp [results, Tryz.results311, go_sem, q0, q1, q2]) rfl ?_
        exact itime_yes HT3.out (Tri.putBelow HB.out (Nat.le_refl _) _ _ _)
end Go.Proofs.YtpdonghdnaehhaaGreatDoor
