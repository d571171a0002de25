/- What a rule's text says, in the program and in the model; RuleOK. No condition of its own. -/
import Derived.Test.YtcaabnnkjnleeaaDoorHostSpec
import Derived.Test.YtcaabnnkjnleeaaDoorSufMath
import Derived.Test.YtcaabnnkjnleeaaDoorShelf
import Derived.Test.YtcaabnnkjnleeaaDoorShelf2
import Derived.Stop.LaidErr
namespace Go.Proofs.YtcaabnnkjnleeaaDoor
open Go.ChangeShapes Go.WideShapes Go.ChangeAt Go.WideMaps Go.WideElems Go.RowKit

def bareB (t : ByteArray) : ByteArray := tOf (bareL t.data.toList)
def wildB (t : ByteArray) : Bool := wildL t.data.toList
def excB (t : ByteArray) : Bool := excL t.data.toList
def ruleB (t : ByteArray) : Bool := ruleL t.data.toList
theorem rule_bare (t : ByteArray) : hostB (bareB t) = ruleB t := rfl
theorem bare_size (t : ByteArray) : (bareB t).size ≤ t.size := by
  have := bare_le t.data.toList
  rw [bareB, tOf_size]
  simpa using this
theorem starCut (t : ByteArray) (w : World) : Calls Tryd.prog 125 #[.string t, .string ⟨#[42, 46]⟩] w fun e w' => e = .returned (.tuple #[.string (if wildB t then tOf (t.data.toList.drop 2) else t), .bool (wildB t)]) ∧ w = w' := by
  refine (Tryd.strings_CutPrefix t ⟨#[42, 46]⟩ w).mono ?_
  rintro e w' ⟨rfl, rfl⟩
  refine ⟨?_, rfl⟩
  show Ending.returned (.tuple #[.string ⟨(Lib.trimPrefix t.data.toList [42, 46]).toArray⟩, .bool (Lib.hasPrefix t.data.toList [42, 46])]) = _
  have hp : Lib.hasPrefix t.data.toList [42, 46] = wildB t := rfl
  rw [hp, Lib.trimPrefix, hp]
  cases wildB t with
  | false => simp
  | true => rfl
theorem bangCut (t : ByteArray) (w : World) : Calls Tryd.prog 125 #[.string t, .string ⟨#[33]⟩] w fun e w' => e = .returned (.tuple #[.string (if excB t then tOf (t.data.toList.drop 1) else t), .bool (excB t)]) ∧ w = w' := by
  refine (Tryd.strings_CutPrefix t ⟨#[33]⟩ w).mono ?_
  rintro e w' ⟨rfl, rfl⟩
  refine ⟨?_, rfl⟩
  show Ending.returned (.tuple #[.string ⟨(Lib.trimPrefix t.data.toList [33]).toArray⟩, .bool (Lib.hasPrefix t.data.toList [33])]) = _
  have hp : Lib.hasPrefix t.data.toList [33] = excB t := rfl
  rw [hp, Lib.trimPrefix, hp]
  cases excB t with
  | false => simp
  | true => rfl
theorem bare_not_wild {t : ByteArray} (h : wildB t = false) : (if excB t then tOf (t.data.toList.drop 1) else t) = bareB t := by
  unfold bareB bareL
  rw [show wildL t.data.toList = false from h]
  simp only [Bool.false_eq_true, if_false]
  unfold excB
  split
  · rfl
  · exact (tOf_of t).symm
/-- A rule's block of memory. -/
def RlB (w : World) (B : Nat) (h : ByteArray) (a b : Bool) : Prop := w.heap[B]? = some (.cells #[.string h, .bool a, .bool b] 116 (0, 0))
theorem RlB.at {w : World} {B : Nat} {h : ByteArray} {a b : Bool} (hb : RlB w B h a b) : w.cell? ⟨B, 0, none⟩ = some (.string h) ∧ w.cell? ⟨B, 1, none⟩ = some (.bool a) ∧ w.cell? ⟨B, 2, none⟩ = some (.bool b) := by
  refine ⟨?_, ?_, ?_⟩ <;> simp [World.cell?, show w.heap[B]? = _ from hb]
theorem RlB.free {w : World} {B : Nat} {h : ByteArray} {a b : Bool} (hb : RlB w B h a b) (i : Nat) : w.frozen? ⟨B, i, none⟩ = false := by
  simp [World.frozen?, show w.heap[B]? = _ from hb]
theorem RlB.lt {w : World} {B : Nat} {h : ByteArray} {a b : Bool} (hb : RlB w B h a b) : B < w.heap.size := (Array.getElem?_eq_some_iff.1 hb).1
theorem RlB.new (w : World) (h : ByteArray) (a b : Bool) : RlB (w.alloc (.cells #[.string h, .bool a, .bool b] 116)) w.heap.size h a b := heap_alloc_new w _
theorem RlB.stays {w w' : World} {B : Nat} {h : ByteArray} {a b : Bool} (hp : RlB w B h a b) (hb : Below w.heap.size w w') : RlB w' B h a b := (hb.block B hp.lt).trans hp
theorem RlB.put {w : World} {B : Nat} {h : ByteArray} {a b : Bool} (hp : RlB w B h a b) (h' : ByteArray) (a' b' : Bool) : RlB (((w.setCell ⟨B, 0, none⟩ (.string h')).setCell ⟨B, 1, none⟩ (.bool a')).setCell ⟨B, 2, none⟩ (.bool b')) B h' a' b' := by
  simp only [RlB, World.setCell, Array.getElem?_modify, if_true, show w.heap[B]? = _ from hp, Option.map_some]
  rfl
theorem RlB.putBelow {w wr : World} {B C : Nat} (hb : Below C w wr) (hB : C ≤ B) (h' : ByteArray) (a' b' : Bool) : Below C w (((wr.setCell ⟨B, 0, none⟩ (.string h')).setCell ⟨B, 1, none⟩ (.bool a')).setCell ⟨B, 2, none⟩ (.bool b')) := ((hb.setCell (p := ⟨B, 0, none⟩) hB _).setCell (p := ⟨B, 1, none⟩) hB _).setCell (p := ⟨B, 2, none⟩) hB _
set_option maxRecDepth 100000 in
theorem readRule_any (t : ByteArray) (w : World) : Calls Tryd.prog 112 #[.string t] w fun e w' => e = .returned (.agg #[.string (bareB t), .bool (wildB t), .bool (excB t)]) ∧ Below w.heap.size w w' := by
  have HN := Lib.hid (RlB.new w ⟨#[]⟩ false false)
  obtain ⟨c0, c1, c2⟩ := HN.out.at
  have f0 := HN.out.free 0
  have f1 := HN.out.free 1
  have f2 := HN.out.free 2
  cases h : wildB t with
  | true =>
    have HB : Hid (bareB t = tOf (t.data.toList.drop 2)) := Lib.hid (by rw [bareB, bareL, if_pos (show wildL t.data.toList = true from h)])
    have HE : Hid (excB t = false) := Lib.hid (wild_exc h)
    have HW := Lib.hid h
    clear h
    go_enter Tryd.func112, Tryd.ntmps112
    go_wp2_with (go_at_call 125; refine (starCut t _).mono ?_; rintro e w' ⟨rfl, rfl⟩; rw [HW.out, if_pos rfl, ← HB.out])
    refine bodyPost_ret (v := .agg #[.string (bareB t), .bool true, .bool false]) (by simp [results, Tryd.results112, go_sem]) rfl ?_
    exact ⟨by rw [HE.out], (Below.refl _ _).alloc (Nat.le_refl _) _⟩
  | false =>
    have HB := Lib.hid (bare_not_wild h)
    have HW := Lib.hid h
    clear h
    go_enter Tryd.func112, Tryd.ntmps112
    go_wp2_with fail
    refine (starCut t _).mono ?_
    rintro e w' ⟨rfl, rfl⟩
    rw [HW.out]
    go_wp2_with fail
    refine (bangCut t _).mono ?_
    rintro e w' ⟨rfl, rfl⟩
    rw [HB.out]
    go_wp2_with fail
    refine bodyPost_ret (v := .agg #[.string (bareB t), .bool false, .bool (excB t)]) (by simp [results, Tryd.results112, go_sem]) rfl ?_
    exact ⟨rfl, (Below.refl _ _).alloc (Nat.le_refl _) _⟩
set_option maxRecDepth 100000 in
theorem implRule (t : ByteArray) (w : World) (hs : t.size ≤ maxLen) (hT : TabAt w) : Calls Tryd.prog 104 #[.string t] w fun e w' => e = .returned (.bool (ruleB t)) ∧ Below w.heap.size w w' := by
  have HT := Lib.hid hT
  have HZ : Hid ((bareB t).size ≤ maxLen) := Lib.hid (Nat.le_trans (bare_size t) hs)
  clear hT hs
  have hfd : ∀ W : World, (Instr.field 116 (.agg #[.string (bareB t), .bool (wildB t), .bool (excB t)]) 0).run Tryd.prog W = .ok (.string (bareB t)) W := fun _ => by kernel_rfl
  go_enter Tryd.func104, Tryd.ntmps104
  go_wp2_with fail
  refine (readRule_any t _).mono ?_
  rintro e w1 ⟨rfl, hb⟩
  have B1 := Lib.hid hb
  clear hb
  go_wp2_with fail
  refine (implHostOK _ _ HZ.out (HT.out.below B1.out)).mono ?_
  rintro e w2 ⟨rfl, hb⟩
  have B2 := Lib.hid (B1.out.trans (hb.mono B1.out.size))
  clear hb
  go_wp2_with fail
  go_ret
  exact ⟨rfl, B2.out⟩
/-- A rule without its sign, in the model. -/
def bareS (t : ByteArray) : ByteArray := if excB t then t.extract 1 t.size else if decide (2 < t.size) && wildB t then t.extract 2 t.size else t
theorem drop_ext (t : ByteArray) (k : Nat) : t.extract k t.size = tOf (t.data.toList.drop k) := by
  apply bytes_inj
  rw [Lib.extract_data, List.take_of_length_le (by simp), tOf_data]
theorem bareS_is {t : ByteArray} (h : wildB t = true → 2 < t.size) : bareS t = bareB t := by
  unfold bareS bareB bareL
  cases hw : wildB t with
  | true =>
    rw [show excB t = false from wild_exc hw, decide_eq_true (h hw)]
    rw [if_pos (show wildL t.data.toList = true from hw)]
    exact drop_ext t 2
  | false =>
    rw [if_neg (show ¬ wildL t.data.toList = true by rw [show wildL t.data.toList = false from hw]; exact Bool.false_ne_true)]
    unfold excB
    cases excL t.data.toList with
    | true => exact drop_ext t 1
    | false => simp [tOf_of]
theorem star_only {t : ByteArray} (h : wildB t = true) (hs : ¬ 2 < t.size) : t = ⟨#[42, 46]⟩ := by
  obtain ⟨l, hl⟩ := List.isPrefixOf_iff_prefix.1 h
  have hn : l = [] := by
    have := congrArg List.length hl
    simp at this
    exact List.eq_nil_of_length_eq_zero (by omega)
  subst hn
  apply bytes_inj
  rw [← hl]
  rfl
theorem bareS_host (t : ByteArray) : hostB (bareS t) = ruleB t := by
  by_cases h : wildB t = true → 2 < t.size
  · rw [bareS_is h]
    rfl
  · have h1 : wildB t = true ∧ ¬ 2 < t.size := by
      refine ⟨?_, fun h2 => h fun _ => h2⟩
      cases hw : wildB t with
      | true => rfl
      | false => exact absurd (fun h3 => by rw [hw] at h3; cases h3) h
    have e := star_only h1.1 h1.2
    subst e
    decide +kernel
theorem rule_wild {t : ByteArray} (hr : ruleB t = true) : wildB t = true → 2 < t.size := fun h => by
  by_cases hs : 2 < t.size
  · exact hs
  · have e := star_only h hs
    subst e
    exact absurd hr (by decide +kernel)
theorem exc_at {t : ByteArray} (h : 0 < t.size) : excB t = (((t[0]'h).toNat : Int) == 33) := by
  have hl : 0 < t.data.toList.length := by simpa using h
  have e : t.data.toList = t[0]'h :: t.data.toList.drop 1 := by
    have := List.drop_eq_getElem_cons (l := t.data.toList) (i := 0) hl
    rw [List.drop_zero] at this
    exact this
  have hb : (((t[0]'h).toNat : Int) == 33) = ((33 : UInt8) == t[0]'h) := by
    rw [Bool.eq_iff_iff, beq_iff_eq, beq_iff_eq, ← UInt8.toNat_inj]
    show _ ↔ 33 = (t[0]'h).toNat
    omega
  rw [hb, excB, excL, e]
  simp [List.isPrefixOf]
theorem wild_at (t : ByteArray) : wildB t = ((t.extract 0 2).toList == [42, 46]) := by
  rw [wildB, wildL, Bool.eq_iff_iff, List.isPrefixOf_iff_prefix, beq_iff_eq, ByteArray.toList_eq, Lib.extract_data, List.drop_zero]
  rw [List.prefix_iff_eq_take]
  exact eq_comm
set_option maxRecDepth 100000 in
theorem specBare (t : ByteArray) (w : World) (hs : t.size ≤ 1048576) : Calls Tryd.prog 103 #[.string t] w fun e w' => e = .returned (.string (bareS t)) ∧ w = w' := by
  by_cases h0 : 0 < t.size
  · have f := (exc_at h0).symm
    cases g : excB t with
    | true =>
      rw [g] at f
      have HE : Hid (bareS t = t.extract 1 t.size) := Lib.hid (by rw [bareS, g]; rfl)
      clear g
      go_enter Tryd.func103, Tryd.ntmps103
      go_wp2
      go_ret
      exact ⟨by rw [HE.out]; rfl, rfl⟩
    | false =>
      rw [g] at f
      by_cases h2 : 2 < t.size
      · have f2 := (wild_at t).symm
        cases g2 : wildB t with
        | true =>
          have HE : Hid (bareS t = t.extract 2 t.size) := Lib.hid (by rw [bareS, g, g2, decide_eq_true h2]; rfl)
          rw [g2] at f2
          clear g g2
          go_enter Tryd.func103, Tryd.ntmps103
          go_wp2
          go_ret
          exact ⟨by rw [HE.out]; rfl, rfl⟩
        | false =>
          have HE : Hid (bareS t = t) := Lib.hid (by rw [bareS, g, g2, decide_eq_true h2]; rfl)
          rw [g2] at f2
          clear g g2
          go_enter Tryd.func103, Tryd.ntmps103
          go_wp2
          go_ret
          exact ⟨by rw [HE.out]; rfl, rfl⟩
      · have HE : Hid (bareS t = t) := Lib.hid (by rw [bareS, g, decide_eq_false h2]; rfl)
        clear g
        go_enter Tryd.func103, Tryd.ntmps103
        go_wp2
        go_ret
        exact ⟨by rw [HE.out]; rfl, rfl⟩
  · have e : t = ⟨#[]⟩ := by
      apply bytes_inj
      exact List.eq_nil_of_length_eq_zero (by have e : t.data.toList.length = t.size := by simp
                                              omega)
    have HE : Hid (bareS t = t) := Lib.hid (by rw [e]; decide +kernel)
    clear e
    go_enter Tryd.func103, Tryd.ntmps103
    go_wp2
    go_ret
    exact ⟨by rw [HE.out]; rfl, rfl⟩
set_option maxRecDepth 100000 in
theorem specRuleL (t : ByteArray) (w : World) (hs : t.size ≤ 1048576) : Calls Tryd.prog 83 #[.string t] w fun e w' => e = .returned (.bool (ruleB t)) ∧ Below w.heap.size w w' := by
  have hz : (bareS t).size ≤ 1048576 := by
    unfold bareS
    split
    · simp; omega
    · split
      · simp; omega
      · exact hs
  have HR := Lib.hid (bareS_host t)
  go_enter Tryd.func83, Tryd.ntmps83
  go_wp2_with fail
  refine (specBare t _ hs).mono ?_
  rintro e w' ⟨rfl, rfl⟩
  go_wp2_with fail
  refine (specHostL _ _ hz).mono ?_
  rintro e w2 ⟨rfl, hb⟩
  have B2 := Lib.hid hb
  clear hb
  go_wp2_with fail
  go_ret
  exact ⟨by rw [HR.out]; rfl, B2.out⟩
end Go.Proofs.YtcaabnnkjnleeaaDoor
