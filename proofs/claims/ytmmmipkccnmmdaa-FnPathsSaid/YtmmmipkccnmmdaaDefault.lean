/- DefaultPath of the program and of the model: what they answer; the law's walk. No condition of its own. -/
import Derived.Test.YtmmmipkccnmmdaaPathMatch
import Derived.Test.YtmmmipkccnmmdaaClone
namespace Go.Proofs.Ytmmmipkccnmmdaa
open Go.ChangeShapes Go.WideShapes Go.ChangeAt Go.WideMaps Go.WideElems Go.RowKit

/-- The last stroke of a text that begins with one. -/
theorem last_at {t : ByteArray} (h0 : 0 < t.size) (h : ((t[0]'h0).toNat : Int) = 47) :
    ∃ (i : Nat) (hi : i < t.size), Lib.lastIndexByte t 47 = i ∧ ((t[i]'hi).toNat : Int) = 47 ∧ ∀ j (hj : j < t.size), i < j → ((t[j]'hj).toNat : Int) ≠ 47 := by
  have key : ∀ j (hj : j < t.size), t.data[j]! = t[j]'hj := fun j hj => by
    rw [getElem!_pos t.data j (by simpa using hj)]
    rfl
  rcases Lib.lastIndexByte_spec t 47 with ⟨_, hn⟩ | ⟨i, hi, he, hb, hn⟩
  · have := hn 0 h0
    rw [key 0 h0] at this
    exact absurd h this
  · refine ⟨i, hi, he, ?_, fun j hj hij => ?_⟩
    · rw [← key i hi]
      exact hb
    · rw [← key j hj]
      exact hn j hij hj
theorem head_pre {t : ByteArray} (h0 : 0 < t.size) : (((t[0]'h0).toNat : Int) == 47) = Lib.hasPrefix t.data.toList [47] := by
  have := pre_at t 0 h0
  simpa using this
/-- What DefaultPath answers at a text that is not too long. -/
def defaultL (t : ByteArray) : ByteArray := if Lib.hasPrefix t.data.toList [47] = true ∧ 0 < Lib.lastIndexByte t 47 then t.extract 0 (Lib.lastIndexByte t 47).toNat else ⟨#[47]⟩
def defaultB (t : ByteArray) : ByteArray := if t.size ≤ 65536 then defaultL t else ⟨#[]⟩
theorem string_end {a b : ByteArray} (h : a = b) : Ending.returned (.string a) = .returned (.string b) := by rw [h]
theorem one_stroke {t : ByteArray} (h0 : 0 < t.size) (h : ((t[0]'h0).toNat : Int) = 47) : t.extract 0 1 = ⟨#[47]⟩ := by
  apply bytes_inj
  rw [Lib.extract_data, List.drop_zero, Nat.sub_zero]
  have hl : 0 < t.data.toList.length := by simpa using h0
  have e : t.data.toList = t[0] :: t.data.toList.drop 1 := by
    have := List.drop_eq_getElem_cons hl
    rw [List.drop_zero] at this
    exact this
  have hb : t[0]'h0 = 47 := by
    apply UInt8.toNat_inj.1
    show (t[0]'h0).toNat = 47
    omega
  rw [e, hb]
  rfl
def DefRel (t : ByteArray) (i : Nat) (v : Value) : Prop := ∃ k : Nat, i ≤ k ∧ k < t.size ∧ v = .int .i64 k
set_option maxHeartbeats 400000 in
theorem specDefaultL (t : ByteArray) (w : World) (hs : t.size ≤ maxLen) : Calls Try.prog 16 #[.string t] w fun e w' => e = .returned (.string (defaultL t)) ∧ w = w' := by
  unfold maxLen at hs
  by_cases h0 : 0 < t.size
  · have f1 := head_pre h0
    have f0 : ((t.size : Int) == 0) = false := by
      rw [beq_eq_false_iff_ne]
      omega
    cases g : Lib.hasPrefix t.data.toList [47] with
    | false =>
      have HE : Hid (defaultL t = ⟨#[47]⟩) := by show _ = _; simp [defaultL, g]
      rw [g] at f1
      have f2 : (((t[0]'h0).toNat : Int) != 47) = true := by rw [bne, f1]; rfl
      clear g
      go_enter Try.func16, Try.ntmps16
      go_wp2
      go_ret
      exact ⟨string_end HE.out.symm, rfl⟩
    | true =>
      rw [g] at f1
      have f2 : (((t[0]'h0).toNat : Int) != 47) = false := by rw [bne, f1]; rfl
      have f3 : ((t[0]'h0).toNat : Int) = 47 := eq_of_beq f1
      obtain ⟨i, hi, hlast, hb, hn⟩ := last_at h0 f3
      have HE : Hid (defaultL t = if 0 < i then t.extract 0 i else ⟨#[47]⟩) := by
        show _ = _
        rw [defaultL, hlast]
        simp only [g, true_and]
        by_cases hp : 0 < i
        · rw [if_pos (by omega), if_pos hp]
          simp
        · rw [if_neg (by omega), if_neg hp]
      have HN := Lib.hid hn
      have HB := Lib.hid hb
      have HO := Lib.hid (one_stroke h0 f3)
      clear g hlast hn hb f3
      go_enter Try.func16, Try.ntmps16
      go_wp2
      clear f0 f1 f2
      go_loop [3] (fun v => DefRel t i v) (fun v => (intOf v).toNat)
      case atStart => exact ⟨t.size - 1, by omega, by omega, by go_num⟩
      case round =>
        obtain ⟨k, hk1, hk2, rfl⟩ := hrel
        by_cases he : k = i
        · subst he
          have f2 : (((t[k]'hk2).toNat : Int) != 47) = false := by rw [HB.out]; rfl
          by_cases hp : 0 < k
          · go_wp2
            go_ret
            exact ⟨string_end (by rw [HE.out, if_pos hp, show (max (k : Int) 1).toNat = k by omega]), rfl⟩
          · obtain rfl : k = 0 := by omega
            go_wp2
            go_ret
            exact ⟨string_end (by rw [HE.out, if_neg hp]; exact HO.out), rfl⟩
        · have f2 : (((t[k]'hk2).toNat : Int) != 47) = true := by
            have := HN.out k hk2 (by omega)
            simpa using this
          go_wp2
          go_round
          case rel => exact ⟨k - 1, by omega, by omega, by go_num⟩
          case measure => simp [intOf]; omega
  · have HE : Hid (defaultL t = ⟨#[47]⟩) := by
      show _ = _
      have : t.data.toList = [] := List.eq_nil_of_length_eq_zero (by simpa using (by omega : t.size = 0))
      rw [defaultL, this]
      rfl
    have f0 : ((t.size : Int) == 0) = true := by
      rw [beq_iff_eq]
      omega
    go_enter Try.func16, Try.ntmps16
    go_wp2
    go_ret
    exact ⟨string_end HE.out.symm, rfl⟩
theorem specDefault (t : ByteArray) (w : World) (hs : t.size ≤ maxLen) : Calls Try.prog 8 #[.string t] w fun e w' => e = .returned (.string (defaultB t)) ∧ w = w' := by
  have HS := Lib.hid hs
  unfold maxLen at hs
  by_cases hl : t.size ≤ 65536
  · have HE : Hid (defaultB t = defaultL t) := if_pos hl
    go_enter Try.func8, Try.ntmps8
    go_wp2_with (go_at_call 16; refine (specDefaultL _ _ HS.out).mono ?_; rintro e w' ⟨rfl, rfl⟩)
    go_ret
    exact ⟨string_end HE.out.symm, rfl⟩
  · have HE : Hid (defaultB t = ⟨#[]⟩) := if_neg hl
    go_enter Try.func8, Try.ntmps8
    go_wp2
    go_ret
    exact ⟨string_end HE.out.symm, rfl⟩
theorem implDefault (t : ByteArray) (w : World) (hs : t.size ≤ maxLen) : Calls Try.prog 7 #[.string t] w fun e w' => e = .returned (.string (defaultB t)) ∧ Below w.heap.size w w' := by
  unfold maxLen at hs
  by_cases hl : t.size ≤ 65536
  · have hsz : t.size < 4611686018427387904 := by omega
    cases g : Lib.hasPrefix t.data.toList [47] with
    | false =>
      have HE : Hid (defaultB t = ⟨#[47]⟩) := by
        show _ = _
        rw [defaultB, if_pos hl]
        simp [defaultL, g]
      have HG := Lib.hid g
      clear g
      go_enter Try.func7, Try.ntmps7
      go_wp2_with (first
        | (go_at_call 13; refine (Try.strings_LastIndexByte _ _ hsz _).mono ?_; rintro e w' ⟨rfl, rfl⟩)
        | (go_at_call 14; refine (Try.strings_HasPrefix _ _ _).mono ?_; rintro e w' ⟨rfl, rfl⟩; rw [HG.out]))
      go_ret
      exact ⟨string_end HE.out.symm, Below.refl _ _⟩
    | true =>
      have h0 : 0 < t.size := by
        rcases Nat.eq_zero_or_pos t.size with h | h
        · have : t.data.toList = [] := List.eq_nil_of_length_eq_zero (by simpa using h)
          rw [this] at g
          exact absurd g (by decide)
        · exact h
      have f3 : ((t[0]'h0).toNat : Int) = 47 := by
        have := head_pre h0
        rw [g] at this
        exact eq_of_beq this
      obtain ⟨i, hi, hlast, _, _⟩ := last_at h0 f3
      have HG := Lib.hid g
      have HL := Lib.hid hlast
      by_cases hp : 0 < i
      · have HE : Hid (defaultB t = t.extract 0 i) := by
          show _ = _
          rw [defaultB, if_pos hl, defaultL, hlast, g, if_pos ⟨rfl, by omega⟩]
          simp
        have f0 : ((i : Int) == 0) = false := by
          rw [beq_eq_false_iff_ne]
          omega
        clear g hlast f3
        go_enter Try.func7, Try.ntmps7
        go_wp2_with (first
          | (go_at_call 13; refine (Try.strings_LastIndexByte _ _ hsz _).mono ?_; rintro e w' ⟨rfl, rfl⟩; rw [HL.out])
          | (go_at_call 14; refine (Try.strings_HasPrefix _ _ _).mono ?_; rintro e w' ⟨rfl, rfl⟩; rw [HG.out])
          | (go_at_call 15; refine (clone_any _ _ (by simp; omega)).mono ?_; rintro e w' ⟨rfl, hb⟩))
        go_ret
        exact ⟨string_end HE.out.symm, hb⟩
      · have HE : Hid (defaultB t = ⟨#[47]⟩) := by
          show _ = _
          rw [defaultB, if_pos hl, defaultL, hlast, if_neg (fun h => hp (by omega))]
        obtain rfl : i = 0 := by omega
        clear g hlast f3
        go_enter Try.func7, Try.ntmps7
        go_wp2_with (first
          | (go_at_call 13; refine (Try.strings_LastIndexByte _ _ hsz _).mono ?_; rintro e w' ⟨rfl, rfl⟩; rw [HL.out])
          | (go_at_call 14; refine (Try.strings_HasPrefix _ _ _).mono ?_; rintro e w' ⟨rfl, rfl⟩; rw [HG.out]))
        go_ret
        exact ⟨string_end HE.out.symm, Below.refl _ _⟩
  · have HE : Hid (defaultB t = ⟨#[]⟩) := if_neg hl
    go_enter Try.func7, Try.ntmps7
    go_wp2
    go_ret
    exact ⟨string_end HE.out.symm, Below.refl _ _⟩
theorem walk_FnExactDefaultPath (W : World) (t : ByteArray) (hs : t.size ≤ maxLen) (_ : laidMetH Try.prog Rows.fnExactDefaultPathRow.laid W) (_ : W.ShapedOpen Try.prog) :
    Calls Try.prog 4 #[.string t] W fun e w' => e = .returned (.bool true) ∧ Below W.heap.size W w' := by
  have HS := Lib.hid hs
  unfold maxLen at hs
  have e1 : ((defaultB t).toList == (defaultB t).toList) = true := by simp
  by_cases hl : (t.size : Int) ≤ 1048576
  · go_enter Try.func4, Try.ntmps4
    go_wp2_with (first
      | (go_at_call 8; refine (specDefault _ _ HS.out).mono ?_; rintro e w' ⟨rfl, rfl⟩)
      | (go_at_call 7; refine (implDefault _ _ HS.out).mono ?_; rintro e w' ⟨rfl, hb⟩))
    go_ret
    exact ⟨rfl, hb⟩
  · go_enter Try.func4, Try.ntmps4
    go_wp2
    go_ret
    exact ⟨rfl, Below.refl _ _⟩
end Go.Proofs.Ytmmmipkccnmmdaa
