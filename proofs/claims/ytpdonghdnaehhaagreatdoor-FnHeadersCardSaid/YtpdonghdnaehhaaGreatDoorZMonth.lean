/- The month that a token is, of the program and of the model. -/
import Derived.Test.YtpdonghdnaehhaaGreatDoorZFold
import Derived.Test.YtpdonghdnaehhaaGreatDoorZDateOK
import Derived.Deep.RegionHeld3
import Derived.RegionTactic
namespace Go.Proofs.YtpdonghdnaehhaaGreatDoor
open Go.ChangeShapes Go.WideShapes Go.ChangeAt Go.WideMaps Go.WideElems Go.RowKit

def months : List (List UInt8) := [[106, 97, 110], [102, 101, 98], [109, 97, 114], [97, 112, 114], [109, 97, 121], [106, 117, 110], [106, 117, 108], [97, 117, 103], [115, 101, 112], [111, 99, 116], [110, 111, 118], [100, 101, 99]]
def mon (k : Nat) : List UInt8 := months.getD k []
/-- Which month some folded letters are, 0 of none. -/
def monI (u : List UInt8) : Nat := if months.findIdx (· == u) < 12 then months.findIdx (· == u) + 1 else 0
theorem monI_hit {u : List UInt8} {k : Nat} (hk : k < 12) (he : mon k = u) : monI u = k + 1 := by
  subst he
  have : ∀ k : Fin 12, monI (mon k) = k + 1 := by decide
  exact this ⟨k, hk⟩
theorem monI_miss {u : List UInt8} (h : ∀ j, j < 12 → mon j ≠ u) : monI u = 0 := by
  have hh : months.findIdx (· == u) = months.length := by
    rw [List.findIdx_eq_length]
    intro x hx
    obtain ⟨j, hj, rfl⟩ := List.mem_iff_getElem.1 hx
    have := h j hj
    unfold mon at this
    simpa [List.getD, hj] using this
  unfold monI
  rw [hh]
  rfl
theorem monI_le (u : List UInt8) : monI u ≤ 12 := by
  unfold monI
  split <;> omega
def monL (l : List UInt8) : Nat := if 3 ≤ l.length then monI ((l.take 3).map lowB) else 0
def monB (s : ByteArray) : Nat := monL s.data.toList
theorem monB_short {s : ByteArray} (h : s.size < 3) : monB s = 0 := by
  unfold monB monL
  rw [if_neg (by simp; omega)]
theorem monB_long {s : ByteArray} (h : 3 ≤ s.size) : monB s = monI ((s.data.toList.take 3).map lowB) := by
  unfold monB monL
  rw [if_pos (by simp; omega)]
def monC : ByteArray := ⟨#[106, 97, 110, 102, 101, 98, 109, 97, 114, 97, 112, 114, 109, 97, 121, 106, 117, 110, 106, 117, 108, 97, 117, 103, 115, 101, 112, 111, 99, 116, 110, 111, 118, 100, 101, 99]⟩
theorem mon_cut {k : Nat} (hk : k < 12) : monC.extract (3 * k) (3 * k + 3) = ⟨(mon k).toArray⟩ := by
  have : ∀ k : Fin 12, monC.extract (3 * k) (3 * k + 3) = ⟨(mon k).toArray⟩ := by decide
  exact this ⟨k, hk⟩
theorem fold3 (s : ByteArray) : foldL (s.extract 0 3).data.toList = ⟨((s.data.toList.take 3).map lowB).toArray⟩ := by
  unfold foldL
  simp
theorem fold3_any (s U : ByteArray) (w : World) (hU : ⟨((s.data.toList.take 3).map lowB).toArray⟩ = U) : Calls Tryz.prog 158 #[.string (s.extract 0 3)] w fun e w' => e = .returned (.string U) ∧ Below w.heap.size w w' := by
  refine (specFoldL (s.extract 0 3) w (by simp; omega)).mono ?_
  rintro e w' ⟨rfl, hb⟩
  rw [fold3, hU]
  exact ⟨rfl, hb⟩
theorem ne_next {s : ByteArray} {k : Nat} {U M : ByteArray} (hU : ⟨((s.data.toList.take 3).map lowB).toArray⟩ = U) (hM : ⟨(mon k).toArray⟩ = M) (hne : ∀ j, j < k → mon j ≠ (s.data.toList.take 3).map lowB) (h : U ≠ M) : ∀ j, j < k + 1 → mon j ≠ (s.data.toList.take 3).map lowB := by
  intro j hj
  by_cases e : j = k
  · subst e
    intro hh
    exact h (by rw [← hU, ← hM, hh])
  · exact hne j (by omega)
def MonRel (w : World) (s : ByteArray) (i : Value) (wr : World) : Prop := ∃ k : Nat, k ≤ 12 ∧ i = .int .i64 k ∧ (∀ j, j < k → mon j ≠ (s.data.toList.take 3).map lowB) ∧ Below w.heap.size w wr
set_option maxHeartbeats 1000000 in
set_option maxRecDepth 100000 in
theorem specMonth (s : ByteArray) (w : World) : Calls Tryz.prog 320 #[.string s] w fun e w' => e = .returned (.int .i64 (monB s)) ∧ Below w.heap.size w w' := by
  by_cases h3 : s.size < 3
  · have HM := Lib.hid (monB_short h3)
    go_enter Tryz.func320, Tryz.ntmps320
    go_wp2_with fail
    go_ret
    exact ⟨by rw [HM.out]; rfl, Below.refl _ _⟩
  · have HM := Lib.hid (monB_long (s := s) (by omega))
    obtain ⟨U, hU⟩ : ∃ U : ByteArray, ⟨((s.data.toList.take 3).map lowB).toArray⟩ = U := ⟨_, rfl⟩
    have HU := Lib.hid hU
    clear hU
    go_enter Tryz.func320, Tryz.ntmps320
    go_wp2_with fail
    go_loopw [3] (fun i wr => MonRel w s i wr) (fun i _ => 12 - (intOf i).toNat)
    case atStart => exact ⟨0, by omega, rfl, by omega, Below.refl _ _⟩
    case round =>
      obtain ⟨k, hk, rfl, hne, hb⟩ := hrel
      have HN := Lib.hid hne
      have HB := Lib.hid hb
      clear hne hb
      by_cases hlt : k < 12
      · obtain ⟨M, hM⟩ : ∃ M : ByteArray, ⟨(mon k).toArray⟩ = M := ⟨_, rfl⟩
        have hcut := (mon_cut hlt).trans hM
        unfold monC at hcut
        have HMM := Lib.hid hM
        clear hM
        have e1 : IntKind.i64.wrap (3 * (k : Int)) = 3 * (k : Int) := IntWalk.i64_in _ (by omega)
        have e2 : IntKind.i64.wrap (3 * (k : Int) + 3) = 3 * (k : Int) + 3 := IntWalk.i64_in _ (by clear e1; omega)
        have e3 : (3 * (k : Int)).toNat = 3 * k := by clear e1 e2; omega
        have e4 : (3 * (k : Int) + 3).toNat = 3 * k + 3 := by clear e1 e2; omega
        have b1 : 0 ≤ 3 * (k : Int) := by clear e1 e2; omega
        have b2 : 3 * (k : Int) ≤ 3 * (k : Int) + 3 := by clear e1 e2; omega
        have b3 : 3 * (k : Int) + 3 ≤ 36 := by clear e1 e2; omega
        have b4 : 0 ≤ 3 * (k : Int) + 3 := by clear e1 e2; omega
        have b5 : (3 : Int) ≤ s.size := by clear e1 e2; omega
        have hBW := HB.out.drew
        cases hq : (U.toList == M.toList) with
        | true =>
          go_wp2_with fail
          go_region_held3 (fun w' => Below w.heap.size w w') (first | assumption)
            (first | (go_at_call 158; refine (fold3_any s U _ HU.out).mono ?_; rintro e w' ⟨rfl, hb⟩; have hS := (by first | exact hBW.trans (hb.mono hBW.size) | exact (And.left (And.intro ‹Below w.heap.size w _› True.intro)).trans (hb.mono (And.left (And.intro ‹Below w.heap.size w _› True.intro)).size) : Below w.heap.size w w'); clear hb))
          clear e1 e2 e3 e4
          have HS := Lib.hid hS
          clear hS
          go_wp2_with fail
          go_ret
          refine ⟨int_of ?_, HS.out⟩
          have he : (mon k) = (s.data.toList.take 3).map lowB := by
            have h1 := seq_of hq
            rw [← HU.out, ← HMM.out] at h1
            have h2 := congrArg (fun b : ByteArray => b.data.toList) h1
            simp at h2
            rw [← h2]
            simp
          rw [HM.out, monI_hit hlt he]
          omega
        | false =>
          go_wp2_with fail
          go_region_held3 (fun w' => Below w.heap.size w w') (first | assumption)
            (first | (go_at_call 158; refine (fold3_any s U _ HU.out).mono ?_; rintro e w' ⟨rfl, hb⟩; have hS := (by first | exact hBW.trans (hb.mono hBW.size) | exact (And.left (And.intro ‹Below w.heap.size w _› True.intro)).trans (hb.mono (And.left (And.intro ‹Below w.heap.size w _› True.intro)).size) : Below w.heap.size w w'); clear hb))
          clear e1 e2 e3 e4
          have HS := Lib.hid hS
          clear hS
          go_wp2_with fail
          go_roundw
          case rel => exact ⟨k + 1, by omega, by go_num, ne_next HU.out HMM.out HN.out (sne_of hq), HS.out⟩
          case measure => simp [intOf]; omega
      · obtain rfl : k = 12 := by omega
        go_wp2_with fail
        go_ret
        exact ⟨int_of (by rw [HM.out, monI_miss HN.out]; rfl), HB.out⟩
def names : List (List UInt8) := [[], [74, 97, 110], [70, 101, 98], [77, 97, 114], [65, 112, 114], [77, 97, 121], [74, 117, 110], [74, 117, 108], [65, 117, 103], [83, 101, 112], [79, 99, 116], [78, 111, 118], [68, 101, 99]]
def nam (k : Nat) : ByteArray := ⟨(names.getD k []).toArray⟩
/-- The program's names of months lie as its text lays them. -/
def MonthsAt (w : World) : Prop := ∃ t fr, w.heap[2]? = some (.cells (names.map fun z => Value.string ⟨z.toArray⟩).toArray t fr)
theorem MonthsAt.below {w w' : World} (h : MonthsAt w) (hb : Below w.heap.size w w') : MonthsAt w' := by
  obtain ⟨t, fr, h⟩ := h
  exact ⟨t, fr, (hb.block _ (Array.getElem?_eq_some_iff.1 h).1).trans h⟩
theorem nam_size {k : Nat} (hk : k < 13) : (nam k).size ≤ 3 := by
  have : ∀ k : Fin 13, (nam k).size ≤ 3 := by decide
  exact this ⟨k, hk⟩
theorem nam_fold {k : Nat} (hk : k < 12) : foldB (nam (k + 1)) = ⟨(mon k).toArray⟩ := by
  have : ∀ k : Fin 12, foldB (nam (k + 1)) = ⟨(mon k).toArray⟩ := by decide
  exact this ⟨k, hk⟩
theorem nam_zero : foldB (nam 0) = ⟨#[]⟩ := by decide
theorem fold3_impl (s U : ByteArray) (w : World) (hU : ⟨((s.data.toList.take 3).map lowB).toArray⟩ = U) (hT : TabAt w) : Calls Tryz.prog 77 #[.string (s.extract 0 3)] w fun e w' => e = .returned (.string U) ∧ Below w.heap.size w w' := by
  refine (implFold (s.extract 0 3) w (by unfold maxLen; simp; omega) hT).mono ?_
  rintro e w' ⟨rfl, hb⟩
  rw [foldB, if_pos (by simp; omega), fold3, hU]
  exact ⟨rfl, hb⟩
def NamRel (w : World) (U : ByteArray) (v : Value) (wr : World) : Prop := ∃ k : Nat, k ≤ 13 ∧ v = .int .i64 k ∧ (∀ j, j < k → foldB (nam j) ≠ U) ∧ Below w.heap.size w wr
def MonthPost (w : World) (s : ByteArray) (e : Ending) (w' : World) : Prop := e = .returned (.tuple #[.int .i64 (monB s), .bool (decide (0 < monB s))]) ∧ Below w.heap.size w w'
set_option maxHeartbeats 1000000 in
set_option maxRecDepth 100000 in
theorem implMonth (s : ByteArray) (w : World) (hT : TabAt w) (hM : MonthsAt w) : Calls Tryz.prog 313 #[.string s] w (MonthPost w s) := by
  have HT := Lib.hid hT
  have HMo := Lib.hid hM
  clear hT hM
  by_cases h3 : s.size < 3
  · have HM := Lib.hid (monB_short h3)
    go_enter Tryz.func313, Tryz.ntmps313
    go_wp2_with fail
    go_ret2
    refine ⟨?_, Below.refl _ _⟩
    rw [HM.out]
    rfl
  · have HM := Lib.hid (monB_long (s := s) (by omega))
    obtain ⟨U, hU⟩ : ∃ U : ByteArray, ⟨((s.data.toList.take 3).map lowB).toArray⟩ = U := ⟨_, rfl⟩
    have HU := Lib.hid hU
    clear hU
    have b5 : (3 : Int) ≤ s.size := by omega
    go_enter Tryz.func313, Tryz.ntmps313
    go_wp2_with fail
    refine (fold3_impl s U _ HU.out HT.out).mono ?_
    rintro e w1 ⟨rfl, hb⟩
    obtain ⟨t, fr, hg⟩ := HMo.out.below hb
    have HB := Lib.hid hb
    clear hb
    go_wp2_with (refine wpList_load_row rfl 205 (.global 2) rfl 2 rfl _ _ _ _ hg Tryz.underlying205 rfl (by kernel_rfl) ?_)
    have HTW := Lib.hid (HT.out.below HB.out)
    clear hg
    go_loopw [14] (fun v wr => NamRel w1 U v wr) (fun v _ => 13 - (intOf v).toNat)
    case atStart => exact ⟨0, by omega, rfl, fun j h => by omega, Below.refl _ _⟩
    case round =>
      obtain ⟨k, hk, rfl, hne, hb⟩ := hrel
      have HN := Lib.hid hne
      have HB2 := Lib.hid hb
      clear hne hb
      by_cases hlt : k < 13
      · have hix : ∀ w, (Instr.index 205 (.agg (names.map fun z => Value.string ⟨z.toArray⟩).toArray) (.int .i64 k)).run Tryz.prog w = .ok (.string (nam k)) w :=
          fun w => run_index_array_in w 205 9 13 _ .i64 k _ Tryz.underlying205 hlt (fun _ => by kernel_rfl) (fun _ => by kernel_rfl) (by have : k < names.length := hlt; simp [nam, List.getD, this])
        have hnm : (nam k).size ≤ maxLen := by have := nam_size hlt; unfold maxLen; omega
        have HNM := Lib.hid hnm
        clear hnm
        obtain ⟨F, hF⟩ : ∃ F, foldB (nam k) = F := ⟨_, rfl⟩
        have HF := Lib.hid hF
        clear hF
        cases hq : (F.toList == U.toList) with
        | true =>
          go_wp2_with fail
          refine (implFold (nam k) _ HNM.out (HTW.out.below HB2.out)).mono ?_
          rintro e w2 ⟨rfl, hb⟩
          rw [HF.out]
          have HB3 := Lib.hid (HB2.out.trans (hb.mono HB2.out.size))
          clear hb
          go_wp2_with fail
          go_ret2
          refine ⟨?_, HB.out.trans (HB3.out.mono HB.out.size)⟩
          have hFU := seq_of hq
          rcases Nat.eq_zero_or_pos k with rfl | hp
          · exfalso
            have h1 := HF.out
            rw [nam_zero, hFU, ← HU.out] at h1
            have h2 := congrArg ByteArray.size h1
            have h3 : (⟨((s.data.toList.take 3).map lowB).toArray⟩ : ByteArray).size = 3 := by
              show ((s.data.toList.take 3).map lowB).toArray.size = 3
              simp
              omega
            rw [h3] at h2
            cases h2
          · obtain ⟨j, rfl⟩ : ∃ j, k = j + 1 := ⟨k - 1, by omega⟩
            have he : mon j = (s.data.toList.take 3).map lowB := by
              have h1 := HF.out
              rw [nam_fold (by omega), hFU, ← HU.out] at h1
              have h2 := congrArg (fun b : ByteArray => b.data.toList) h1
              simpa using h2
            rw [HM.out, monI_hit (by omega) he]
            simp
        | false =>
          go_wp2_with fail
          refine (implFold (nam k) _ HNM.out (HTW.out.below HB2.out)).mono ?_
          rintro e w2 ⟨rfl, hb⟩
          rw [HF.out]
          have HB3 := Lib.hid (HB2.out.trans (hb.mono HB2.out.size))
          clear hb
          go_wp2_with fail
          go_roundw
          case rel =>
            refine ⟨k + 1, by omega, by go_num, fun j hj => ?_, HB3.out⟩
            by_cases e : j = k
            · subst e
              rw [HF.out]
              exact sne_of hq
            · exact HN.out j (by omega)
          case measure => simp [intOf]; omega
      · obtain rfl : k = 13 := by omega
        have hmiss : monI ((s.data.toList.take 3).map lowB) = 0 := monI_miss fun j hj hh => by
          refine HN.out (j + 1) (by omega) ?_
          rw [nam_fold hj, hh, HU.out]
        have HMI := Lib.hid hmiss
        clear hmiss
        go_wp2_with fail
        go_ret2
        refine ⟨?_, HB.out.trans (HB2.out.mono HB.out.size)⟩
        rw [HM.out, HMI.out]
        rfl
end Go.Proofs.YtpdonghdnaehhaaGreatDoor
