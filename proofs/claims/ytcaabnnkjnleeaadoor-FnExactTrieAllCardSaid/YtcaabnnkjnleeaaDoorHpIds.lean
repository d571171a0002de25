/- The program's look at a row of numbers: sorted, rising, within bounds. No condition of its own. -/
import Derived.Test.YtcaabnnkjnleeaaDoorHpMath
import Derived.Test.YtcaabnnkjnleeaaDoorShelf
import Derived.Deep.OwnRows
import Derived.Test.YtcaabnnkjnleeaaDoorBelowCls
import Derived.Shelf.SlIterI.Sorted
import Derived.BigQuiet
import Derived.BigRegion
namespace Go.Proofs.YtcaabnnkjnleeaaDoor
open Go.ChangeShapes Go.WideShapes Go.ChangeAt Go.WideMaps Go.WideElems Go.RowKit Go.Shelf Go.Sort

/-- v reads as these numbers. -/
def NumsIn (w : World) (v : Value) (zs : List Int) : Prop :=
  ∃ a cap, v = .slice a zs.length cap ∧ (0 < zs.length → ∃ g off, a = some ⟨g, off, none⟩ ∧ g < w.heap.size ∧ ∀ j (hj : j < zs.length), w.cell? ⟨g, off + j, none⟩ = some (.int .i64 zs[j]))
theorem NumsIn.below {w w' : World} {v : Value} {zs : List Int} (h : NumsIn w v zs) (hb : Below w.heap.size w w') : NumsIn w' v zs := by
  obtain ⟨a, cap, rfl, h3⟩ := h
  refine ⟨a, cap, rfl, fun h0 => ?_⟩
  obtain ⟨g, off, rfl, h5, h6⟩ := h3 h0
  exact ⟨g, off, rfl, Nat.lt_of_lt_of_le h5 hb.size, fun j hj => (hb.cell (p := ⟨g, off + j, none⟩) h5).trans (h6 j hj)⟩
/-- Each less than the next. -/
def riseB : List Int → Bool
  | [] => true
  | [_] => true
  | a :: b :: r => decide (a < b) && riseB (b :: r)
theorem rise_iff : ∀ zs : List Int, riseB zs = true ↔ ∀ j (h : j + 1 < zs.length), zs[j] < zs[j + 1]
  | [] => by simp [riseB]
  | [a] => by simp [riseB]
  | a :: b :: r => by
    rw [riseB, Bool.and_eq_true, decide_eq_true_eq, rise_iff (b :: r)]
    constructor
    · rintro ⟨h1, h2⟩ j h
      cases j with
      | zero => exact h1
      | succ j => exact h2 j (by simpa using h)
    · intro h
      exact ⟨h 0 (by simp), fun j hj => h (j + 1) (by simpa using hj)⟩
theorem rise_no {zs : List Int} {j : Nat} (hj : j + 1 < zs.length) (h : zs[j + 1] ≤ zs[j]) : riseB zs = false := by
  cases e : riseB zs with
  | false => rfl
  | true =>
    have := (rise_iff zs).1 e j hj
    omega
/-- What the program asks of a row of numbers. -/
def numsB (zs : List Int) : Bool := riseB (zs.mergeSort fun x y => decide (x ≤ y)) && zs.all fun i => inRange i 1 1000000000000
set_option maxHeartbeats 2000000 in
set_option maxRecDepth 100000 in
theorem rising_any (v : Value) (zs : List Int) (w : World) (hl : zs.length ≤ 1048576) (hv : NumsIn w v zs) : Calls Tryd.prog 45 #[v] w fun e w' => e = .returned (.bool (riseB zs)) ∧ Below w.heap.size w w' := by
  obtain ⟨a, cap, rfl, hx⟩ := hv
  have HX := Lib.hid hx
  clear hx
  go_enter Tryd.func45, Tryd.ntmps45
  go_wp2
  go_loopw [3] (fun i wr => ∃ k : Nat, 1 ≤ k ∧ (k ≤ zs.length ∨ k = 1) ∧ i = .int .i64 k ∧ (∀ j (h : j + 1 < zs.length), j + 1 < k → zs[j] < zs[j + 1]) ∧ Below w.heap.size w wr) (fun i _ => zs.length + 1 - (intOf i).toNat)
  case atStart => exact ⟨1, Nat.le_refl _, Or.inr rfl, rfl, fun j h h2 => by omega, Below.refl _ _⟩
  case round =>
    obtain ⟨k, hk1, hk2, rfl, hup, hb⟩ := hrel
    have HB := Lib.hid hb
    have HU := Lib.hid hup
    clear hb hup
    by_cases hlt : k < zs.length
    · obtain ⟨m, rfl⟩ : ∃ m, k = m + 1 := ⟨k - 1, by omega⟩
      obtain ⟨g, off, rfl, hg, hcl⟩ := HX.out (by omega)
      obtain ⟨x, hx⟩ : ∃ x, zs[m + 1] = x := ⟨_, rfl⟩
      obtain ⟨y, hy⟩ : ∃ y, zs[m] = y := ⟨_, rfl⟩
      have c1 := (HB.out.cell (p := ⟨g, off + (m + 1), none⟩) hg).trans (hcl (m + 1) hlt)
      have c2 := (HB.out.cell (p := ⟨g, off + m, none⟩) hg).trans (hcl m (by omega))
      rw [hx] at c1
      rw [hy] at c2
      have HXX := Lib.hid hx
      have HYY := Lib.hid hy
      have s1 : ((m : Int) + 1) < zs.length := by omega
      have s2 : (m : Int) < zs.length := by omega
      have s3 : (0 : Int) ≤ (m : Int) := by omega
      have s4 : (0 : Int) ≤ (m : Int) + 1 := by omega
      have hw1 : IntKind.i64.wrap (m : Int) = (m : Int) := by rw [IntKind.wrap_i64]; omega
      have hw2 : IntKind.i64.wrap ((m : Int) + 1 - 1) = (m : Int) := by rw [IntKind.wrap_i64]; omega
      clear hcl hx hy
      by_cases hle : x ≤ y
      · have HE : Hid (riseB zs = false) := Lib.hid (rise_no hlt (by rw [HXX.out, HYY.out]; exact hle))
        go_wp2_with fail
        go_region
        all_goals go_wp2_with fail
        all_goals go_ret
        all_goals exact ⟨bool_end HE.out.symm, HB.out.drew⟩
      · have HN : Hid (y < x) := Lib.hid (by omega)
        go_wp2_with fail
        go_region
        all_goals go_wp2_with fail
        all_goals go_roundw
        case rel =>
          refine ⟨m + 2, by omega, Or.inl (by omega), by go_num, fun j h hj => ?_, HB.out.drew⟩
          by_cases e : j = m
          · subst e
            rw [HXX.out, HYY.out]
            exact HN.out
          · exact HU.out j h (by omega)
        case measure => simp [intOf]; omega
    · have s1 : ¬ (k : Int) < zs.length := by omega
      have HE : Hid (riseB zs = true) := Lib.hid ((rise_iff zs).2 fun j h => HU.out j h (by omega))
      go_wp2
      go_ret
      exact ⟨bool_end HE.out.symm, HB.out⟩
theorem noId_any (i : Int) (w : World) : Calls Tryd.prog 79 #[.int .i64 i] w fun e w' => e = .returned (.bool (!inRange i 1 1000000000000)) ∧ w = w' := by
  go_enter Tryd.func79, Tryd.ntmps79
  go_wp2_with fail
  refine (isWithin_is i 1 1000000000000 _).mono ?_
  rintro e w' ⟨rfl, rfl⟩
  go_wp2_with fail
  go_ret
  exact ⟨rfl, by trivial⟩
end Go.Proofs.YtcaabnnkjnleeaaDoor
