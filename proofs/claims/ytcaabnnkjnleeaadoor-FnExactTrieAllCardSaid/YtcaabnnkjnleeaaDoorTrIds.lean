/- The model's look at rising numbers. No condition of its own. -/
import Derived.Test.YtcaabnnkjnleeaaDoorTrTo
import Derived.BigQuiet
namespace Go.Proofs.YtcaabnnkjnleeaaDoor
open Go.ChangeShapes Go.WideShapes Go.ChangeAt Go.WideMaps Go.WideElems Go.RowKit

def idsB (zs : List Int) : Bool := incB zs && zs.all fun i => inRange i 1 1000000000000
def idAt (zs : List Int) (j : Nat) : Prop := ∀ h : j < zs.length, inRange zs[j] 1 1000000000000 = true ∧ (0 < j → zs[j - 1] < zs[j])
def IdsUp (zs : List Int) (k : Nat) : Prop := ∀ j, j < k → idAt zs j
theorem inc_iff : ∀ zs : List Int, incB zs = true ↔ ∀ j (h : j + 1 < zs.length), zs[j] < zs[j + 1]
  | [] => by simp [incB]
  | [a] => by simp [incB]
  | a :: b :: r => by
    rw [incB, Bool.and_eq_true, decide_eq_true_eq, inc_iff (b :: r)]
    constructor
    · rintro ⟨h1, h2⟩ j h
      cases j with
      | zero => exact h1
      | succ j => exact h2 j (by simpa using h)
    · intro h
      exact ⟨h 0 (by simp), fun j hj => h (j + 1) (by simpa using hj)⟩
theorem ids_iff (zs : List Int) : idsB zs = true ↔ ∀ j, idAt zs j := by
  unfold idsB idAt
  rw [Bool.and_eq_true, inc_iff, List.all_eq_true]
  constructor
  · rintro ⟨h1, h2⟩ j h
    refine ⟨h2 _ (List.getElem_mem h), fun h0 => ?_⟩
    have := h1 (j - 1) (by omega)
    simpa only [Nat.sub_add_cancel h0] using this
  · intro h
    refine ⟨fun j hj => ?_, fun x hx => ?_⟩
    · exact (h (j + 1) hj).2 (Nat.succ_pos _)
    · obtain ⟨j, hj, rfl⟩ := List.mem_iff_getElem.1 hx
      exact (h j hj).1
theorem ids_yes {zs : List Int} {k : Nat} (h : IdsUp zs k) (hk : zs.length ≤ k) : idsB zs = true := (ids_iff zs).2 fun j hj => h j (by omega) hj
theorem ids_no {zs : List Int} {j : Nat} (h : ¬ idAt zs j) : idsB zs = false := by
  cases e : idsB zs with
  | false => rfl
  | true => exact (h ((ids_iff zs).1 e j)).elim
set_option maxHeartbeats 2000000 in
set_option maxRecDepth 100000 in
theorem specIds_any (u : Value) (zs : List Int) (A B : Nat) (z : Bool) (w : World) (hl : zs.length ≤ 1048576) (hB : B ≤ w.heap.size) (hu : IntsIn w A B z u zs) : Calls Tryd.prog 95 #[u] w fun e w' => e = .returned (.bool (idsB zs)) ∧ Below w.heap.size w w' := by
  obtain ⟨a, ca, rfl, _, _, ha⟩ := hu
  have HA := Lib.hid ha
  clear ha
  go_enter Tryd.func95, Tryd.ntmps95
  go_wp2
  go_loopw [3] (fun i wr => ∃ j : Nat, j ≤ zs.length ∧ i = .int .i64 j ∧ IdsUp zs j ∧ Below w.heap.size w wr) (fun i _ => zs.length - (intOf i).toNat)
  case atStart => exact ⟨0, Nat.zero_le _, rfl, fun j h => by omega, Below.refl _ _⟩
  case round =>
    obtain ⟨j, hj, rfl, hup, hbel⟩ := hrel
    have HX := Lib.hid hbel
    have HU := Lib.hid hup
    clear hbel hup
    by_cases hlt : j < zs.length
    · obtain ⟨g, o, rfl, _, hg2, hc⟩ := HA.out (by omega)
      obtain ⟨x, hx⟩ : ∃ x : Int, zs[j] = x := ⟨_, rfl⟩
      have c1 : wr.cell? ⟨g, o + j, none⟩ = some (.int .i64 x) := by rw [← hx]; exact (HX.out.cell (p := ⟨g, o + j, none⟩) (by show g < _; omega)).trans (hc j hlt).1
      have s1 : (j : Int) < zs.length := by omega
      cases hr : inRange x 1 1000000000000 with
      | false =>
        have HN : Hid (idsB zs = false) := Lib.hid (ids_no (j := j) fun h => by have := (h hlt).1; rw [hx, hr] at this; exact Bool.noConfusion this)
        clear hc hx
        go_wp2_with fail
        go_quiet ((first | (go_at_call 55; exact Calls.quiet_of_same ((within_any _ _ _ _).mono fun e w' h => ⟨h.1.trans (by rw [hr]), h.2.symm⟩))))
        go_wp2
        go_ret
        exact ⟨bool_end HN.out.symm, below_drewN HX.out _⟩
      | true =>
        by_cases h0 : 0 < j
        · obtain ⟨y, hy⟩ : ∃ y : Int, zs[j - 1] = y := ⟨_, rfl⟩
          have c2 : wr.cell? ⟨g, o + (j - 1), none⟩ = some (.int .i64 y) := by rw [← hy]; exact (HX.out.cell (p := ⟨g, o + (j - 1), none⟩) (by show g < _; omega)).trans (hc (j - 1) (by omega)).1
          have s2 : (0 : Int) < j := by omega
          have e1 : ((j : Int) - 1) = ((j - 1 : Nat) : Int) := by omega
          by_cases hle : x ≤ y
          · have HN : Hid (idsB zs = false) := Lib.hid (ids_no (j := j) fun h => by have := (h hlt).2 h0; rw [hx, hy] at this; omega)
            clear hc hx hy
            go_wp2_with fail
            go_quiet ((first | (go_at_call 55; exact Calls.quiet_of_same ((within_any _ _ _ _).mono fun e w' h => ⟨h.1.trans (by rw [hr]), h.2.symm⟩))))
            go_wp2
            go_ret
            exact ⟨bool_end HN.out.symm, below_drewN HX.out _⟩
          · have HI : Hid (idAt zs j) := Lib.hid fun h => ⟨by rw [hx]; exact hr, fun _ => by rw [hx, hy]; omega⟩
            clear hc hx hy
            go_wp2_with fail
            go_quiet ((first | (go_at_call 55; exact Calls.quiet_of_same ((within_any _ _ _ _).mono fun e w' h => ⟨h.1.trans (by rw [hr]), h.2.symm⟩))))
            go_wp2
            go_roundw
            case rel => exact ⟨j + 1, by omega, by go_num, fun i hi => by rcases Nat.lt_succ_iff_lt_or_eq.1 hi with h | h; exact HU.out i h; rw [h]; exact HI.out, below_drewN HX.out _⟩
            case measure => simp [intOf]; omega
        · have s2 : ¬ (0 : Int) < j := by omega
          have HI : Hid (idAt zs j) := Lib.hid fun h => ⟨by rw [hx]; exact hr, fun h => absurd h h0⟩
          clear hc hx
          go_wp2_with fail
          go_quiet ((first | (go_at_call 55; exact Calls.quiet_of_same ((within_any _ _ _ _).mono fun e w' h => ⟨h.1.trans (by rw [hr]), h.2.symm⟩))))
          go_wp2
          go_roundw
          case rel => exact ⟨j + 1, by omega, by go_num, fun i hi => by rcases Nat.lt_succ_iff_lt_or_eq.1 hi with h | h; exact HU.out i h; rw [h]; exact HI.out, below_drewN HX.out _⟩
          case measure => simp [intOf]; omega
    · have HY : Hid (idsB zs = true) := Lib.hid (ids_yes HU.out (by omega))
      have s1 : ¬ (j : Int) < zs.length := by omega
      go_wp2
      go_ret
      exact ⟨bool_end HY.out.symm, HX.out⟩
end Go.Proofs.YtcaabnnkjnleeaaDoor
