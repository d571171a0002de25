/- HeapOK of the program: what it answers. No condition of its own. -/
import Derived.Test.YteaapglkomlnhaaHpOrd
import Derived.OwnWalk
namespace Go.Proofs.Yteaapglkomlnhaa
open Go.ChangeShapes Go.WideShapes Go.ChangeAt Go.WideMaps Go.WideElems Go.RowKit

/-- A slot within its bounds. -/
def slotB (q : Sl) : Bool := inRange q.k 0 2000000000000 && inRange q.i 1 1000000000000
theorem noSlot_any (q : Sl) (w : World) : Calls Try.prog 39 #[.agg #[.int .i64 q.k, .int .i64 q.i]] w fun e w' => e = .returned (.bool (!slotB q)) ∧ Below w.heap.size w w' := by
  have HB0 := Lib.hid ((Below.refl w.heap.size w).alloc (Nat.le_refl _) (.cells #[.int .i64 q.k, .int .i64 q.i] 33))
  go_enter Try.func39, Try.ntmps39
  go_wp2_with fail
  refine (isWithin_is q.k 0 2000000000000 _).mono ?_
  rintro e w' ⟨rfl, rfl⟩
  cases hr : inRange q.k 0 2000000000000 with
  | false =>
    go_wp2_with fail
    go_ret
    exact ⟨bool_end (by unfold slotB; rw [hr]; rfl), HB0.out⟩
  | true =>
    go_wp2_with fail
    refine (noId_any q.i _).mono ?_
    rintro e w' ⟨rfl, rfl⟩
    go_wp2_with fail
    go_ret
    exact ⟨bool_end (by unfold slotB; rw [hr]; rfl), HB0.out⟩
set_option maxRecDepth 100000 in
theorem indexNoSlot_any (v : Value) (qs : List Sl) (A B : Nat) (z : Bool) (w : World) (hl : qs.length ≤ 1048576) (hBw : B ≤ w.heap.size) (hv : SlsIn w A B z v qs) : Calls Try.prog 55 #[v, .func (.func 39) #[] #[]] w fun e w' => Below w.heap.size w w' ∧ ∃ r : Int, e = .returned (.int .i64 r) ∧ decide (r ≥ 0) = !(qs.all slotB) := by
  obtain ⟨a, cap, rfl, _, _, hx⟩ := hv
  have HX := Lib.hid hx
  clear hx
  go_enter Try.func55, Try.ntmps55
  go_wp2
  go_loopw [8] (fun i wr => ∃ k : Nat, k ≤ qs.length ∧ i = .int .i64 k ∧ Below w.heap.size w wr ∧ ∀ m (h : m < qs.length), m < k → slotB qs[m] = true) (fun i _ => qs.length - (intOf i).toNat)
  case atStart => exact ⟨0, Nat.zero_le _, rfl, Below.refl _ _, fun m _ h => by omega⟩
  case round =>
    obtain ⟨k, hk, rfl, hbel, hb⟩ := hrel
    have HB := Lib.hid hb
    have HBL := Lib.hid hbel
    clear hb hbel
    by_cases hlt : k < qs.length
    · obtain ⟨g, off, rfl, _, hg, hcl⟩ := HX.out (by omega)
      obtain ⟨q, hq⟩ : ∃ q, qs[k] = q := ⟨_, rfl⟩
      have h1 := (hcl k hlt).1.below HBL.out (by omega)
      rw [hq] at h1
      obtain ⟨c0, c1⟩ := h1
      have HXX := Lib.hid hq
      have s1 : (k : Int) < qs.length := by omega
      clear hcl hq
      go_wp2_with fail
      refine (noSlot_any q _).mono ?_
      rintro e w1 ⟨rfl, hb1⟩
      have HB1 := Lib.hid (HBL.out.trans (hb1.mono HBL.out.size))
      clear hb1 c0 c1
      cases hr : slotB q with
      | false =>
        have HR := Lib.hid hr
        clear hr
        go_wp2_with fail
        go_ret
        refine ⟨HB1.out, _, rfl, ?_⟩
        have e1 : (qs.all slotB) = false := by
          rw [List.all_eq_false]
          exact ⟨q, by rw [← HXX.out]; exact List.getElem_mem hlt, by rw [HR.out]; exact Bool.false_ne_true⟩
        rw [e1]
        simp
      | true =>
        have HR := Lib.hid hr
        clear hr
        go_wp2_with fail
        go_roundw
        case rel =>
          refine ⟨k + 1, by omega, by go_num, HB1.out, fun m h hm => ?_⟩
          by_cases e : m = k
          · subst e
            rw [HXX.out]
            exact HR.out
          · exact HB.out m h (by omega)
        case measure => simp [intOf]; omega
    · obtain rfl : k = qs.length := by omega
      go_wp2_with fail
      go_ret
      refine ⟨HBL.out, -1, rfl, ?_⟩
      have e1 : (qs.all slotB) = true := by
        rw [List.all_eq_true]
        intro x hx
        obtain ⟨m, hm, rfl⟩ := List.mem_iff_getElem.1 hx
        exact HB.out m hm hm
      rw [e1]
      simp
theorem containsNoSlot_any (v : Value) (qs : List Sl) (A B : Nat) (z : Bool) (w : World) (hl : qs.length ≤ 1048576) (hBw : B ≤ w.heap.size) (hv : SlsIn w A B z v qs) : Calls Try.prog 38 #[v, .func (.func 39) #[] #[]] w fun e w' => e = .returned (.bool (!(qs.all slotB))) ∧ Below w.heap.size w w' := by
  obtain ⟨a, cap, rfl, _⟩ := id hv
  have HV := Lib.hid hv
  clear hv
  go_enter Try.func38, Try.ntmps38
  go_wp2_with fail
  refine (indexNoSlot_any _ qs A B z w hl hBw HV.out).mono ?_
  rintro e w1 ⟨hb, r, rfl, hr⟩
  have HB := Lib.hid hb
  clear hb
  go_wp2_with fail
  go_ret
  exact ⟨rfl, HB.out⟩
theorem below_owned {w wr w1 : World} {o : Obj} {v : Value} {base e size n : Nat} {xs : List Value} (hb : Below w.heap.size w wr) (hown : wr.ownsRow base e size v n xs) (hbase : w.heap.size ≤ base) (hg : (wr.alloc o).grownBy w1 v.ownBlock) : Below w.heap.size w w1 := by
  refine (hb.alloc hb.size o).grown hg (by have := hb.size; simp; omega) fun k hk => ?_
  obtain ⟨_, h | ⟨g, cap, cur, rfl, hge, _⟩⟩ := hown
  · obtain ⟨rfl, _⟩ := h
    cases hk
  · cases hk
    exact Nat.le_trans hbase hge
theorem nums_of_row {w : World} {base : Nat} {e : TypeId} {v : Value} {zs : List Int} (h : w.ownsRow base e 1 v zs.length (zs.map (Value.int .i64))) : NumsIn w v zs := by
  rcases row_holds h with ⟨rfl, hz⟩ | ⟨g, cap, rfl, _, hg, hH⟩
  · exact ⟨none, 0, by rw [hz], fun h0 => by omega⟩
  · refine ⟨_, _, rfl, fun _ => ⟨g, 0, rfl, hg, fun j hj => ?_⟩⟩
    have := (hH j (by simpa using hj)).1
    rw [this]
    simp [hj]
set_option maxRecDepth 100000 in
set_option maxHeartbeats 1000000 in
theorem slotIds_any (v : Value) (qs : List Sl) (A B : Nat) (z : Bool) (w : World) (hl : qs.length ≤ 1048576) (hBw : B ≤ w.heap.size) (hv : SlsIn w A B z v qs) : Calls Try.prog 41 #[v] w fun e w' => ∃ u, e = .returned u ∧ NumsIn w' u (qs.map (·.i)) ∧ Below w.heap.size w w' := by
  obtain ⟨i0, hi, hz0, hz1, hz2⟩ := info_parts info_int
  obtain ⟨a, cap, rfl, _, _, hx⟩ := hv
  have HX := Lib.hid hx
  clear hx
  go_enter Try.func41, Try.ntmps41
  go_wp2
  go_loopw [3, 8] (fun out i wr => ∃ k : Nat, k ≤ qs.length ∧ i = .int .i64 k ∧ wr.ownsRow w.heap.size 3 1 out k (((qs.map (·.i)).take k).map (Value.int .i64)) ∧ Below w.heap.size w wr) (fun _ i _ => qs.length - (intOf i).toNat)
  case atStart => exact ⟨0, Nat.zero_le _, rfl, World.ownsRow_nil _ _ _ _, Below.refl _ _⟩
  case round =>
    obtain ⟨k, hk, rfl, hown, hbel⟩ := hrel
    have HBL := Lib.hid hbel
    have HO := Lib.hid hown
    clear hbel hown
    by_cases hlt : k < qs.length
    · obtain ⟨g, off, rfl, _, hg, hcl⟩ := HX.out (by omega)
      obtain ⟨q, hq⟩ : ∃ q, qs[k] = q := ⟨_, rfl⟩
      have h1 := (hcl k hlt).1.below HBL.out (by omega)
      rw [hq] at h1
      obtain ⟨c0, c1⟩ := h1
      have HXX := Lib.hid hq
      have s1 : (k : Int) < qs.length := by omega
      have HT : Hid (((qs.map (·.i)).take (k + 1)).map (Value.int .i64) = ((qs.map (·.i)).take k).map (Value.int .i64) ++ [.int .i64 q.i]) := Lib.hid (by
        rw [List.take_succ_eq_append_getElem (by simpa using hlt), List.map_append]
        simp [hq])
      clear hcl hq
      have hb1 := HBL.out.alloc HBL.out.size (.cells #[.int .i64 q.k, .int .i64 q.i] 33)
      have HB1 := Lib.hid hb1
      have HO1 := Lib.hid (HO.out.alloc (.cells #[.int .i64 q.k, .int .i64 q.i] 33))
      clear hb1
      go_wp2_with (at_builtin; refine wpList_append_own _ rfl (.tmp 12) (.tmp 15) 42 rfl w.heap.size 3 i0 (.int .i64 0) 1 8 Try.underlying42 hi hz0 hz1 hz2 rfl (by decide) _ _ _ rfl (HO1.out.alloc _) ⟨wr.heap.size + 1, 0, none⟩ 1 1 [.int .i64 q.i] rfl rfl ?c1 ?c2 ?c3 ?c4 ?c5 ?_; rotate_left 5; intro v' w1 hown' hgrow _)
      case c2 => simp [Value.oneCell']
      case c3 => unfold maxLen; omega
      case c4 => omega
      case c5 => have := HB1.out.size; simp at this ⊢; omega
      go_roundw
      case rel => exact ⟨k + 1, by omega, by go_num, by rw [HT.out]; exact hown', below_owned HB1.out HO1.out (Nat.le_refl _) hgrow⟩
      case measure => simp [intOf]; omega
    · obtain rfl : k = qs.length := by omega
      have HN : Hid (NumsIn wr _ (qs.map (·.i))) := Lib.hid (nums_of_row (by
        have := HO.out
        rw [List.take_of_length_le (by simp)] at this
        rw [List.length_map]
        exact this))
      go_wp2
      go_ret
      exact ⟨_, rfl, HN.out, HBL.out⟩
end Go.Proofs.Yteaapglkomlnhaa
