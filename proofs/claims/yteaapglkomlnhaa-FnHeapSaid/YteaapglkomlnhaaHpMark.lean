/- The laws' marks on slots, and the look whether they held. No condition of its own. -/
import Derived.Test.YteaapglkomlnhaaHpTake
namespace Go.Proofs.Yteaapglkomlnhaa
open Go.ChangeShapes Go.WideShapes Go.ChangeAt Go.WideMaps Go.WideElems Go.RowKit

/-- The marks: two a slot, counted from k on. -/
def markS (n : Nat) (k : Int) : List Sl := (List.range n).map fun j : Nat => ⟨k + 2 * (j : Int), k + 2 * (j : Int) + 1⟩
theorem markS_length (n : Nat) (k : Int) : (markS n k).length = n := by simp [markS]
theorem markS_get (n : Nat) (k : Int) (j : Nat) (h : j < n) : (markS n k)[j]! = ⟨k + 2 * j, k + 2 * j + 1⟩ := by
  rw [getElem!_pos _ j (by rw [markS_length]; exact h)]
  simp [markS]
/-- As a row: block, offset; each may be stored. -/
def RowO (w : World) (g off : Nat) (qs : List Sl) : Prop := g < w.heap.size ∧ ∀ t, t < qs.length → SlAt w g (off + t * 2) qs[t]! ∧ w.frozen? ⟨g, off + t * 2, none⟩ = false ∧ w.frozen? ⟨g, off + t * 2 + 1, none⟩ = false
def MkRel (w : World) (g off n : Nat) (k : Int) (qs : List Sl) (kv i : Value) (wr : World) : Prop :=
  ∃ j : Nat, j ≤ n ∧ i = .int .i64 j ∧ kv = .int .i64 (k + 2 * j) ∧ (∀ t, t < n → SlAt wr g (off + t * 2) (if t < j then (markS n k)[t]! else qs[t]!) ∧ wr.frozen? ⟨g, off + t * 2, none⟩ = false ∧ wr.frozen? ⟨g, off + t * 2 + 1, none⟩ = false) ∧ ButB g w wr
set_option maxRecDepth 100000 in
set_option maxHeartbeats 1000000 in
theorem markRow_any (g off cap n : Nat) (k : Int) (qs : List Sl) (w : World) (hn : qs.length = n) (hl : n ≤ 1048576) (hk0 : 0 ≤ k) (hk1 : k ≤ 10000000) (hr : 0 < n → RowO w g off qs) (a : Option Addr) (ha : 0 < n → a = some ⟨g, off, none⟩) : Calls Try.prog 18 #[.slice a n cap, .int .i64 k] w fun e w' => e = .returned (.int .i64 (k + 2 * n)) ∧ (0 < n → RowO w' g off (markS n k)) ∧ ButB g w w' := by
  have HR := Lib.hid hr
  have HA := Lib.hid ha
  clear hr ha
  go_enter Try.func18, Try.ntmps18
  go_wp2_with fail
  go_loopw [1, 5] (fun kv i wr => MkRel w g off n k qs kv i wr) (fun _ i _ => n - (intOf i).toNat)
  case atStart =>
    refine ⟨0, Nat.zero_le _, rfl, by simp, fun t ht => ?_, ButB.refl _ _⟩
    rw [if_neg (by omega)]
    exact (HR.out (by omega)).2 t (by omega)
  case round =>
    obtain ⟨j, hj, rfl, rfl, hrow, hb⟩ := hrel
    have HW := Lib.hid hrow
    have HB := Lib.hid hb
    clear hrow hb
    by_cases hlt : j < n
    · have hae := HA.out (by omega)
      subst hae
      obtain ⟨⟨c0, c1⟩, f0, f1⟩ := HW.out j hlt
      have s1 : (j : Int) < n := by omega
      obtain ⟨kk, hkk⟩ : ∃ kk, k + 2 * (j : Int) = kk := ⟨_, rfl⟩
      have hk2 : kk ≤ 20000000 := by omega
      have hk3 : 0 ≤ kk := by omega
      have HK := Lib.hid hkk
      rw [hkk]
      obtain ⟨u0, o0⟩ : ∃ u, wr.cell? ⟨g, off + j * 2, none⟩ = some u := ⟨_, c0⟩
      obtain ⟨u1, o1⟩ : ∃ u, wr.cell? ⟨g, off + j * 2 + 1, none⟩ = some u := ⟨_, c1⟩
      clear hkk c0 c1
      go_wp2_with fail
      go_roundw
      case rel =>
        show MkRel w g off n k qs _ _ (putSl wr g (off + j * 2) ⟨kk, kk + 1⟩)
        refine ⟨j + 1, by omega, by go_num, ?_, fun t ht => ?_, HB.out.put _ _⟩
        · congr 1
          have := HK.out
          omega
        · rw [putSl_frozen, putSl_frozen]
          refine ⟨?_, (HW.out t ht).2⟩
          by_cases e : t = j
          · subst e
            rw [if_pos (by omega), markS_get n k t ht, HK.out]
            exact putSl_at ⟨_, o0⟩ ⟨_, o1⟩
          · have := (HW.out t ht).1
            by_cases h2 : t < j
            · rw [if_pos h2] at this
              rw [if_pos (by omega)]
              exact putSl_keeps (by omega) this
            · rw [if_neg h2] at this
              rw [if_neg (by omega)]
              exact putSl_keeps (by omega) this
      case measure => simp [intOf]; omega
    · obtain rfl : j = n := by omega
      have s1 : ¬ (j : Int) < j := by omega
      go_wp2_with fail
      go_ret
      refine ⟨rfl, fun h0 => ?_, HB.out⟩
      refine ⟨World.block_lt_of_cell? _ _ (HW.out 0 h0).1.1, fun t ht => ?_⟩
      rw [markS_length] at ht
      have := HW.out t ht
      rw [if_pos ht] at this
      exact this
set_option maxRecDepth 100000 in
set_option maxHeartbeats 1000000 in
theorem heldRow_any (g off cap n : Nat) (k : Int) (w : World) (hl : n ≤ 1048576) (hk0 : 0 ≤ k) (hk1 : k ≤ 10000000) (hr : 0 < n → RowO w g off (markS n k)) (a : Option Addr) (ha : 0 < n → a = some ⟨g, off, none⟩) : Calls Try.prog 19 #[.slice a n cap, .int .i64 k] w fun e w' => e = .returned (.int .i64 (k + 2 * n)) ∧ w = w' := by
  have HR := Lib.hid hr
  have HA := Lib.hid ha
  clear hr ha
  go_enter Try.func19, Try.ntmps19
  go_wp2_with fail
  go_loopw [1, 5] (fun kv i wr => ∃ j : Nat, j ≤ n ∧ i = .int .i64 j ∧ kv = .int .i64 (k + 2 * j) ∧ w = wr) (fun _ i _ => n - (intOf i).toNat)
  case atStart => exact ⟨0, Nat.zero_le _, rfl, by simp, rfl⟩
  case round =>
    obtain ⟨j, hj, rfl, rfl, rfl⟩ := hrel
    by_cases hlt : j < n
    · have hae := HA.out (by omega)
      subst hae
      obtain ⟨⟨c0, c1⟩, _, _⟩ := (HR.out (by omega)).2 j (by rw [markS_length]; exact hlt)
      rw [markS_get n k j hlt] at c0 c1
      have s1 : (j : Int) < n := by omega
      obtain ⟨kk, hkk⟩ : ∃ kk, k + 2 * (j : Int) = kk := ⟨_, rfl⟩
      have hk2 : kk ≤ 20000000 := by omega
      have hk3 : 0 ≤ kk := by omega
      have HK := Lib.hid hkk
      rw [hkk] at c0 c1 ⊢
      have n1 : (kk != kk) = false := by simp
      have n2 : (kk + 1 != kk + 1) = false := by simp
      clear hkk
      go_wp2_with fail
      go_roundw
      case rel =>
        refine ⟨j + 1, by omega, by go_num, ?_, by trivial⟩
        congr 1
        have := HK.out
        omega
      case measure => simp [intOf]; omega
    · obtain rfl : j = n := by omega
      have s1 : ¬ (j : Int) < j := by omega
      go_wp2_with fail
      go_ret
      exact ⟨rfl, by trivial⟩
/-- What lies without a range of blocks stands as it stood. -/
structure Out (A B : Nat) (w w' : World) : Prop where
  b0 : Below 0 w w'
  block : ∀ k, k < w.heap.size → k < A ∨ B ≤ k → w'.heap[k]? = w.heap[k]?
theorem Out.below {A B : Nat} {w w' : World} (h : Out A B w w') (hz : A ≤ w.heap.size) : Below A w w' :=
  ⟨h.b0.os, h.b0.tape, h.b0.output, h.b0.size, fun k hk => h.block k (Nat.lt_of_lt_of_le hk hz) (Or.inl hk)⟩
theorem SlsIn.out {w w' : World} {A B A2 B2 : Nat} {z : Bool} {v : Value} {qs : List Sl} (h : SlsIn w A B z v qs) (ho : Out A2 B2 w w') (hB : B ≤ w.heap.size) (hd : B ≤ A2 ∨ B2 ≤ A) : SlsIn w' A B z v qs :=
  h.keep fun k h1 h2 => ho.block k (by omega) (by omega)
set_option maxRecDepth 100000 in
theorem mark_any (v : Value) (qs : List Sl) (A B : Nat) (k : Int) (w : World) (hl : qs.length ≤ 1048576) (hB : B ≤ w.heap.size) (hk0 : 0 ≤ k) (hk1 : k ≤ 10000000) (hv : SlsIn w A B true v qs) : Calls Try.prog 18 #[v, .int .i64 k] w fun e w' => e = .returned (.int .i64 (k + 2 * qs.length)) ∧ SlsIn w' A B true v (markS qs.length k) ∧ Out A B w w' := by
  obtain ⟨a, cap, rfl, h1, h2, hx⟩ := hv
  by_cases h0 : 0 < qs.length
  · obtain ⟨g, off, rfl, h3, h4, h5⟩ := hx h0
    have hr : RowO w g off qs := ⟨by omega, fun t ht => by
      have := h5 t ht
      rw [← getElem!_pos qs t ht] at this
      exact ⟨this.1, this.2 rfl⟩⟩
    refine (markRow_any g off cap qs.length k qs w rfl hl hk0 hk1 (fun _ => hr) _ (fun _ => rfl)).mono ?_
    rintro e w' ⟨rfl, hm, hb⟩
    refine ⟨rfl, ⟨_, cap, by rw [markS_length], by rw [markS_length]; exact h1, h2, fun _ => ⟨g, off, rfl, h3, h4, fun j hj => ?_⟩⟩, ⟨hb.b0, fun k hk ho => hb.block k hk (by omega)⟩⟩
    have := (hm h0).2 j hj
    rw [getElem!_pos _ j hj] at this
    exact ⟨this.1, fun _ => this.2⟩
  · refine (markRow_any w.heap.size 0 cap qs.length k qs w rfl hl hk0 hk1 (fun h => absurd h h0) a (fun h => absurd h h0)).mono ?_
    rintro e w' ⟨rfl, _, hb⟩
    exact ⟨rfl, ⟨a, cap, by rw [markS_length], by rw [markS_length]; exact h1, h2, fun h => by rw [markS_length] at h; exact absurd h h0⟩, ⟨hb.b0, fun k hk _ => hb.block k hk (by omega)⟩⟩
theorem held_any (v : Value) (n : Nat) (A B : Nat) (k : Int) (w : World) (hl : n ≤ 1048576) (hB : B ≤ w.heap.size) (hk0 : 0 ≤ k) (hk1 : k ≤ 10000000) (hv : SlsIn w A B true v (markS n k)) : Calls Try.prog 19 #[v, .int .i64 k] w fun e w' => e = .returned (.int .i64 (k + 2 * n)) ∧ w = w' := by
  obtain ⟨a, cap, rfl, h1, h2, hx⟩ := hv
  rw [markS_length]
  by_cases h0 : 0 < n
  · obtain ⟨g, off, rfl, h3, h4, h5⟩ := hx (by rw [markS_length]; exact h0)
    exact heldRow_any g off cap n k w hl hk0 hk1 (fun _ => ⟨by omega, fun t ht => by
      have := h5 t ht
      rw [← getElem!_pos _ t ht] at this
      exact ⟨this.1, this.2 rfl⟩⟩) _ (fun _ => rfl)
  · exact heldRow_any 0 0 cap n k w hl hk0 hk1 (fun h => absurd h h0) a (fun h => absurd h h0)
/-- A list of slots and a code are handed back. -/
def ResSl (w : World) (rs : List Sl) (c : Int) (e : Ending) (w' : World) : Prop := ∃ u, e = .returned (.tuple #[u, .int .i64 c]) ∧ SlsIn w' w.heap.size w'.heap.size true u rs ∧ Below w.heap.size w w'
theorem nil_in (w : World) (A B : Nat) (z : Bool) (a : Option Addr) (cap : Nat) (hm : cap ≤ maxLen) : SlsIn w A B z (.slice a 0 cap) [] := ⟨a, cap, rfl, Nat.zero_le _, hm, fun h => absurd h (by simp)⟩
end Go.Proofs.Yteaapglkomlnhaa
