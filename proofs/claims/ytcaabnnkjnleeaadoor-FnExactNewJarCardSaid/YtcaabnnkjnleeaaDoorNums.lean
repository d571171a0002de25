/- Rows of numbers: compared, marked and looked at by the laws' helpers (what XHpInt says, without slots). No condition of its own. -/
import Derived.Test.YtcaabnnkjnleeaaDoorTrTo
namespace Go.Proofs.YtcaabnnkjnleeaaDoor
open Go.ChangeShapes Go.WideShapes Go.ChangeAt Go.WideMaps Go.WideElems Go.RowKit

theorem cell_put_ne {w : World} {B o t : Nat} {u : Value} (h : o ≠ t) : (w.setCell ⟨B, o, none⟩ u).cell? ⟨B, t, none⟩ = w.cell? ⟨B, t, none⟩ := World.cell?_setCell_other _ _ _ _ (fun e => h (by injection e))
theorem cell_put_eq {w : World} {B o : Nat} {u old : Value} (h : w.cell? ⟨B, o, none⟩ = some old) : (w.setCell ⟨B, o, none⟩ u).cell? ⟨B, o, none⟩ = some u := World.cell?_setCell_same _ _ _ h
structure ButB (g : Nat) (w w' : World) : Prop where
  b0 : Below 0 w w'
  block : ∀ k, k < w.heap.size → k ≠ g → w'.heap[k]? = w.heap[k]?
theorem ButB.refl (g : Nat) (w : World) : ButB g w w := ⟨Below.refl _ _, fun _ _ _ => rfl⟩
theorem ButB.trans {g : Nat} {a b c : World} (h : ButB g a b) (k : ButB g b c) : ButB g a c :=
  ⟨h.b0.trans k.b0, fun j h1 h2 => (k.block j (Nat.lt_of_lt_of_le h1 h.b0.size) h2).trans (h.block j h1 h2)⟩
structure Out (A B : Nat) (w w' : World) : Prop where
  b0 : Below 0 w w'
  block : ∀ k, k < w.heap.size → k < A ∨ B ≤ k → w'.heap[k]? = w.heap[k]?
theorem Out.below {A B : Nat} {w w' : World} (h : Out A B w w') (hz : A ≤ w.heap.size) : Below A w w' :=
  ⟨h.b0.os, h.b0.tape, h.b0.output, h.b0.size, fun k hk => h.block k (Nat.lt_of_lt_of_le hk hz) (Or.inl hk)⟩
/-- v reads as these numbers, in a block from A on and below B; z: each of them may be stored. -/
def NmIn (w : World) (A B : Nat) (z : Bool) (v : Value) (zs : List Int) : Prop :=
  ∃ a cap, v = .slice a zs.length cap ∧ zs.length ≤ cap ∧ cap ≤ maxLen ∧ (0 < zs.length → ∃ g off, a = some ⟨g, off, none⟩ ∧ A ≤ g ∧ g < B ∧ ∀ j (hj : j < zs.length), w.cell? ⟨g, off + j, none⟩ = some (.int .i64 zs[j]) ∧ (z = true → w.frozen? ⟨g, off + j, none⟩ = false))
theorem NmIn.keep {w w' : World} {A B : Nat} {z : Bool} {v : Value} {zs : List Int} (h : NmIn w A B z v zs) (hk : ∀ k, A ≤ k → k < B → w'.heap[k]? = w.heap[k]?) : NmIn w' A B z v zs := by
  obtain ⟨a, cap, rfl, h1, h2, h3⟩ := h
  refine ⟨a, cap, rfl, h1, h2, fun h0 => ?_⟩
  obtain ⟨g, off, rfl, h4, h5, h6⟩ := h3 h0
  exact ⟨g, off, rfl, h4, h5, fun j hj => ⟨by rw [World.cell?, hk g h4 h5]; exact (h6 j hj).1, fun hz => by rw [World.frozen?, hk g h4 h5]; exact (h6 j hj).2 hz⟩⟩
theorem NmIn.below {w w' : World} {A B C : Nat} {z : Bool} {v : Value} {zs : List Int} (h : NmIn w A B z v zs) (hb : Below C w w') (hC : B ≤ C) : NmIn w' A B z v zs := h.keep fun k _ h2 => hb.block k (by omega)
theorem NmIn.out {w w' : World} {A B A2 B2 : Nat} {z : Bool} {v : Value} {zs : List Int} (h : NmIn w A B z v zs) (ho : Out A2 B2 w w') (hB : B ≤ w.heap.size) (hd : B ≤ A2 ∨ B2 ≤ A) : NmIn w' A B z v zs :=
  h.keep fun k h1 h2 => ho.block k (by omega) (by omega)
theorem NmIn.more {w : World} {A A' B B' : Nat} {z : Bool} {v : Value} {zs : List Int} (h : NmIn w A B z v zs) (hA : A' ≤ A) (hB : B ≤ B') : NmIn w A' B' z v zs := by
  obtain ⟨a, cap, rfl, h1, h2, h3⟩ := h
  refine ⟨a, cap, rfl, h1, h2, fun h0 => ?_⟩
  obtain ⟨g, off, rfl, h4, h5, h6⟩ := h3 h0
  exact ⟨g, off, rfl, by omega, by omega, h6⟩
theorem nilNm_in (w : World) (A B : Nat) (z : Bool) (a : Option Addr) (cap : Nat) (hm : cap ≤ maxLen) : NmIn w A B z (.slice a 0 cap) [] := ⟨a, cap, rfl, Nat.zero_le _, hm, fun h => absurd h (by simp)⟩
set_option maxRecDepth 100000 in
theorem eqNums_any (u v : Value) (A B A2 B2 : Nat) (z z2 : Bool) (zs : List Int) (w : World) (hl : zs.length ≤ 1048576) (hB : B ≤ w.heap.size) (hB2 : B2 ≤ w.heap.size) (hu : NmIn w A B z u zs) (hv : NmIn w A2 B2 z2 v zs) : Calls Tryd.prog 16 #[u, v] w fun e w' => e = .returned (.bool true) ∧ Below w.heap.size w w' := by
  obtain ⟨a, cap, rfl, _, _, hx⟩ := hu
  obtain ⟨a2, cap2, rfl, _, _, hx2⟩ := hv
  have HX := Lib.hid hx
  have HX2 := Lib.hid hx2
  clear hx hx2
  have hne : ((zs.length : Int) != (zs.length : Int)) = false := by simp
  go_enter Tryd.func16, Tryd.ntmps16
  go_wp2_with fail
  go_loopw [5] (fun i wr => ∃ k : Nat, k ≤ zs.length ∧ i = .int .i64 k ∧ Below w.heap.size w wr) (fun i _ => zs.length - (intOf i).toNat)
  case atStart => exact ⟨0, Nat.zero_le _, rfl, Below.refl _ _⟩
  case round =>
    obtain ⟨k, hk, rfl, hb⟩ := hrel
    have HB := Lib.hid hb
    clear hb
    by_cases hlt : k < zs.length
    · obtain ⟨g, off, rfl, _, hg, hcl⟩ := HX.out (by omega)
      obtain ⟨g2, off2, rfl, _, hg2, hcl2⟩ := HX2.out (by omega)
      obtain ⟨q, hq⟩ : ∃ q, zs[k] = q := ⟨_, rfl⟩
      have c1 := (HB.out.cell (p := ⟨g, off + k, none⟩) (by show g < _; omega)).trans (hcl k hlt).1
      have c2 := (HB.out.cell (p := ⟨g2, off2 + k, none⟩) (by show g2 < _; omega)).trans (hcl2 k hlt).1
      rw [hq] at c1 c2
      have s1 : (k : Int) < zs.length := by omega
      have s0 : (0 : Int) ≤ (k : Int) := by omega
      have nq : (q != q) = false := by simp
      clear hcl hcl2 hq
      go_wp2_with fail
      go_region
      all_goals go_wp2_with fail
      all_goals go_roundw
      case rel => exact ⟨k + 1, by omega, by go_num, HB.out.drew⟩
      case measure => simp [intOf]; omega
    · obtain rfl : k = zs.length := by omega
      go_wp2_with fail
      go_ret
      exact ⟨rfl, HB.out⟩
/-- The marks: one a number, counted from k on. -/
def markI (n : Nat) (k : Int) : List Int := (List.range n).map fun j : Nat => k + (j : Int)
theorem markI_length (n : Nat) (k : Int) : (markI n k).length = n := by simp [markI]
theorem markI_get (n : Nat) (k : Int) (j : Nat) (h : j < n) : (markI n k)[j]! = k + (j : Int) := by
  rw [getElem!_pos _ j (by rw [markI_length]; exact h)]
  simp [markI]
def RowI (w : World) (g off : Nat) (zs : List Int) : Prop := g < w.heap.size ∧ ∀ t, t < zs.length → w.cell? ⟨g, off + t, none⟩ = some (.int .i64 zs[t]!) ∧ w.frozen? ⟨g, off + t, none⟩ = false
def MiRel (w : World) (g off n : Nat) (k : Int) (zs : List Int) (kv i : Value) (wr : World) : Prop :=
  ∃ j : Nat, j ≤ n ∧ i = .int .i64 j ∧ kv = .int .i64 (k + j) ∧ (∀ t, t < n → wr.cell? ⟨g, off + t, none⟩ = some (.int .i64 (if t < j then (markI n k)[t]! else zs[t]!)) ∧ wr.frozen? ⟨g, off + t, none⟩ = false) ∧ ButB g w wr
theorem ButB.cell {g : Nat} {a w : World} (h : ButB g a w) (o : Nat) (u : Value) : ButB g a (w.setCell ⟨g, o, none⟩ u) :=
  ⟨h.b0.setCell (p := ⟨g, o, none⟩) (Nat.zero_le _) u, fun k hk hg => by
    rw [Below.heap_setCell _ _ _ _ hg]
    exact h.block k hk hg⟩
set_option maxRecDepth 100000 in
set_option maxHeartbeats 1000000 in
theorem markRowI_any (g off cap n : Nat) (k : Int) (zs : List Int) (w : World) (hn : zs.length = n) (hl : n ≤ 1048576) (hk0 : 0 ≤ k) (hk1 : k ≤ 10000000) (hr : 0 < n → RowI w g off zs) (a : Option Addr) (ha : 0 < n → a = some ⟨g, off, none⟩) : Calls Tryd.prog 18 #[.slice a n cap, .int .i64 k] w fun e w' => e = .returned (.int .i64 (k + n)) ∧ (0 < n → RowI w' g off (markI n k)) ∧ ButB g w w' := by
  have HR := Lib.hid hr
  have HA := Lib.hid ha
  have HN := Lib.hid hn
  clear hr ha hn
  go_enter Tryd.func18, Tryd.ntmps18
  go_wp2_with fail
  go_loopw [1, 5] (fun kv i wr => MiRel w g off n k zs kv i wr) (fun _ i _ => n - (intOf i).toNat)
  case atStart =>
    refine ⟨0, Nat.zero_le _, rfl, by simp, fun t ht => ?_, ButB.refl _ _⟩
    rw [if_neg (by omega)]
    exact (HR.out (by omega)).2 t (by rw [HN.out]; exact ht)
  case round =>
    obtain ⟨j, hj, rfl, rfl, hrow, hb⟩ := hrel
    have HW := Lib.hid hrow
    have HB := Lib.hid hb
    clear hrow hb
    by_cases hlt : j < n
    · have hae := HA.out (by omega)
      subst hae
      obtain ⟨c0, f0⟩ := HW.out j hlt
      have s1 : (j : Int) < n := by omega
      obtain ⟨kk, hkk⟩ : ∃ kk, k + (j : Int) = kk := ⟨_, rfl⟩
      have hk2 : kk ≤ 20000000 := by omega
      have hk3 : 0 ≤ kk := by omega
      have HK := Lib.hid hkk
      rw [hkk]
      obtain ⟨u0, o0⟩ : ∃ u, wr.cell? ⟨g, off + j, none⟩ = some u := ⟨_, c0⟩
      clear hkk c0
      go_wp2_with fail
      go_roundw
      case rel =>
        refine ⟨j + 1, by omega, by go_num, ?_, fun t ht => ?_, HB.out.cell _ _⟩
        · congr 1
          have := HK.out
          omega
        · rw [World.frozen?_setCell]
          refine ⟨?_, (HW.out t ht).2⟩
          by_cases e : t = j
          · subst e
            rw [if_pos (by omega), markI_get n k t ht, HK.out]
            exact cell_put_eq o0
          · have := (HW.out t ht).1
            rw [cell_put_ne (by omega)]
            by_cases h2 : t < j
            · rw [if_pos h2] at this
              rw [if_pos (by omega)]
              exact this
            · rw [if_neg h2] at this
              rw [if_neg (by omega)]
              exact this
      case measure => simp [intOf]; omega
    · obtain rfl : j = n := by omega
      have s1 : ¬ (j : Int) < j := by omega
      go_wp2_with fail
      go_ret
      refine ⟨rfl, fun h0 => ?_, HB.out⟩
      refine ⟨World.block_lt_of_cell? _ _ (HW.out 0 h0).1, fun t ht => ?_⟩
      rw [markI_length] at ht
      have := HW.out t ht
      rw [if_pos ht] at this
      exact this
set_option maxRecDepth 100000 in
set_option maxHeartbeats 1000000 in
theorem heldRowI_any (g off cap n : Nat) (k : Int) (w : World) (hl : n ≤ 1048576) (hk0 : 0 ≤ k) (hk1 : k ≤ 10000000) (hr : 0 < n → RowI w g off (markI n k)) (a : Option Addr) (ha : 0 < n → a = some ⟨g, off, none⟩) : Calls Tryd.prog 19 #[.slice a n cap, .int .i64 k] w fun e w' => e = .returned (.int .i64 (k + n)) ∧ w = w' := by
  have HR := Lib.hid hr
  have HA := Lib.hid ha
  clear hr ha
  go_enter Tryd.func19, Tryd.ntmps19
  go_wp2_with fail
  go_loopw [1, 5] (fun kv i wr => ∃ j : Nat, j ≤ n ∧ i = .int .i64 j ∧ kv = .int .i64 (k + j) ∧ w = wr) (fun _ i _ => n - (intOf i).toNat)
  case atStart => exact ⟨0, Nat.zero_le _, rfl, by simp, rfl⟩
  case round =>
    obtain ⟨j, hj, rfl, rfl, rfl⟩ := hrel
    by_cases hlt : j < n
    · have hae := HA.out (by omega)
      subst hae
      obtain ⟨c0, _⟩ := (HR.out (by omega)).2 j (by rw [markI_length]; exact hlt)
      rw [markI_get n k j hlt] at c0
      have s1 : (j : Int) < n := by omega
      obtain ⟨kk, hkk⟩ : ∃ kk, k + (j : Int) = kk := ⟨_, rfl⟩
      have hk2 : kk ≤ 20000000 := by omega
      have hk3 : 0 ≤ kk := by omega
      have HK := Lib.hid hkk
      rw [hkk] at c0 ⊢
      have n1 : (kk != kk) = false := by simp
      clear hkk
      go_wp2_with fail
      go_roundw
      case rel =>
        refine ⟨j + 1, by omega, by go_num, ?_, by trivial⟩
        congr 1
        have := HK.out
        omega
      case measure => simp [intOf]; omega
    · obtain rfl : j = n := by omega
      have s1 : ¬ (j : Int) < j := by omega
      go_wp2_with fail
      go_ret
      exact ⟨rfl, by trivial⟩
theorem markI_any (v : Value) (zs : List Int) (A B : Nat) (k : Int) (w : World) (hl : zs.length ≤ 1048576) (hB : B ≤ w.heap.size) (hk0 : 0 ≤ k) (hk1 : k ≤ 10000000) (hv : NmIn w A B true v zs) : Calls Tryd.prog 18 #[v, .int .i64 k] w fun e w' => e = .returned (.int .i64 (k + zs.length)) ∧ NmIn w' A B true v (markI zs.length k) ∧ Out A B w w' := by
  obtain ⟨a, cap, rfl, h1, h2, hx⟩ := hv
  by_cases h0 : 0 < zs.length
  · obtain ⟨g, off, rfl, h3, h4, h5⟩ := hx h0
    have hr : RowI w g off zs := ⟨by omega, fun t ht => by
      have := h5 t ht
      rw [← getElem!_pos zs t ht] at this
      exact ⟨this.1, this.2 rfl⟩⟩
    refine (markRowI_any g off cap zs.length k zs w rfl hl hk0 hk1 (fun _ => hr) _ (fun _ => rfl)).mono ?_
    rintro e w' ⟨rfl, hm, hb⟩
    refine ⟨rfl, ⟨_, cap, by rw [markI_length], by rw [markI_length]; exact h1, h2, fun _ => ⟨g, off, rfl, h3, h4, fun j hj => ?_⟩⟩, ⟨hb.b0, fun k hk ho => hb.block k hk (by omega)⟩⟩
    have := (hm h0).2 j hj
    rw [getElem!_pos _ j hj] at this
    exact ⟨this.1, fun _ => this.2⟩
  · refine (markRowI_any w.heap.size 0 cap zs.length k zs w rfl hl hk0 hk1 (fun h => absurd h h0) a (fun h => absurd h h0)).mono ?_
    rintro e w' ⟨rfl, _, hb⟩
    exact ⟨rfl, ⟨a, cap, by rw [markI_length], by rw [markI_length]; exact h1, h2, fun h => by rw [markI_length] at h; exact absurd h h0⟩, ⟨hb.b0, fun k hk _ => hb.block k hk (by omega)⟩⟩
theorem heldI_any (v : Value) (n : Nat) (A B : Nat) (k : Int) (w : World) (hl : n ≤ 1048576) (hB : B ≤ w.heap.size) (hk0 : 0 ≤ k) (hk1 : k ≤ 10000000) (hv : NmIn w A B true v (markI n k)) : Calls Tryd.prog 19 #[v, .int .i64 k] w fun e w' => e = .returned (.int .i64 (k + n)) ∧ w = w' := by
  obtain ⟨a, cap, rfl, h1, h2, hx⟩ := hv
  rw [markI_length]
  by_cases h0 : 0 < n
  · obtain ⟨g, off, rfl, h3, h4, h5⟩ := hx (by rw [markI_length]; exact h0)
    exact heldRowI_any g off cap n k w hl hk0 hk1 (fun _ => ⟨by omega, fun t ht => by
      have := h5 t ht
      rw [← getElem!_pos _ t ht] at this
      exact ⟨this.1, this.2 rfl⟩⟩) _ (fun _ => rfl)
  · exact heldRowI_any 0 0 cap n k w hl hk0 hk1 (fun h => absurd h h0) a (fun h => absurd h h0)
end Go.Proofs.YtcaabnnkjnleeaaDoor
