/- The laws' own helpers over lists of texts: when two are held equal, how one is written over with marks, and that the marks stand. Fewer than a million marks. -/
import Derived.Test.YtcaabnnkjnleeaaDoorCut
import Derived.Deep.RegionHeld3
import Derived.Deep.QuietTactic
import Derived.BigQuiet
import Derived.RegionTactic
import Derived.Laws.IdiomStrings
import Derived.Lib.BufferRead
namespace Go.Proofs.YtcaabnnkjnleeaaDoor
open Go.ChangeShapes Go.WideShapes Go.ChangeAt Go.WideMaps Go.WideElems Go.RowKit

theorem grown_of_below {w w' : World} (h : Below w.heap.size w w') (row : Option Nat) : w.grownBy w' row := ⟨h.os, h.tape, h.output, h.size, fun k hk _ => h.block k hk⟩
theorem grown_then {a b c : World} {r : Option Nat} (h : a.grownBy b r) (k : b.grownBy c r) : a.grownBy c r :=
  ⟨k.os.trans h.os, k.tape.trans h.tape, k.output.trans h.output, Nat.le_trans h.size k.size, fun i hi hr => (k.block i (Nat.lt_of_lt_of_le hi h.size) hr).trans (h.block i hi hr)⟩
theorem grown_self (w : World) (r : Option Nat) : w.grownBy w r := ⟨rfl, rfl, rfl, Nat.le_refl _, fun _ _ _ => rfl⟩
theorem grown_put (w : World) (b i : Nat) (v : Value) : w.grownBy (w.setCell ⟨b, i, none⟩ v) (some b) :=
  ⟨rfl, rfl, rfl, by simp [World.setCell], fun k _ hr => Below.heap_setCell _ _ _ _ (fun e => hr (by rw [e]))⟩
/-- The digits of k before acc. -/
def mk (k : Nat) (acc : List UInt8) : List UInt8 := if h : k = 0 then acc else mk (k / 10) (UInt8.ofNat (48 + k % 10) :: acc)
  termination_by k
  decreasing_by omega
theorem mk_step {k : Nat} (h : 0 < k) (acc : List UInt8) : mk k acc = mk (k / 10) (UInt8.ofNat (48 + k % 10) :: acc) := by
  rw [mk, dif_neg (by omega)]
theorem mk_zero (acc : List UInt8) : mk 0 acc = acc := by rw [mk, dif_pos rfl]
/-- The mark of a number. -/
def mL (k : Nat) : List UInt8 := 109 :: mk k []
def mT (k : Nat) : ByteArray := ⟨(mL k).toArray⟩
theorem mT_str (k : Nat) : Value.string (mT k) = strV (mL k) := rfl
theorem digit_byte (k : Nat) (c : UInt8) (hc : (c.toNat : Int) = 48 + (k : Int) % 10) : ∀ W' : World, (convert 98 9 (.slice (some ⟨W'.heap.size, 0, none⟩) 1 1)).run Tryd.prog (W'.alloc (.cells #[.int .u8 (48 + (k : Int) % 10)] 5)) = .ok (.string ⟨#[c]⟩) (W'.alloc (.cells #[.int .u8 (48 + (k : Int) % 10)] 5)) := fun W' =>
  run_convert_bytes_back (P := Tryd.prog) _ 98 9 5 ⟨W'.heap.size, 0, none⟩ 1 [c] Tryd.underlying98 Tryd.underlying5 Tryd.underlying9 (fun j hj => by
    obtain rfl : j = 0 := by simp at hj; exact hj
    rw [cell_off, World.cell?_alloc_at _ _ _ _ rfl, ← hc]
    rfl)
def MarkRel (w : World) (k0 : Nat) (k out : Value) (wr : World) : Prop :=
  ∃ (k' : Nat) (acc : List UInt8), k = .int .i64 k' ∧ out = .string ⟨acc.toArray⟩ ∧ mk k' acc = mk k0 [] ∧ acc.length + k' ≤ k0 ∧ Below w.heap.size w wr
theorem app_one (b : UInt8) (acc : List UInt8) : (⟨#[b]⟩ ++ ⟨acc.toArray⟩ : ByteArray) = ⟨(b :: acc).toArray⟩ := by
  apply bytes_inj
  simp
theorem markText_any (k : Nat) (w : World) (h0 : 0 < k) (h1 : k ≤ 1000000) : Calls Tryd.prog 61 #[.int .i64 k] w fun e w' => e = .returned (.string (mT k)) ∧ Below w.heap.size w w' := by
  go_enter Tryd.func61, Tryd.ntmps61
  go_wp2
  go_loopw [0, 3] (fun v out wr => MarkRel w k v out wr) (fun v _ _ => (intOf v).toNat)
  case atStart => exact ⟨k, [], rfl, rfl, rfl, by simp, Below.refl _ _⟩
  case round =>
    obtain ⟨k', acc, rfl, rfl, hmk, hle, hb⟩ := hrel
    have HM := Lib.hid hmk
    have HB := Lib.hid hb
    have hacc : (⟨acc.toArray⟩ : ByteArray).size ≤ 1000000 := by show acc.toArray.size ≤ _; rw [List.size_toArray]; omega
    clear hmk hb
    by_cases hk : 0 < k'
    · obtain ⟨c, hc⟩ : ∃ c : UInt8, c = UInt8.ofNat (48 + k' % 10) := ⟨_, rfl⟩
      have hcv := digit_byte k' c (by rw [hc]; simp; omega)
      have HC := Lib.hid hc
      clear hc
      have hm1 : (0 : Int) ≤ (k' : Int) % 10 := by omega
      have hm2 : (k' : Int) % 10 < 10 := by omega
      go_wp2
      go_roundw
      case rel => exact ⟨k' / 10, UInt8.ofNat (48 + k' % 10) :: acc, by go_num, by refine congrArg Value.string (bytes_inj ?_); simp [HC.out], by rw [← mk_step hk]; exact HM.out, by simp; omega, HB.out.alloc HB.out.size _⟩
      case measure => simp [intOf]; omega
    · have hk2 : k' ≤ 0 := by omega
      have HE : Hid (acc = mk k []) := by
        show _ = _
        rw [← HM.out, show k' = 0 by omega, mk_zero]
      go_wp2
      go_ret
      refine ⟨?_, HB.out⟩
      refine congrArg (fun s => Ending.returned (Value.string s)) (bytes_inj ?_)
      rw [HE.out]
      simp [mT, mL]
/-- A row of texts, perhaps none: in a block not below B, not frozen. -/
def RowT (w : World) (B : Nat) (v : Value) (ps : List (List UInt8)) : Prop :=
  ∃ a cap, v = .slice a ps.length cap ∧ (0 < ps.length → ∃ g, a = some ⟨g, 0, none⟩ ∧ B ≤ g ∧ g < w.heap.size ∧ (∀ j, j < ps.length → w.frozen? ⟨g, j, none⟩ = false) ∧ ∀ j (hj : j < ps.length), w.cell? ⟨g, j, none⟩ = some (strV ps[j]))
theorem RowT.of_texts {w : World} {B : Nat} {v : Value} {ps : List (List UInt8)} (h : TextsIn w B v ps) : RowT w B v ps := by
  obtain ⟨g, cap, rfl, h1, h2, _, _, h5, h6⟩ := h
  exact ⟨_, cap, rfl, fun _ => ⟨g, rfl, h1, h2, h5, h6⟩⟩
theorem RowT.empty (w : World) (B : Nat) (a : Option Addr) (cap : Nat) : RowT w B (.slice a 0 cap) [] := ⟨a, cap, rfl, fun h => absurd h (by simp)⟩
theorem RowT.grown {w w' : World} {B : Nat} {v : Value} {ps : List (List UInt8)} {r : Option Nat} (h : RowT w B v ps) (hg : w.grownBy w' r) (hr : ∀ g, r = some g → ps.length = 0 ∨ v.ownBlock ≠ some g) : RowT w' B v ps := by
  obtain ⟨a, cap, rfl, h⟩ := h
  refine ⟨a, cap, rfl, fun h0 => ?_⟩
  obtain ⟨g, rfl, h1, h2, h3, h4⟩ := h h0
  have hb : w'.heap[g]? = w.heap[g]? := hg.block g h2 (fun e => by
    rcases hr g e.symm with h5 | h5
    · omega
    · exact h5 rfl)
  exact ⟨g, rfl, h1, Nat.lt_of_lt_of_le h2 hg.size, fun j hj => (World.frozen?_of_block (a := ⟨g, j, none⟩) hb).trans (h3 j hj), fun j hj => (World.cell?_of_block (a := ⟨g, j, none⟩) hb).trans (h4 j hj)⟩
theorem RowT.below {w w' : World} {B : Nat} {v : Value} {ps : List (List UInt8)} (h : RowT w B v ps) (hb : Below w.heap.size w w') : RowT w' B v ps := h.grown (grown_of_below hb none) (fun _ h => by cases h)
theorem RowT.more {w : World} {B B' : Nat} {v : Value} {ps : List (List UInt8)} (h : RowT w B v ps) (hB : B' ≤ B) : RowT w B' v ps := by
  obtain ⟨a, cap, rfl, h⟩ := h
  exact ⟨a, cap, rfl, fun h0 => by
    obtain ⟨g, rfl, h1, h2⟩ := h h0
    exact ⟨g, rfl, by omega, h2⟩⟩
theorem eqStrings_any (va vb : Value) (ps : List (List UInt8)) (B C : Nat) (w : World) (hl : ps.length ≤ 1048576) (ha : RowT w B va ps) (hb : RowT w C vb ps) : Calls Tryd.prog 29 #[va, vb] w fun e w' => e = .returned (.bool true) ∧ Below w.heap.size w w' := by
  obtain ⟨a, ca, rfl, ha⟩ := ha
  obtain ⟨b, cb, rfl, hb⟩ := hb
  have HA := Lib.hid ha
  have HB := Lib.hid hb
  clear ha hb
  go_enter Tryd.func29, Tryd.ntmps29
  go_wp2
  go_loopw [5] (fun i wr => ∃ j : Nat, j ≤ ps.length ∧ i = .int .i64 j ∧ Below w.heap.size w wr) (fun i _ => ps.length - (intOf i).toNat)
  case atStart => exact ⟨0, Nat.zero_le _, rfl, Below.refl _ _⟩
  case round =>
    obtain ⟨j, hj, rfl, hbel⟩ := hrel
    have HX := Lib.hid hbel
    clear hbel
    by_cases hlt : j < ps.length
    · obtain ⟨g, rfl, _, hg2, _, hc⟩ := HA.out (by omega)
      obtain ⟨g', rfl, _, hg2', _, hc'⟩ := HB.out (by omega)
      obtain ⟨u, hu⟩ : ∃ u : ByteArray, strV ps[j] = .string u := ⟨_, rfl⟩
      have c1 : wr.cell? ⟨g, j, none⟩ = some (.string u) := by rw [← hu]; exact (HX.out.cell (p := ⟨g, j, none⟩) hg2).trans (hc j hlt)
      have c2 : wr.cell? ⟨g', j, none⟩ = some (.string u) := by rw [← hu]; exact (HX.out.cell (p := ⟨g', j, none⟩) hg2').trans (hc' j hlt)
      have e1 : (u.toList == u.toList) = true := by simp
      have e2 : (u.toList != u.toList) = false := by simp
      have s1 : (j : Int) < ps.length := by omega
      clear hc hc' hu
      go_wp2
      go_quiet (fail)
      go_wp2
      go_roundw
      case rel => exact ⟨j + 1, by omega, by go_num, below_drewN HX.out _⟩
      case measure => simp [intOf]; omega
    · go_wp2
      go_ret
      exact ⟨rfl, HX.out⟩
def marksL (k n : Nat) : List (List UInt8) := (List.range n).map fun j => mL (k + j)
theorem marks_len (k n : Nat) : (marksL k n).length = n := by simp [marksL]
theorem marks_at {k n j : Nat} (h : j < (marksL k n).length) : (marksL k n)[j] = mL (k + j) := by simp [marksL]
def MarksRel (w : World) (g k n : Nat) (i kk : Value) (wr : World) : Prop :=
  ∃ j : Nat, j ≤ n ∧ i = .int .i64 j ∧ kk = .int .i64 ((k + j : Nat) : Int) ∧ (∀ t, t < n → wr.frozen? ⟨g, t, none⟩ = false) ∧ (∀ t, t < j → wr.cell? ⟨g, t, none⟩ = some (strV (mL (k + t)))) ∧ (∀ t, t < n → ∃ u, wr.cell? ⟨g, t, none⟩ = some u) ∧ w.grownBy wr (some g) ∧ g < wr.heap.size
/-- The block that is written, if any. -/
def rowOf (v : Value) (n : Nat) : Option Nat := if 0 < n then v.ownBlock else none
theorem markStrings_any (va : Value) (ps : List (List UInt8)) (B k : Nat) (w : World) (h0 : 0 < k) (hl : k + ps.length ≤ 1000000) (ha : RowT w B va ps) : Calls Tryd.prog 30 #[va, .int .i64 k] w fun e w' => e = .returned (.int .i64 ((k + ps.length : Nat) : Int)) ∧ RowT w' B va (marksL k ps.length) ∧ w.grownBy w' (rowOf va ps.length) := by
  obtain ⟨a, ca, rfl, ha⟩ := ha
  by_cases hp : 0 < ps.length
  · obtain ⟨g, rfl, hg1, hg2, hf, hc⟩ := ha hp
    have HF := Lib.hid hf
    have HC := Lib.hid hc
    clear hf hc ha
    go_enter Tryd.func30, Tryd.ntmps30
    go_wp2
    go_loopw [5, 1] (fun i kk wr => MarksRel w g k ps.length i kk wr) (fun i _ _ => ps.length - (intOf i).toNat)
    case atStart => exact ⟨0, Nat.zero_le _, rfl, rfl, HF.out, fun t ht => by omega, fun t ht => ⟨_, HC.out t ht⟩, grown_self _ _, hg2⟩
    case round =>
      obtain ⟨j, hj, rfl, rfl, hf, hm, hx, hgr, hgl⟩ := hrel
      have HF2 := Lib.hid hf
      have HM := Lib.hid hm
      have HX := Lib.hid hx
      have HG := Lib.hid hgr
      clear hf hm hx hgr
      by_cases hlt : j < ps.length
      · obtain ⟨old, hold⟩ := HX.out j hlt
        have HO := Lib.hid hold
        clear hold
        have s1 : (j : Int) < ps.length := by omega
        have s2 : ((k + j : Nat) : Int) ≤ 1000000 := by omega
        go_wp2_with (go_at_call 61; refine (markText_any (k + j) _ (by omega) (by omega)).mono ?_; rintro e w1 ⟨rfl, hb⟩; have HB := Lib.hid hb; have hcell : w1.cell? ⟨g, j, none⟩ = some old := (hb.cell (p := ⟨g, j, none⟩) hgl).trans HO.out; have hfz : w1.frozen? ⟨g, j, none⟩ = false := (hb.frozen (p := ⟨g, j, none⟩) hgl).trans (HF2.out j hlt); clear hb)
        go_roundw
        case rel =>
          refine ⟨j + 1, by omega, by go_num, by go_num, fun t ht => ?_, fun t ht => ?_, fun t ht => ?_, ?_, ?_⟩
          · rw [World.frozen?_setCell]
            exact (HB.out.frozen (p := ⟨g, t, none⟩) hgl).trans (HF2.out t ht)
          · by_cases e : t = j
            · subst e
              exact World.cell?_setCell_same _ _ _ hcell
            · rw [World.cell?_setCell_other _ _ _ _ (fun h => e (by injection h with _ h2; exact h2.symm))]
              exact (HB.out.cell (p := ⟨g, t, none⟩) hgl).trans (HM.out t (by omega))
          · by_cases e : t = j
            · subst e
              exact ⟨_, World.cell?_setCell_same _ _ _ hcell⟩
            · rw [World.cell?_setCell_other _ _ _ _ (fun h => e (by injection h with _ h2; exact h2.symm))]
              obtain ⟨u, hu⟩ := HX.out t ht
              exact ⟨u, (HB.out.cell (p := ⟨g, t, none⟩) hgl).trans hu⟩
          · exact grown_then HG.out (grown_then (grown_of_below HB.out _) (grown_put _ _ _ _))
          · have := HB.out.size
            simp [World.setCell]
            omega
        case measure => simp [intOf]; omega
      · obtain rfl : j = ps.length := by omega
        go_wp2
        go_ret
        refine ⟨rfl, ⟨_, ca, by rw [marks_len], fun _ => ⟨g, rfl, hg1, hgl, fun t ht => HF2.out t (by rw [marks_len] at ht; exact ht), fun t ht => ?_⟩⟩, by rw [rowOf, if_pos hp]; exact HG.out⟩
        rw [marks_at]
        exact HM.out t (by rw [marks_len] at ht; exact ht)
  · have hz : ps.length = 0 := by omega
    rw [hz]
    clear ha
    go_enter Tryd.func30, Tryd.ntmps30
    go_wp2
    go_loopw [5, 1] (fun i kk wr => i = .int .i64 0 ∧ kk = .int .i64 k ∧ w = wr) (fun i _ _ => (intOf i).toNat)
    case atStart => exact ⟨rfl, rfl, rfl⟩
    case round =>
      obtain ⟨rfl, rfl, rfl⟩ := hrel
      go_wp2
      go_ret
      exact ⟨rfl, RowT.empty _ _ _ _, grown_self _ _⟩
theorem heldStrings_any (va : Value) (B k n : Nat) (w : World) (h0 : 0 < k) (hl : k + n ≤ 1000000) (ha : RowT w B va (marksL k n)) : Calls Tryd.prog 63 #[va, .int .i64 k] w fun e w' => e = .returned (.int .i64 ((k + n : Nat) : Int)) ∧ Below w.heap.size w w' := by
  obtain ⟨a, ca, rfl, ha⟩ := ha
  have HA : Hid (0 < n → ∃ g, a = some ⟨g, 0, none⟩ ∧ g < w.heap.size ∧ ∀ j, j < n → w.cell? ⟨g, j, none⟩ = some (.string (mT (k + j)))) := fun h0 => by
    obtain ⟨g, h1, _, h2, _, h3⟩ := ha (by rw [marks_len]; exact h0)
    refine ⟨g, h1, h2, fun j hj => ?_⟩
    have := h3 j (by rw [marks_len]; exact hj)
    rw [marks_at] at this
    exact this
  rw [marks_len]
  clear ha
  go_enter Tryd.func63, Tryd.ntmps63
  go_wp2
  go_loopw [5, 1] (fun i kk wr => ∃ j : Nat, j ≤ n ∧ i = .int .i64 j ∧ kk = .int .i64 ((k + j : Nat) : Int) ∧ Below w.heap.size w wr) (fun i _ _ => n - (intOf i).toNat)
  case atStart => exact ⟨0, Nat.zero_le _, rfl, rfl, Below.refl _ _⟩
  case round =>
    obtain ⟨j, hj, rfl, rfl, hb⟩ := hrel
    have HB := Lib.hid hb
    clear hb
    by_cases hlt : j < n
    · obtain ⟨g, rfl, hg2, hc⟩ := HA.out (by omega)
      have HC := Lib.hid (hc j hlt)
      clear hc
      have s1 : (j : Int) < n := by omega
      have s2 : ((k + j : Nat) : Int) ≤ 1000000 := by omega
      have hS0 : wr.cell? ⟨g, j, none⟩ = some (.string (mT (k + j))) ∧ Below w.heap.size w wr := ⟨(HB.out.cell (p := ⟨g, j, none⟩) hg2).trans HC.out, HB.out⟩
      have HS0 := Lib.hid hS0
      have s3 : (0 : Int) ≤ j := by omega
      have e2 : ((mT (k + j)).toList != (mT (k + j)).toList) = false := by simp
      clear hS0
      go_wp2
      go_region_held3 (fun w' => w'.cell? ⟨g, j, none⟩ = some (.string (mT (k + j))) ∧ Below w.heap.size w w') (first | assumption | exact ⟨HS0.out.1, HS0.out.2.drew⟩)
        (first | (go_at_call 61; refine (markText_any (k + j) _ (by omega) (by omega)).mono ?_; rintro e w' ⟨rfl, hb⟩; have hS : w'.cell? ⟨g, j, none⟩ = some (.string (mT (k + j))) ∧ Below w.heap.size w w' := (by first | exact ⟨(hb.cell (p := ⟨g, j, none⟩) (by exact Nat.lt_of_lt_of_le hg2 HB.out.size)).trans HS0.out.1, HS0.out.2.drew.trans (hb.mono HB.out.size)⟩ | exact ⟨(hb.cell (p := ⟨g, j, none⟩) (by exact Nat.lt_of_lt_of_le hg2 (And.right (by assumption : _ ∧ Below w.heap.size w _)).size)).trans (And.left (by assumption : _ ∧ Below w.heap.size w _)), (And.right (by assumption : _ ∧ Below w.heap.size w _)).trans (hb.mono (And.right (by assumption : _ ∧ Below w.heap.size w _)).size)⟩); clear hb))
      have HS1 := Lib.hid hS.2
      clear hS
      go_wp2
      go_roundw
      case rel => exact ⟨j + 1, by omega, by go_num, by go_num, HS1.out⟩
      case measure => simp [intOf]; omega
    · obtain rfl : j = n := by omega
      go_wp2
      go_ret
      exact ⟨rfl, HB.out⟩
theorem row_apart {w1 w2 : World} {B : Nat} {v u : Value} {ps : List (List UInt8)} (h1 : RowT w1 B v ps) (h2 : RowT w2 w1.heap.size u ps) : ∀ g, rowOf u ps.length = some g → ps.length = 0 ∨ v.ownBlock ≠ some g := by
  intro g hg
  by_cases h0 : 0 < ps.length
  · rw [rowOf, if_pos h0] at hg
    obtain ⟨a, ca, rfl, h1⟩ := h1
    obtain ⟨b, cb, rfl, h2⟩ := h2
    obtain ⟨g1, rfl, _, hl, _⟩ := h1 h0
    obtain ⟨g2, rfl, hge, _⟩ := h2 h0
    refine .inr fun e => ?_
    have e1 : g1 = g := by simpa [Value.ownBlock] using e
    have e2 : g2 = g := by simpa [Value.ownBlock] using hg
    omega
  · exact .inl (by omega)
theorem row_from {w : World} {B : Nat} {v : Value} {ps : List (List UInt8)} (h : RowT w B v ps) : ∀ g, rowOf v ps.length = some g → B ≤ g := by
  intro g hg
  by_cases h0 : 0 < ps.length
  · rw [rowOf, if_pos h0] at hg
    obtain ⟨a, ca, rfl, h⟩ := h
    obtain ⟨g1, rfl, hge, _⟩ := h h0
    have e1 : g1 = g := by simpa [Value.ownBlock] using hg
    omega
  · rw [rowOf, if_neg h0] at hg
    cases hg
theorem frozen_none {w : World} {g : Nat} {cs : Array Value} {t : TypeId} (h : w.heap[g]? = some (.cells cs t (0, 0))) (j : Nat) : w.frozen? ⟨g, j, none⟩ = false := by simp [World.frozen?, h]
theorem texts_alloc (w : World) (B : Nat) (ps : List (List UInt8)) (hB : B ≤ w.heap.size) (hm : ps.length ≤ maxLen) : TextsIn (w.alloc (.cells (ps.map strV).toArray 9)) B (.slice (some ⟨w.heap.size, 0, none⟩) ps.length ps.length) ps := by
  refine ⟨w.heap.size, ps.length, rfl, hB, by simp, Nat.le_refl _, hm, fun j _ => ?_, fun j hj => ?_⟩
  · exact frozen_none (heap_alloc_new w (.cells (ps.map strV).toArray 9)) j
  · rw [World.cell?_alloc_at _ _ _ _ rfl]
    simp [hj]
end Go.Proofs.YtcaabnnkjnleeaaDoor
